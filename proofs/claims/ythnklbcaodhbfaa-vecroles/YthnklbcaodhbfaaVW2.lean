/- walks: package vec's Role -/
import Derived.Test.YthnklbcaodhbfaaVK2
namespace Go.Proofs.Ythnklbcaodhbfaa
open Go.RowKit
open Vc (V Of)

set_option maxHeartbeats 1000000 in
theorem vrole_any (s : V) (root port : Int) (ao : Option Addr) (n cap : Nat) (os : Nat → Of) (w : World) (hn : n ≤ 9223372036854775807) (hr : ORow w ao n cap os) :
    Calls Try.prog 20 #[.agg #[.int .u64 s.root, .int .i64 s.cost, .int .u64 s.bridge, .int .i64 s.port], .int .i64 root, .int .i64 port, .slice ao n cap] w fun e w' => e = .returned (.int .i64 (Vc.role s root port os n)) ∧ Below w.heap.size w w' := by
  have HR : Hid (ORow w ao n cap os) := hr
  clear hr
  unfold Vc.role
  by_cases h0 : port = root
  · rw [if_pos h0]
    subst h0
    go_enter Try.func20, Try.ntmps20
    go_wp2_with fail
    go_ret
    exact ⟨rfl, below_alloc1 _ _⟩
  · rw [if_neg h0]
    obtain ⟨R, hR⟩ : ∃ R : Int, (if Vc.someTo (fun i => decide (Vc.hears s port (os i))) n = true then (3 : Int) else 2) = R := ⟨_, rfl⟩
    rw [hR]
    have HR3 : Hid (Vc.someTo (fun i => decide (Vc.hears s port (os i))) n = true → R = 3) := fun h => by rw [← hR, if_pos h]
    have HR2 : Hid (Vc.someTo (fun i => decide (Vc.hears s port (os i))) n = false → R = 2) := fun h => by rw [← hR, h]; rfl
    clear hR
    have d0 : (port == root) = false := by simp [h0]
    have HBT : Hid (∀ (a b : V) (W : World), Calls Try.prog 27 #[.agg #[.int .u64 a.root, .int .i64 a.cost, .int .u64 a.bridge, .int .i64 a.port], .agg #[.int .u64 b.root, .int .i64 b.cost, .int .u64 b.bridge, .int .i64 b.port]] W fun e w' => e = .returned (.bool (decide (Vc.lt a b))) ∧ Below W.heap.size W w') := fun a b W => vbetter_any a b W
    have HH : Hid (∀ o, decide (Vc.hears s port o) = decide (o.port = port ∧ (0 ≤ o.age ∧ o.age ≤ 20) ∧ Vc.lt o.vec ⟨s.root, s.cost, s.bridge, port⟩)) := fun o => rfl
    go_enter Try.func20, Try.ntmps20
    go_wp2_with fail
    go_loopw [18] (fun i wr => ∃ k : Nat, k ≤ n ∧ i = .int .i64 k ∧ Hid (Vc.someTo (fun i => decide (Vc.hears s port (os i))) k = false) ∧ Hid (wr.heap[w.heap.size]? = some (.cells #[.int .u64 s.root, .int .i64 s.cost, .int .u64 s.bridge, .int .i64 port] 27 (0, 0)) ∧ Below w.heap.size w wr)) (fun i _ => n - (intOf i).toNat)
    case atStart => exact ⟨0, by omega, rfl, rfl, heap_alloc_last w _, below_alloc1 _ _⟩
    case round =>
      obtain ⟨k, hk, rfl, hS, hX⟩ := hrel
      by_cases hlt : k < n
      · obtain ⟨b, off, rfl, hb⟩ := CRow.some HR.out (by omega)
        have hcap := HR.out.1
        obtain ⟨c0, c1, c2, c3, c4, c5, c6⟩ := ORow.cells (CRow.other HR.out (w' := wr) (fun q _ _ hq => hX.out.2.block q hq) hX.out.2.size) hlt
        obtain ⟨v0, v1, v2, v3⟩ := vc_cells hX.out.1
        have HNO : Hid (decide (Vc.hears s port (os k)) = false → Vc.someTo (fun i => decide (Vc.hears s port (os i))) (k + 1) = false) := fun h => by
          show (Vc.someTo _ k || decide (Vc.hears s port (os k))) = false
          rw [h, hS.out]; rfl
        have HYES : Hid (decide (Vc.hears s port (os k)) = true → Vc.someTo (fun i => decide (Vc.hears s port (os i))) n = true) := fun h => someTo_stay _ k h n hlt
        rw [HH.out] at HNO HYES
        have HX2 : Hid (∀ o, (wr.alloc o).heap[w.heap.size]? = some (.cells #[.int .u64 s.root, .int .i64 s.cost, .int .u64 s.bridge, .int .i64 port] 27 (0, 0)) ∧ Below w.heap.size w (wr.alloc o)) := fun o => ⟨keep hX.out.1 (below_alloc1 _ _), hX.out.2.alloc hX.out.2.size _⟩
        have u0 : ∀ o, (wr.alloc o).cell? ⟨w.heap.size, 0, none⟩ = some (.int .u64 s.root) := fun o => (vc_cells (HX2.out o).1).1
        have u1 : ∀ o, (wr.alloc o).cell? ⟨w.heap.size, 1, none⟩ = some (.int .i64 s.cost) := fun o => (vc_cells (HX2.out o).1).2.1
        have u2 : ∀ o, (wr.alloc o).cell? ⟨w.heap.size, 2, none⟩ = some (.int .u64 s.bridge) := fun o => (vc_cells (HX2.out o).1).2.2.1
        have u3 : ∀ o, (wr.alloc o).cell? ⟨w.heap.size, 3, none⟩ = some (.int .i64 port) := fun o => (vc_cells (HX2.out o).1).2.2.2
        clear hX hS hb HH HR
        generalize os k = o at *
        obtain ⟨op, oc, oa, ⟨vr, vc, vb, vp⟩⟩ := o
        simp only at c0 c1 c2 c3 c4 c5 c6 HNO HYES
        have HWI : Hid (∀ W, Calls Try.prog 26 #[.int .i64 oa, .int .i64 0, .int .i64 20] W fun e w' => e = .returned (.bool (decide (0 ≤ oa ∧ oa ≤ 20))) ∧ w' = W) := fun W => vwithin_any oa 0 20 W
        by_cases p1 : op = port
        · have e1 : (op == port) = true := by simp [p1]
          by_cases p2 : 0 ≤ oa ∧ oa ≤ 20
          · rw [decide_eq_true p2] at HWI
            have HB1 : Hid (∀ W, Calls Try.prog 27 #[.agg #[.int .u64 vr, .int .i64 vc, .int .u64 vb, .int .i64 vp], .agg #[.int .u64 s.root, .int .i64 s.cost, .int .u64 s.bridge, .int .i64 port]] W fun e w' => e = .returned (.bool (decide (Vc.lt ⟨vr, vc, vb, vp⟩ ⟨s.root, s.cost, s.bridge, port⟩))) ∧ Below W.heap.size W w') := fun W => HBT.out ⟨vr, vc, vb, vp⟩ ⟨s.root, s.cost, s.bridge, port⟩ W
            by_cases p4 : Vc.lt ⟨vr, vc, vb, vp⟩ ⟨s.root, s.cost, s.bridge, port⟩
            · have HF : Hid (Vc.someTo (fun i => decide (Vc.hears s port (os i))) n = true) := HYES.out (decide_eq_true ⟨p1, p2, p4⟩)
              rw [decide_eq_true p4] at HB1
              clear p4 HNO HYES p1 p2
              go_wp2_with fail
              refine (HWI.out _).mono ?_
              rintro e w2 ⟨rfl, rfl⟩
              go_wp2_with fail
              refine (HB1.out _).mono ?_
              rintro e w2 ⟨rfl, hb2⟩
              have HB2 : Hid (Below w.heap.size w w2) := (HX2.out _).2.trans (hb2.mono (HX2.out _).2.size)
              clear hb2
              go_wp2_with fail
              go_ret
              exact ⟨by rw [HR3.out HF.out]; rfl, HB2.out⟩
            · have HF : Hid (Vc.someTo (fun i => decide (Vc.hears s port (os i))) (k + 1) = false) := HNO.out (decide_eq_false (fun q => p4 q.2.2))
              rw [decide_eq_false p4] at HB1
              clear p4 HNO HYES p1 p2
              go_wp2_with fail
              refine (HWI.out _).mono ?_
              rintro e w2 ⟨rfl, rfl⟩
              go_wp2_with fail
              refine (HB1.out _).mono ?_
              rintro e w2 ⟨rfl, hb2⟩
              have HB2 : Hid (w2.heap[w.heap.size]? = some (.cells #[.int .u64 s.root, .int .i64 s.cost, .int .u64 s.bridge, .int .i64 port] 27 (0, 0)) ∧ Below w.heap.size w w2) := ⟨keep (HX2.out _).1 hb2, (HX2.out _).2.trans (hb2.mono (HX2.out _).2.size)⟩
              clear hb2
              go_wp2_with fail
              exact ⟨⟨k + 1, by omega, by go_num, HF, HB2⟩, by simp [intOf]; omega⟩
          · have HF : Hid (Vc.someTo (fun i => decide (Vc.hears s port (os i))) (k + 1) = false) := HNO.out (decide_eq_false (fun q => p2 q.2.1))
            rw [decide_eq_false p2] at HWI
            clear HNO HYES p1 p2
            go_wp2_with fail
            refine (HWI.out _).mono ?_
            rintro e w2 ⟨rfl, rfl⟩
            go_wp2_with fail
            exact ⟨⟨k + 1, by omega, by go_num, HF, HX2.out _⟩, by simp [intOf]; omega⟩
        · have e1 : (op == port) = false := by simp [p1]
          have HF : Hid (Vc.someTo (fun i => decide (Vc.hears s port (os i))) (k + 1) = false) := HNO.out (decide_eq_false (fun q => p1 q.1))
          clear HNO HYES p1
          go_wp2_with fail
          exact ⟨⟨k + 1, by omega, by go_num, HF, HX2.out _⟩, by simp [intOf]; omega⟩
      · obtain rfl : k = n := by omega
        go_wp2_with fail
        go_ret
        exact ⟨by rw [HR2.out hS.out]; rfl, hX.out.2⟩
end Go.Proofs.Ythnklbcaodhbfaa
