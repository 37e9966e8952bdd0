/- walks: the document's Roles -/
import Derived.Test.YtcbpafpaimpfnaaGreatDoorP22
namespace Go.Proofs.YtcbpafpaimpfnaaGreatDoor
section
open Go.RowKit
open Vc (V Of)
set_option maxHeartbeats 1000000 in
theorem rrole_any (s : V) (root port : Int) (ao : Option Addr) (n cap : Nat) (os : Nat → Of) (w : World) (hn : n ≤ 9223372036854775807) (hr : ORow w ao n cap os) :
  Calls Tryz.prog 62 #[.agg #[.int .u64 s.root, .int .i64 s.cost, .int .u64 s.bridge, .int .i64 s.port], .int .i64 root, .int .i64 port, .slice ao n cap] w fun e w' => e = .returned (.int .i64 (Vc.role s root port os n)) ∧ Below w.heap.size w w' := by
 have HR : Hid (ORow w ao n cap os) := hr
 clear hr
 unfold Vc.role
 by_cases h0 : port = root
 ·rw [if_pos h0]
  subst h0
  go_enter Tryz.func62, Tryz.ntmps62
  go_wp2_with fail
  go_ret
  exact ⟨rfl, below_alloc1 _ _⟩
 ·rw [if_neg h0]
  obtain ⟨R, hR⟩ : ∃ R : Int, (if Vc.someTo (fun i => decide (Vc.hears s port (os i))) n = true then (3 : Int) else 2) = R := ⟨_, rfl⟩
  rw [hR]
  have HR3 : Hid (Vc.someTo (fun i => decide (Vc.hears s port (os i))) n = true → R = 3) := fun h => by rw [← hR, if_pos h]
  have HR2 : Hid (Vc.someTo (fun i => decide (Vc.hears s port (os i))) n = false → R = 2) := fun h => by rw [← hR, h]; rfl
  clear hR
  have d0 : (port == root) = false := by simp [h0]
  have HBT : Hid (∀ (a b : V) (W : World), Calls Tryz.prog 35 #[.agg #[.int .u64 a.root, .int .i64 a.cost, .int .u64 a.bridge, .int .i64 a.port], .agg #[.int .u64 b.root, .int .i64 b.cost, .int .u64 b.bridge, .int .i64 b.port]] W fun e w' => e = .returned (.bool (decide (Vc.lt a b))) ∧ Below W.heap.size W w') := fun a b W => rbetter_any a b W
  have HH : Hid (∀ o, decide (Vc.hears s port o) = decide (o.port = port ∧ (0 ≤ o.age ∧ o.age ≤ 20) ∧ Vc.lt o.vec ⟨s.root, s.cost, s.bridge, port⟩)) := fun o => rfl
  have H0 : Hid (((w.alloc (.cells #[.int .u64 s.root, .int .i64 s.cost, .int .u64 s.bridge, .int .i64 s.port] 48)).alloc (.cells #[.int .u64 s.root, .int .i64 s.cost, .int .u64 s.bridge, .int .i64 port] 48)).heap[w.heap.size + 1]? = some (.cells #[.int .u64 s.root, .int .i64 s.cost, .int .u64 s.bridge, .int .i64 port] 48 (0, 0))) := heap_alloc2_new w _ _
  go_enter Tryz.func62, Tryz.ntmps62
  go_wp2_with fail
  go_loopw [25] (fun i wr => ∃ k : Nat, k ≤ n ∧ i = .int .i64 k ∧ Hid (Vc.someTo (fun i => decide (Vc.hears s port (os i))) k = false) ∧ Hid (wr.heap[w.heap.size + 1]? = some (.cells #[.int .u64 s.root, .int .i64 s.cost, .int .u64 s.bridge, .int .i64 port] 48 (0, 0)) ∧ Below w.heap.size w wr)) (fun i _ => n - (intOf i).toNat)
  case atStart => exact ⟨0, by omega, rfl, rfl, H0.out, below_alloc2 _ _ _⟩
  case round =>
   obtain ⟨k, hk, rfl, hS, hX⟩ := hrel
   by_cases hlt : k < n
   ·obtain ⟨b, off, rfl, hb⟩ := CRow.some HR.out (by omega)
    have hcap := HR.out.1
    obtain ⟨c0, c1, c2, c3, c4, c5, c6⟩ := ORow.cells (CRow.other HR.out (w' := wr) (fun q _ _ hq => hX.out.2.block q hq) hX.out.2.size) hlt
    obtain ⟨v0, v1, v2, v3⟩ := vc_cells hX.out.1
    have HNO : Hid (decide (Vc.hears s port (os k)) = false → Vc.someTo (fun i => decide (Vc.hears s port (os i))) (k + 1) = false) := fun h => by
     show (Vc.someTo _ k || decide (Vc.hears s port (os k))) = false
     rw [h, hS.out]; rfl
    have HYES : Hid (decide (Vc.hears s port (os k)) = true → Vc.someTo (fun i => decide (Vc.hears s port (os i))) n = true) := fun h => someTo_stay _ k h n hlt
    rw [HH.out] at HNO HYES
    have HX2 : Hid (∀ o, (wr.alloc o).heap[w.heap.size + 1]? = some (.cells #[.int .u64 s.root, .int .i64 s.cost, .int .u64 s.bridge, .int .i64 port] 48 (0, 0)) ∧ Below w.heap.size w (wr.alloc o)) := fun o => ⟨keep hX.out.1 (below_alloc1 _ _), hX.out.2.alloc hX.out.2.size _⟩
    have u0 : ∀ o, (wr.alloc o).cell? ⟨w.heap.size + 1, 0, none⟩ = some (.int .u64 s.root) := fun o => (vc_cells (HX2.out o).1).1
    have u1 : ∀ o, (wr.alloc o).cell? ⟨w.heap.size + 1, 1, none⟩ = some (.int .i64 s.cost) := fun o => (vc_cells (HX2.out o).1).2.1
    have u2 : ∀ o, (wr.alloc o).cell? ⟨w.heap.size + 1, 2, none⟩ = some (.int .u64 s.bridge) := fun o => (vc_cells (HX2.out o).1).2.2.1
    have u3 : ∀ o, (wr.alloc o).cell? ⟨w.heap.size + 1, 3, none⟩ = some (.int .i64 port) := fun o => (vc_cells (HX2.out o).1).2.2.2
    clear hX hS hb HH HR H0
    generalize os k = o at *
    obtain ⟨op, oc, oa, ⟨vr, vc, vb, vp⟩⟩ := o
    simp only at c0 c1 c2 c3 c4 c5 c6 HNO HYES
    by_cases p1 : op = port
    ·have e1 : (op == port) = true := by simp [p1]
     by_cases p2 : 0 ≤ oa
     ·by_cases p3 : oa ≤ 20
      ·have HB1 : Hid (∀ W, Calls Tryz.prog 35 #[.agg #[.int .u64 vr, .int .i64 vc, .int .u64 vb, .int .i64 vp], .agg #[.int .u64 s.root, .int .i64 s.cost, .int .u64 s.bridge, .int .i64 port]] W fun e w' => e = .returned (.bool (decide (Vc.lt ⟨vr, vc, vb, vp⟩ ⟨s.root, s.cost, s.bridge, port⟩))) ∧ Below W.heap.size W w') := fun W => HBT.out ⟨vr, vc, vb, vp⟩ ⟨s.root, s.cost, s.bridge, port⟩ W
       by_cases p4 : Vc.lt ⟨vr, vc, vb, vp⟩ ⟨s.root, s.cost, s.bridge, port⟩
       ·have HF : Hid (Vc.someTo (fun i => decide (Vc.hears s port (os i))) n = true) := HYES.out (decide_eq_true ⟨p1, ⟨p2, p3⟩, p4⟩)
        rw [decide_eq_true p4] at HB1
        clear p4 HNO HYES p1
        go_wp2_with fail
        refine (HB1.out _).mono ?_
        rintro e w2 ⟨rfl, hb2⟩
        have HB2 : Hid (Below w.heap.size w w2) := (HX2.out _).2.trans (hb2.mono (HX2.out _).2.size)
        clear hb2
        go_wp2_with fail
        go_ret
        exact ⟨by rw [HR3.out HF.out]; rfl, HB2.out⟩
       ·have HF : Hid (Vc.someTo (fun i => decide (Vc.hears s port (os i))) (k + 1) = false) := HNO.out (decide_eq_false (fun q => p4 q.2.2))
        rw [decide_eq_false p4] at HB1
        clear p4 HNO HYES p1
        go_wp2_with fail
        refine (HB1.out _).mono ?_
        rintro e w2 ⟨rfl, hb2⟩
        have HB2 : Hid (w2.heap[w.heap.size + 1]? = some (.cells #[.int .u64 s.root, .int .i64 s.cost, .int .u64 s.bridge, .int .i64 port] 48 (0, 0)) ∧ Below w.heap.size w w2) := ⟨keep (HX2.out _).1 hb2, (HX2.out _).2.trans (hb2.mono (HX2.out _).2.size)⟩
        clear hb2
        go_wp2_with fail
        exact ⟨⟨k + 1, by omega, by go_num, HF, HB2⟩, by simp [intOf]; omega⟩
      ·have HF : Hid (Vc.someTo (fun i => decide (Vc.hears s port (os i))) (k + 1) = false) := HNO.out (decide_eq_false (fun q => p3 q.2.1.2))
       clear HNO HYES p1
       go_wp2_with fail
       exact ⟨⟨k + 1, by omega, by go_num, HF, HX2.out _⟩, by simp [intOf]; omega⟩
     ·have HF : Hid (Vc.someTo (fun i => decide (Vc.hears s port (os i))) (k + 1) = false) := HNO.out (decide_eq_false (fun q => p2 q.2.1.1))
      clear HNO HYES p1
      go_wp2_with fail
      exact ⟨⟨k + 1, by omega, by go_num, HF, HX2.out _⟩, by simp [intOf]; omega⟩
    ·have e1 : (op == port) = false := by simp [p1]
     have HF : Hid (Vc.someTo (fun i => decide (Vc.hears s port (os i))) (k + 1) = false) := HNO.out (decide_eq_false (fun q => p1 q.1))
     clear HNO HYES p1
     go_wp2_with fail
     exact ⟨⟨k + 1, by omega, by go_num, HF, HX2.out _⟩, by simp [intOf]; omega⟩
   ·obtain rfl : k = n := by omega
    go_wp2_with fail
    go_ret
    exact ⟨by rw [HR2.out hS.out]; rfl, hX.out.2⟩
end
section
open Go.RowKit
open Vc (V Of)
open Pl (Br Net Pc Lk En St)
def rrole (es : Nat → Lk) (m i : Nat) (R : Int → Int) (p : Int) : Int := if Vc.someTo (fun j => Pl.isEnd (es j) (i : Int) p) m = true then R p else 0
def rlTo (pts : List Int) (f : Int → Int) : Nat → List Int
 | 0 => []
 | k + 1 => rlTo pts f k ++ [f (IL pts k)]
theorem rlTo_len (pts : List Int) (f : Int → Int) : ∀ k, (rlTo pts f k).length = k
 | 0 => rfl
 | k + 1 => by simp [rlTo, rlTo_len pts f k]
theorem rlTo_take (pts : List Int) (f : Int → Int) : ∀ k, k ≤ pts.length → rlTo pts f k = (pts.take k).map f
 | 0, _ => by simp [rlTo]
 | k + 1, h => by
  have hk : k < pts.length := by omega
  simp only [rlTo]
  rw [rlTo_take pts f k (by omega), List.take_add_one, List.getElem?_eq_getElem hk, List.map_append]
  simp [IL, List.getD, List.getElem?_eq_getElem hk]
theorem rlTo_all (pts : List Int) (f : Int → Int) : rlTo pts f pts.length = pts.map f := by
 rw [rlTo_take pts f _ (Nat.le_refl _), List.take_length]
def rkTo (es : Nat → Lk) (i : Nat) (p ρ : Int) (j : Nat) : Int := if Vc.someTo (fun j => Pl.isEnd (es j) (i : Int) p) j = true then ρ else 0
theorem rkTo_yes {es : Nat → Lk} {i : Nat} {p ρ : Int} {j : Nat} (h : Pl.isEnd (es j) (i : Int) p = true) : rkTo es i p ρ (j + 1) = ρ := by
 unfold rkTo
 rw [if_pos (by simp only [Vc.someTo]; rw [h, Bool.or_true])]
theorem rkTo_no {es : Nat → Lk} {i : Nat} {p ρ : Int} {j : Nat} (h : Pl.isEnd (es j) (i : Int) p = false) : rkTo es i p ρ (j + 1) = rkTo es i p ρ j := by
 unfold rkTo
 have : Vc.someTo (fun j => Pl.isEnd (es j) (i : Int) p) (j + 1) = Vc.someTo (fun j => Pl.isEnd (es j) (i : Int) p) j := by
  simp only [Vc.someTo]
  rw [h, Bool.or_false]
 rw [this]
set_option maxRecDepth 100000 in
set_option maxHeartbeats 4000000 in
theorem rroles_any (n : Net) (lao : Option Addr) (m lcap : Nat) (es : Nat → Lk) (i : Nat) (s : V) (rp : Int) (os : List Of) (oao : Option Addr) (ocap : Nat) (w : World) (hat : n.at' w) (hL : n.L ≤ 40) (R : Pl.RightL n.K n.L n.ls) (hm : m ≤ 400) (hlk : LRow w lao m lcap es) (hol : os.length ≤ 1000) (ho : ORow w oao os.length ocap (Pl.lf os)) (hne : ∀ k, k < m → (es k).a ≠ (es k).b) :
  Calls Tryz.prog 37 #[n.val, .slice lao m lcap, .int .i64 i, .agg #[.int .u64 s.root, .int .i64 s.cost, .int .u64 s.bridge, .int .i64 s.port], .int .i64 rp, .slice oao os.length ocap] w fun e w' => ∃ ao cap, e = .returned (.slice ao (Pl.ptsAll n.ls n.L i 30).length cap) ∧ IRow w' ao (Pl.ptsAll n.ls n.L i 30).length cap (IL ((Pl.ptsAll n.ls n.L i 30).map (rrole es m i (fun p => Vc.role s rp p (Pl.lf os) os.length)))) ∧ (∀ ad, ao = some ad → w.heap.size ≤ ad.block) ∧ Below w.heap.size w w' := by
 obtain ⟨X, HX⟩ : ∃ X, Hid (X = (w.alloc (.cells #[.slice n.bao n.K n.bcap, .slice n.lao n.L n.lcap] 25)).alloc (.cells #[.int .u64 s.root, .int .i64 s.cost, .int .u64 s.bridge, .int .i64 s.port] 48)) := ⟨_, rfl⟩
 have hXB : Below w.heap.size w X := by rw [HX.out]; exact below_alloc2 _ _ _
 have hXn : X.heap[w.heap.size]? = some (.cells #[.slice n.bao n.K n.bcap, .slice n.lao n.L n.lcap] 25 (0, 0)) := by rw [HX.out]; exact heap_alloc2_old w _ _
 have hXv : X.heap[w.heap.size + 1]? = some (.cells #[.int .u64 s.root, .int .i64 s.cost, .int .u64 s.bridge, .int .i64 s.port] 48 (0, 0)) := by rw [HX.out]; exact heap_alloc2_new w _ _
 have HFR : Hid (∀ W, Below X.heap.size X W → W.heap[w.heap.size + 1]? = some (.cells #[.int .u64 s.root, .int .i64 s.cost, .int .u64 s.bridge, .int .i64 s.port] 48 (0, 0)) ∧ LRow W lao m lcap es ∧ ORow W oao os.length ocap (Pl.lf os) ∧ Below w.heap.size w W) := fun W hW => by
  have h1 := hXB.trans (hW.mono hXB.size)
  exact ⟨keep hXv hW, CRow.below hlk h1, CRow.below ho h1, h1⟩
 obtain ⟨n0, n1⟩ := two_cells2 hXn
 rw [HX.out] at n0 n1
 have hfewP : (Pl.ptsAll n.ls n.L i 30).length ≤ 1200 := by
  have h1 := ptsAll_few n.ls n.L i 30
  have h3 : 30 * n.L ≤ 30 * 40 := Nat.mul_le_mul (Nat.le_refl _) hL
  omega
 obtain ⟨pts, HPT⟩ : ∃ pts, Hid (pts = Pl.ptsAll n.ls n.L i 30) := ⟨_, rfl⟩
 have HPO : Hid (Calls Tryz.prog 36 #[n.val, .int .i64 i] X fun e w' => ∃ ao cap, e = .returned (.slice ao pts.length cap) ∧ IRow w' ao pts.length cap (IL pts) ∧ Below X.heap.size X w') := by
  refine (rports_any n i X (hat.below hXB) hL R).mono ?_
  rintro e w' ⟨ao, cap, rfl, z1, _, _, z4⟩
  rw [← HPT.out] at z1 ⊢
  exact ⟨ao, cap, rfl, z1, z4⟩
 rw [← HPT.out] at hfewP ⊢
 obtain ⟨f, HF⟩ : ∃ f, Hid (f = rrole es m i (fun p => Vc.role s rp p (Pl.lf os) os.length)) := ⟨_, rfl⟩
 rw [← HF.out]
 have hcap := hlk.1
 have HNE : Hid (∀ k, k < m → (es k).a ≠ (es k).b) := hne
 have hXl := hXB.size
 clear hat R hlk ho hne hXn hXv hXB
 simp only [Pl.Net.val] at *
 go_enter Tryz.func37, Tryz.ntmps37
 go_wp2_with fail
 rw [← HX.out]
 refine HPO.out.mono ?_
 rintro e w1 ⟨pao, pcap, rfl, hP, hb1⟩
 have HP : Hid (∀ W, Below w1.heap.size w1 W → IRow W pao pts.length pcap (IL pts) ∧ Below X.heap.size X W) := fun W hW => ⟨CRow.below hP hW, hb1.trans (hW.mono hb1.size)⟩
 have hpc := hP.1
 have H0 : Hid (w1.ownsRow w1.heap.size 3 1 (.slice none (rlTo pts f 0).length 0) (rlTo pts f 0).length (intCells (rlTo pts f 0)) ∧ Below w1.heap.size w1 w1) := ⟨ownsC_nil _ _ _ _ _, Below.refl _ _⟩
 have hw1 := hb1.size
 clear HPO hP hb1 n0 n1
 go_wp2_with fail
 go_loopw [13, 23] (fun s13 s23 wr => ∃ (k : Nat) (ao : Option Addr) (cap : Nat), k ≤ pts.length ∧ s23 = .int .i64 k ∧ s13 = .slice ao (rlTo pts f k).length cap ∧ Hid (wr.ownsRow w1.heap.size 3 1 (.slice ao (rlTo pts f k).length cap) (rlTo pts f k).length (intCells (rlTo pts f k)) ∧ Below w1.heap.size w1 wr)) (fun _ s23 _ => pts.length - (intOf s23).toNat)
 case atStart => exact ⟨0, none, 0, by omega, rfl, rfl, H0⟩
 case round =>
  obtain ⟨k, ao, cap, hk, rfl, rfl, hW⟩ := hrel
  clear H0
  by_cases hlt : k < pts.length
  ·obtain ⟨f1, f2⟩ := HP.out wr hW.out.2
   obtain ⟨pb, poff, rfl, _⟩ := CRow.some f1 (by omega)
   have c0 := IRow.cells f1 hlt
   have i0 : (0 : Int) ≤ (k : Int) := by omega
   have i1 : (k : Int) < (pts.length : Int) := by omega
   obtain ⟨p, HPP⟩ : ∃ p, Hid (p = IL pts k) := ⟨_, rfl⟩
   rw [← HPP.out] at c0
   obtain ⟨ρ, HRHO⟩ : ∃ ρ, Hid (ρ = Vc.role s rp p (Pl.lf os) os.length) := ⟨_, rfl⟩
   have HX2 : Hid (Below X.heap.size X wr) := f2
   have HW : Hid (wr.ownsRow w1.heap.size 3 1 (.slice ao (rlTo pts f k).length cap) (rlTo pts f k).length (intCells (rlTo pts f k)) ∧ Below w1.heap.size w1 wr) := hW
   have HFP : Hid (f p = rkTo es i p ρ m) := by rw [HF.out, HRHO.out]; rfl
   have HLE : Hid ((rlTo pts f k).length = k) := rlTo_len pts f k
   have HRO : Hid (∀ W, Below wr.heap.size wr W → Calls Tryz.prog 62 #[.agg #[.int .u64 s.root, .int .i64 s.cost, .int .u64 s.bridge, .int .i64 s.port], .int .i64 rp, .int .i64 p, .slice oao os.length ocap] W fun e w' => e = .returned (.int .i64 ρ) ∧ Hid (Below wr.heap.size wr w')) := fun W hW2 => by
    refine (rrole_any s rp p oao os.length ocap (Pl.lf os) W (by omega) (HFR.out W (HX2.out.trans (hW2.mono HX2.out.size))).2.2.1).mono ?_
    rintro e w' ⟨rfl, z⟩
    exact ⟨by rw [HRHO.out], hW2.trans (z.mono hW2.size)⟩
   have HB0 : Hid (Below wr.heap.size wr wr) := Below.refl _ _
   clear hW f1 f2
   obtain ⟨V, hV⟩ : ∃ V, V = wr := ⟨_, rfl⟩
   subst hV
   go_wp2_with fail
   go_loopw [16, 29] (fun s16 s29 wi => ∃ j : Nat, j ≤ m ∧ s29 = .int .i64 j ∧ s16 = .int .i64 (rkTo es i p ρ j) ∧ Hid (Below V.heap.size V wi)) (fun _ s29 _ => m - (intOf s29).toNat)
   case atStart => exact ⟨0, by omega, rfl, rfl, HB0⟩
   case round =>
    obtain ⟨j, hj, rfl, rfl, hY⟩ := hrel
    clear HB0
    by_cases hjm : j < m
    ·have hXw : Below X.heap.size X wr := HX2.out.trans (hY.out.mono HX2.out.size)
     obtain ⟨g1, g2, _, _⟩ := HFR.out wr hXw
     obtain ⟨lb, loff, el, _⟩ := CRow.some g2 (by omega)
     rw [el] at g2 ⊢
     obtain ⟨d0, d1, d2, d3, d4, d5⟩ := LRow.cells g2 hjm
     have o3 := HNE.out j hjm
     have hend : Pl.isEnd (es j) (i : Int) p = (decide ((es j).a = (i : Int) ∧ (es j).pa = p) || decide ((es j).b = (i : Int) ∧ (es j).pb = p)) := rfl
     obtain ⟨Z, HZ⟩ : ∃ Z, Hid (Z = wr.alloc (.cells (lkA (es j)) 46)) := ⟨_, rfl⟩
     have hZB : Below wr.heap.size wr Z := by rw [HZ.out]; exact below_alloc1 _ _
     have hZV : Below V.heap.size V Z := hY.out.trans (hZB.mono hY.out.size)
     obtain ⟨v0, v1, v2, v3⟩ := vc_cells (keep g1 hZB)
     have HRO2 : Hid (Calls Tryz.prog 62 #[.agg #[.int .u64 s.root, .int .i64 s.cost, .int .u64 s.bridge, .int .i64 s.port], .int .i64 rp, .int .i64 p, .slice oao os.length ocap] Z fun e w' => e = .returned (.int .i64 ρ) ∧ Hid (Below V.heap.size V w')) := HRO.out Z hZV
     have HZV : Hid (Below V.heap.size V Z) := hZV
     have j0 : (0 : Int) ≤ (j : Int) := by omega
     have j1 : (j : Int) < (m : Int) := by omega
     have HYS : Hid (Pl.isEnd (es j) (i : Int) p = true → rkTo es i p ρ (j + 1) = ρ) := rkTo_yes
     have HNS : Hid (Pl.isEnd (es j) (i : Int) p = false → rkTo es i p ρ (j + 1) = rkTo es i p ρ j) := rkTo_no
     clear hY hXw g1 g2 el hZB hZV HFR HNE HRO HFP HRHO HPP HF HPT
     generalize Pl.isEnd (es j) (i : Int) p = D at *
     generalize es j = l at *
     obtain ⟨la, pa, lb', pb', co, up⟩ := l
     simp only at d0 d1 d2 d3 d4 d5 o3 hend
     simp only [lkA] at *
     rw [HZ.out] at v0 v1 v2 v3
     by_cases ea : la = (i : Int)
     ·have fb : ¬ lb' = (i : Int) := by omega
      by_cases ep : pa = p
      ·have hD : D = true := by rw [hend, decide_eq_true ⟨ea, ep⟩, Bool.true_or]
       have HS1 : Hid (rkTo es i p ρ (j + 1) = ρ) := HYS.out hD
       clear HYS HNS hend hD
       subst ea
       subst ep
       go_wp2_with fail
       rw [← HZ.out]
       refine HRO2.out.mono ?_
       rintro e w2 ⟨rfl, HB2⟩
       clear HRO2 HZV v0 v1 v2 v3
       go_wp2_with fail
       exact ⟨⟨j + 1, by omega, by go_num, by rw [HS1.out], HB2⟩, by simp [intOf]; omega⟩
      ·have hD : D = false := by rw [hend, decide_eq_false (fun h => ep h.2), decide_eq_false (fun h => fb h.1)]; rfl
       have HS1 : Hid (rkTo es i p ρ (j + 1) = rkTo es i p ρ j) := HNS.out hD
       have g1 : (pa == p) = false := by simp [ep]
       have g2 : (lb' == (i : Int)) = false := by simp [fb]
       rw [HZ.out] at HZV
       clear HYS HNS hend hD HRO2
       subst ea
       go_wp2_with fail
       exact ⟨⟨j + 1, by omega, by go_num, by rw [HS1.out], HZV⟩, by simp [intOf]; omega⟩
     ·have g0 : (la == (i : Int)) = false := by simp [ea]
      by_cases eb : lb' = (i : Int)
      ·by_cases ep : pb' = p
       ·have hD : D = true := by rw [hend, decide_eq_true (⟨eb, ep⟩ : lb' = (i : Int) ∧ pb' = p), Bool.or_true]
        have HS1 : Hid (rkTo es i p ρ (j + 1) = ρ) := HYS.out hD
        clear HYS HNS hend hD
        subst eb
        subst ep
        go_wp2_with fail
        rw [← HZ.out]
        refine HRO2.out.mono ?_
        rintro e w2 ⟨rfl, HB2⟩
        clear HRO2 HZV v0 v1 v2 v3
        go_wp2_with fail
        exact ⟨⟨j + 1, by omega, by go_num, by rw [HS1.out], HB2⟩, by simp [intOf]; omega⟩
       ·have hD : D = false := by rw [hend, decide_eq_false (fun h => ea h.1), decide_eq_false (fun h => ep h.2)]; rfl
        have HS1 : Hid (rkTo es i p ρ (j + 1) = rkTo es i p ρ j) := HNS.out hD
        have g1 : (pb' == p) = false := by simp [ep]
        rw [HZ.out] at HZV
        clear HYS HNS hend hD HRO2
        subst eb
        go_wp2_with fail
        exact ⟨⟨j + 1, by omega, by go_num, by rw [HS1.out], HZV⟩, by simp [intOf]; omega⟩
      ·have hD : D = false := by rw [hend, decide_eq_false (fun h => ea h.1), decide_eq_false (fun h => eb h.1)]; rfl
       have HS1 : Hid (rkTo es i p ρ (j + 1) = rkTo es i p ρ j) := HNS.out hD
       have g1 : (lb' == (i : Int)) = false := by simp [eb]
       rw [HZ.out] at HZV
       clear HYS HNS hend hD HRO2
       go_wp2_with fail
       exact ⟨⟨j + 1, by omega, by go_num, by rw [HS1.out], HZV⟩, by simp [intOf]; omega⟩
    ·obtain rfl : j = m := by omega
     have hB : Below w1.heap.size w1 wr := HW.out.2.trans (hY.out.mono HW.out.2.size)
     have hb0 : w1.heap.size ≤ wr.heap.size := hB.size
     obtain ⟨a1, c1', w2, r, ho2, hb2⟩ := int_more (ownsC_below HW.out.1 hY.out) hb0 (by have := HLE.out; omega) (f p)
     have hnx : rlTo pts f (k + 1) = rlTo pts f k ++ [f p] := by rw [HPP.out]; rfl
     have HN : Hid (w2.ownsRow w1.heap.size 3 1 (.slice a1 (rlTo pts f (k + 1)).length c1') (rlTo pts f (k + 1)).length (intCells (rlTo pts f (k + 1))) ∧ Below w1.heap.size w1 w2) := by
      rw [hnx]
      exact ⟨ho2, hB.trans hb2⟩
     have HLN : Hid ((rlTo pts f (k + 1)).length = (rlTo pts f k ++ [f p]).length) := by show _ = _; rw [hnx]
     have HRR : Hid _ := r
     rw [HFP.out] at HRR
     clear r ho2 hb2 hnx hB hY HRO HFP HRHO HPP HF HPT HFR HNE HX2 HW
     go_wp2_with (at_builtin; refine wpList_append_run rfl (.tmp 61) (.tmp 63) 35 rfl _ _ _ rfl rfl HRR.out ?_)
     exact ⟨⟨k + 1, a1, c1', by omega, by go_num, by rw [HLN.out, List.length_append]; rfl, HN⟩, by simp [intOf]; omega⟩
  ·obtain rfl : k = pts.length := by omega
   obtain ⟨hO, hB⟩ := hW.out
   obtain ⟨ao', cap', ev, z1, z3⟩ := IL_row hO
   injection ev with ev1 ev2 ev3
   subst ev1
   subst ev3
   have hl := rlTo_len pts f pts.length
   rw [rlTo_all] at z1
   have hw := (HFR.out wr (HP.out wr hB).2).2.2.2
   have el : (pts.map f).length = pts.length := List.length_map _
   rw [el] at z1
   have HFN : Hid (IRow wr ao pts.length cap (IL (pts.map f)) ∧ (∀ ad, ao = some ad → w.heap.size ≤ ad.block) ∧ Below w.heap.size w wr) := ⟨z1, fun ad e => by have := z3 ad e; omega, hw⟩
   have HLN : Hid ((rlTo pts f pts.length).length = pts.length) := hl
   clear hW hO hB z1 z3 hw el hl ev2 HFR HP HNE HF HPT
   go_wp2_with fail
   go_ret
   exact ⟨ao, cap, congrArg (fun n => Ending.returned (Value.slice ao n cap)) HLN.out, HFN.out⟩
end
end Go.Proofs.YtcbpafpaimpfnaaGreatDoor
