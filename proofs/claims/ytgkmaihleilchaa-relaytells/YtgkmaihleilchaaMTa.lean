/- walks: the document's SameOut, where it says yes -/
import Derived.Test.YtgkmaihleilchaaW1
import Derived.Test.YtgkmaihleilchaaYW7
namespace Go.Proofs.Ytgkmaihleilchaa
open Go.RowKit

set_option maxHeartbeats 1000000 in
theorem same_any (d s : Int) (t : Bool) (p : Int) (dr : Bool) (v y : Int) (p2 : Int) (dr2 : Bool) (v2 : Int) (a1 a2 : Option Addr) (n c1 c2 : Nat) (b1 b2 : Nat → Int) (w : World)
    (ht : t = true → p2 = p ∧ dr2 = dr ∧ v2 = v) (h1 : ByteRow w a1 n c1 b1) (n1 : NilOk a1 n c1) (h2 : ByteRow w a2 n c2 b2) (n2 : NilOk a2 n c2) (hb : ∀ i, i < n → b1 i = b2 i) :
    Calls Try.prog 43 #[.agg #[.int .u64 d, .int .u64 s, .bool t, .int .i64 p, .bool dr, .int .i64 v, .int .i64 y, .slice a1 n c1], .agg #[.int .u64 d, .int .u64 s, .bool t, .int .i64 p2, .bool dr2, .int .i64 v2, .int .i64 y, .slice a2 n c2]] w fun e w' => e = .returned (.bool true) ∧ Below w.heap.size w w' := by
  have q1 : ∀ o1 o2, (convert 28 9 (.slice a1 n c1)).run Try.prog ((w.alloc o1).alloc o2) = .ok (.string (strOf n b1)) ((w.alloc o1).alloc o2) := fun o1 o2 => run_str _ a1 n c1 b1 ((h1.below (below_alloc1 w o1)).below (below_alloc1 _ o2)) n1
  have q2 : ∀ o1 o2, (convert 28 9 (.slice a2 n c2)).run Try.prog ((w.alloc o1).alloc o2) = .ok (.string (strOf n b1)) ((w.alloc o1).alloc o2) := fun o1 o2 => by rw [strOf_congr n b1 b2 hb]; exact run_str _ a2 n c2 b2 ((h2.below (below_alloc1 w o1)).below (below_alloc1 _ o2)) n2
  clear h1 h2 n1 n2 hb
  generalize strOf n b1 = S at *
  cases t with
  | false =>
    clear ht
    go_enter Try.func43, Try.ntmps43
    go_wp2
    go_ret
    exact ⟨by simp, ((Below.refl _ w).alloc (Nat.le_refl _) _).alloc (by simp) _⟩
  | true =>
    obtain ⟨rfl, rfl, rfl⟩ := ht rfl
    go_enter Try.func43, Try.ntmps43
    go_wp2
    go_ret
    exact ⟨by simp, ((Below.refl _ w).alloc (Nat.le_refl _) _).alloc (by simp) _⟩
end Go.Proofs.Ytgkmaihleilchaa

namespace Go.Proofs.Ytgkmaihleilchaa
open Go.RowKit
open Bk (E at')
open Rl (G gat F O R)

set_option maxRecDepth 20000 in
set_option maxHeartbeats 4000000 in
theorem rsameout_yes (ao : Option Addr) (cap : Nat) (bo : Option Addr) (bcap : Nat) (f : F) (l1 l2 : List OV) (w : World) (h1 : ORw w ao cap f l1) (h2 : ORw w bo bcap f l2) (he : l1.map OV.o = l2.map OV.o) (hn : l1.length ≤ 1000) :
    Calls Try.prog 13 #[.slice ao l1.length cap, .slice bo l2.length bcap] w fun e w' => e = .returned (.bool true) ∧ Below w.heap.size w w' := by
  have hlen : l2.length = l1.length := by have := congrArg List.length he; simpa using this.symm
  have heo : ∀ i, i < l1.length → (oat l1 i).o = (oat l2 i).o := fun i hi => by
    have h3 : (l1.map OV.o)[i]? = (l2.map OV.o)[i]? := by rw [he]
    rw [List.getElem?_map, List.getElem?_map, List.getElem?_eq_getElem hi, List.getElem?_eq_getElem (by omega)] at h3
    rw [oat_get l1 i hi, oat_get l2 i (by omega)]
    simpa using h3
  have hcap : l1.length ≤ cap := h1.row.1
  have hcap2 : l1.length ≤ bcap := by have := h2.row.1; omega
  have HR : Hid (∀ W, Below w.heap.size w W → ORw W ao cap f l1) := fun W hW => h1.below hW
  have HR2 : Hid (∀ W, Below w.heap.size w W → ORw W bo bcap f l2) := fun W hW => h2.below hW
  have HEO : Hid (∀ i, i < l1.length → (oat l1 i).o = (oat l2 i).o) := heo
  have HLN : Hid (l2.length = l1.length) := hlen
  rw [hlen]
  clear h1 h2 heo he hlen
  go_enter Try.func13, Try.ntmps13
  go_wp2_with fail
  go_loopw [13] (fun i wr => ∃ k : Nat, k ≤ l1.length ∧ i = .int .i64 k ∧ Hid (Below w.heap.size w wr)) (fun i _ => l1.length - (intOf i).toNat)
  case atStart => exact ⟨0, by omega, rfl, Below.refl _ _⟩
  case round =>
    obtain ⟨k, hk, rfl, hB⟩ := hrel
    by_cases hlt : k < l1.length
    · have hlt2 : k < l2.length := by rw [HLN.out]; exact hlt
      obtain ⟨b, off, rfl, _⟩ := (HR.out wr hB.out).place (by omega)
      obtain ⟨b2, off2, rfl, _⟩ := (HR2.out wr hB.out).place (by omega)
      have hx1 := (HR.out wr hB.out).data _ (oat_mem l1 k hlt)
      have hx2 := (HR2.out wr hB.out).data _ (oat_mem l2 k hlt2)
      have ik : (0 : Int) ≤ (k : Int) := by omega
      have nk : (k : Int) < (l1.length : Int) := by omega
      have HCC : Hid (∀ W, Below wr.heap.size wr W → (W.cell? ⟨b, off + k * 9, none⟩ = some (.int .i64 (oat l1 k).o.port) ∧ W.cell? ⟨b, off + k * 9 + 1, none⟩ = some (.int .u64 f.dst) ∧ W.cell? ⟨b, off + k * 9 + 2, none⟩ = some (.int .u64 f.src) ∧ W.cell? ⟨b, off + k * 9 + 3, none⟩ = some (.bool (oat l1 k).o.tagged) ∧ W.cell? ⟨b, off + k * 9 + 4, none⟩ = some (.int .i64 (oat l1 k).o.prio) ∧ W.cell? ⟨b, off + k * 9 + 5, none⟩ = some (.bool (oat l1 k).o.drop) ∧ W.cell? ⟨b, off + k * 9 + 6, none⟩ = some (.int .i64 (oat l1 k).o.vid) ∧ W.cell? ⟨b, off + k * 9 + 7, none⟩ = some (.int .i64 f.type) ∧ W.cell? ⟨b, off + k * 9 + 8, none⟩ = some (.slice (oat l1 k).da f.n (oat l1 k).dc)) ∧ (W.cell? ⟨b2, off2 + k * 9, none⟩ = some (.int .i64 (oat l1 k).o.port) ∧ W.cell? ⟨b2, off2 + k * 9 + 1, none⟩ = some (.int .u64 f.dst) ∧ W.cell? ⟨b2, off2 + k * 9 + 2, none⟩ = some (.int .u64 f.src) ∧ W.cell? ⟨b2, off2 + k * 9 + 3, none⟩ = some (.bool (oat l1 k).o.tagged) ∧ W.cell? ⟨b2, off2 + k * 9 + 4, none⟩ = some (.int .i64 (oat l1 k).o.prio) ∧ W.cell? ⟨b2, off2 + k * 9 + 5, none⟩ = some (.bool (oat l1 k).o.drop) ∧ W.cell? ⟨b2, off2 + k * 9 + 6, none⟩ = some (.int .i64 (oat l1 k).o.vid) ∧ W.cell? ⟨b2, off2 + k * 9 + 7, none⟩ = some (.int .i64 f.type) ∧ W.cell? ⟨b2, off2 + k * 9 + 8, none⟩ = some (.slice (oat l2 k).da f.n (oat l2 k).dc))) := fun W hW => ⟨(HR.out W (below_up hB.out hW)).cells hlt, by rw [HEO.out k hlt]; exact (HR2.out W (below_up hB.out hW)).cells hlt2⟩
      have HXX : Hid (Below wr.heap.size wr wr) := Below.refl _ _
      have HSM : Hid (∀ W, Below wr.heap.size wr W → Calls Try.prog 43 #[.agg #[.int .u64 f.dst, .int .u64 f.src, .bool (oat l1 k).o.tagged, .int .i64 (oat l1 k).o.prio, .bool (oat l1 k).o.drop, .int .i64 (oat l1 k).o.vid, .int .i64 f.type, .slice (oat l1 k).da f.n (oat l1 k).dc], .agg #[.int .u64 f.dst, .int .u64 f.src, .bool (oat l1 k).o.tagged, .int .i64 (oat l1 k).o.prio, .bool (oat l1 k).o.drop, .int .i64 (oat l1 k).o.vid, .int .i64 f.type, .slice (oat l2 k).da f.n (oat l2 k).dc]] W fun e w' => e = .returned (.bool true) ∧ Hid (Below wr.heap.size wr w')) := fun W hW => (same_any _ _ _ _ _ _ _ _ _ _ _ _ _ _ _ f.bs f.bs W (fun _ => ⟨rfl, rfl, rfl⟩) (hx1.1.below hW) hx1.2 (hx2.1.below hW) hx2.2 (fun _ _ => rfl)).mono (fun _ _ h => ⟨h.1, below_up hW h.2⟩)
      clear HR HR2 HEO HLN hx1 hx2
      obtain ⟨⟨g0, g1, g2, g3, g4, g5, g6, g7, g8⟩, k0, k1, k2, k3, k4, k5, k6, k7, k8⟩ := HCC.out wr HXX.out
      have e1 : ((oat l1 k).o.port != (oat l1 k).o.port) = false := by simp
      generalize (oat l1 k).o = o at *
      generalize (oat l1 k).da = da at *
      generalize (oat l1 k).dc = dc at *
      generalize (oat l2 k).da = da2 at *
      generalize (oat l2 k).dc = dc2 at *
      go_wp2_with fail
      go_region_held3 (fun W => (W.cell? ⟨b, off + k * 9, none⟩ = some (.int .i64 o.port) ∧ W.cell? ⟨b, off + k * 9 + 1, none⟩ = some (.int .u64 f.dst) ∧ W.cell? ⟨b, off + k * 9 + 2, none⟩ = some (.int .u64 f.src) ∧ W.cell? ⟨b, off + k * 9 + 3, none⟩ = some (.bool o.tagged) ∧ W.cell? ⟨b, off + k * 9 + 4, none⟩ = some (.int .i64 o.prio) ∧ W.cell? ⟨b, off + k * 9 + 5, none⟩ = some (.bool o.drop) ∧ W.cell? ⟨b, off + k * 9 + 6, none⟩ = some (.int .i64 o.vid) ∧ W.cell? ⟨b, off + k * 9 + 7, none⟩ = some (.int .i64 f.type) ∧ W.cell? ⟨b, off + k * 9 + 8, none⟩ = some (.slice da f.n dc)) ∧ (W.cell? ⟨b2, off2 + k * 9, none⟩ = some (.int .i64 o.port) ∧ W.cell? ⟨b2, off2 + k * 9 + 1, none⟩ = some (.int .u64 f.dst) ∧ W.cell? ⟨b2, off2 + k * 9 + 2, none⟩ = some (.int .u64 f.src) ∧ W.cell? ⟨b2, off2 + k * 9 + 3, none⟩ = some (.bool o.tagged) ∧ W.cell? ⟨b2, off2 + k * 9 + 4, none⟩ = some (.int .i64 o.prio) ∧ W.cell? ⟨b2, off2 + k * 9 + 5, none⟩ = some (.bool o.drop) ∧ W.cell? ⟨b2, off2 + k * 9 + 6, none⟩ = some (.int .i64 o.vid) ∧ W.cell? ⟨b2, off2 + k * 9 + 7, none⟩ = some (.int .i64 f.type) ∧ W.cell? ⟨b2, off2 + k * 9 + 8, none⟩ = some (.slice da2 f.n dc2)))
        (first | (exact HCC.out _ (Hid.out (by assumption))) | (exact HCC.out _ (Below.drew (Hid.out (by assumption)))))
        (first | (go_at_call 43; (with_reducible refine (HSM.out _ (by first | exact (Hid.out (by assumption)) | exact Below.drew (Hid.out (by assumption)))).mono ?_); rintro e w5 ⟨rfl, HB5⟩))
      all_goals clear g0 g1 g2 g3 g4 g5 g6 g7 g8 k0 k1 k2 k3 k4 k5 k6 k7 k8
      all_goals go_wp2_with fail
      all_goals exact ⟨⟨k + 1, by omega, by go_num, below_up hB.out HB5.out⟩, by simp [intOf]; omega⟩
    · obtain rfl : k = l1.length := by omega
      clear HR HR2
      go_wp2_with fail
      go_ret
      exact ⟨rfl, hB.out⟩
end Go.Proofs.Ytgkmaihleilchaa
