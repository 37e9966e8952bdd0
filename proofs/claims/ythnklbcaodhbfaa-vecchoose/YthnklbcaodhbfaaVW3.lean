/- walks: package vec's mayTake -/
import Derived.Test.YthnklbcaodhbfaaVW1
import Derived.Test.YthnklbcaodhbfaaVB2
namespace Go.Proofs.Ythnklbcaodhbfaa
open Go.RowKit
open Vc (V Of)

def mayV (id : Int) (o : Of) : V := if Vc.may id o then o.v else Vc.v0
set_option maxHeartbeats 1000000 in
theorem vmay_any (id : Int) (o : Of) (w : World) :
    Calls Try.prog 33 #[.int .u64 id, .agg #[.int .i64 o.port, .int .i64 o.cost, .int .i64 o.age, .int .u64 o.vec.root, .int .i64 o.vec.cost, .int .u64 o.vec.bridge, .int .i64 o.vec.port]] w fun e w' => e = .returned (.tuple #[.agg (vA (mayV id o)), .bool (decide (Vc.may id o))]) ∧ Below w.heap.size w w' := by
  obtain ⟨op, oc, oa, ⟨vr, vc, vb, vp⟩⟩ := o
  have HM : Hid (Vc.may id ⟨op, oc, oa, ⟨vr, vc, vb, vp⟩⟩ ↔ Vc.fitsOver ⟨vr, vc, vb, vp⟩ oc ∧ 0 ≤ op ∧ (0 ≤ oa ∧ oa < 20) ∧ vr < id) := Iff.rfl
  have HNO : Hid (¬ Vc.may id ⟨op, oc, oa, ⟨vr, vc, vb, vp⟩⟩ → (Ending.returned (.tuple #[.agg (vA (mayV id ⟨op, oc, oa, ⟨vr, vc, vb, vp⟩⟩)), .bool (decide (Vc.may id ⟨op, oc, oa, ⟨vr, vc, vb, vp⟩⟩))]) : Ending) = .returned (.tuple #[.agg (vA Vc.v0), .bool false])) := fun h => by
    unfold mayV; rw [if_neg h, decide_eq_false h]
  have HYES : Hid (0 ≤ op ∧ (0 ≤ oa ∧ oa < 20) ∧ vr < id → (Ending.returned (.tuple #[.agg (vA (mayV id ⟨op, oc, oa, ⟨vr, vc, vb, vp⟩⟩)), .bool (decide (Vc.may id ⟨op, oc, oa, ⟨vr, vc, vb, vp⟩⟩))]) : Ending) = .returned (.tuple #[.agg (vA (Vc.overV ⟨vr, vc, vb, vp⟩ oc)), .bool (decide (Vc.fitsOver ⟨vr, vc, vb, vp⟩ oc))])) := fun h => by
    unfold mayV Vc.overV
    by_cases hf : Vc.fitsOver ⟨vr, vc, vb, vp⟩ oc
    · rw [if_pos (HM.out.2 ⟨hf, h⟩), if_pos hf, decide_eq_true (HM.out.2 ⟨hf, h⟩), decide_eq_true hf]; rfl
    · have hm : ¬ Vc.may id ⟨op, oc, oa, ⟨vr, vc, vb, vp⟩⟩ := fun q => hf (HM.out.1 q).1
      rw [if_neg hm, if_neg hf, decide_eq_false hm, decide_eq_false hf]
  have HWI : Hid (∀ W, Calls Try.prog 26 #[.int .i64 oa, .int .i64 0, .int .i64 19] W fun e w' => e = .returned (.bool (decide (0 ≤ oa ∧ oa ≤ 19))) ∧ w' = W) := fun W => vwithin_any oa 0 19 W
  have HOV : Hid (∀ W, Calls Try.prog 11 #[.agg #[.int .u64 vr, .int .i64 vc, .int .u64 vb, .int .i64 vp], .int .i64 oc] W fun e w' => e = .returned (.tuple #[.agg (vA (Vc.overV ⟨vr, vc, vb, vp⟩ oc)), .bool (decide (Vc.fitsOver ⟨vr, vc, vb, vp⟩ oc))]) ∧ Below W.heap.size W w') := fun W => vover_any ⟨vr, vc, vb, vp⟩ oc W
  simp only
  obtain ⟨R, hR⟩ : ∃ R : Ending, (Ending.returned (.tuple #[.agg (vA (mayV id ⟨op, oc, oa, ⟨vr, vc, vb, vp⟩⟩)), .bool (decide (Vc.may id ⟨op, oc, oa, ⟨vr, vc, vb, vp⟩⟩))]) : Ending) = R := ⟨_, rfl⟩
  rw [hR] at HNO HYES ⊢
  clear hR
  by_cases q1 : op < 0
  · have HF : Hid _ := HNO.out (fun q => by have := (HM.out.1 q).2.1; omega)
    rw [HF.out]
    clear HNO HYES HM HF
    go_enter Try.func33, Try.ntmps33
    go_wp2_with fail
    exact bodyPost_ret (v := .tuple #[.agg (vA Vc.v0), .bool false]) (results_row_tmp (p := 4) (u := 5) (ty := 27) Try.results33 _ _ (w.heap.size + 1) 27 (vA Vc.v0) (0, 0) _ rfl (heap_alloc2_new w _ _) Try.underlying27 rfl (by rw [sizeVc]; rfl)) rfl ⟨rfl, below_alloc2 _ _ _⟩
  · by_cases q2 : 0 ≤ oa ∧ oa ≤ 19
    · rw [decide_eq_true q2] at HWI
      by_cases q3 : id ≤ vr
      · have HF : Hid _ := HNO.out (fun q => by have := (HM.out.1 q).2.2.2; omega)
        rw [HF.out]
        clear HNO HYES HM HF q2
        go_enter Try.func33, Try.ntmps33
        go_wp2_with fail
        refine (HWI.out _).mono ?_
        rintro e w1 ⟨rfl, rfl⟩
        go_wp2_with fail
        exact bodyPost_ret (v := .tuple #[.agg (vA Vc.v0), .bool false]) (results_row_tmp (p := 4) (u := 5) (ty := 27) Try.results33 _ _ (w.heap.size + 1) 27 (vA Vc.v0) (0, 0) _ rfl (heap_alloc2_new w _ _) Try.underlying27 rfl (by rw [sizeVc]; rfl)) rfl ⟨rfl, below_alloc2 _ _ _⟩
      · have HF : Hid _ := HYES.out ⟨by omega, ⟨by omega, by omega⟩, by omega⟩
        rw [HF.out]
        clear HNO HYES HM HF q2
        generalize Vc.overV ⟨vr, vc, vb, vp⟩ oc = z at *
        generalize decide (Vc.fitsOver ⟨vr, vc, vb, vp⟩ oc) = bz at *
        obtain ⟨z0, z1, z2, z3⟩ := z
        obtain ⟨W0, HW0⟩ : ∃ W0, Hid (W0 = (w.alloc (.cells #[.int .i64 op, .int .i64 oc, .int .i64 oa, .int .u64 vr, .int .i64 vc, .int .u64 vb, .int .i64 vp] 42)).alloc (.cells #[.int .u64 0, .int .i64 0, .int .u64 0, .int .i64 0] 27)) := ⟨_, rfl⟩
        have HB0 : Hid (Below w.heap.size w W0) := by rw [HW0.out]; exact below_alloc2 _ _ _
        have HR0 : Hid (W0.heap[w.heap.size + 1]? = some (.cells #[.int .u64 0, .int .i64 0, .int .u64 0, .int .i64 0] 27 (0, 0))) := by rw [HW0.out]; exact heap_alloc2_new _ _ _
        go_enter Try.func33, Try.ntmps33
        go_wp2_with fail
        refine (HWI.out _).mono ?_
        rintro e w1 ⟨rfl, rfl⟩
        go_wp2_with fail
        rw [← HW0.out]
        refine (HOV.out _).mono ?_
        rintro e w1 ⟨rfl, hb1⟩
        have HX : Hid (w1.heap[w.heap.size + 1]? = some (.cells #[.int .u64 0, .int .i64 0, .int .u64 0, .int .i64 0] 27 (0, 0))) := keep HR0.out hb1
        obtain ⟨c0, c1, c2, c3⟩ := vc_cells HX.out
        obtain ⟨f0, f1, f2, f3⟩ := vc_free HX.out
        have HLB : Hid (Below w.heap.size w w1) := HB0.out.trans (hb1.mono HB0.out.size)
        clear hb1
        simp only [vA]
        go_wp2_with fail
        have hle : w.heap.size ≤ w.heap.size + 1 := by omega
        exact bodyPost_ret (v := .tuple #[.agg #[.int .u64 z0, .int .i64 z1, .int .u64 z2, .int .i64 z3], .bool bz]) (results_row_tmp (p := 4) (u := 5) (ty := 27) Try.results33 _ _ (w.heap.size + 1) 27 #[.int .u64 z0, .int .i64 z1, .int .u64 z2, .int .i64 z3] (0, 0) _ rfl (vc_set4 HX.out) Try.underlying27 rfl (by rw [sizeVc]; rfl)) rfl ⟨rfl, (((HLB.out.setCell hle _).setCell hle _).setCell hle _).setCell hle _⟩
    · rw [decide_eq_false q2] at HWI
      have HF : Hid _ := HNO.out (fun q => by have := (HM.out.1 q).2.2.1; omega)
      rw [HF.out]
      clear HNO HYES HM HF q2
      go_enter Try.func33, Try.ntmps33
      go_wp2_with fail
      refine (HWI.out _).mono ?_
      rintro e w1 ⟨rfl, rfl⟩
      go_wp2_with fail
      exact bodyPost_ret (v := .tuple #[.agg (vA Vc.v0), .bool false]) (results_row_tmp (p := 4) (u := 5) (ty := 27) Try.results33 _ _ (w.heap.size + 1) 27 (vA Vc.v0) (0, 0) _ rfl (heap_alloc2_new w _ _) Try.underlying27 rfl (by rw [sizeVc]; rfl)) rfl ⟨rfl, below_alloc2 _ _ _⟩
end Go.Proofs.Ythnklbcaodhbfaa
