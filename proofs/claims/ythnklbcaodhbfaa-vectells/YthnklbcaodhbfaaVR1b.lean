/- walks: the document's Over -/
import Derived.Test.YthnklbcaodhbfaaVR1a
namespace Go.Proofs.Ythnklbcaodhbfaa
open Go.RowKit
open Vc (V)

set_option maxHeartbeats 1000000 in
theorem rover_any (v : V) (c : Int) (w : World) :
    Calls Try.prog 12 #[.agg #[.int .u64 v.root, .int .i64 v.cost, .int .u64 v.bridge, .int .i64 v.port], .int .i64 c] w fun e w' => e = .returned (.tuple #[.agg (vA (Vc.overV v c)), .bool (decide (Vc.fitsOver v c))]) ∧ Below w.heap.size w w' := by
  unfold Vc.overV
  obtain ⟨vr, vc, vb, vp⟩ := v
  by_cases h : Vc.fitsOver ⟨vr, vc, vb, vp⟩ c
  · rw [if_pos h, decide_eq_true h]
    obtain ⟨⟨a1, a2⟩, ⟨b1, b2⟩, b3⟩ := h
    simp only at a1 a2 b1 b2 b3 ⊢
    go_enter Try.func12, Try.ntmps12
    go_wp2_with fail
    exact bodyPost_ret (v := .tuple #[.agg (vA (Vc.add ⟨vr, vc, vb, vp⟩ c)), .bool true]) (results_row_tmp (p := 4) (u := 5) (ty := 27) Try.results12 _ _ (w.heap.size + 1) 27 (vA (Vc.add ⟨vr, vc, vb, vp⟩ c)) (0, 0) _ rfl (heap_alloc2_new w _ _) Try.underlying27 rfl (by rw [sizeVc]; rfl)) rfl ⟨rfl, below_alloc2 _ _ _⟩
  · rw [if_neg h, decide_eq_false h]
    have H : Hid (¬ ((0 ≤ vc ∧ vc ≤ 1000000000) ∧ (0 ≤ c ∧ c ≤ 1000000000) ∧ vc + c ≤ 1000000000)) := h
    clear h
    simp only
    by_cases q1 : vc < 0
    · clear H
      go_enter Try.func12, Try.ntmps12
      go_wp2_with fail
      exact bodyPost_ret (v := .tuple #[.agg (vA Vc.v0), .bool false]) (results_row_tmp (p := 4) (u := 5) (ty := 27) Try.results12 _ _ (w.heap.size + 1) 27 (vA Vc.v0) (0, 0) _ rfl (heap_alloc2_new w _ _) Try.underlying27 rfl (by rw [sizeVc]; rfl)) rfl ⟨rfl, below_alloc2 _ _ _⟩
    · by_cases q2 : 1000000000 < vc
      · clear H
        go_enter Try.func12, Try.ntmps12
        go_wp2_with fail
        exact bodyPost_ret (v := .tuple #[.agg (vA Vc.v0), .bool false]) (results_row_tmp (p := 4) (u := 5) (ty := 27) Try.results12 _ _ (w.heap.size + 1) 27 (vA Vc.v0) (0, 0) _ rfl (heap_alloc2_new w _ _) Try.underlying27 rfl (by rw [sizeVc]; rfl)) rfl ⟨rfl, below_alloc2 _ _ _⟩
      · by_cases q3 : c < 0
        · clear H
          go_enter Try.func12, Try.ntmps12
          go_wp2_with fail
          exact bodyPost_ret (v := .tuple #[.agg (vA Vc.v0), .bool false]) (results_row_tmp (p := 4) (u := 5) (ty := 27) Try.results12 _ _ (w.heap.size + 1) 27 (vA Vc.v0) (0, 0) _ rfl (heap_alloc2_new w _ _) Try.underlying27 rfl (by rw [sizeVc]; rfl)) rfl ⟨rfl, below_alloc2 _ _ _⟩
        · by_cases q4 : 1000000000 < c
          · clear H
            go_enter Try.func12, Try.ntmps12
            go_wp2_with fail
            exact bodyPost_ret (v := .tuple #[.agg (vA Vc.v0), .bool false]) (results_row_tmp (p := 4) (u := 5) (ty := 27) Try.results12 _ _ (w.heap.size + 1) 27 (vA Vc.v0) (0, 0) _ rfl (heap_alloc2_new w _ _) Try.underlying27 rfl (by rw [sizeVc]; rfl)) rfl ⟨rfl, below_alloc2 _ _ _⟩
          · have q5 : 1000000000 < vc + c := by have := H.out; omega
            have q6 : vc ≤ 1000000000 := by omega
            have q7 : c ≤ 1000000000 := by omega
            clear H
            go_enter Try.func12, Try.ntmps12
            go_wp2_with fail
            exact bodyPost_ret (v := .tuple #[.agg (vA Vc.v0), .bool false]) (results_row_tmp (p := 4) (u := 5) (ty := 27) Try.results12 _ _ (w.heap.size + 1) 27 (vA Vc.v0) (0, 0) _ rfl (heap_alloc2_new w _ _) Try.underlying27 rfl (by rw [sizeVc]; rfl)) rfl ⟨rfl, below_alloc2 _ _ _⟩
end Go.Proofs.Ythnklbcaodhbfaa
