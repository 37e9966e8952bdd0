/- walks: package vec's Over, mayTake, Role, Best -/
import Derived.Test.YthnklbcaodhbfaaVK2
namespace Go.Proofs.Ythnklbcaodhbfaa
open Go.RowKit
open Vc (V Of)

set_option maxHeartbeats 1000000 in
theorem vover_any (v : V) (c : Int) (w : World) :
    Calls Try.prog 11 #[.agg #[.int .u64 v.root, .int .i64 v.cost, .int .u64 v.bridge, .int .i64 v.port], .int .i64 c] w fun e w' => e = .returned (.tuple #[.agg (vA (Vc.overV v c)), .bool (decide (Vc.fitsOver v c))]) ∧ Below w.heap.size w w' := by
  unfold Vc.overV
  obtain ⟨vr, vc, vb, vp⟩ := v
  have HW1 : Hid (∀ W, Calls Try.prog 26 #[.int .i64 c, .int .i64 0, .int .i64 1000000000] W fun e w' => e = .returned (.bool (decide (0 ≤ c ∧ c ≤ 1000000000))) ∧ w' = W) := fun W => vwithin_any c 0 1000000000 W
  have HW2 : Hid (∀ W, Calls Try.prog 26 #[.int .i64 vc, .int .i64 0, .int .i64 (1000000000 - c)] W fun e w' => e = .returned (.bool (decide (0 ≤ vc ∧ vc ≤ 1000000000 - c))) ∧ w' = W) := fun W => vwithin_any vc 0 (1000000000 - c) W
  have HF : Hid (Vc.fitsOver ⟨vr, vc, vb, vp⟩ c ↔ (0 ≤ c ∧ c ≤ 1000000000) ∧ (0 ≤ vc ∧ vc ≤ 1000000000 - c)) := by
    show ((0 ≤ vc ∧ vc ≤ 1000000000) ∧ (0 ≤ c ∧ c ≤ 1000000000) ∧ vc + c ≤ 1000000000) ↔ _
    omega
  simp only
  by_cases h1 : 0 ≤ c ∧ c ≤ 1000000000
  · rw [decide_eq_true h1] at HW1
    obtain ⟨a1, a2⟩ := h1
    by_cases h2 : 0 ≤ vc ∧ vc ≤ 1000000000 - c
    · rw [decide_eq_true h2] at HW2
      have h : Vc.fitsOver ⟨vr, vc, vb, vp⟩ c := HF.out.2 ⟨⟨a1, a2⟩, h2⟩
      rw [if_pos h, decide_eq_true h]
      obtain ⟨b1, b2⟩ := h2
      have b3 : vc + c ≤ 1000000000 := by omega
      clear HF h
      go_enter Try.func11, Try.ntmps11
      go_wp2_with fail
      refine (HW1.out _).mono ?_
      rintro e w1 ⟨rfl, rfl⟩
      go_wp2_with fail
      refine (HW2.out _).mono ?_
      rintro e w1 ⟨rfl, rfl⟩
      go_wp2_with fail
      exact bodyPost_ret (v := .tuple #[.agg (vA (Vc.add ⟨vr, vc, vb, vp⟩ c)), .bool true]) (results_row_tmp (p := 4) (u := 5) (ty := 27) Try.results11 _ _ (w.heap.size + 1) 27 (vA (Vc.add ⟨vr, vc, vb, vp⟩ c)) (0, 0) _ rfl (heap_alloc2_new w _ _) Try.underlying27 rfl (by rw [sizeVc]; rfl)) rfl ⟨rfl, below_alloc2 _ _ _⟩
    · rw [decide_eq_false h2] at HW2
      have h : ¬ Vc.fitsOver ⟨vr, vc, vb, vp⟩ c := fun q => h2 (HF.out.1 q).2
      rw [if_neg h, decide_eq_false h]
      clear HF h h2
      go_enter Try.func11, Try.ntmps11
      go_wp2_with fail
      refine (HW1.out _).mono ?_
      rintro e w1 ⟨rfl, rfl⟩
      go_wp2_with fail
      refine (HW2.out _).mono ?_
      rintro e w1 ⟨rfl, rfl⟩
      go_wp2_with fail
      exact bodyPost_ret (v := .tuple #[.agg (vA Vc.v0), .bool false]) (results_row_tmp (p := 4) (u := 5) (ty := 27) Try.results11 _ _ (w.heap.size + 1) 27 (vA Vc.v0) (0, 0) _ rfl (heap_alloc2_new w _ _) Try.underlying27 rfl (by rw [sizeVc]; rfl)) rfl ⟨rfl, below_alloc2 _ _ _⟩
  · rw [decide_eq_false h1] at HW1
    have h : ¬ Vc.fitsOver ⟨vr, vc, vb, vp⟩ c := fun q => h1 (HF.out.1 q).1
    rw [if_neg h, decide_eq_false h]
    clear HF h h1 HW2
    go_enter Try.func11, Try.ntmps11
    go_wp2_with fail
    refine (HW1.out _).mono ?_
    rintro e w1 ⟨rfl, rfl⟩
    go_wp2_with fail
    exact bodyPost_ret (v := .tuple #[.agg (vA Vc.v0), .bool false]) (results_row_tmp (p := 4) (u := 5) (ty := 27) Try.results11 _ _ (w.heap.size + 1) 27 (vA Vc.v0) (0, 0) _ rfl (heap_alloc2_new w _ _) Try.underlying27 rfl (by rw [sizeVc]; rfl)) rfl ⟨rfl, below_alloc2 _ _ _⟩
end Go.Proofs.Ythnklbcaodhbfaa
