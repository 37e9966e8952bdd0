/- walks: the document's Better -/
import Derived.Test.YthnklbcaodhbfaaVB
namespace Go.Proofs.Ythnklbcaodhbfaa
open Go.RowKit
open Vc (V)

set_option maxHeartbeats 1000000 in
theorem rbetter_any (a b : V) (w : World) :
    Calls Try.prog 13 #[.agg #[.int .u64 a.root, .int .i64 a.cost, .int .u64 a.bridge, .int .i64 a.port], .agg #[.int .u64 b.root, .int .i64 b.cost, .int .u64 b.bridge, .int .i64 b.port]] w fun e w' => e = .returned (.bool (decide (Vc.lt a b))) ∧ Below w.heap.size w w' := by
  obtain ⟨ar, ac, ab, ap⟩ := a
  obtain ⟨br, bc, bb, bp⟩ := b
  have H : Hid (∀ x : Bool, (x = true ↔ (ar < br ∨ (ar = br ∧ (ac < bc ∨ (ac = bc ∧ (ab < bb ∨ (ab = bb ∧ ap < bp))))))) → decide (Vc.lt ⟨ar, ac, ab, ap⟩ ⟨br, bc, bb, bp⟩) = x) := fun x hx => by
    cases x with
    | true => exact decide_eq_true (hx.1 rfl)
    | false => exact decide_eq_false (fun q => by have := hx.2 q; cases this)
  simp only
  by_cases h1 : ar = br
  · have d1 : (ar != br) = false := by simp [h1]
    by_cases h2 : ac = bc
    · have d2 : (ac != bc) = false := by simp [h2]
      by_cases h3 : ab = bb
      · have d3 : (ab != bb) = false := by simp [h3]
        have HX : Hid (decide (Vc.lt ⟨ar, ac, ab, ap⟩ ⟨br, bc, bb, bp⟩) = decide (ap < bp)) := H.out _ (by simp only [decide_eq_true_eq]; omega)
        clear H h1 h2 h3
        go_enter Try.func13, Try.ntmps13
        go_wp2_with fail
        go_ret
        exact ⟨by rw [HX.out]; rfl, below_alloc2 _ _ _⟩
      · have d3 : (ab != bb) = true := by simp [h3]
        have HX : Hid (decide (Vc.lt ⟨ar, ac, ab, ap⟩ ⟨br, bc, bb, bp⟩) = decide (ab < bb)) := H.out _ (by simp only [decide_eq_true_eq]; omega)
        clear H h1 h2 h3
        go_enter Try.func13, Try.ntmps13
        go_wp2_with fail
        go_ret
        exact ⟨by rw [HX.out]; rfl, below_alloc2 _ _ _⟩
    · have d2 : (ac != bc) = true := by simp [h2]
      have HX : Hid (decide (Vc.lt ⟨ar, ac, ab, ap⟩ ⟨br, bc, bb, bp⟩) = decide (ac < bc)) := H.out _ (by simp only [decide_eq_true_eq]; omega)
      clear H h1 h2
      go_enter Try.func13, Try.ntmps13
      go_wp2_with fail
      go_ret
      exact ⟨by rw [HX.out]; rfl, below_alloc2 _ _ _⟩
  · have d1 : (ar != br) = true := by simp [h1]
    have HX : Hid (decide (Vc.lt ⟨ar, ac, ab, ap⟩ ⟨br, bc, bb, bp⟩) = decide (ar < br)) := H.out _ (by simp only [decide_eq_true_eq]; omega)
    clear H h1
    go_enter Try.func13, Try.ntmps13
    go_wp2_with fail
    go_ret
    exact ⟨by rw [HX.out]; rfl, below_alloc2 _ _ _⟩
end Go.Proofs.Ythnklbcaodhbfaa
