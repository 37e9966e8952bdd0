/- walks: the document's Better, Compare, Over -/
import Derived.Test.YtfhehnciieeddacVB
namespace Go.Proofs.Ytfhehnciieeddac
open Go.RowKit
open Vc (V)

set_option maxHeartbeats 1000000 in
theorem rbetter_any (a b : V) (w : World) :
    Calls Try.prog 17 #[.agg #[.int .u64 a.root, .int .i64 a.cost, .int .u64 a.bridge, .int .i64 a.port], .agg #[.int .u64 b.root, .int .i64 b.cost, .int .u64 b.bridge, .int .i64 b.port]] w fun e w' => e = .returned (.bool (decide (Vc.lt a b))) ∧ Below w.heap.size w w' := by
  obtain ⟨ar, ac, ab, ap⟩ := a
  obtain ⟨br, bc, bb, bp⟩ := b
  have H : Hid (∀ x : Bool, (x = true ↔ (ar < br ∨ (ar = br ∧ (ac < bc ∨ (ac = bc ∧ (ab < bb ∨ (ab = bb ∧ ap < bp))))))) → decide (Vc.lt ⟨ar, ac, ab, ap⟩ ⟨br, bc, bb, bp⟩) = x) := fun x hx => by
    cases x with
    | true => exact decide_eq_true (hx.1 rfl)
    | false => exact decide_eq_false (fun q => by have := hx.2 q; cases this)
  simp only
  by_cases h1 : ar = br
  · have d1 : (ar != br) = false := by simp [h1]
    by_cases h2 : ac = bc
    · have d2 : (ac != bc) = false := by simp [h2]
      by_cases h3 : ab = bb
      · have d3 : (ab != bb) = false := by simp [h3]
        have HX : Hid (decide (Vc.lt ⟨ar, ac, ab, ap⟩ ⟨br, bc, bb, bp⟩) = decide (ap < bp)) := H.out _ (by simp only [decide_eq_true_eq]; omega)
        clear H h1 h2 h3
        go_enter Try.func17, Try.ntmps17
        go_wp2_with fail
        go_ret
        exact ⟨by rw [HX.out]; rfl, below_alloc2 _ _ _⟩
      · have d3 : (ab != bb) = true := by simp [h3]
        have HX : Hid (decide (Vc.lt ⟨ar, ac, ab, ap⟩ ⟨br, bc, bb, bp⟩) = decide (ab < bb)) := H.out _ (by simp only [decide_eq_true_eq]; omega)
        clear H h1 h2 h3
        go_enter Try.func17, Try.ntmps17
        go_wp2_with fail
        go_ret
        exact ⟨by rw [HX.out]; rfl, below_alloc2 _ _ _⟩
    · have d2 : (ac != bc) = true := by simp [h2]
      have HX : Hid (decide (Vc.lt ⟨ar, ac, ab, ap⟩ ⟨br, bc, bb, bp⟩) = decide (ac < bc)) := H.out _ (by simp only [decide_eq_true_eq]; omega)
      clear H h1 h2
      go_enter Try.func17, Try.ntmps17
      go_wp2_with fail
      go_ret
      exact ⟨by rw [HX.out]; rfl, below_alloc2 _ _ _⟩
  · have d1 : (ar != br) = true := by simp [h1]
    have HX : Hid (decide (Vc.lt ⟨ar, ac, ab, ap⟩ ⟨br, bc, bb, bp⟩) = decide (ar < br)) := H.out _ (by simp only [decide_eq_true_eq]; omega)
    clear H h1
    go_enter Try.func17, Try.ntmps17
    go_wp2_with fail
    go_ret
    exact ⟨by rw [HX.out]; rfl, below_alloc2 _ _ _⟩
set_option maxHeartbeats 1000000 in
theorem rcompare_any (a b : V) (w : World) :
    Calls Try.prog 14 #[.agg #[.int .u64 a.root, .int .i64 a.cost, .int .u64 a.bridge, .int .i64 a.port], .agg #[.int .u64 b.root, .int .i64 b.cost, .int .u64 b.bridge, .int .i64 b.port]] w fun e w' => e = .returned (.int .i64 (Vc.cmp a b)) ∧ Below w.heap.size w w' := by
  obtain ⟨W0, HW0⟩ : ∃ W0, Hid (W0 = (w.alloc (.cells #[.int .u64 a.root, .int .i64 a.cost, .int .u64 a.bridge, .int .i64 a.port] 36)).alloc (.cells #[.int .u64 b.root, .int .i64 b.cost, .int .u64 b.bridge, .int .i64 b.port] 36)) := ⟨_, rfl⟩
  have HB0 : Hid (Below w.heap.size w W0) := by rw [HW0.out]; exact below_alloc2 _ _ _
  have HC : Hid (∀ W, Below W0.heap.size W0 W → (W.cell? ⟨w.heap.size, 0, none⟩ = some (.int .u64 a.root) ∧ W.cell? ⟨w.heap.size, 1, none⟩ = some (.int .i64 a.cost) ∧ W.cell? ⟨w.heap.size, 2, none⟩ = some (.int .u64 a.bridge) ∧ W.cell? ⟨w.heap.size, 3, none⟩ = some (.int .i64 a.port)) ∧ (W.cell? ⟨w.heap.size + 1, 0, none⟩ = some (.int .u64 b.root) ∧ W.cell? ⟨w.heap.size + 1, 1, none⟩ = some (.int .i64 b.cost) ∧ W.cell? ⟨w.heap.size + 1, 2, none⟩ = some (.int .u64 b.bridge) ∧ W.cell? ⟨w.heap.size + 1, 3, none⟩ = some (.int .i64 b.port))) := fun W hW => by
    rw [HW0.out] at hW
    exact ⟨vc_cells (keep (heap_alloc2_old w _ _) hW), vc_cells (keep (heap_alloc2_new w _ _) hW)⟩
  have HL : Hid (∀ W, Below W0.heap.size W0 W → Below w.heap.size w W) := fun W hW => HB0.out.trans (hW.mono HB0.out.size)
  unfold Vc.cmp
  by_cases h1 : Vc.lt a b
  · rw [if_pos h1]
    have HX : Hid (∀ W, Calls Try.prog 17 #[.agg #[.int .u64 a.root, .int .i64 a.cost, .int .u64 a.bridge, .int .i64 a.port], .agg #[.int .u64 b.root, .int .i64 b.cost, .int .u64 b.bridge, .int .i64 b.port]] W fun e w' => e = .returned (.bool true) ∧ Below W.heap.size W w') := fun W => by
      have := rbetter_any a b W
      rw [decide_eq_true h1] at this
      exact this
    go_enter Try.func14, Try.ntmps14
    go_wp2_with fail
    rw [← HW0.out]
    refine (HX.out _).mono ?_
    rintro e w1 ⟨rfl, hb1⟩
    have HB1 : Hid (Below w.heap.size w w1) := HL.out _ hb1
    clear hb1
    go_wp2_with fail
    go_ret
    exact ⟨rfl, HB1.out⟩
  · rw [if_neg h1]
    have HX : Hid (∀ W, Calls Try.prog 17 #[.agg #[.int .u64 a.root, .int .i64 a.cost, .int .u64 a.bridge, .int .i64 a.port], .agg #[.int .u64 b.root, .int .i64 b.cost, .int .u64 b.bridge, .int .i64 b.port]] W fun e w' => e = .returned (.bool false) ∧ Below W.heap.size W w') := fun W => by
      have := rbetter_any a b W
      rw [decide_eq_false h1] at this
      exact this
    have HY : Hid (∀ W, Calls Try.prog 17 #[.agg #[.int .u64 b.root, .int .i64 b.cost, .int .u64 b.bridge, .int .i64 b.port], .agg #[.int .u64 a.root, .int .i64 a.cost, .int .u64 a.bridge, .int .i64 a.port]] W fun e w' => e = .returned (.bool (decide (Vc.lt b a))) ∧ Below W.heap.size W w') := fun W => rbetter_any b a W
    clear h1
    by_cases h2 : Vc.lt b a
    · rw [if_pos h2]
      go_enter Try.func14, Try.ntmps14
      go_wp2_with fail
      rw [← HW0.out]
      refine (HX.out _).mono ?_
      rintro e w1 ⟨rfl, hb1⟩
      have HB1 : Hid (Below W0.heap.size W0 w1) := hb1
      obtain ⟨⟨c0, c1, c2, c3⟩, d0, d1, d2, d3⟩ := HC.out w1 hb1
      clear hb1
      go_wp2_with fail
      refine (HY.out _).mono ?_
      rw [decide_eq_true h2]
      rintro e w2 ⟨rfl, hb2⟩
      have HB2 : Hid (Below w.heap.size w w2) := HL.out _ (HB1.out.trans (hb2.mono HB1.out.size))
      clear hb2
      go_wp2_with fail
      go_ret
      exact ⟨rfl, HB2.out⟩
    · rw [if_neg h2]
      go_enter Try.func14, Try.ntmps14
      go_wp2_with fail
      rw [← HW0.out]
      refine (HX.out _).mono ?_
      rintro e w1 ⟨rfl, hb1⟩
      have HB1 : Hid (Below W0.heap.size W0 w1) := hb1
      obtain ⟨⟨c0, c1, c2, c3⟩, d0, d1, d2, d3⟩ := HC.out w1 hb1
      clear hb1
      go_wp2_with fail
      refine (HY.out _).mono ?_
      rw [decide_eq_false h2]
      rintro e w2 ⟨rfl, hb2⟩
      have HB2 : Hid (Below w.heap.size w w2) := HL.out _ (HB1.out.trans (hb2.mono HB1.out.size))
      clear hb2
      go_wp2_with fail
      go_ret
      exact ⟨rfl, HB2.out⟩
set_option maxHeartbeats 1000000 in
theorem rover_any (v : V) (c : Int) (w : World) :
    Calls Try.prog 16 #[.agg #[.int .u64 v.root, .int .i64 v.cost, .int .u64 v.bridge, .int .i64 v.port], .int .i64 c] w fun e w' => e = .returned (.tuple #[.agg (vA (Vc.overV v c)), .bool (decide (Vc.fitsOver v c))]) ∧ Below w.heap.size w w' := by
  unfold Vc.overV
  obtain ⟨vr, vc, vb, vp⟩ := v
  by_cases h : Vc.fitsOver ⟨vr, vc, vb, vp⟩ c
  · rw [if_pos h, decide_eq_true h]
    obtain ⟨⟨a1, a2⟩, ⟨b1, b2⟩, b3⟩ := h
    simp only at a1 a2 b1 b2 b3 ⊢
    go_enter Try.func16, Try.ntmps16
    go_wp2_with fail
    exact bodyPost_ret (v := .tuple #[.agg (vA (Vc.add ⟨vr, vc, vb, vp⟩ c)), .bool true]) (results_row_tmp (p := 4) (u := 5) (ty := 36) Try.results16 _ _ (w.heap.size + 1) 36 (vA (Vc.add ⟨vr, vc, vb, vp⟩ c)) (0, 0) _ rfl (heap_alloc2_new w _ _) Try.underlying36 rfl (by rw [sizeVc]; rfl)) rfl ⟨rfl, below_alloc2 _ _ _⟩
  · rw [if_neg h, decide_eq_false h]
    have H : Hid (¬ ((0 ≤ vc ∧ vc ≤ 1000000000) ∧ (0 ≤ c ∧ c ≤ 1000000000) ∧ vc + c ≤ 1000000000)) := h
    clear h
    simp only
    by_cases q1 : vc < 0
    · clear H
      go_enter Try.func16, Try.ntmps16
      go_wp2_with fail
      exact bodyPost_ret (v := .tuple #[.agg (vA Vc.v0), .bool false]) (results_row_tmp (p := 4) (u := 5) (ty := 36) Try.results16 _ _ (w.heap.size + 1) 36 (vA Vc.v0) (0, 0) _ rfl (heap_alloc2_new w _ _) Try.underlying36 rfl (by rw [sizeVc]; rfl)) rfl ⟨rfl, below_alloc2 _ _ _⟩
    · by_cases q2 : 1000000000 < vc
      · clear H
        go_enter Try.func16, Try.ntmps16
        go_wp2_with fail
        exact bodyPost_ret (v := .tuple #[.agg (vA Vc.v0), .bool false]) (results_row_tmp (p := 4) (u := 5) (ty := 36) Try.results16 _ _ (w.heap.size + 1) 36 (vA Vc.v0) (0, 0) _ rfl (heap_alloc2_new w _ _) Try.underlying36 rfl (by rw [sizeVc]; rfl)) rfl ⟨rfl, below_alloc2 _ _ _⟩
      · by_cases q3 : c < 0
        · clear H
          go_enter Try.func16, Try.ntmps16
          go_wp2_with fail
          exact bodyPost_ret (v := .tuple #[.agg (vA Vc.v0), .bool false]) (results_row_tmp (p := 4) (u := 5) (ty := 36) Try.results16 _ _ (w.heap.size + 1) 36 (vA Vc.v0) (0, 0) _ rfl (heap_alloc2_new w _ _) Try.underlying36 rfl (by rw [sizeVc]; rfl)) rfl ⟨rfl, below_alloc2 _ _ _⟩
        · by_cases q4 : 1000000000 < c
          · clear H
            go_enter Try.func16, Try.ntmps16
            go_wp2_with fail
            exact bodyPost_ret (v := .tuple #[.agg (vA Vc.v0), .bool false]) (results_row_tmp (p := 4) (u := 5) (ty := 36) Try.results16 _ _ (w.heap.size + 1) 36 (vA Vc.v0) (0, 0) _ rfl (heap_alloc2_new w _ _) Try.underlying36 rfl (by rw [sizeVc]; rfl)) rfl ⟨rfl, below_alloc2 _ _ _⟩
          · have q5 : 1000000000 < vc + c := by have := H.out; omega
            have q6 : vc ≤ 1000000000 := by omega
            have q7 : c ≤ 1000000000 := by omega
            clear H
            go_enter Try.func16, Try.ntmps16
            go_wp2_with fail
            exact bodyPost_ret (v := .tuple #[.agg (vA Vc.v0), .bool false]) (results_row_tmp (p := 4) (u := 5) (ty := 36) Try.results16 _ _ (w.heap.size + 1) 36 (vA Vc.v0) (0, 0) _ rfl (heap_alloc2_new w _ _) Try.underlying36 rfl (by rw [sizeVc]; rfl)) rfl ⟨rfl, below_alloc2 _ _ _⟩
end Go.Proofs.Ytfhehnciieeddac
