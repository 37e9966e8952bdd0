/- walks: package vec's Compare and better -/
import Derived.Test.YtcbpafpaimpfnaaGreatDoorVK
namespace Go.Proofs.YtcbpafpaimpfnaaGreatDoor
open Go.RowKit
open Vc (V Of)

theorem cor4 (a b : V) (g : Nat) (ty : TypeId) (w : World) (h : w.heap[g]? = some (.cells #[.int .i64 (sg a.root b.root), .int .i64 (sg a.cost b.cost), .int .i64 (sg a.bridge b.bridge), .int .i64 (sg a.port b.port)] ty (0, 0))) :
    Calls Tryz.prog 87 #[.slice (some ⟨g, 0, none⟩) 4 4] w fun e w' => e = .returned (.int .i64 (Vc.cmp a b)) ∧ w' = w := by
  rw [← orTo_sg4]
  obtain ⟨c0, c1, c2, c3⟩ := vc_cells h
  refine cor_any g 0 4 4 (sg4 a b) w (by omega) (by omega) (fun i hi => ?_)
  rcases (by omega : i = 0 ∨ i = 1 ∨ i = 2 ∨ i = 3) with e | e | e | e <;> subst e
  · exact c0
  · exact c1
  · exact c2
  · exact c3
theorem below_drew_alloc {n : Nat} {w w' : World} (h : Below n w w') (hn : n ≤ w'.heap.size) (o : Obj) : Below n w (w'.drew.alloc o) := (Below.drew h).alloc hn o
set_option maxHeartbeats 4000000 in
theorem vcompare_any (a b : V) (w : World) :
    Calls Tryz.prog 88 #[.agg #[.int .u64 a.root, .int .i64 a.cost, .int .u64 a.bridge, .int .i64 a.port], .agg #[.int .u64 b.root, .int .i64 b.cost, .int .u64 b.bridge, .int .i64 b.port]] w fun e w' => e = .returned (.int .i64 (Vc.cmp a b)) ∧ Below w.heap.size w w' := by
  obtain ⟨W0, HW0⟩ : ∃ W0, Hid (W0 = (w.alloc (.cells #[.int .u64 a.root, .int .i64 a.cost, .int .u64 a.bridge, .int .i64 a.port] 48)).alloc (.cells #[.int .u64 b.root, .int .i64 b.cost, .int .u64 b.bridge, .int .i64 b.port] 48)) := ⟨_, rfl⟩
  have HB0 : Hid (Below w.heap.size w W0) := by rw [HW0.out]; exact below_alloc2 _ _ _
  have HBB : Hid (Below W0.heap.size W0 W0) := Below.refl _ _
  have HC : Hid (∀ W, Below W0.heap.size W0 W → W.cell? ⟨w.heap.size, 0, none⟩ = some (.int .u64 a.root) ∧ W.cell? ⟨w.heap.size, 1, none⟩ = some (.int .i64 a.cost) ∧ W.cell? ⟨w.heap.size, 2, none⟩ = some (.int .u64 a.bridge) ∧ W.cell? ⟨w.heap.size, 3, none⟩ = some (.int .i64 a.port) ∧ W.cell? ⟨w.heap.size + 1, 0, none⟩ = some (.int .u64 b.root) ∧ W.cell? ⟨w.heap.size + 1, 1, none⟩ = some (.int .i64 b.cost) ∧ W.cell? ⟨w.heap.size + 1, 2, none⟩ = some (.int .u64 b.bridge) ∧ W.cell? ⟨w.heap.size + 1, 3, none⟩ = some (.int .i64 b.port)) := fun W hW => by
    rw [HW0.out] at hW
    have h1 := vc_cells (keep (heap_alloc2_old w _ _) hW)
    have h2 := vc_cells (keep (heap_alloc2_new w _ _) hW)
    exact ⟨h1.1, h1.2.1, h1.2.2.1, h1.2.2.2, h2.1, h2.2.1, h2.2.2.1, h2.2.2.2⟩
  have HOR : Hid (∀ (g : Nat) (ty : TypeId) (W : World), W.heap[g]? = some (.cells #[.int .i64 (sg a.root b.root), .int .i64 (sg a.cost b.cost), .int .i64 (sg a.bridge b.bridge), .int .i64 (sg a.port b.port)] ty (0, 0)) → Calls Tryz.prog 87 #[.slice (some ⟨g, 0, none⟩) 4 4] W fun e w' => e = .returned (.int .i64 (Vc.cmp a b)) ∧ w' = W) := fun g ty W h => cor4 a b g ty W h
  have HL : Hid (∀ W, Below W0.heap.size W0 W → Below w.heap.size w W) := fun W hW => HB0.out.trans (hW.mono HB0.out.size)
  obtain ⟨c0, c1, c2, c3, d0, d1, d2, d3⟩ := HC.out W0 HBB.out
  go_enter Tryz.func88, Tryz.ntmps88
  go_wp2_with fail
  rw [← HW0.out]
  go_region_held3 (fun W => W.cell? ⟨w.heap.size, 0, none⟩ = some (.int .u64 a.root) ∧ W.cell? ⟨w.heap.size, 1, none⟩ = some (.int .i64 a.cost) ∧ W.cell? ⟨w.heap.size, 2, none⟩ = some (.int .u64 a.bridge) ∧ W.cell? ⟨w.heap.size, 3, none⟩ = some (.int .i64 a.port) ∧ W.cell? ⟨w.heap.size + 1, 0, none⟩ = some (.int .u64 b.root) ∧ W.cell? ⟨w.heap.size + 1, 1, none⟩ = some (.int .i64 b.cost) ∧ W.cell? ⟨w.heap.size + 1, 2, none⟩ = some (.int .u64 b.bridge) ∧ W.cell? ⟨w.heap.size + 1, 3, none⟩ = some (.int .i64 b.port))
    (first | (exact HC.out _ (Below.drew HBB.out)) | (exact HC.out _ (below_drew_alloc HBB.out (Nat.le_refl _) _)))
    (first | (go_at_call 108; refine (ccmpu_any _ _ _).mono ?_; rintro e w1 ⟨rfl, rfl⟩) | (go_at_call 57; refine (ccmpi_any _ _ _).mono ?_; rintro e w1 ⟨rfl, rfl⟩) | (go_at_call 87; refine (HOR.out _ _ _ (heap_alloc_last W0.drew _)).mono ?_; rintro e w1 ⟨rfl, rfl⟩))
  go_wp2_with fail
  go_ret
  exact ⟨rfl, HL.out _ (below_drew_alloc HBB.out (Nat.le_refl _) _)⟩
set_option maxHeartbeats 1000000 in
theorem vbetter_any (a b : V) (w : World) :
    Calls Tryz.prog 76 #[.agg #[.int .u64 a.root, .int .i64 a.cost, .int .u64 a.bridge, .int .i64 a.port], .agg #[.int .u64 b.root, .int .i64 b.cost, .int .u64 b.bridge, .int .i64 b.port]] w fun e w' => e = .returned (.bool (decide (Vc.lt a b))) ∧ Below w.heap.size w w' := by
  obtain ⟨W0, HW0⟩ : ∃ W0, Hid (W0 = (w.alloc (.cells #[.int .u64 a.root, .int .i64 a.cost, .int .u64 a.bridge, .int .i64 a.port] 48)).alloc (.cells #[.int .u64 b.root, .int .i64 b.cost, .int .u64 b.bridge, .int .i64 b.port] 48)) := ⟨_, rfl⟩
  have HB0 : Hid (Below w.heap.size w W0) := by rw [HW0.out]; exact below_alloc2 _ _ _
  have HCM : Hid (∀ W, Calls Tryz.prog 88 #[.agg #[.int .u64 a.root, .int .i64 a.cost, .int .u64 a.bridge, .int .i64 a.port], .agg #[.int .u64 b.root, .int .i64 b.cost, .int .u64 b.bridge, .int .i64 b.port]] W fun e w' => e = .returned (.int .i64 (Vc.cmp a b)) ∧ Below W.heap.size W w') := fun W => vcompare_any a b W
  have HD : Hid (decide (Vc.cmp a b < 0) = decide (Vc.lt a b)) := by
    by_cases h : Vc.lt a b
    · exact (decide_eq_true (Vc.cmp_lt.2 h)).trans (decide_eq_true h).symm
    · exact (decide_eq_false (fun q => h (Vc.cmp_lt.1 q))).trans (decide_eq_false h).symm
  go_enter Tryz.func76, Tryz.ntmps76
  go_wp2_with fail
  rw [← HW0.out]
  refine (HCM.out _).mono ?_
  rintro e w1 ⟨rfl, hb1⟩
  have HB1 : Hid (Below w.heap.size w w1) := HB0.out.trans (hb1.mono HB0.out.size)
  clear hb1
  go_wp2_with fail
  go_ret
  exact ⟨by rw [← HD.out]; rfl, HB1.out⟩
end Go.Proofs.YtcbpafpaimpfnaaGreatDoor
