/- walks: region.Same -/
import Derived.Test.YtconlnoolenhjaaDoorGW7a
namespace Go.Proofs.YtconlnoolenhjaaDoor
open Go.RowKit

set_option maxHeartbeats 2000000 in
theorem gsame_any (a b : Rg.Reg) (w : World) (ka : a.ok) (kb : b.ok) (ha : a.at' w) (hb : b.at' w) (ht : Tabs w) :
    Calls Tryd.prog 15 #[.agg #[.string a.s, .int .i64 a.rev, .slice a.ao a.n a.cap], .agg #[.string b.s, .int .i64 b.rev, .slice b.ao b.n b.cap]] w fun e w' => e = .returned (.bool (decide (strOf 50 a.id = strOf 50 b.id))) ∧ Below w.heap.size w w' := by
  have hbt := ht.lt
  obtain ⟨W0, HW0⟩ : ∃ W0, Hid (W0 = (w.alloc (.cells #[.string a.s, .int .i64 a.rev, .slice a.ao a.n a.cap] 24)).alloc (.cells #[.string b.s, .int .i64 b.rev, .slice b.ao b.n b.cap] 24)) := ⟨_, rfl⟩
  have HB0 : Hid (Below w.heap.size w W0) := by rw [HW0.out]; exact below_alloc2 _ _ _
  have hz : Hid (W0.heap.size = w.heap.size + 2) := by rw [HW0.out]; simp [Hid]
  have HA1 : Hid (W0.heap[w.heap.size]? = some (.cells #[.string a.s, .int .i64 a.rev, .slice a.ao a.n a.cap] 24 (0, 0))) := by rw [HW0.out]; exact heap_alloc2_old w _ _
  have HA2 : Hid (W0.heap[w.heap.size + 1]? = some (.cells #[.string b.s, .int .i64 b.rev, .slice b.ao b.n b.cap] 24 (0, 0))) := by rw [HW0.out]; exact heap_alloc2_new w _ _
  have HIA : Hid _ := gident_from a W0 ka (ha.below HB0.out) (ht.below HB0.out (by omega)) (by have := hz.out; omega)
  have HIB : Hid _ := gident_from b W0 kb (hb.below HB0.out) (ht.below HB0.out (by omega)) (by have := hz.out; omega)
  have HC : Hid (∀ W, Below W0.heap.size W0 W → (W.cell? ⟨w.heap.size, 0, none⟩ = some (.string a.s) ∧ W.cell? ⟨w.heap.size, 1, none⟩ = some (.int .i64 a.rev) ∧ W.cell? ⟨w.heap.size, 2, none⟩ = some (.slice a.ao a.n a.cap)) ∧ (W.cell? ⟨w.heap.size + 1, 0, none⟩ = some (.string b.s) ∧ W.cell? ⟨w.heap.size + 1, 1, none⟩ = some (.int .i64 b.rev) ∧ W.cell? ⟨w.heap.size + 1, 2, none⟩ = some (.slice b.ao b.n b.cap))) := by
    intro W hW
    have := hz.out
    exact ⟨rg_cells ((hW.block _ (by omega)).trans HA1.out), rg_cells ((hW.block _ (by omega)).trans HA2.out)⟩
  clear ht ha hb ka kb HA1 HA2
  go_enter Tryd.func15, Tryd.ntmps15
  go_wp2_with fail
  rw [← HW0.out]
  obtain ⟨⟨d0, d1, d2⟩, e0, e1, e2⟩ := HC.out W0 (Below.refl _ _)
  go_region_with (first | (go_at_call 13; (with_reducible refine (HIA.out _ (by first | exact HBb.out | exact (Below.refl _ _).drew | exact below_drewN (Below.refl _ _) _ | exact Below.refl _ _)).mono ?_); rintro e wa ⟨ra, ca, rfl, HRa, HWa, HBa⟩; obtain ⟨⟨f0, f1, f2⟩, g0, g1, g2⟩ := HC.out wa HBa.out) | (go_at_call 13; (with_reducible refine (HIB.out _ (by first | exact HBa.out | exact (Below.refl _ _).drew | exact below_drewN (Below.refl _ _) _ | exact Below.refl _ _)).mono ?_); rintro e wb ⟨rb, cb, rfl, HRb, HWb, HBb⟩; obtain ⟨⟨f0, f1, f2⟩, g0, g1, g2⟩ := HC.out wb HBb.out) | (go_at_call 27; refine (gequal_any _ _ 50 _ 50 _ a.id b.id _ (by first | exact HRa.out | exact HRa.out.below HWb.out) (nilOk_pos HRa.out (by omega)) (by first | exact HRb.out | exact HRb.out.below HWa.out) (nilOk_pos HRb.out (by omega))).mono ?_; rintro e w9 ⟨rfl, rfl⟩))
  all_goals go_wp2
  all_goals go_ret
  all_goals exact ⟨rfl, by first | exact HB0.out.trans (HBa.out.mono HB0.out.size) | exact HB0.out.trans (HBb.out.mono HB0.out.size)⟩
end Go.Proofs.YtconlnoolenhjaaDoor
