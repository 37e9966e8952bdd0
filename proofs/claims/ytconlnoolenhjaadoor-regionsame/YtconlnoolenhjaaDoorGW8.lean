/- walks: hedgelaw3's alive -/
import Derived.Test.YtconlnoolenhjaaDoorGW6
namespace Go.Proofs.YtconlnoolenhjaaDoor
open Go.RowKit

set_option maxRecDepth 10000 in
set_option maxHeartbeats 1000000 in
theorem galive_any (w : World) (ht : Tabs w) :
    Calls Tryd.prog 16 #[] w fun e w' => e = .returned (.bool true) ∧ Below w.heap.size w w' := by
  have hbt := ht.lt
  have HT : Hid (Tabs w) := ht
  clear ht
  have h0 : Rg.wrong ⟨#[114]⟩ 0 (fun _ => 5) (fun _ => 2) 1 = 0 := by decide
  have h5 : Rg.tree (fun _ => 5) (fun _ => 2) 5 1 = 2 := rfl
  have h6 : Rg.tree (fun _ => 5) (fun _ => 2) 6 1 = 0 := rfl
  obtain ⟨hk1, hk2, hk3⟩ := Rg.wrong_zero h0
  have H0 : Hid (Rg.wrong ⟨#[114]⟩ 0 (fun _ => 5) (fun _ => 2) 1 = 0) := h0
  have H5 : Hid (Rg.tree (fun _ => 5) (fun _ => 2) 5 1 = 2) := h5
  have H6 : Hid (Rg.tree (fun _ => 5) (fun _ => 2) 6 1 = 0) := h6
  have HK3 : Hid (Rg.Right (fun _ => 5) (fun _ => 2) 1) := hk3
  clear h0 h5 h6 hk1 hk3
  obtain ⟨W0, HW0⟩ : ∃ W0, Hid (W0 = (w.alloc (.cells #[.int .i64 5, .int .i64 2] 36)).alloc (.cells #[.string ⟨#[114]⟩, .int .i64 0, .slice (some ⟨w.heap.size, 0, none⟩) 1 1] 24)) := ⟨_, rfl⟩
  have HF : Hid (∀ W, Below W0.heap.size W0 W → (W.cell? ⟨w.heap.size + 1, 0, none⟩ = some (.string ⟨#[114]⟩) ∧ W.cell? ⟨w.heap.size + 1, 1, none⟩ = some (.int .i64 0) ∧ W.cell? ⟨w.heap.size + 1, 2, none⟩ = some (.slice (some ⟨w.heap.size, 0, none⟩) 1 1)) ∧ WayRow W (some ⟨w.heap.size, 0, none⟩) 1 1 (fun _ => 5) (fun _ => 2) ∧ Tabs W ∧ Below w.heap.size w W) := by
    intro W hW
    have hz : W0.heap.size = w.heap.size + 2 := by rw [HW0.out]; simp
    have hb : Below w.heap.size w W := (show Below w.heap.size w W0 by rw [HW0.out]; exact below_alloc2 _ _ _).trans (hW.mono (by omega))
    have hr : W.heap[w.heap.size]? = some (.cells #[.int .i64 5, .int .i64 2] 36 (0, 0)) := (hW.block _ (by omega)).trans (by rw [HW0.out]; exact heap_alloc2_old w _ _)
    have hq : W.heap[w.heap.size + 1]? = some (.cells #[.string ⟨#[114]⟩, .int .i64 0, .slice (some ⟨w.heap.size, 0, none⟩) 1 1] 24 (0, 0)) := (hW.block _ (by omega)).trans (by rw [HW0.out]; exact heap_alloc2_new w _ _)
    refine ⟨rg_cells hq, ⟨Nat.le_refl _, fun _ => ⟨w.heap.size, 0, rfl, block_lt_of_cell (cell_of_row W _ 0 _ _ _ hr), fun i hi => ?_⟩⟩, HT.out.below hb (by omega), hb⟩
    obtain rfl : i = 0 := by omega
    exact ⟨cell_of_row W _ 0 _ _ _ hr, cell_of_row W _ 1 _ _ _ hr⟩
  go_enter Tryd.func16, Tryd.ntmps16
  go_wp2_with fail
  rw [← HW0.out]
  refine (gwrong_any _ _ _ 1 1 (fun _ => 5) (fun _ => 2) _ (by omega) (HF.out _ (Below.refl _ _)).2.1).mono ?_
  rintro e w1 ⟨rfl, hb1⟩
  rw [H0.out]
  obtain ⟨⟨c0, c1, c2⟩, _, _, _⟩ := HF.out w1 hb1
  have HB1 : Hid (Below W0.heap.size W0 w1) := hb1
  clear hb1
  go_wp2_with fail
  refine (gtree_any _ _ _ 1 1 (fun _ => 5) (fun _ => 2) 5 _ HK3.out (HF.out _ HB1.out).2.1).mono ?_
  rintro e w2 ⟨rfl, hb2⟩
  rw [H5.out]
  have HB2 : Hid (Below W0.heap.size W0 w2) := HB1.out.trans (hb2.mono HB1.out.size)
  clear hb2 c0 c1 c2
  obtain ⟨⟨c0, c1, c2⟩, _, _, _⟩ := HF.out w2 HB2.out
  go_wp2_with fail
  refine (gtree_any _ _ _ 1 1 (fun _ => 5) (fun _ => 2) 6 _ HK3.out (HF.out _ HB2.out).2.1).mono ?_
  rintro e w3 ⟨rfl, hb3⟩
  rw [H6.out]
  have HB3 : Hid (Below W0.heap.size W0 w3) := HB2.out.trans (hb3.mono HB2.out.size)
  clear hb3 c0 c1 c2
  obtain ⟨⟨c0, c1, c2⟩, _, _, hw3⟩ := HF.out w3 HB3.out
  have HW3 : Hid (Below w.heap.size w w3) := hw3
  clear hw3
  go_wp2_with fail
  refine (gident_any _ _ _ 1 1 (fun _ => 5) (fun _ => 2) _ (by decide) (by omega) HK3.out (HF.out _ HB3.out).2.1 (HF.out _ HB3.out).2.2.1).mono ?_
  rintro e w4 ⟨ro, rc, rfl, _, hb4⟩
  have HB4 : Hid (Below w.heap.size w w4) := HW3.out.trans (hb4.mono HW3.out.size)
  clear hb4
  go_wp2
  go_ret
  exact ⟨rfl, HB4.out⟩
end Go.Proofs.YtconlnoolenhjaaDoor
