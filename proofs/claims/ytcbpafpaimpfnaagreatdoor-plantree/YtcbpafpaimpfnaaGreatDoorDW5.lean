/- walks: digest -/
import Derived.Test.YtcbpafpaimpfnaaGreatDoorDW4
namespace Go.Proofs.YtcbpafpaimpfnaaGreatDoor
open Go.RowKit

theorem make16 (w : World) : (Instr.makeSlice 93 (.int .i64 16) (.int .i64 16)).run Tryz.prog w = .ok (.slice (some ⟨w.heap.size, 0, none⟩) 16 16) (w.alloc (.cells #[.int .u8 0, .int .u8 0, .int .u8 0, .int .u8 0, .int .u8 0, .int .u8 0, .int .u8 0, .int .u8 0, .int .u8 0, .int .u8 0, .int .u8 0, .int .u8 0, .int .u8 0, .int .u8 0, .int .u8 0, .int .u8 0] 5)) := by kernel_rfl

set_option maxHeartbeats 1000000 in
theorem digest_any (s : Md.St) (w : World) :
    Calls Tryz.prog 128 #[.agg (Md.stA s)] w fun e w' => e = .returned (.slice (some ⟨w.heap.size + 1, 0, none⟩) 16 16) ∧ w'.heap[w.heap.size + 1]? = some (.cells (Md.rowB 16 (Md.dg s) 16) 5 (0, 0)) ∧ Below w.heap.size w w' := by
  have hmk := make16
  unfold Md.stA
  go_enter Tryz.func128, Tryz.ntmps128
  go_wp2
  go_loopw [8] (fun i wr => ∃ k : Nat, k ≤ 16 ∧ i = .int .i64 k ∧ wr.heap[w.heap.size]? = some (.cells (Md.stA s) 176 (0, 0)) ∧ wr.heap[w.heap.size + 1]? = some (.cells (Md.rowB 16 (Md.dg s) k) 5 (0, 0)) ∧ Below w.heap.size w wr) (fun i _ => 16 - (intOf i).toNat)
  case atStart => exact ⟨0, by omega, rfl, heap_alloc2_old w _ _, heap_alloc2_new w _ _, ((Below.refl _ _).alloc (Nat.le_refl _) _).alloc (by simp) _⟩
  case round =>
    obtain ⟨k, hk, rfl, hA, hB, hbel⟩ := hrel
    by_cases hlt : k < 16
    · have ca : ∀ j, j < 4 → wr.cell? ⟨w.heap.size, j, none⟩ = some (.int .u32 (Md.wordOf s j)) := by
        intro j hj
        rw [cell_of_row wr _ j _ _ _ hA]
        rcases (show j = 0 ∨ j = 1 ∨ j = 2 ∨ j = 3 by omega) with rfl | rfl | rfl | rfl <;> rfl
      have c1 := ca (k / 4) (by omega)
      have c4 : wr.cell? ⟨w.heap.size + 1, k, none⟩ = some (.int .u8 0) := (cell_of_row wr _ k _ _ _ hB).trans (by rw [Md.rowB_get _ _ _ _ hlt]; simp)
      have f4 : wr.frozen? ⟨w.heap.size + 1, k, none⟩ = false := frozen_of_row _ _ _ _ _ hB
      have HR : Hid ((wr.setCell ⟨w.heap.size + 1, k, none⟩ (.int .u8 (Md.dg s k))).heap[w.heap.size]? = some (.cells (Md.stA s) 176 (0, 0)) ∧ (wr.setCell ⟨w.heap.size + 1, k, none⟩ (.int .u8 (Md.dg s k))).heap[w.heap.size + 1]? = some (.cells (Md.rowB 16 (Md.dg s) (k + 1)) 5 (0, 0)) ∧ Below w.heap.size w (wr.setCell ⟨w.heap.size + 1, k, none⟩ (.int .u8 (Md.dg s k)))) :=
        ⟨by rw [heap_setCell_other _ _ _ _ (by simp)]; exact hA, by rw [heap_setCell_same _ _ _ _ _ _ hB, Md.rowB_set _ _ _ hlt], hbel.setCell (by simp) _⟩
      clear ca hA hB hbel
      go_wp2
      exact ⟨⟨k + 1, by omega, by go_num, HR.out.1, HR.out.2.1, HR.out.2.2⟩, by simp [intOf]; omega⟩
    · obtain rfl : k = 16 := by omega
      go_wp2
      go_ret
      exact ⟨rfl, hB, hbel⟩
end Go.Proofs.YtcbpafpaimpfnaaGreatDoor
