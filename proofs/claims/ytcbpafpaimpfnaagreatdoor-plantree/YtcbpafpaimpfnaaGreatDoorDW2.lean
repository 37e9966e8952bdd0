/- walks: wordsOf, start -/
import Derived.Test.YtcbpafpaimpfnaaGreatDoorDMd
import Derived.WalkSpells
import Derived.WalkLawsBesides
import Derived.BigRegion
import Derived.RegionTactic
import Derived.Deep.WholeRow
import Derived.Laws.CopyOwn
namespace Go.Proofs.YtcbpafpaimpfnaaGreatDoor
open Go.RowKit

theorem size50 : (Tryz.prog.info? 187).map (·.size) = some 16 := by kernel_rfl

set_option maxHeartbeats 400000 in
theorem words_any (b off cap : Nat) (bs : Nat → Int) (w : World) (hb : b < w.heap.size) (hcap : 64 ≤ cap) (hc : ∀ i, i < 64 → w.cell? ⟨b, off + i, none⟩ = some (.int .u8 (bs i))) :
    Calls Tryz.prog 132 #[.slice (some ⟨b, off, none⟩) 64 cap] w fun e w' => e = .returned (.agg (Md.rowU 16 (Md.wd bs) 16)) ∧ Below w.heap.size w w' := by
  go_enter Tryz.func132, Tryz.ntmps132
  go_wp2
  go_loopw [6] (fun i wr => ∃ k : Nat, k ≤ 16 ∧ i = .int .i64 k ∧ wr.heap[w.heap.size]? = some (.cells (Md.rowU 16 (Md.wd bs) 0) 187 (0, 0)) ∧ wr.heap[w.heap.size + 1]? = some (.cells (Md.rowU 16 (Md.wd bs) k) 187 (0, 0)) ∧ Below w.heap.size w wr) (fun i _ => 16 - (intOf i).toNat)
  case atStart => exact ⟨0, by omega, rfl, heap_alloc2_old w _ _, heap_alloc2_new w _ _, ((Below.refl _ _).alloc (Nat.le_refl _) _).alloc (by simp) _⟩
  case round =>
    obtain ⟨k, hk, rfl, hA, hB, hbel⟩ := hrel
    by_cases hlt : k < 16
    · have c0 : wr.cell? ⟨b, off + 4 * k, none⟩ = some (.int .u8 (bs (4 * k))) := (hbel.cell (by exact hb)).trans (hc (4 * k) (by omega))
      have c1 : wr.cell? ⟨b, off + 4 * k + 1, none⟩ = some (.int .u8 (bs (4 * k + 1))) := (hbel.cell (by exact hb)).trans (hc (4 * k + 1) (by omega))
      have c2 : wr.cell? ⟨b, off + 4 * k + 2, none⟩ = some (.int .u8 (bs (4 * k + 2))) := (hbel.cell (by exact hb)).trans (hc (4 * k + 2) (by omega))
      have c3 : wr.cell? ⟨b, off + 4 * k + 3, none⟩ = some (.int .u8 (bs (4 * k + 3))) := (hbel.cell (by exact hb)).trans (hc (4 * k + 3) (by omega))
      have c4 : wr.cell? ⟨w.heap.size + 1, k, none⟩ = some (.int .u32 0) := (cell_of_row wr _ k _ _ _ hB).trans (by rw [Md.rowU_get _ _ _ _ hlt]; simp)
      have f4 : wr.frozen? ⟨w.heap.size + 1, k, none⟩ = false := frozen_of_row _ _ _ _ _ hB
      have R1 : Hid ((wr.setCell ⟨w.heap.size + 1, k, none⟩ (.int .u32 (Md.wd bs k))).heap[w.heap.size]? = some (.cells (Md.rowU 16 (Md.wd bs) 0) 187 (0, 0)) ∧ (wr.setCell ⟨w.heap.size + 1, k, none⟩ (.int .u32 (Md.wd bs k))).heap[w.heap.size + 1]? = some (.cells (Md.rowU 16 (Md.wd bs) (k + 1)) 187 (0, 0)) ∧ Below w.heap.size w (wr.setCell ⟨w.heap.size + 1, k, none⟩ (.int .u32 (Md.wd bs k))).drew) := by
        refine ⟨by rw [heap_setCell_other _ _ _ _ (by simp)]; exact hA, ?_, (hbel.setCell (by simp) _).drew⟩
        rw [heap_setCell_same _ _ _ _ _ _ hB, Md.rowU_set _ _ _ hlt]
      clear hc hA hB hbel
      go_wp2
      go_region
      go_wp2
      exact ⟨⟨k + 1, by omega, by go_num, R1.out.1, R1.out.2.1, R1.out.2.2⟩, by simp [intOf]; omega⟩
    · obtain rfl : k = 16 := by omega
      go_wp2_with (first | refine wpList_load_row rfl 187 _ rfl (w.heap.size + 1) rfl 187 _ (0, 0) _ hB Tryz.underlying187 rfl (by rw [size50, Md.rowU_size]) ?_ | refine wpList_store_row rfl 187 _ _ rfl (w.heap.size) _ rfl rfl 187 _ hA (by rw [size50, Md.rowU_size]) (by simp [Md.rowU_size]) (Md.rowU_all _ _ _) ?_)
      exact bodyPost_ret (v := .agg (Md.rowU 16 (Md.wd bs) 16)) (results_cell_row (p := 2) (ty := 187) rfl _ _ w.heap.size 187 _ (0, 0) _ rfl (setRow_heap _ _ _ _ _ _ hA) Tryz.underlying187 rfl (by rw [size50, Md.rowU_size])) rfl ⟨rfl, below_setRow hbel (Nat.le_refl _) _⟩

set_option maxHeartbeats 400000 in
theorem start_any (w : World) :
    Calls Tryz.prog 131 #[] w fun e w' => e = .returned (Md.stV Md.st0) ∧ Below w.heap.size w w' := by
  go_enter Tryz.func131, Tryz.ntmps131
  go_wp2
  exact bodyPost_ret (v := Md.stV Md.st0) (by simp [results, Tryz.results131, go_sem, Md.stV, Md.st0]) rfl ⟨rfl, (Below.refl _ _).alloc (Nat.le_refl _) _⟩

theorem and31 (k : Int) (h0 : 0 ≤ k) (h1 : k < 32) : bits BinOp.and IntKind.u64 k 31 = k := by
  go_bits2
set_option maxHeartbeats 400000 in
theorem rot_any (x k : Int) (w : World) (h0 : 0 ≤ k) (h1 : k < 32) :
    Calls Tryz.prog 134 #[.int .u32 x, .int .i64 k] w fun e w' => e = .returned (.int .u32 (Md.rotl x k)) ∧ w' = w := by
  have hk := and31 k h0 h1
  go_enter Tryz.func134, Tryz.ntmps134
  go_wp2
  go_ret
  exact ⟨rfl, rfl⟩

theorem u32max : IntKind.u32.max = 4294967295 := rfl
set_option maxHeartbeats 1000000 in
theorem choose_any (i : Nat) (b c d : Int) (w : World) (h1 : i < 64) :
    Calls Tryz.prog 133 #[.int .i64 i, .int .u32 b, .int .u32 c, .int .u32 d] w fun e w' => e = .returned (.tuple #[.int .u32 (Md.fsel i b c d), .int .i64 (Md.ksel i)]) ∧ w' = w := by
  rcases (show i < 16 ∨ (16 ≤ i ∧ i < 32) ∨ (32 ≤ i ∧ i < 48) ∨ (48 ≤ i ∧ i < 64) by omega) with h | h | h | h
  · have e1 : Md.fsel i b c d = bits BinOp.or IntKind.u32 (bits BinOp.and IntKind.u32 b c) (bits BinOp.and IntKind.u32 (bits BinOp.xor IntKind.u32 IntKind.u32.max b) d) := by simp [Md.fsel, h]
    have e2 : Md.ksel i = i := by simp [Md.ksel, h]
    rw [e1, e2]; clear e1 e2
    go_enter Tryz.func133, Tryz.ntmps133
    go_wp2
    go_ret2
    exact ⟨rfl, rfl⟩
  · obtain ⟨h2, h3⟩ := h
    have e1 : Md.fsel i b c d = bits BinOp.or IntKind.u32 (bits BinOp.and IntKind.u32 b d) (bits BinOp.andNot IntKind.u32 c d) := by simp [Md.fsel, h3, show ¬ i < 16 by omega]
    have e2 : ((Md.ksel i : Nat) : Int) = (5 * (i : Int) + 1) % 16 := by simp [Md.ksel, h3, show ¬ i < 16 by omega]
    rw [e1, e2]; clear e1 e2
    go_enter Tryz.func133, Tryz.ntmps133
    go_wp2
    go_ret2
    exact ⟨rfl, rfl⟩
  · obtain ⟨h2, h3⟩ := h
    have e1 : Md.fsel i b c d = bits BinOp.xor IntKind.u32 (bits BinOp.xor IntKind.u32 b c) d := by simp [Md.fsel, h3, show ¬ i < 16 by omega, show ¬ i < 32 by omega]
    have e2 : ((Md.ksel i : Nat) : Int) = (3 * (i : Int) + 5) % 16 := by simp [Md.ksel, h3, show ¬ i < 16 by omega, show ¬ i < 32 by omega]
    rw [e1, e2]; clear e1 e2
    go_enter Tryz.func133, Tryz.ntmps133
    go_wp2
    go_ret2
    exact ⟨rfl, rfl⟩
  · obtain ⟨h2, h3⟩ := h
    have e1 : Md.fsel i b c d = bits BinOp.xor IntKind.u32 c (bits BinOp.or IntKind.u32 b (bits BinOp.xor IntKind.u32 IntKind.u32.max d)) := by simp [Md.fsel, show ¬ i < 48 by omega, show ¬ i < 16 by omega, show ¬ i < 32 by omega]
    have e2 : ((Md.ksel i : Nat) : Int) = 7 * (i : Int) % 16 := by simp [Md.ksel, show ¬ i < 48 by omega, show ¬ i < 16 by omega, show ¬ i < 32 by omega]
    rw [e1, e2]; clear e1 e2
    go_enter Tryz.func133, Tryz.ntmps133
    go_wp2
    go_ret2
    exact ⟨rfl, rfl⟩
end Go.Proofs.YtcbpafpaimpfnaaGreatDoor
