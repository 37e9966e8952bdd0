/- walks: the document's Table of regions -/
import Derived.Test.YtconlnoolenhjaaDoorGW4
namespace Go.Proofs.YtconlnoolenhjaaDoor
open Go.RowKit

set_option maxRecDepth 100000 in
set_option maxHeartbeats 1000000 in
theorem rtable_any (s : ByteArray) (rev : Int) (ao : Option Addr) (n cap : Nat) (vs ts : Nat → Int) (w : World) (hR : Rg.Right vs ts n) (hr : WayRow w ao n cap vs ts) :
    Calls Tryd.prog 25 #[.agg #[.string s, .int .i64 rev, .slice ao n cap]] w fun e w' => ∃ g, e = .returned (.slice (some ⟨g, 0, none⟩) 4096 4096) ∧ w'.heap[g]? = some (.cells (rowF 4096 (fun i => Rg.tree vs ts (i : Int) n)) 5 (0, 0)) ∧ Below w.heap.size w w' := by
  have hn := hR.many
  have HRt : Hid (Rg.Right vs ts n) := hR
  have HW : Hid (∀ W, Below w.heap.size w W → WayRow W ao n cap vs ts) := fun W hW => hr.below hW
  clear hr hR
  have hmk : ∀ W : World, (Instr.makeSlice 29 (.int .i64 4096) (.int .i64 4096)).run Tryd.prog W = .ok (.slice (some ⟨W.heap.size, 0, none⟩) 4096 4096) (W.alloc (.cells (rowF 4096 (fun _ => 0)) 5)) := fun W => make_room W 4096 4096 (by omega) (by omega)
  go_enter Tryd.func25, Tryd.ntmps25
  go_wp2_with fail
  go_loopw [10] (fun i wr => ∃ k : Nat, k ≤ n ∧ i = .int .i64 k ∧ Hid (wr.heap[w.heap.size + 1]? = some (.cells (rowF 4096 (fun i => Rg.tree vs ts (i : Int) k)) 5 (0, 0))) ∧ Hid (Below w.heap.size w wr)) (fun i _ => n - (intOf i).toNat)
  case atStart => exact ⟨0, by omega, rfl, heap_alloc2_new w _ _, below_alloc2 _ _ _⟩
  case round =>
    clear hmk
    obtain ⟨k, hk, rfl, hX, hB⟩ := hrel
    by_cases hlt : k < n
    · obtain ⟨b, off, rfl, hb, hc⟩ := (HW.out _ hB.out).2 (by omega)
      have hcap := (HW.out _ hB.out).1
      have c0 : wr.cell? ⟨b, off + k * 2, none⟩ = some (.int .i64 (vs k)) := (hc k hlt).1
      have c1 : wr.cell? ⟨b, off + k * 2 + 1, none⟩ = some (.int .i64 (ts k)) := (hc k hlt).2
      have hv := HRt.out.vid k hlt
      have ht := HRt.out.tree k hlt
      obtain ⟨m, hm⟩ := Int.eq_ofNat_of_zero_le (show 0 ≤ vs k by omega)
      have hz : w.heap.size + 1 < wr.heap.size := block_lt_of_cell ((cell_of_row wr _ 0 _ _ _ hX.out).trans (rowF_get _ _ _ (by omega)))
      have c4 : wr.cell? ⟨w.heap.size + 1, m, none⟩ = some (.int .u8 (Rg.tree vs ts (m : Int) k)) := (cell_of_row _ _ _ _ _ _ hX.out).trans (rowF_get _ _ _ (by omega))
      have f4 : wr.frozen? ⟨w.heap.size + 1, m, none⟩ = false := frozen_of_row _ _ _ _ _ hX.out
      have HX : Hid (∀ o, ((wr.setCell ⟨w.heap.size + 1, m, none⟩ (.int .u8 (ts k))).alloc o).heap[w.heap.size + 1]? = some (.cells (rowF 4096 (fun i => Rg.tree vs ts (i : Int) (k + 1))) 5 (0, 0))) := by
        intro o
        rw [Below.heap_alloc _ _ _ (by simpa [World.setCell] using hz), heap_setCell_same _ _ _ _ _ _ hX.out, rowF_set _ _ _ _ (by omega)]
        congr 2
        apply rowF_congr
        intro i _
        simp only [Rg.tree, hm]
        by_cases e : i = m
        · rw [if_pos e, if_pos (by omega)]
        · rw [if_neg e, if_neg (by omega)]
      have HB : Hid (∀ o, Below w.heap.size w ((wr.setCell ⟨w.heap.size + 1, m, none⟩ (.int .u8 (ts k))).alloc o)) := fun o => (hB.out.setCell (Nat.le_succ _) _).alloc (by have := hB.out.size; simpa [World.setCell] using this) _
      have hm1 : (m : Int) < 4096 := by omega
      have HM : Hid (vs k = (m : Int)) := hm
      rw [hm] at c0 hv
      clear hm hc HW HRt hX hB
      generalize ts k = t at *
      go_wp2
      exact ⟨⟨k + 1, by omega, by go_num, HX.out _, HB.out _⟩, by simp [intOf]; omega⟩
    · obtain rfl : k = n := by omega
      go_wp2
      go_ret
      exact ⟨_, rfl, hX.out, hB.out⟩
end Go.Proofs.YtconlnoolenhjaaDoor
