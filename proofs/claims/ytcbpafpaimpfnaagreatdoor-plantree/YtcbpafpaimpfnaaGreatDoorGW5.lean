/- walks: region.Digest -/
import Derived.Test.YtcbpafpaimpfnaaGreatDoorGW4
namespace Go.Proofs.YtcbpafpaimpfnaaGreatDoor
open Go.RowKit

set_option maxHeartbeats 2000000 in
theorem gdigest_any (s : ByteArray) (rev : Int) (ao : Option Addr) (n cap : Nat) (vs ts : Nat → Int) (w : World) (hR : Rg.Right vs ts n) (hr : WayRow w ao n cap vs ts) (ht : Tabs w) :
    Calls Tryz.prog 83 #[.agg #[.string s, .int .i64 rev, .slice ao n cap]] w (Sumd w (Rg.dig vs ts n)) := by
  have HT : Hid (Tabs w) := ht
  have hbt := ht.lt
  have HRt : Hid (Rg.Right vs ts n) := hR
  have HR : Hid (WayRow w ao n cap vs ts) := hr
  clear ht hr hR
  have hmk : ∀ W : World, (Instr.makeSlice 93 (.int .i64 0) (.int .i64 8192)).run Tryz.prog W = .ok (.slice (some ⟨W.heap.size, 0, none⟩) 0 8192) (W.alloc (.cells (rowF 8192 (fun _ => 0)) 5)) := fun W => make_room W 0 8192 (by omega) (by omega)
  go_enter Tryz.func83, Tryz.ntmps83
  go_wp2_with fail
  go_loopw [3, 6] (fun v i wr => ∃ k : Nat, (k : Int) ≤ 4096 ∧ i = .int .i64 k ∧ Hid (wr.ownsRow (w.heap.size + 1) 5 1 v (2 * k) (bytesL (2 * k) (Rg.pairs vs ts n))) ∧ Hid (Below (w.heap.size + 1) (w.alloc (.cells #[.string s, .int .i64 rev, .slice ao n cap] 38)) wr)) (fun _ i _ => 4096 - (intOf i).toNat)
  case atStart =>
    refine ⟨0, by omega, rfl, ?_, (Below.refl _ _).alloc (by simp) _⟩
    rw [show bytesL (2 * 0) (Rg.pairs vs ts n) = bytesL 0 (fun _ => 0) from rfl]
    exact owns_room (g := w.heap.size + 1) (heap_alloc2_new w _ _) (Nat.le_refl _) (by omega) (by omega)
  case round =>
    clear hmk
    obtain ⟨k, hk, rfl, hX, hB⟩ := hrel
    have hb0 : Below w.heap.size w wr := (below_alloc1 w _).trans (hB.out.mono (by omega))
    have hz0 : w.heap.size + 1 ≤ wr.heap.size := by have := hB.out.size; simp at this; omega
    obtain ⟨c0, c1, c2⟩ := rg_cells ((hB.out.block w.heap.size (by omega)).trans (heap_alloc_last w _))
    have HR1 : Hid (WayRow wr ao n cap vs ts) := HR.out.below hb0
    have HB0 : Hid (Below w.heap.size w wr) := hb0
    clear hb0
    by_cases hlt : (k : Int) < 4096
    · have hT := Rg.tree_range HRt.out (k : Int) n (Nat.le_refl _)
      have HY : Hid (Rg.tree vs ts (k : Int) n / 256 = Rg.pairs vs ts n (2 * k)) := by rw [Rg.pairs_even]; show _ / 256 = (0 : Int); omega
      have HZ : Hid (Rg.tree vs ts (k : Int) n % 256 = Rg.pairs vs ts n (2 * k + 1)) := by rw [Rg.pairs_odd]; show _ % 256 = _; omega
      have HC : Hid (∀ W, Below wr.heap.size wr W → ∀ v, wr.ownsRow (w.heap.size + 1) 5 1 v (2 * k) (bytesL (2 * k) (Rg.pairs vs ts n)) → Calls Tryz.prog 82 #[v, .int .i64 (Rg.tree vs ts (k : Int) n)] W fun e w' => ∃ v', e = .returned v' ∧ Hid (w'.ownsRow (w.heap.size + 1) 5 1 v' (2 * (k + 1)) (bytesL (2 * (k + 1)) (Rg.pairs vs ts n))) ∧ Hid (Below (w.heap.size + 1) (w.alloc (.cells #[.string s, .int .i64 rev, .slice ao n cap] 38)) w')) := by
        intro W hW v hv
        refine (gpair_any (w.heap.size + 1) (2 * k) v _ _ W (owns_below hv hW) (Nat.le_trans hz0 hW.size) (by omega) HY.out HZ.out (by omega)).mono ?_
        rintro e w' ⟨v', rfl, h1, h2⟩
        exact ⟨v', rfl, h1, (hB.out.trans (hW.mono hz0)).trans h2⟩
      clear HY HZ hT hB
      go_wp2_with (first | (go_at_call 103; refine (gtree_any s rev ao n cap vs ts _ _ HRt.out HR1.out).mono ?_; rintro e w2 ⟨rfl, hb2⟩; have HB2 : Hid (Below wr.heap.size wr w2) := hb2; clear hb2) | (go_at_call 82; refine (HC.out _ HB2.out _ hX.out).mono ?_; rintro e w3 ⟨v3, rfl, HO3, HB3⟩))
      exact ⟨⟨k + 1, by omega, by go_num, HO3, HB3⟩, by simp [intOf]; omega⟩
    · obtain rfl : k = 4096 := by omega
      obtain ⟨bo, bc, rfl, hbr, _, _, _⟩ := owns_row (n := 8192) (f := Rg.pairs vs ts n) (by exact hX.out)
      have HBR : Hid (ByteRow wr bo 8192 bc (Rg.pairs vs ts n)) := hbr
      have HT1 : Hid (Tabs wr) := HT.out.below HB0.out (by omega)
      have hl1 := HT1.out.lt
      have HM : Hid (∀ W, Below wr.heap.size wr W → W.heap[wr.heap.size]? = some (.cells (rowF 16 Rg.key) 5 (0, 0)) → Calls Tryz.prog 104 #[.slice (some ⟨wr.heap.size, 0, none⟩) 16 16, .slice bo 8192 bc] W (Sumd w (Rg.dig vs ts n))) := by
        intro W hW hrow
        refine (mac_any _ _ 16 16 8192 bc Rg.key (Rg.pairs vs ts n) W (HT1.out.below hW (by omega)) (by omega) (by omega) ((ByteRow.of_row (off := 0) (n := 16) (cap := 16) hrow (by omega) (Nat.le_refl _)).congr (fun i _ => by rw [Nat.zero_add])) (HBR.out.below hW)).mono ?_
        rintro e w' ⟨g, rfl, hg, h1, h2⟩
        have hs := HB0.out.size
        have hs2 := hW.size
        exact ⟨g, rfl, by omega, h1, (HB0.out.trans (hW.mono hs)).trans (h2.mono (by omega))⟩
      clear hX hB hbr
      go_wp2_with (first | (go_at_call 105; refine (gkey_any _).mono ?_; rintro e w2 ⟨rfl, hrow2, hb2⟩; have HB2 : Hid (Below wr.heap.size wr w2) := hb2; have HW2 : Hid (w2.heap[wr.heap.size]? = some (.cells (rowF 16 Rg.key) 5 (0, 0))) := hrow2; clear hb2 hrow2) | (go_at_call 104; refine (HM.out _ HB2.out HW2.out).mono ?_; rintro e w3 ⟨g, rfl, hh⟩; have HH : Hid _ := hh; clear hh))
      go_ret
      exact ⟨g, rfl, HH.out⟩
end Go.Proofs.YtcbpafpaimpfnaaGreatDoor
