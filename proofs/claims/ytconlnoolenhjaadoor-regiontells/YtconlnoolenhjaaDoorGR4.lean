/- walks: the document's Digest and Ident of regions -/
import Derived.Test.YtconlnoolenhjaaDoorGR3
namespace Go.Proofs.YtconlnoolenhjaaDoor
open Go.RowKit

set_option maxRecDepth 100000 in
set_option maxHeartbeats 2000000 in
theorem rdigest_any (s : ByteArray) (rev : Int) (ao : Option Addr) (n cap : Nat) (vs ts : Nat → Int) (w : World) (hR : Rg.Right vs ts n) (hr : WayRow w ao n cap vs ts) :
    Calls Tryd.prog 12 #[.agg #[.string s, .int .i64 rev, .slice ao n cap]] w fun e w' => ∃ ro rc, e = .returned (.slice ro 16 rc) ∧ ByteRow w' ro 16 rc (Md.dg (Rg.dig vs ts n)) ∧ Below w.heap.size w w' := by
  have HRt : Hid (Rg.Right vs ts n) := hR
  have HR : Hid (WayRow w ao n cap vs ts) := hr
  clear hr hR
  go_enter Tryd.func12, Tryd.ntmps12
  go_wp2_with fail
  refine (rtable_any s rev ao n cap vs ts _ HRt.out (HR.out.below (below_alloc1 _ _))).mono ?_
  rintro e w1 ⟨g, rfl, hrow, hb1⟩
  have HG : Hid (w1.heap[g]? = some (.cells (rowF 4096 (fun i => Rg.tree vs ts (i : Int) n)) 5 (0, 0))) := hrow
  have HB1 : Hid (Below w.heap.size w w1) := (below_alloc1 w _).trans (hb1.mono (by simp))
  have hgl : g < w1.heap.size := (Array.getElem?_eq_some_iff.1 hrow).1
  clear hrow hb1 HR
  go_wp2_with fail
  go_loopw [3, 9] (fun v i wr => ∃ k : Nat, (k : Int) ≤ 4096 ∧ i = .int .i64 k ∧ Hid (wr.ownsRow w1.heap.size 5 1 v (2 * k) (bytesL (2 * k) (Rg.pairs vs ts n))) ∧ Hid (Below w1.heap.size w1 wr)) (fun _ i _ => 4096 - (intOf i).toNat)
  case atStart => exact ⟨0, by omega, rfl, World.ownsRow_nil _ _ _ _, Below.refl _ _⟩
  case round =>
    obtain ⟨k, hk, rfl, hX, hB⟩ := hrel
    by_cases hlt : (k : Int) < 4096
    · have hT := Rg.tree_range HRt.out (k : Int) n (Nat.le_refl _)
      have c4 : wr.cell? ⟨g, k, none⟩ = some (.int .u8 (Rg.tree vs ts (k : Int) n)) := (hB.out.cell (by exact hgl)).trans ((cell_of_row _ _ _ _ _ _ HG.out).trans (rowF_get _ _ _ (by omega)))
      have HY : Hid ((0 : Int) = Rg.pairs vs ts n (2 * k)) := by rw [Rg.pairs_even]; exact (rfl : (0 : Int) = 0)
      have HZ : Hid (Rg.tree vs ts (k : Int) n = Rg.pairs vs ts n (2 * k + 1)) := by rw [Rg.pairs_odd]; exact (rfl : Rg.tree vs ts (k : Int) n = Rg.tree vs ts (k : Int) n)
      have hsz := hB.out.size
      clear HG
      generalize Rg.tree vs ts (k : Int) n = t at *
      go_wp2_with (at_builtin; refine wpList_append_pair rfl (.tmp 13) (.tmp 15) rfl w1.heap.size _ (2 * k) (Rg.pairs vs ts n) rfl _ _ hX.out hsz rfl HY.out HZ.out (by omega) ?_; intro v3 w3 ho3 hb3; have HO3 : Hid (w3.ownsRow w1.heap.size 5 1 v3 (2 * (k + 1)) (bytesL (2 * (k + 1)) (Rg.pairs vs ts n))) := ho3; have HB3 : Hid (Below w1.heap.size w1 w3) := hB.out.trans hb3; clear ho3 hb3)
      exact ⟨⟨k + 1, by omega, by go_num, HO3, HB3⟩, by simp [intOf]; omega⟩
    · obtain rfl : k = 4096 := by omega
      obtain ⟨bo, bc, rfl, hbr, _, hnil, _⟩ := owns_row (n := 8192) (f := Rg.pairs vs ts n) (by exact hX.out)
      have HBR : Hid (ByteRow wr bo 8192 bc (Rg.pairs vs ts n)) := hbr
      have HNL : Hid (bo = none → 8192 = 0 ∧ bc = 0) := hnil
      have HBW : Hid (Below w.heap.size w wr) := HB1.out.trans (hB.out.mono HB1.out.size)
      have HPR : Hid (∀ i, i < 8192 → 0 ≤ Rg.pairs vs ts n i ∧ Rg.pairs vs ts n i ≤ 255) := fun i _ => Rg.pairs_range HRt.out i
      have HM : Hid (∀ W, Below wr.heap.size wr W → W.heap[wr.heap.size]? = some (.cells (rowF 16 Rg.key) 5 (0, 0)) → Calls Tryd.prog 26 #[.slice (some ⟨wr.heap.size, 0, none⟩) 16 16, .slice bo 8192 bc] W fun e w' => ∃ ro rc, e = .returned (.slice ro 16 rc) ∧ Hid (ByteRow w' ro 16 rc (Md.dg (Rg.dig vs ts n))) ∧ Hid (Below w.heap.size w w')) := by
        intro W hW hrow
        refine (rmac_small _ _ 16 16 8192 bc Rg.key (Rg.pairs vs ts n) W ((ByteRow.of_row (off := 0) (n := 16) (cap := 16) hrow (by omega) (Nat.le_refl _)).congr (fun i _ => by rw [Nat.zero_add])) (HBR.out.below hW) HNL.out (by omega) HPR.out (by omega)).mono ?_
        rintro e w' ⟨ro, rc, rfl, h1, h2⟩
        have hW2 : Below w.heap.size w W := HBW.out.trans (hW.mono HBW.out.size)
        exact ⟨ro, rc, rfl, h1, hW2.trans (h2.mono hW2.size)⟩
      clear hX hB hbr hnil HG HBR HNL HPR
      go_wp2_with (go_at_call 26; refine (HM.out _ (below_alloc1 _ _) (heap_alloc_last _ _)).mono ?_; rintro e w3 ⟨ro, rc, rfl, HR3, HB3⟩)
      go_ret
      exact ⟨ro, rc, rfl, HR3.out, HB3.out⟩
end Go.Proofs.YtconlnoolenhjaaDoor
