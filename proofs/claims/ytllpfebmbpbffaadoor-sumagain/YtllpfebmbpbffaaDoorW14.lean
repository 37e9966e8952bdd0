/- walks: SumAgain -/
import Derived.Test.YtllpfebmbpbffaaDoorW13
namespace Go.Proofs.YtllpfebmbpbffaaDoor
open Go.RowKit

/-- A row of 16 bytes. -/
def RowAt (w : World) (g : Nat) (f : Nat → Int) : Prop := ∃ cur, w.heap[g]? = some (.cells cur 5 (0, 0)) ∧ ∀ i, i < 16 → cur[i]? = some (.int .u8 (f i))
theorem RowAt.of_rowB {w : World} {g : Nat} {s : Md.St} (h : w.heap[g]? = some (.cells (Md.rowB 16 (Md.dg s) 16) 5 (0, 0))) : RowAt w g (Md.dg s) :=
  ⟨_, h, fun i hi => by rw [Md.rowB_get _ _ _ _ hi, if_pos hi]⟩
theorem RowAt.cell {w : World} {g : Nat} {f : Nat → Int} (h : RowAt w g f) (i : Nat) (hi : i < 16) : w.cell? ⟨g, i, none⟩ = some (.int .u8 (f i)) := by
  obtain ⟨cur, h1, h2⟩ := h
  exact (cell_of_row w g i _ _ _ h1).trans (h2 i hi)
theorem RowAt.free {w : World} {g : Nat} {f : Nat → Int} (h : RowAt w g f) (i : Nat) : w.frozen? ⟨g, i, none⟩ = false := by
  obtain ⟨cur, h1, _⟩ := h
  exact frozen_of_row _ _ _ _ _ h1
theorem RowAt.lt {w : World} {g : Nat} {f : Nat → Int} (h : RowAt w g f) : g < w.heap.size := block_lt_of_cell (h.cell 0 (by omega))
theorem RowAt.other {w w' : World} {g : Nat} {f : Nat → Int} (h : RowAt w g f) (e : w'.heap[g]? = w.heap[g]?) : RowAt w' g f := by
  obtain ⟨cur, h1, h2⟩ := h
  exact ⟨cur, e.trans h1, h2⟩
theorem RowAt.bytes {w : World} {g cap : Nat} {f : Nat → Int} (h : RowAt w g f) (hc : 16 ≤ cap) : ByteRow w (some ⟨g, 0, none⟩) 16 cap f :=
  ⟨hc, fun _ => ⟨g, 0, rfl, h.lt, fun i hi => by rw [Nat.zero_add]; exact h.cell i hi⟩⟩
theorem RowAt.set {w : World} {g : Nat} {f : Nat → Int} (h : RowAt w g f) (k : Nat) (v : Int) (hk : k < 16) : RowAt (w.setCell ⟨g, k, none⟩ (.int .u8 v)) g (fun i => if i = k then v else f i) := by
  obtain ⟨cur, h1, h2⟩ := h
  refine ⟨_, heap_setCell_same _ _ _ _ _ _ h1, fun i hi => ?_⟩
  rw [Array.getElem?_setIfInBounds]
  have hs : k < cur.size := by
    have := h2 k hk
    rcases Nat.lt_or_ge k cur.size with h | h
    · exact h
    · rw [Array.getElem?_eq_none h] at this; cases this
  by_cases e : k = i
  · subst e; simp [hs]
  · rw [if_neg e, h2 i hi]
    have e' : ¬ i = k := fun h => e h.symm
    simp [e']
theorem RowAt.news {w : World} {g : Nat} {f : Nat → Int} (h : RowAt w g f) : ∀ j u, (Md.bytesL 16 f)[j]? = some u → w.cell? ((⟨g, 0, none⟩ : Addr).add j) = some u := by
  intro j u hj
  obtain ⟨hj1, rfl⟩ := Md.bytesL_get _ _ _ _ hj
  have hadd : (⟨g, 0, none⟩ : Addr).add j = ⟨g, j, none⟩ := by unfold Addr.add; split <;> simp_all
  rw [hadd]
  exact h.cell j hj1
theorem owns_empty (w : World) : (w.alloc (.cells #[] 5)).ownsRow w.heap.size 5 1 (.slice (some ⟨w.heap.size, 0, none⟩) 0 0) 0 [] :=
  ⟨rfl, Or.inr ⟨w.heap.size, 0, #[], rfl, Nat.le_refl _, heap_alloc_last _ _, Nat.le_refl _, by unfold maxLen; omega, rfl, rfl⟩⟩
theorem owns16 {w : World} {base : Nat} {v : Value} {f : Nat → Int} (h : w.ownsRow base 5 1 v (0 + 16) ([] ++ Md.bytesL 16 f)) : ∃ g cap, v = .slice (some ⟨g, 0, none⟩) 16 cap ∧ base ≤ g ∧ 16 ≤ cap ∧ RowAt w g f := by
  obtain ⟨_, h2⟩ := h
  rcases h2 with ⟨_, h0⟩ | ⟨g, cap, cur, rfl, hg, hh, hn, hm, hs, hx⟩
  · omega
  · refine ⟨g, cap, rfl, hg, by omega, cur, hh, fun i hi => ?_⟩
    have e : cur[i]? = (cur.toList.take ((0 + 16) * 1))[i]? := by
      rw [List.getElem?_take_of_lt (by omega)]; simp
    rw [e, hx]
    simp [Md.bytesL, hi]
theorem grown_empty {w w' : World} (h : (w.alloc (.cells #[] 5)).grownBy w' (Value.ownBlock (.slice (some ⟨w.heap.size, 0, none⟩) 0 0))) : Below w.heap.size w w' :=
  ((Below.refl _ w).alloc (Nat.le_refl _) _).grown h (by simp) (fun k hk => by simp [Value.ownBlock] at hk; omega)
theorem RowAt.alloc {w : World} {g : Nat} {f : Nat → Int} (h : RowAt w g f) (o : Obj) : RowAt (w.alloc o) g f := h.other (Below.heap_alloc w o g h.lt)

set_option maxHeartbeats 2000000 in
theorem again_any (ko ao : Option Addr) (kn kcap n cap : Nat) (kbs bs : Nat → Int) (w : World) (ht : Tabs w) (hkc : kn ≤ 140737488351232) (hc : n ≤ 140737488351232) (hk : ByteRow w ko kn kcap kbs) (hr : ByteRow w ao n cap bs) :
    Calls Tryd.prog 6 #[.slice ko kn kcap, .slice ao n cap] w fun e w' => e = .returned (.bool true) ∧ Below w.heap.size w w' := by
  have HT : Hid _ := ht
  have HR : Hid (ByteRow w ao n cap bs) := hr
  have HK : Hid (ByteRow w ko kn kcap kbs) := hk
  have hbt := ht.lt
  clear ht hr hk
  go_enter Tryd.func6, Tryd.ntmps6
  go_wp2_with fail
  refine (alive_any _ HT.out).mono ?_
  rintro e w1 ⟨rfl, hb1⟩
  have HB1 : Hid (Below w.heap.size w w1) := hb1
  clear hb1
  go_wp2_with fail
  refine (sum_any ao n cap bs _ (HT.out.below HB1.out (by omega)) hc (HR.out.below HB1.out)).mono ?_
  rintro e w2 ⟨gx, rfl, hgx, hrow, hb2⟩
  have HB2 : Hid (Below w.heap.size w w2) := HB1.out.trans (hb2.mono HB1.out.size)
  have HX2 : Hid (w2.heap[gx]? = _) := hrow
  have HGX : Hid (w.heap.size ≤ gx) := Nat.le_trans HB1.out.size hgx
  clear hgx hrow hb2 HB1
  go_wp2_with fail
  refine (mac_any ko ao kn kcap n cap kbs bs _ (HT.out.below HB2.out (by omega)) hkc hc (HK.out.below HB2.out) (HR.out.below HB2.out)).mono ?_
  rintro e w3 ⟨gm, rfl, hgm, hrow, hb3⟩
  have HB3 : Hid (Below w.heap.size w w3) := HB2.out.trans (hb3.mono HB2.out.size)
  have hlx : gx < w2.heap.size := block_lt_of_cell ((cell_of_row w2 gx 0 _ _ _ HX2.out).trans (Md.rowB_get _ _ _ _ (by omega)))
  have HX3 : Hid (RowAt w3 gx _) := (RowAt.of_rowB HX2.out).other (hb3.block _ hlx)
  have HM3 : Hid (RowAt w3 gm _) := RowAt.of_rowB hrow
  have hgm' : gx < gm := Nat.lt_of_lt_of_le hlx hgm
  have hlm : gm < w3.heap.size := HM3.out.lt
  clear hgm hrow hb3 HB2 HX2 hlx
  obtain ⟨i0, hi, hz0, hz1, hz2⟩ := info_parts info5
  go_wp2_with (first | (at_builtin; refine wpList_append_own _ rfl (.tmp 18) (.tmp 19) 22 rfl w3.heap.size 5 i0 (.int .u8 0) 1 1 Tryd.underlying22 hi hz0 hz1 hz2 rfl (by decide) _ _ _ rfl (owns_empty w3) ⟨gx, 0, none⟩ 16 16 (Md.bytesL 16 (Md.dg (Md.fin Md.st0 0 n bs))) rfl (by rw [Md.bytesL_length]) (HX3.out.alloc _).news (Md.bytesL_one _ _) (by unfold maxLen; omega) (by omega) (by simp) ?_; intro v4 w4 hown4 hgrow4 _; obtain ⟨gy, cy, rfl, hgy, hcy, hry⟩ := owns16 hown4; have hb4 := grown_empty hgrow4; have HRY : Hid (RowAt w4 gy (Md.dg (Md.fin Md.st0 0 n bs))) := hry; have HB34 : Hid _ := hb4; have HM4 : Hid (RowAt w4 gm _) := HM3.out.other (hb4.block gm hlm); clear hown4 hgrow4 hry hb4) | (at_builtin; refine wpList_append_own _ rfl (.tmp 21) (.tmp 22) 22 rfl w4.heap.size 5 i0 (.int .u8 0) 1 1 Tryd.underlying22 hi hz0 hz1 hz2 rfl (by decide) _ _ _ rfl (owns_empty w4) ⟨gm, 0, none⟩ 16 16 (Md.bytesL 16 (Md.dg (Md.mac kn kbs n bs))) rfl (by rw [Md.bytesL_length]) (HM4.out.alloc _).news (Md.bytesL_one _ _) (by unfold maxLen; omega) (by omega) (by simp) ?_; intro v5 w5 hown5 hgrow5 _; obtain ⟨gn, cn, rfl, hgn, hcn, hrn⟩ := owns16 hown5; have hb5 := grown_empty hgrow5; have HRN : Hid (RowAt w5 gn (Md.dg (Md.mac kn kbs n bs))) := hrn; have HB45 : Hid _ := hb5; clear hown5 hgrow5 hrn hb5))
  have hly : Hid (gy < w4.heap.size) := HRY.out.lt
  have h34 : Hid (w3.heap.size ≤ w4.heap.size) := HB34.out.size
  have HY5 : Hid (RowAt w5 gy (Md.dg (Md.fin Md.st0 0 n bs))) := HRY.out.other (HB45.out.block _ hly.out)
  have HX5 : Hid (RowAt w5 gx (Md.dg (Md.fin Md.st0 0 n bs))) := (HX3.out.other (HB34.out.block _ (by omega))).other (HB45.out.block _ (by have := h34.out; omega))
  have HM5 : Hid (RowAt w5 gm (Md.dg (Md.mac kn kbs n bs))) := HM4.out.other (HB45.out.block _ (by have := h34.out; omega))
  have HB5 : Hid (Below w.heap.size w w5) := (HB3.out.trans (HB34.out.mono HB3.out.size)).trans (HB45.out.mono (by have := h34.out; have := HB3.out.size; omega))
  have hgxy : gx ≠ gy := by omega
  have hgmy : gm ≠ gy := by omega
  have hgxn : Hid (gx ≠ gn) := by have := h34.out; show _ ≠ _; omega
  have hgmn : Hid (gm ≠ gn) := by have := h34.out; show _ ≠ _; omega
  clear HX3 HM3 HB3 HRY HB34 HB45 HM4 hly h34 hi hz0 hz1 hz2
  go_loopw [26] (fun i wr => ∃ k : Nat, k ≤ 16 ∧ i = .int .i64 k ∧ Hid ((∃ f, RowAt wr gx f) ∧ (∀ g, g ≠ gx → wr.heap[g]? = w5.heap[g]?) ∧ Below w.heap.size w wr)) (fun i _ => 16 - (intOf i).toNat)
  case atStart => exact ⟨0, by omega, rfl, ⟨_, HX5.out⟩, fun _ _ => rfl, HB5.out⟩
  case round =>
    obtain ⟨k, hk, rfl, hX⟩ := hrel
    by_cases hlt : k < 16
    · obtain ⟨⟨f, hf⟩, ho, hbl⟩ := hX.out
      have c4 := hf.cell k hlt
      have f4 := hf.free k
      have HX : Hid (∀ v, (∃ f, RowAt (wr.setCell ⟨gx, k, none⟩ (.int .u8 v)) gx f) ∧ (∀ g, g ≠ gx → (wr.setCell ⟨gx, k, none⟩ (.int .u8 v)).heap[g]? = w5.heap[g]?) ∧ Below w.heap.size w (wr.setCell ⟨gx, k, none⟩ (.int .u8 v))) := fun v => ⟨⟨_, hf.set k v hlt⟩, fun g hg => by rw [heap_setCell_other _ _ _ _ hg]; exact ho g hg, hbl.setCell HGX.out _⟩
      clear hX hf ho hbl
      go_wp2
      exact ⟨⟨k + 1, by omega, by go_num, HX.out _⟩, by simp [intOf]; omega⟩
    · obtain rfl : k = 16 := by omega
      have HA1 : Hid (∀ g, g ≠ gx → wr.heap[g]? = w5.heap[g]?) := hX.out.2.1
      have HA2 : Hid (Below w.heap.size w wr) := hX.out.2.2
      have HM6 : Hid (RowAt wr gm (Md.dg (Md.mac kn kbs n bs))) := HM5.out.other (HA1.out gm (by omega))
      have HY6 : Hid (RowAt wr gy (Md.dg (Md.fin Md.st0 0 n bs))) := HY5.out.other (HA1.out gy (fun h => hgxy h.symm))
      have HN6 : Hid (RowAt wr gn (Md.dg (Md.mac kn kbs n bs))) := HRN.out.other (HA1.out gn (fun h => hgxn.out h.symm))
      clear hX HX5 HM5 HB5 HY5 HRN HA1
      rename World => wa
      have hgm2 : Hid (w.heap.size ≤ gm) := by have := HGX.out; show _ ≤ _; omega
      go_wp2_with fail
      go_loopw [40] (fun i wq => ∃ k : Nat, k ≤ 16 ∧ i = .int .i64 k ∧ Hid ((∃ f, RowAt wq gm f) ∧ (∀ g, g ≠ gm → wq.heap[g]? = wa.heap[g]?) ∧ Below w.heap.size w wq)) (fun i _ => 16 - (intOf i).toNat)
      case atStart => exact ⟨0, by omega, rfl, ⟨_, HM6.out⟩, fun _ _ => rfl, HA2.out⟩
      case round =>
        obtain ⟨k, hk, rfl, hX⟩ := hrel
        by_cases hlt : k < 16
        · obtain ⟨⟨f, hf⟩, ho, hbl⟩ := hX.out
          have c4 := hf.cell k hlt
          have f4 := hf.free k
          have HX : Hid (∀ v, (∃ f, RowAt (wr.setCell ⟨gm, k, none⟩ (.int .u8 v)) gm f) ∧ (∀ g, g ≠ gm → (wr.setCell ⟨gm, k, none⟩ (.int .u8 v)).heap[g]? = wa.heap[g]?) ∧ Below w.heap.size w (wr.setCell ⟨gm, k, none⟩ (.int .u8 v))) := fun v => ⟨⟨_, hf.set k v hlt⟩, fun g hg => by rw [heap_setCell_other _ _ _ _ hg]; exact ho g hg, hbl.setCell hgm2.out _⟩
          clear hX hf ho hbl
          go_wp2
          exact ⟨⟨k + 1, by omega, by go_num, HX.out _⟩, by simp [intOf]; omega⟩
        · obtain rfl : k = 16 := by omega
          have HC2 : Hid (Below w.heap.size w wr) := hX.out.2.2
          have HY7 : Hid (RowAt wr gy (Md.dg (Md.fin Md.st0 0 n bs))) := HY6.out.other (hX.out.2.1 gy (fun h => hgmy h.symm))
          have HN7 : Hid (RowAt wr gn (Md.dg (Md.mac kn kbs n bs))) := HN6.out.other (hX.out.2.1 gn (fun h => hgmn.out h.symm))
          clear hX HM6 HY6 HN6 HA2 hgm2
          go_wp2_with fail
          refine (sum_any ao n cap bs _ (HT.out.below HC2.out (by omega)) hc (HR.out.below HC2.out)).mono ?_
          rintro e w8 ⟨g8, rfl, hg8, hrow8, hb8⟩
          have HC8 : Hid (Below w.heap.size w w8) := HC2.out.trans (hb8.mono HC2.out.size)
          have HY8 : Hid (RowAt w8 gy (Md.dg (Md.fin Md.st0 0 n bs))) := HY7.out.other (hb8.block _ HY7.out.lt)
          have HN8 : Hid (RowAt w8 gn (Md.dg (Md.mac kn kbs n bs))) := HN7.out.other (hb8.block _ HN7.out.lt)
          have HS8 : Hid (ByteRow w8 (some ⟨g8, 0, none⟩) 16 16 (Md.dg (Md.fin Md.st0 0 n bs))) := sumRow hrow8
          clear hg8 hrow8 hb8 HC2 HY7 HN7
          go_wp2_with fail
          refine (same_any _ _ 16 16 16 cy _ _ _ HS8.out (HY8.out.bytes hcy) (by omega) rfl (fun _ _ => rfl)).mono ?_
          rintro e w9 ⟨rfl, hw9⟩
          subst hw9
          clear HS8 HY8
          go_wp2_with fail
          refine (mac_any ko ao kn kcap n cap kbs bs _ (HT.out.below HC8.out (by omega)) hkc hc (HK.out.below HC8.out) (HR.out.below HC8.out)).mono ?_
          rintro e w10 ⟨g10, rfl, hg10, hrow10, hb10⟩
          have HC10 : Hid (Below w.heap.size w w10) := HC8.out.trans (hb10.mono HC8.out.size)
          have HN10 : Hid (RowAt w10 gn (Md.dg (Md.mac kn kbs n bs))) := HN8.out.other (hb10.block _ HN8.out.lt)
          have HS10 : Hid (ByteRow w10 (some ⟨g10, 0, none⟩) 16 16 (Md.dg (Md.mac kn kbs n bs))) := sumRow hrow10
          clear hg10 hrow10 hb10 HC8 HN8
          go_wp2_with fail
          refine (same_any _ _ 16 16 16 cn _ _ _ HS10.out (HN10.out.bytes hcn) (by omega) rfl (fun _ _ => rfl)).mono ?_
          rintro e w11 ⟨rfl, hw11⟩
          subst hw11
          go_wp2
          go_ret
          exact ⟨rfl, HC10.out⟩
end Go.Proofs.YtllpfebmbpbffaaDoor
