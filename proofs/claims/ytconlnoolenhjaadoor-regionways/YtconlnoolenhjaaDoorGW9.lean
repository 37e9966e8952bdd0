/- walks: hedgelaw3.RegionWays -/
import Derived.Test.YtconlnoolenhjaaDoorGW8
import Derived.Maps.OwnOps
import Derived.Maps.Views
namespace Go.Proofs.YtconlnoolenhjaaDoor
open Go.RowKit Go.Maps

theorem glaw3 : Keyed Tryd.prog 3 := int_keyed Tryd.underlying3
theorem gzero3 (w : World) : (zeroValue 3).run Tryd.prog w = .ok (.int .i64 0) w := by kernel_rfl
namespace Rg
/-- The map of the first k ways. -/
def named (vs ts : Nat → Int) : Nat → DataW Unit
  | 0 => .map []
  | k + 1 => (named vs ts k).put (.int .i64 (vs k)) (.lit (.int .i64 (ts k)))
theorem named_map (vs ts : Nat → Int) : ∀ k, IsMap (named vs ts k)
  | 0 => isMap_empty
  | k + 1 => (named_map vs ts k).put _ _
theorem named_at (vs ts : Nat → Int) (v : Int) : ∀ k, (named vs ts k).atKey (.int .i64 v) (.lit (.int .i64 0)) = .lit (.int .i64 (tree vs ts v k))
  | 0 => rfl
  | k + 1 => by
    simp only [named, tree]
    by_cases e : vs k = v
    · rw [if_pos e, e, atKey_put_same (k := .int .i64 v) (named_map vs ts k) trivial]
    · rw [if_neg e, atKey_put_other (fun h => e (by injection h with _ h; exact h.symm))]
      exact named_at vs ts v k
end Rg
/-- A map of the call's own in a world where its block is the same. -/
theorem ownsMap_same {w w' : World} {k : TypeId} {R : Value → Option (DataW Unit × List MemPlace)} {b n : Nat} {D : DataW Unit} (h : w.ownsMap Tryd.prog k R b n D) (e : w'.heap[b]? = w.heap[b]?) : w'.ownsMap Tryd.prog k R b n D := by
  obtain ⟨es, clock, hb, r⟩ := h
  exact ⟨es, clock, e.trans hb, r⟩
set_option maxHeartbeats 4000000 in
theorem gwaysLaw_any (s : ByteArray) (rev : Int) (ao : Option Addr) (n cap : Nat) (vs ts : Nat → Int) (w : World) (hn : n ≤ 9223372036854775807) (hr : WayRow w ao n cap vs ts) (ht : Tabs w) :
    Calls Tryd.prog 5 #[.agg #[.string s, .int .i64 rev, .slice ao n cap]] w fun e w' => e = .returned (.bool true) ∧ Below w.heap.size w w' := by
  have hbt := ht.lt
  have HT : Hid (Tabs w) := ht
  have HR : Hid (WayRow w ao n cap vs ts) := hr
  clear ht hr
  obtain ⟨W0, HW0⟩ : ∃ W0, Hid (W0 = w.alloc (.cells #[.string s, .int .i64 rev, .slice ao n cap] 24)) := ⟨_, rfl⟩
  have HF : Hid (∀ W, Below W0.heap.size W0 W → (W.cell? ⟨w.heap.size, 0, none⟩ = some (.string s) ∧ W.cell? ⟨w.heap.size, 1, none⟩ = some (.int .i64 rev) ∧ W.cell? ⟨w.heap.size, 2, none⟩ = some (.slice ao n cap)) ∧ WayRow W ao n cap vs ts ∧ Tabs W ∧ Below w.heap.size w W) := by
    intro W hW
    have hz : W0.heap.size = w.heap.size + 1 := by rw [HW0.out]; simp
    have hb : Below w.heap.size w W := (show Below w.heap.size w W0 by rw [HW0.out]; exact below_alloc1 _ _).trans (hW.mono (by omega))
    have hq : W.heap[w.heap.size]? = some (.cells #[.string s, .int .i64 rev, .slice ao n cap] 24 (0, 0)) := (hW.block _ (by omega)).trans (by rw [HW0.out]; exact heap_alloc_last w _)
    exact ⟨rg_cells hq, HR.out.below hb, HT.out.below hb (by omega), hb⟩
  clear HT HR
  have hmm := @run_makeMap Tryd.prog
  go_enter Tryd.func5, Tryd.ntmps5
  go_wp2_with fail
  rw [← HW0.out]
  refine (galive_any _ (HF.out _ (Below.refl _ _)).2.2.1).mono ?_
  rintro e w1 ⟨rfl, hb1⟩
  obtain ⟨⟨c0, c1, c2⟩, _, _, _⟩ := HF.out w1 hb1
  have HB1 : Hid (Below W0.heap.size W0 w1) := hb1
  clear hb1
  go_wp2_with fail
  refine (gwrong_any _ _ _ _ _ vs ts _ hn (HF.out _ HB1.out).2.1).mono ?_
  rintro e w2 ⟨rfl, hb2⟩
  have HB2 : Hid (Below W0.heap.size W0 w2) := HB1.out.trans (hb2.mono HB1.out.size)
  clear hb2 c0 c1 c2
  obtain ⟨⟨c0, c1, c2⟩, _, _, hw2⟩ := HF.out w2 HB2.out
  have HW2 : Hid (Below w.heap.size w w2) := hw2
  clear hw2
  by_cases h0 : Rg.wrong s rev vs ts n = 0
  · obtain ⟨_, _, hR⟩ := Rg.wrong_zero h0
    have HRt : Hid (Rg.Right vs ts n) := hR
    have hn2 := hR.many
    rw [h0]
    clear hR h0
    have HM : Hid (∀ W, Below w2.heap.size w2 W → (W.cell? ⟨w.heap.size, 0, none⟩ = some (.string s) ∧ W.cell? ⟨w.heap.size, 1, none⟩ = some (.int .i64 rev) ∧ W.cell? ⟨w.heap.size, 2, none⟩ = some (.slice ao n cap)) ∧ WayRow W ao n cap vs ts ∧ Below w.heap.size w W) := by
      intro W hW
      obtain ⟨p1, p2, p3, p4⟩ := HF.out W (HB2.out.trans (hW.mono HB2.out.size))
      exact ⟨p1, p2, p4⟩
    obtain ⟨⟨m0, m1, m2⟩, _, _⟩ := HM.out (w2.alloc (.map #[] 0)) ((Below.refl _ _).alloc (Nat.le_refl _) _)
    go_wp2_with fail
    go_loopw [16] (fun i wr => ∃ k : Nat, k ≤ n ∧ i = .int .i64 k ∧ Hid (wr.ownsMap Tryd.prog 3 (plainElem Tryd.prog 3) w2.heap.size k (Rg.named vs ts k)) ∧ Hid (Below w2.heap.size w2 wr)) (fun i _ => n - (intOf i).toNat)
    case atStart => exact ⟨0, by omega, rfl, World.ownsMap_made _ _ _ _, (Below.refl _ _).alloc (Nat.le_refl _) _⟩
    case round =>
      obtain ⟨k, hk, rfl, hX, hB⟩ := hrel
      by_cases hlt : k < n
      · obtain ⟨b, off, rfl, hb, hc⟩ := (HM.out _ hB.out).2.1.2 (by omega)
        have hcap := (HM.out _ hB.out).2.1.1
        have d0 : wr.cell? ⟨b, off + k * 2, none⟩ = some (.int .i64 (vs k)) := (hc k hlt).1
        have d1 : wr.cell? ⟨b, off + k * 2 + 1, none⟩ = some (.int .i64 (ts k)) := (hc k hlt).2
        have hv := HRt.out.vid k hlt
        have hts := HRt.out.tree k hlt
        have HK : Hid (keyOf Tryd.prog 3 (.int .i64 (vs k)) = some (.int .i64 (vs k))) := keyOf_int_mk Tryd.underlying3 (WalkArith.wf_i64 (by omega))
        have HWF : Hid ((Lit.int .i64 (ts k)).wf = true) := WalkArith.wf_i64 (by omega)
        have HBA : Hid (∀ o, Below w2.heap.size w2 (wr.alloc o)) := fun o => hB.out.alloc hB.out.size _
        have HNX : Hid (Rg.named vs ts (k + 1) = (Rg.named vs ts k).put (.int .i64 (vs k)) (.lit (.int .i64 (ts k)))) := rfl
        clear hc hv hts
        go_wp2_with (at_mapUpdate; refine wpList_mapUpdate_own _ rfl _ _ _ 34 rfl 3 3 glaw3 Tryd.underlying34 _ w2.heap.size k _ rfl (hX.out.alloc _) (by unfold maxLen; omega) _ _ _ rfl rfl HK.out _ [] (plainElem_int Tryd.underlying3 HWF.out) ?_; intro w3 hown3 hgrow3; have HO3 : Hid _ := hown3; have HB3 : Hid (Below w2.heap.size w2 w3) := (HBA.out _).grown hgrow3 (HBA.out _).size (fun j hj => by cases hj; exact Nat.le_refl _); clear hown3 hgrow3)
        exact ⟨⟨k + 1, by omega, by go_num, by rw [HNX.out]; exact HO3.out, HB3⟩, by simp [intOf]; omega⟩
      · obtain rfl : k = n := by omega
        go_wp2_with fail
        go_loopw [6] (fun i wq => ∃ j : Nat, (j : Int) ≤ 4095 ∧ i = .int .i64 j ∧ Hid (wq.ownsMap Tryd.prog 3 (plainElem Tryd.prog 3) w2.heap.size k (Rg.named vs ts k)) ∧ Hid (Below w2.heap.size w2 wq)) (fun i _ => 4095 - (intOf i).toNat)
        case atStart => exact ⟨0, by omega, rfl, hX, hB⟩
        case round =>
          clear hX hB
          obtain ⟨j, hj, rfl, hX, hB⟩ := hrel
          by_cases hlt : (j : Int) ≤ 4094
          · obtain ⟨⟨d0, d1, d2⟩, hway, hbw⟩ := HM.out _ hB.out
            have HWY : Hid (WayRow wr ao k cap vs ts) := hway
            have HLK : Hid (∀ W : World, W.heap[w2.heap.size]? = wr.heap[w2.heap.size]? → (Instr.lookup 34 (.map (some w2.heap.size)) (.int .i64 (j : Int)) false).run Tryd.prog W = .ok (.int .i64 (Rg.tree vs ts (j : Int) k)) W) := by
              intro W hW
              obtain ⟨c, hrun, hat, _⟩ := (ownsMap_same hX.out hW).lookup_int glaw3 Tryd.underlying34 Tryd.underlying3 (gzero3 _) (keyOf_int_mk Tryd.underlying3 (a := (j : Int)) (WalkArith.wf_i64 (by omega)))
              rw [Rg.named_at] at hat
              injection hat with h1
              injection h1 with _ h2
              rw [hrun, h2]
            have hl0 := HLK.out wr rfl
            have hl1 : ∀ q, (Instr.lookup 34 (.map (some w2.heap.size)) (.int .i64 (j : Int)) false).run Tryd.prog (wr.drewN q) = .ok (.int .i64 (Rg.tree vs ts (j : Int) k)) (wr.drewN q) := fun q => HLK.out _ rfl
            have hl2 : (Instr.lookup 34 (.map (some w2.heap.size)) (.int .i64 (j : Int)) false).run Tryd.prog wr.drew = .ok (.int .i64 (Rg.tree vs ts (j : Int) k)) wr.drew := HLK.out _ rfl
            have HLT : Hid (w2.heap.size < wr.heap.size) := hX.out.lt
            have HSV : Hid (∀ W, Below wr.heap.size wr W → W.ownsMap Tryd.prog 3 (plainElem Tryd.prog 3) w2.heap.size k (Rg.named vs ts k) ∧ Below w2.heap.size w2 W) := fun W hW => ⟨ownsMap_same hX.out (hW.block _ HLT.out), hB.out.trans (hW.mono (by have := HLT.out; omega))⟩
            have HTR : Hid (∀ W, Below wr.heap.size wr W → Calls Tryd.prog 8 #[.agg #[.string s, .int .i64 rev, .slice ao k cap], .int .i64 (j : Int)] W fun e w' => e = .returned (.int .i64 (Rg.tree vs ts (j : Int) k)) ∧ Hid (Below wr.heap.size wr w') ∧ (Instr.lookup 34 (.map (some w2.heap.size)) (.int .i64 (j : Int)) false).run Tryd.prog w' = .ok (.int .i64 (Rg.tree vs ts (j : Int) k)) w') := by
              intro W hW
              refine (gtree_any s rev ao k cap vs ts _ W HRt.out (HWY.out.below hW)).mono ?_
              rintro e w' ⟨rfl, hb⟩
              have hb' : Below wr.heap.size wr w' := hW.trans (hb.mono hW.size)
              exact ⟨rfl, hb', HLK.out w' (hb'.block _ HLT.out)⟩
            clear hway hbw hX hB HLK HM HF
            go_wp2_with fail
            go_region_with (go_at_call 8; refine (HTR.out _ (by first | exact below_drewN (Below.refl _ _) _ | exact (Below.refl _ _).drew | exact Below.refl _ _)).mono ?_; rintro e w6 ⟨rfl, HB6, hl6⟩)
            all_goals go_wp2
            all_goals exact ⟨⟨j + 1, by omega, by go_num, (HSV.out _ HB6.out).1, (HSV.out _ HB6.out).2⟩, by simp [intOf]; omega⟩
          · obtain rfl : j = 4095 := by omega
            go_wp2
            go_ret
            exact ⟨rfl, (HM.out _ hB.out).2.2⟩
  · have hne : (Rg.wrong s rev vs ts n == 0) = false := by simpa using h0
    go_wp2
    go_ret
    exact ⟨rfl, HW2.out⟩
end Go.Proofs.YtconlnoolenhjaaDoor
