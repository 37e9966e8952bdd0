/- walks: hedgelaw3.RegionTells -/
import Derived.Test.YtconlnoolenhjaaDoorDS1
import Derived.Test.YtconlnoolenhjaaDoorGW12
namespace Go.Proofs.YtconlnoolenhjaaDoor
open Go.RowKit

set_option maxRecDepth 100000 in
set_option maxHeartbeats 8000000 in
theorem gtells_any (a b : Rg.Reg) (vid : Int) (w : World) (na : a.n ≤ 9223372036854775807) (nb : b.n ≤ 9223372036854775807) (ha : a.at' w) (hb : b.at' w) (ht : Tabs w) :
    Calls Tryd.prog 3 #[.agg #[.string a.s, .int .i64 a.rev, .slice a.ao a.n a.cap], .agg #[.string b.s, .int .i64 b.rev, .slice b.ao b.n b.cap], .int .i64 vid] w fun e w' => e = .returned (.bool true) ∧ Below w.heap.size w w' := by
  obtain ⟨W0, HW0⟩ : ∃ W0, Hid (W0 = (w.alloc (.cells #[.string a.s, .int .i64 a.rev, .slice a.ao a.n a.cap] 24)).alloc (.cells #[.string b.s, .int .i64 b.rev, .slice b.ao b.n b.cap] 24)) := ⟨_, rfl⟩
  have HF : Hid (∀ W, Below W0.heap.size W0 W → Two3 a b w W0 W) := fun W hW => two3_of HW0.out ha hb ht hW
  have HFA : Hid (∀ W, Below W0.heap.size W0 W → a.at' W ∧ Tabs W) := fun W hW => ⟨(HF.out W hW).wa, (HF.out W hW).tabs⟩
  have HFB : Hid (∀ W, Below W0.heap.size W0 W → b.at' W ∧ Tabs W) := fun W hW => ⟨(HF.out W hW).wb, (HF.out W hW).tabs⟩
  have H6 : Hid (∀ W, Below W0.heap.size W0 W → W.cell? ⟨w.heap.size, 0, none⟩ = some (.string a.s) ∧ W.cell? ⟨w.heap.size, 1, none⟩ = some (.int .i64 a.rev) ∧ W.cell? ⟨w.heap.size, 2, none⟩ = some (.slice a.ao a.n a.cap) ∧ W.cell? ⟨w.heap.size + 1, 0, none⟩ = some (.string b.s) ∧ W.cell? ⟨w.heap.size + 1, 1, none⟩ = some (.int .i64 b.rev) ∧ W.cell? ⟨w.heap.size + 1, 2, none⟩ = some (.slice b.ao b.n b.cap)) :=
    fun W hW => ⟨(HF.out W hW).c0, (HF.out W hW).c1, (HF.out W hW).c2, (HF.out W hW).e0, (HF.out W hW).e1, (HF.out W hW).e2⟩
  have HWA : Hid _ := tells_wrong a W0 na HFA.out
  have HRA : Hid _ := tells_rwrong a W0 na HFA.out
  have HRB : Hid _ := tells_rwrong b W0 nb HFB.out
  have HB0 : Hid (Below W0.heap.size W0 W0) := Below.refl _ _
  clear ha hb ht na nb
  go_enter Tryd.func3, Tryd.ntmps3
  go_wp2_with fail
  rw [← HW0.out]
  obtain ⟨c0, c1, c2, e0, e1, e2⟩ := H6.out W0 HB0.out
  go_region_held3 (fun W => W.cell? ⟨w.heap.size, 0, none⟩ = some (.string a.s) ∧ W.cell? ⟨w.heap.size, 1, none⟩ = some (.int .i64 a.rev) ∧ W.cell? ⟨w.heap.size, 2, none⟩ = some (.slice a.ao a.n a.cap) ∧ W.cell? ⟨w.heap.size + 1, 0, none⟩ = some (.string b.s) ∧ W.cell? ⟨w.heap.size + 1, 1, none⟩ = some (.int .i64 b.rev) ∧ W.cell? ⟨w.heap.size + 1, 2, none⟩ = some (.slice b.ao b.n b.cap))
    (first | (exact H6.out _ (Hid.out (by assumption))) | (exact H6.out _ (Below.drew (Hid.out (by assumption)))))
    (first | (go_at_call 6; refine (HWA.out _ (Below.drew HB0.out)).mono ?_; rintro e w1 ⟨rfl, HB1⟩) | (go_at_call 7; refine (HRA.out _ HB1.out).mono ?_; rintro e w2 ⟨rfl, HB2⟩))
  go_wp2_with fail
  refine (HRA.out _ HB2.out).mono ?_
  rintro e w3 ⟨rfl, HB3⟩
  clear c0 c1 c2 e0 e1 e2
  by_cases h0 : Rg.wrong a.s a.rev a.vs a.ts a.n = 0
  · have KA : Hid a.ok := Rg.wrong_zero h0
    rw [h0]
    clear h0
    obtain ⟨c0, c1, c2, e0, e1, e2⟩ := H6.out w3 HB3.out
    go_wp2_with fail
    refine (HRB.out _ HB3.out).mono ?_
    rintro e w4 ⟨rfl, HB4⟩
    clear c0 c1 c2 e0 e1 e2
    by_cases h1 : Rg.wrong b.s b.rev b.vs b.ts b.n = 0
    · have KB : Hid b.ok := Rg.wrong_zero h1
      rw [h1]
      clear h1
      have HTA : Hid _ := tells_tree a W0 vid KA.out HFA.out
      have HRT : Hid _ := tells_rtree a W0 vid KA.out HFA.out
      have HDA : Hid _ := tells_digest a W0 KA.out HFA.out
      have HRD : Hid _ := tells_rdigest a W0 KA.out HFA.out
      have HIA : Hid _ := tells_ident a W0 KA.out HFA.out
      have HRI : Hid _ := tells_rident a W0 KA.out HFA.out
      have HRJ : Hid _ := tells_rident b W0 KB.out HFB.out
      have HRI0 : Hid _ := tells_rident0 a W0 KA.out HFA.out
      have HSM : Hid _ := tells_same a b W0 KA.out KB.out HFA.out HFB.out
      have HLW : Hid (∀ W, Below W0.heap.size W0 W → Below w.heap.size w W) := fun W hW => (HF.out W hW).low
      obtain ⟨c0, c1, c2, e0, e1, e2⟩ := H6.out w4 HB4.out
      clear HWA HRA HRB HF HFA HFB HB0 HB1 HB2 HB3
      go_wp2_with fail
      go_region_held3 (fun W => W.cell? ⟨w.heap.size, 0, none⟩ = some (.string a.s) ∧ W.cell? ⟨w.heap.size, 1, none⟩ = some (.int .i64 a.rev) ∧ W.cell? ⟨w.heap.size, 2, none⟩ = some (.slice a.ao a.n a.cap) ∧ W.cell? ⟨w.heap.size + 1, 0, none⟩ = some (.string b.s) ∧ W.cell? ⟨w.heap.size + 1, 1, none⟩ = some (.int .i64 b.rev) ∧ W.cell? ⟨w.heap.size + 1, 2, none⟩ = some (.slice b.ao b.n b.cap))
        (first | (exact H6.out _ (Hid.out (by assumption))) | (exact H6.out _ (Below.drew (Hid.out (by assumption)))))
        (first
          | (go_at_call 8; refine (HTA.out _ (Below.drew HB4.out)).mono ?_; rintro e w5 ⟨rfl, HB5⟩)
          | (go_at_call 9; refine (HRT.out _ HB5.out).mono ?_; rintro e w6 ⟨rfl, HB6⟩)
          | (go_at_call 11; refine (HDA.out _ HB6.out).mono ?_; rintro e w7 ⟨gd, rfl, HD7, HB7⟩)
          | (go_at_call 12; refine (HRD.out _ HB7.out gd HD7.out).mono ?_; rintro e w8 ⟨ro8, rc8, rfl, HR8, HD8, HB8⟩)
          | (go_at_call 10; (with_reducible refine (rsame_any _ _ 16 _ 16 _ _ _ _ HD8.out (nilOk_pos HD8.out (by omega)) HR8.out (nilOk_pos HR8.out (by omega))).mono ?_); rintro e w9 ⟨rfl, hw9⟩; subst hw9)
          | (go_at_call 13; refine (HIA.out _ HB8.out).mono ?_; rintro e w10 ⟨ro10, rc10, rfl, HI10, HB10⟩)
          | (go_at_call 14; (with_reducible refine (HRJ.out _ HB13.out _ _ _ HR13.out).mono ?_); rintro e w14 ⟨ro14, rc14, rfl, HR14, HI14, HB14⟩)
          | (go_at_call 14; (with_reducible refine (HRI0.out _ HB12.out).mono ?_); rintro e w13 ⟨ro13, rc13, rfl, HR13, HB13⟩)
          | (go_at_call 14; (with_reducible refine (HRI.out _ HB10.out _ _ _ HI10.out).mono ?_); rintro e w11 ⟨ro11, rc11, rfl, HR11, HI11, HB11⟩)
          | (go_at_call 15; refine (HSM.out _ HB11.out).mono ?_; rintro e w12 ⟨rfl, HB12⟩)
          | (go_at_call 10; (with_reducible refine (rsame_any _ _ 50 _ 50 _ _ _ _ HI14.out (nilOk_pos HI14.out (by omega)) HR14.out (nilOk_pos HR14.out (by omega))).mono ?_); rintro e w15 ⟨rfl, hw15⟩; subst hw15)
          | (go_at_call 10; (with_reducible refine (rsame_any _ _ 50 _ 50 _ _ _ _ HI11.out (nilOk_pos HI11.out (by omega)) HR11.out (nilOk_pos HR11.out (by omega))).mono ?_); rintro e w16 ⟨rfl, hw16⟩; subst hw16))
      go_wp2
      go_ret
      exact ⟨by simp, HLW.out _ HB14.out⟩
    · have hne : (Rg.wrong b.s b.rev b.vs b.ts b.n == 0) = false := by simpa using h1
      have HL : Hid (Below w.heap.size w w4) := (HF.out w4 HB4.out).low
      go_wp2
      go_ret
      exact ⟨rfl, HL.out⟩
  · have hne : (Rg.wrong a.s a.rev a.vs a.ts a.n == 0) = false := by simpa using h0
    have HL : Hid (Below w.heap.size w w3) := (HF.out w3 HB3.out).low
    go_wp2
    go_ret
    exact ⟨rfl, HL.out⟩
end Go.Proofs.YtconlnoolenhjaaDoor
