/- walks: VecSorted -/
import Derived.Test.YthnklbcaodhbfaaVLa
import Derived.Test.YthnklbcaodhbfaaVS8
import Derived.Test.YthnklbcaodhbfaaVM4
namespace Go.Proofs.Ythnklbcaodhbfaa
open Go.RowKit Go.Maps
open Vc (V Of)

theorem grown_below {M : Nat} {w0 w w' : World} (h : Below M w0 w) (hM : M ≤ w.heap.size) (g : w.grownBy w' (some M)) : Below M w0 w' := h.grown g hM (fun j hj => by cases hj; exact Nat.le_refl _)
/-- One count: what its operations do, at whatever count goes in. -/
theorem count_own {w : World} {b m : Nat} {D : DataW Unit} {v : V} {kl : Lit} {t d : Int} (h : OwnT w b m D) (hkey : keyOf Try.prog 27 (.agg (vA v)) = some kl) (hn : m < maxLen) (hD : IsMap D) (hat : D.atKey kl (.lit (.int .i64 0)) = .lit (.int .i64 t)) (hw : (Lit.int .i64 (t + d)).wf = true) :
    ∃ (v0 : Value) (st : Nat) (w1 w2 : World), (Instr.lookup 44 (.map (some b)) (.agg #[.int .u64 v.root, .int .i64 v.cost, .int .u64 v.bridge, .int .i64 v.port]) false).run Try.prog w = .ok (.int .i64 t) w ∧
      (Instr.mapEntry 44 (.map (some b)) (.agg #[.int .u64 v.root, .int .i64 v.cost, .int .u64 v.bridge, .int .i64 v.port])).run Try.prog w = .ok (.tuple #[v0, .int .i64 (st : Int)]) w1 ∧
      (Instr.lookup 44 (.map (some b)) (.agg #[.int .u64 v.root, .int .i64 v.cost, .int .u64 v.bridge, .int .i64 v.port]) false).run Try.prog w1 = .ok (.int .i64 t) w1 ∧
      (Instr.entryStore 44 (.map (some b)) (.int .i64 (st : Int)) (.int .i64 (t + d))).run Try.prog w1 = .ok () w2 ∧ OwnT w2 b (m + 1) (D.put kl (.lit (.int .i64 (t + d)))) ∧ w.grownBy w2 (some b) := by
  obtain ⟨c, v0, st, w1, e1, e2, e3, e4, e5⟩ := entry_own h hkey hn hD
  rw [hat] at e2
  injection e2 with e2
  injection e2 with _ e2
  subst e2
  obtain ⟨w2, f1, f2, f3⟩ := e5 _ hw
  exact ⟨v0, st, w1, w2, e1, e3, e4, f1, f2, f3⟩
theorem tms_up (s l : Nat → V) (k : Nat) : tms s l k k (s k) + 1 = tms s l (k + 1) k (s k) := by unfold tms; simp only [Vc.cntTo, if_true]; omega
theorem tms_down (s l : Nat → V) (k : Nat) : tms s l (k + 1) k (l k) + -1 = tms s l (k + 1) (k + 1) (l k) := by unfold tms; simp only [Vc.cntTo, if_true]; omega
theorem tms_wf (s l : Nat → V) (i j : Nat) (v : V) (hi : i ≤ 4398046511105) (hj : j ≤ 4398046511105) (d : Int) (hd : -1 ≤ d ∧ d ≤ 1) : (Lit.int .i64 (tms s l i j v + d)).wf = true ∧ IntKind.i64.wrap (tms s l i j v + d) = tms s l i j v + d := by
  have h1 := Vc.cntTo_range v s i
  have h2 := Vc.cntTo_range v l j
  unfold tms
  exact ⟨WalkArith.wf_i64 (by omega), by rw [IntKind.wrap_i64]; omega⟩
set_option maxRecDepth 100000 in
set_option maxHeartbeats 4000000 in
theorem vsorted_law (ao : Option Addr) (n cap : Nat) (vs : Nat → V) (w : World) (hn : n ≤ 4398046511104) (hr : VRow w ao n cap vs) (hvk : ∀ i, i < n → VKey (vs i)) :
    Calls Try.prog 7 #[.slice ao n cap] w fun e w' => e = .returned (.bool true) ∧ Below w.heap.size w w' := by
  have HRW : Hid (∀ W, Below w.heap.size w W → VRow W ao n cap vs) := fun W hW => CRow.other hr (fun q _ _ hq => hW.block q hq) hW.size
  have HVK : Hid (∀ i, i < n → VKey (vs i)) := hvk
  have hcap := hr.1
  obtain ⟨key, hkf⟩ := keyFn
  have HKF : Hid (KeyFn key) := hkf
  have HSO : Hid (∀ W, Below w.heap.size w W → Calls Try.prog 16 #[.slice ao n cap] W fun e w' => ∃ ss, e = .returned (.slice (some ⟨W.heap.size, 0, none⟩) n n) ∧ w'.heap[W.heap.size]? = some (.cells (rowV n ss) 27 (0, 0)) ∧ Vc.SortedF n ss ∧ (Vc.listOf n ss).Perm (Vc.listOf n vs) ∧ Below W.heap.size W w') := fun W hW => vsorted_any ao n cap vs W hn (HRW.out W hW)
  have HAL : Hid (Calls Try.prog 22 #[] w fun e w' => e = .returned (.bool true) ∧ Below w.heap.size w w') := valive_any w
  clear hr hvk hkf
  have hmm := @run_makeMap Try.prog
  go_enter Try.func7, Try.ntmps7
  go_wp2_with fail
  refine HAL.out.mono ?_
  rintro e w1 ⟨rfl, hb1⟩
  have H1 : Hid (Below w.heap.size w w1) := hb1
  clear hb1 HAL
  go_wp2_with fail
  refine (HSO.out _ H1.out).mono ?_
  rintro e w2 ⟨ss, rfl, g1, g2, g3, hb2⟩
  obtain ⟨G, HG⟩ : ∃ G, Hid (G = w1.heap.size) := ⟨_, rfl⟩
  rw [← HG.out] at g1 ⊢
  have HRS : Hid (w2.heap[G]? = some (.cells (rowV n ss) 27 (0, 0))) := g1
  have HSF : Hid (Vc.SortedF n ss) := g2
  have HPM : Hid ((Vc.listOf n ss).Perm (Vc.listOf n vs)) := g3
  have HSK : Hid (∀ i, i < n → VKey (ss i)) := perm_key HVK.out g3
  have H2 : Hid (Below w.heap.size w w2) := H1.out.trans (hb2.mono H1.out.size)
  clear g1 g2 g3 hb2 HSO H1 HG
  obtain ⟨M, HM⟩ : ∃ M, Hid (M = w2.heap.size) := ⟨_, rfl⟩
  have HLW : Hid (∀ W, Below M w2 W → Below w.heap.size w W ∧ W.heap[G]? = some (.cells (rowV n ss) 27 (0, 0))) := fun W hW => by
    rw [HM.out] at hW
    exact ⟨H2.out.trans (hW.mono H2.out.size), keep HRS.out hW⟩
  have H0 : Hid (OwnT (w2.alloc (.map #[] 0)) M 0 (timesD key ss vs 0) ∧ Below M w2 (w2.alloc (.map #[] 0)) ∧ M < (w2.alloc (.map #[] 0)).heap.size) := by
    rw [HM.out]
    exact ⟨World.ownsMap_made _ _ _ _, (Below.refl _ _).alloc (Nat.le_refl _) _, by simp⟩
  go_wp2_with fail
  rw [← HM.out]
  go_loopw [21] (fun vi wr => ∃ k : Nat, k ≤ n ∧ vi = .int .i64 k ∧ Hid (OwnT wr M (2 * k) (timesD key ss vs k) ∧ Below M w2 wr ∧ M < wr.heap.size)) (fun vi _ => n - (intOf vi).toNat)
  case atStart => exact ⟨0, by omega, rfl, H0⟩
  case round =>
    obtain ⟨k, lk, rfl, hX⟩ := hrel
    clear H0
    by_cases hk : k < n
    · have hk2 : (k : Int) < (n : Int) := by omega
      have ik : (0 : Int) ≤ (k : Int) := by omega
      obtain ⟨b, off, rfl, _⟩ := CRow.some (HRW.out wr (HLW.out wr hX.out.2.1).1) (by omega)
      have ml : 2 * k + 1 < maxLen := by unfold maxLen; omega
      have HO : Hid (OwnT wr M (2 * k) (timesD key ss vs k)) := hX.out.1
      have HB : Hid (Below M w2 wr) := hX.out.2.1
      have HMS : Hid (M < wr.heap.size) := hX.out.2.2
      clear hX
      go_wp2_with fail
      go_cut [5] (fun s5 wx => s5 = .int .i64 k ∧ Hid (OwnT wx M (2 * k + 1) (timesM key ss vs k) ∧ Below M w2 wx ∧ M < wx.heap.size))
      case first =>
        as_aux_lemma =>
          obtain ⟨c0, c1, c2, c3⟩ := rowV_cells (HLW.out wr HB.out).2 hk
          obtain ⟨hwf, hwr⟩ := tms_wf ss vs k k (ss k) (by omega) (by omega) 1 (by omega)
          obtain ⟨v0, st, w3, w4, e1, e2, e3, e4, e5, e6⟩ := count_own (w := wr.drew) (d := 1) HO.out (HKF.out _ (HSK.out k hk)) (by omega) (timesD_map _ _ _ _) (timesD_at HKF.out ss vs n HSK.out HVK.out (ss k) (HSK.out k hk) k (by omega)) hwf
          have HF : Hid (OwnT w4 M (2 * k + 1) (timesM key ss vs k) ∧ Below M w2 w4 ∧ M < w4.heap.size) := by
            rw [tms_up] at e5
            exact ⟨e5, grown_below (Below.drew HB.out) (Nat.le_of_lt HMS.out) e6, Nat.lt_of_lt_of_le HMS.out e6.size⟩
          clear e5 e6 hwf HO HB HMS
          generalize tms ss vs k k (ss k) = t at *
          generalize ss k = x at *
          go_region
          all_goals go_wp2_with fail
          all_goals go_meet
          all_goals exact ⟨rfl, HF⟩
      case rest =>
      obtain ⟨rfl, HX1⟩ := hcut
      clear HO HB HMS
      have HO : Hid (OwnT wc M (2 * k + 1) (timesM key ss vs k)) := HX1.out.1
      have HB : Hid (Below M w2 wc) := HX1.out.2.1
      have HMS : Hid (M < wc.heap.size) := HX1.out.2.2
      clear HX1
      go_wp2_with fail
      go_cut [5] (fun s5 wx => s5 = .int .i64 k ∧ Hid (OwnT wx M (2 * k + 2) (timesD key ss vs (k + 1)) ∧ Below M w2 wx ∧ M < wx.heap.size))
      case first =>
        as_aux_lemma =>
          obtain ⟨c0, c1, c2, c3⟩ := VRow.cells (HRW.out wc (HLW.out wc HB.out).1) hk
          obtain ⟨hwf, hwr⟩ := tms_wf ss vs (k + 1) k (vs k) (by omega) (by omega) (-1) (by omega)
          obtain ⟨v0, st, w3, w4, e1, e2, e3, e4, e5, e6⟩ := count_own (w := wc.drew) (d := -1) HO.out (HKF.out _ (HVK.out k hk)) (by omega) ((timesD_map key ss vs k).put _ _) (timesM_at HKF.out ss vs k (HSK.out k hk) (vs k) (HVK.out k hk) (timesD_at HKF.out ss vs n HSK.out HVK.out (vs k) (HVK.out k hk) k (by omega))) hwf
          have HF : Hid (OwnT w4 M (2 * k + 2) (timesD key ss vs (k + 1)) ∧ Below M w2 w4 ∧ M < w4.heap.size) := by
            rw [tms_down] at e5
            exact ⟨e5, grown_below (Below.drew HB.out) (Nat.le_of_lt HMS.out) e6, Nat.lt_of_lt_of_le HMS.out e6.size⟩
          clear e5 e6 hwf HO HB HMS
          generalize tms ss vs (k + 1) k (vs k) = t at *
          rw [← Int.sub_eq_add_neg] at e4 hwr
          generalize vs k = x at *
          go_region
          all_goals go_wp2_with fail
          all_goals go_meet
          all_goals exact ⟨rfl, HF⟩
      case rest =>
      clear HO HB HMS
      obtain ⟨rfl, HX1⟩ := hcut
      have HFN : Hid (∀ W, Below wc.heap.size wc W → OwnT W M (2 * (k + 1)) (timesD key ss vs (k + 1)) ∧ Below M w2 W ∧ M < W.heap.size) := fun W hW => ⟨ownT_same HX1.out.1 (hW.block _ HX1.out.2.2), HX1.out.2.1.trans (hW.mono (Nat.le_of_lt HX1.out.2.2)), Nat.lt_of_lt_of_le HX1.out.2.2 hW.size⟩
      have HW0 : Hid (Below wc.heap.size wc wc) := Below.refl _ _
      by_cases hk0 : 0 < k
      · obtain ⟨p, hp⟩ : ∃ p, p = k - 1 := ⟨_, rfl⟩
        have wp : IntKind.i64.wrap ((k : Int) - 1) = (p : Int) := by rw [wraps_i64 _ (by omega) (by omega)]; omega
        have ip : (0 : Int) ≤ (p : Int) := by omega
        have np : (p : Int) < (n : Int) := by omega
        have hk3 : (0 : Int) < (k : Int) := by omega
        have HCC : Hid (∀ W, Below wc.heap.size wc W → _) := two_cells (HLW.out wc HX1.out.2.1).2 (show p < n by omega) hk
        have HCM : Hid (∀ W, Below wc.heap.size wc W → Calls Try.prog 9 #[.agg #[.int .u64 (ss p).root, .int .i64 (ss p).cost, .int .u64 (ss p).bridge, .int .i64 (ss p).port], .agg #[.int .u64 (ss k).root, .int .i64 (ss k).cost, .int .u64 (ss k).bridge, .int .i64 (ss k).port]] W fun e w' => e = .returned (.int .i64 (Vc.cmp (ss p) (ss k))) ∧ Hid (Below wc.heap.size wc w')) := fun W hW => cmp_say (ss p) (ss k) wc W hW
        have hcv : ¬ 0 < Vc.cmp (ss p) (ss k) := fun q => HSF.out p k (by omega) hk (Vc.cmp_gt.1 q)
        have hcv2 : decide (0 < Vc.cmp (ss p) (ss k)) = false := decide_eq_false hcv
        obtain ⟨⟨c0, c1, c2, c3⟩, d0, d1, d2, d3⟩ := HCC.out wc HW0.out
        clear hp HX1
        generalize Vc.cmp (ss p) (ss k) = CV at *
        obtain ⟨x, hx⟩ : ∃ x, ss p = x := ⟨_, rfl⟩
        obtain ⟨y, hy⟩ : ∃ y, ss k = y := ⟨_, rfl⟩
        rw [hx, hy] at HCC HCM
        rw [hx] at c0 c1 c2 c3
        rw [hy] at d0 d1 d2 d3
        clear hx hy
        go_wp2_with fail
        go_region_held3 (fun W => (W.cell? ⟨G, p * 4, none⟩ = some (.int .u64 x.root) ∧ W.cell? ⟨G, p * 4 + 1, none⟩ = some (.int .i64 x.cost) ∧ W.cell? ⟨G, p * 4 + 2, none⟩ = some (.int .u64 x.bridge) ∧ W.cell? ⟨G, p * 4 + 3, none⟩ = some (.int .i64 x.port)) ∧ W.cell? ⟨G, k * 4, none⟩ = some (.int .u64 y.root) ∧ W.cell? ⟨G, k * 4 + 1, none⟩ = some (.int .i64 y.cost) ∧ W.cell? ⟨G, k * 4 + 2, none⟩ = some (.int .u64 y.bridge) ∧ W.cell? ⟨G, k * 4 + 3, none⟩ = some (.int .i64 y.port))
          (first | (exact HCC.out _ (Below.drew HW0.out)) | (exact HCC.out _ (Hid.out (by assumption))))
          (first | (go_at_call 9; refine (HCM.out _ (Below.drew HW0.out)).mono ?_; rintro e w3 ⟨rfl, HB3⟩))
        go_wp2_with fail
        exact ⟨⟨k + 1, by omega, by go_num, HFN.out _ HB3.out⟩, by simp [intOf]; omega⟩
      · have hk3 : decide ((0 : Int) < (k : Int)) = false := decide_eq_false (by omega)
        clear HX1
        go_wp2_with fail
        go_quiet (fail)
        go_wp2_with fail
        exact ⟨⟨k + 1, by omega, by go_num, HFN.out _ (below_drewN HW0.out _)⟩, by simp [intOf]; omega⟩
    · obtain rfl : k = n := by omega
      have HO : Hid (OwnT wr M (2 * k) (timesD key ss vs k)) := hX.out.1
      have HB : Hid (Below M w2 wr) := hX.out.2.1
      have HMS : Hid (M < wr.heap.size) := hX.out.2.2
      have HZ : Hid (∀ kl, (timesD key ss vs k).atKey kl (.lit (.int .i64 0)) = .lit (.int .i64 0)) := fun kl => timesD_zero HKF.out ss vs k HSK.out HVK.out HPM.out kl
      obtain ⟨R, HRR⟩ : ∃ R, Hid (R = wr.heap.size) := ⟨_, rfl⟩
      clear hX
      go_wp2_with (at_range; refine wpList_range_own _ rfl _ 44 rfl 27 3 vkeyed Try.underlying44 _ M (2 * k) _ rfl HO.out ?_; intro w0 hrg0 hg0 hs0; go_frame)
      rw [← HRR.out] at hrg0 ⊢
      have H0 : Hid (w0.ranges Try.prog 27 (plainElem Try.prog 3) M R (2 * k) (timesD key ss vs k) (Maps.has (timesD key ss vs k)) (Maps.size (timesD key ss vs k))) := hrg0
      have H0B : Hid (Below M w2 w0) := HB.out.grown hg0 (Nat.le_of_lt HMS.out) (fun j hj => by cases hj)
      have HMR : Hid (M < R) := by rw [HRR.out]; exact HMS.out
      clear hrg0 hg0 hs0 HO HB HMS HRR
      go_loopw [7] (fun _ wi => ∃ (left : Lit → Bool) (cnt : Nat), Hid (wi.ranges Try.prog 27 (plainElem Try.prog 3) M R (2 * k) (timesD key ss vs k) left cnt) ∧ Hid (Below M w2 wi)) (fun _ wi => wi.rangeLeft M R)
      case atStart => exact ⟨_, _, H0, H0B⟩
      case round =>
        obtain ⟨left, cnt, hrg, hB⟩ := hrel
        clear H0 H0B
        go_wp2_with (at_next; refine wpList_next_ranges _ rfl _ rfl 27 vkeyed (plainElem Try.prog 3) (fun v : Value => v) (Value.int .i64) (fun key kl h => ⟨key, rfl⟩) (fun v y hv => by obtain ⟨c, rfl, _⟩ := plainElem_int_inv Try.underlying3 hv; exact ⟨c, rfl⟩) M R (2 * k) _ _ _ rfl hrg.out ?_ ?_)
        · intro _ _
          have HBE : Hid (Calls Try.prog 14 #[.slice ao k cap] wr fun e w' => e = .returned (.int .i64 (Vc.bestTo vs k)) ∧ Below wr.heap.size wr w') := vbest_any ao k cap vs wr (by omega) (HRW.out wr (HLW.out wr hB.out).1)
          have HMW : Hid (M ≤ wr.heap.size) := Nat.le_of_lt (Nat.lt_of_lt_of_le HMR.out (Nat.le_of_lt hrg.out.lt))
          clear HZ HKF HSK HVK
          go_wp2_with fail
          refine HBE.out.mono ?_
          rintro e w5 ⟨rfl, hb5⟩
          have H5 : Hid (Below M w2 w5) := hB.out.trans (hb5.mono HMW.out)
          clear hb5 HBE hrg hB
          by_cases hz : k = 0
          · have HZ0 : Hid (Vc.bestTo vs k = -1) := by rw [hz]; rfl
            have hz2 : (k : Int) = 0 := by omega
            have hz3 : ((k : Int) == 0) = true := by simp [hz]
            rw [HZ0.out]
            go_wp2_with fail
            go_ret
            exact ⟨rfl, (HLW.out _ H5.out).1⟩
          · have hbf := best_first (by omega) HSF.out HPM.out
            have hr5 := Vc.bestTo_range vs k
            obtain ⟨j, hj⟩ : ∃ j : Nat, Vc.bestTo vs k = (j : Int) := ⟨(Vc.bestTo vs k).toNat, by have := hr5.2.2 (by omega); omega⟩
            have hjn : j < k := by omega
            rw [hj, Int.toNat_natCast] at hbf
            rw [hj]
            obtain ⟨b, off, rfl, _⟩ := CRow.some (HRW.out w5 (HLW.out w5 H5.out).1) (by omega)
            obtain ⟨c0, c1, c2, c3⟩ := VRow.cells (HRW.out w5 (HLW.out w5 H5.out).1) hjn
            obtain ⟨d0, d1, d2, d3⟩ := rowV_cells (HLW.out w5 H5.out).2 (show 0 < k by omega)
            rw [hbf] at c0 c1 c2 c3
            generalize ss 0 = x at *
            have heq : ∀ W : World, (binOp .eql 27 (.agg #[.int .u64 x.root, .int .i64 x.cost, .int .u64 x.bridge, .int .i64 x.port]) (.agg #[.int .u64 x.root, .int .i64 x.cost, .int .u64 x.bridge, .int .i64 x.port])).run Try.prog W = .ok (.bool true) W := fun W => by
              have := vec_eql x x W
              rw [decide_eq_true rfl] at this
              exact this
            have ij : (0 : Int) ≤ (j : Int) := by omega
            have jn : (j : Int) < (k : Int) := by omega
            have kp : (0 : Int) < (k : Int) := by omega
            have hz3 : ((k : Int) == 0) = false := by simp; omega
            simp only [Nat.zero_mul, Nat.zero_add] at d0 d1 d2 d3
            clear hbf hr5 hj HSF HPM
            go_wp2_with fail
            go_quiet (fail)
            go_wp2_with fail
            go_ret
            exact ⟨rfl, (HLW.out _ (below_drewN H5.out _)).1⟩
        · intro x c kl y yp w3 cnt2 hkey hlk hv hat hrg2 hlt hg2 hs2 hen
          have hc : c = 0 := by
            obtain ⟨c', ec, hc', _⟩ := plainElem_int_inv Try.underlying3 hv
            injection ec with _ ec
            simp only [Prod.mk.injEq] at hc'
            have h1 := hat (.lit (.int .i64 0))
            rw [HZ.out kl, hc'.1] at h1
            injection h1 with h1
            injection h1 with _ h1
            rw [ec, ← h1]
          have HF : Hid (w3.ranges Try.prog 27 (plainElem Try.prog 3) M R (2 * k) (timesD key ss vs k) (fun z => left z && !z.sameKey kl) cnt2) := hrg2
          have HFB : Hid (Below M w2 w3) := hB.out.grown hg2 (Nat.le_of_lt (Nat.lt_of_lt_of_le HMR.out (Nat.le_of_lt hrg.out.lt))) (fun j hj => by cases hj; exact Nat.le_of_lt HMR.out)
          have HLT : Hid (w3.rangeLeft M R < wr.rangeLeft M R) := by
            show w3.rangeLeft M R < wr.rangeLeft M R
            rw [hrg2.left_eq, hrg.out.left_eq]; exact hlt
          subst hc
          clear hat hrg2 hg2 hkey hlk hv hs2 hrg hB HZ
          go_wp2_with fail
          exact ⟨⟨_, cnt2, HF, HFB⟩, HLT.out⟩
end Go.Proofs.Ythnklbcaodhbfaa
