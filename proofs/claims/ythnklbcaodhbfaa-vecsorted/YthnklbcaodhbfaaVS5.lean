/- walks: Go's stable sort: symMerge, where the right part is one -/
import Derived.Test.YthnklbcaodhbfaaVS4
namespace Go.Proofs.Ythnklbcaodhbfaa
open Go.RowKit
open Vc (V Of)

set_option maxRecDepth 100000 in
set_option maxHeartbeats 4000000 in
theorem smergeB (g n cap a m b : Nat) (f : Nat → V) (w : World) (hA : w.heap[g]? = some (.cells (rowV n f) 27 (0, 0))) (hn : n ≤ 4398046511104) (hm : b = m + 1) (h1 : a + 1 < m) (h2 : b ≤ n) (hs : Vc.SIn a m f) :
    Calls Try.prog 35 #[.slice (some ⟨g, 0, none⟩) n cap, .int .i64 a, .int .i64 m, .int .i64 b, .func (.func 9) #[] #[]] w fun x w' => x = .returned (.tuple #[]) ∧ ∃ G, w'.heap[g]? = some (.cells (rowV n G) 27 (0, 0)) ∧ Vc.Pm a b f G ∧ Vc.SIn a b G ∧ Below g w w' := by
  have HA : Hid (w.heap[g]? = some (.cells (rowV n f) 27 (0, 0))) := hA
  have HS : Hid (Vc.SIn a m f) := hs
  have HM : Hid (b = m + 1) := hm
  obtain ⟨d, hd⟩ : ∃ d, d = m - a := ⟨_, rfl⟩
  have wd : IntKind.i64.wrap ((m : Int) - (a : Int)) = (d : Int) := by rw [wraps_i64 _ (by omega) (by omega)]; omega
  have d1 : ((d : Int) == 1) = false := by simp; omega
  have wm : IntKind.i64.wrap ((b : Int) - (m : Int)) = 1 := by rw [wraps_i64 _ (by omega) (by omega)]; omega
  have am : a < m := by omega
  have mb : m < b := by omega
  have mn : m < n := by omega
  clear hA hs hm hd
  go_enter Try.func35, Try.ntmps35
  go_wp2_with fail
  go_loopw [14, 15] (fun x y wr => ∃ i j : Nat, a ≤ i ∧ i ≤ j ∧ j ≤ m ∧ x = .int .i64 i ∧ y = .int .i64 j ∧ Hid ((∀ q, a ≤ q → q < i → ¬ Vc.lt (f m) (f q)) ∧ ∀ q, j ≤ q → q < m → Vc.lt (f m) (f q)) ∧ Hid (wr.heap[g]? = some (.cells (rowV n f) 27 (0, 0)) ∧ Below g w wr)) (fun x y _ => (intOf y - intOf x).toNat)
  case atStart => exact ⟨a, m, by omega, by omega, by omega, rfl, rfl, ⟨fun q q1 q2 => by omega, fun q q1 q2 => by omega⟩, HA.out, Below.refl _ _⟩
  case round =>
    obtain ⟨i, j, li, lij, uj, rfl, rfl, hQ, hX⟩ := hrel
    clear HA
    by_cases hlt : i < j
    · obtain ⟨h, hh⟩ : ∃ h, h = (i + j) / 2 := ⟨_, rfl⟩
      have eh : ((i : Int) + (j : Int)) / 2 = (h : Int) := by omega
      have l1 : i ≤ h := by omega
      have l2 : h < j := by omega
      clear hh
      have hlt2 : (i : Int) < (j : Int) := by omega
      have ia : (0 : Int) ≤ (m : Int) := by omega
      have ih : (0 : Int) ≤ (h : Int) := by omega
      have na : (m : Int) < (n : Int) := by omega
      have nh : (h : Int) < (n : Int) := by omega
      have HCC : Hid (∀ W, Below wr.heap.size wr W → _) := two_cells hX.out.1 (show m < n by omega) (show h < n by omega)
      have HLO : Hid (∀ W, Below wr.heap.size wr W → W.heap[g]? = some (.cells (rowV n f) 27 (0, 0)) ∧ Below g w W) := row_stay hX.out.1 hX.out.2
      have HW0 : Hid (Below wr.heap.size wr wr) := Below.refl _ _
      have HCM : Hid (∀ W, Below wr.heap.size wr W → Calls Try.prog 9 #[.agg #[.int .u64 (f m).root, .int .i64 (f m).cost, .int .u64 (f m).bridge, .int .i64 (f m).port], .agg #[.int .u64 (f h).root, .int .i64 (f h).cost, .int .u64 (f h).bridge, .int .i64 (f h).port]] W fun e w' => e = .returned (.int .i64 (Vc.cmp (f m) (f h))) ∧ Hid (Below wr.heap.size wr w')) := fun W hW => cmp_say (f m) (f h) wr W hW
      have HYES : Hid (Vc.cmp (f m) (f h) < 0 → (∀ q, a ≤ q → q < i → ¬ Vc.lt (f m) (f q)) ∧ ∀ q, h ≤ q → q < m → Vc.lt (f m) (f q)) := fun c => by
        have c' := Vc.cmp_lt.1 c
        refine ⟨hQ.out.1, fun q q1 q2 => ?_⟩
        by_cases e : q = h
        · subst e; exact c'
        · exact lt_of_lt_le c' (HS.out h q (by omega) (by omega) q2)
      have HNO : Hid (¬ Vc.cmp (f m) (f h) < 0 → (∀ q, a ≤ q → q < h + 1 → ¬ Vc.lt (f m) (f q)) ∧ ∀ q, j ≤ q → q < m → Vc.lt (f m) (f q)) := fun c => by
        have c' : ¬ Vc.lt (f m) (f h) := fun q => c (Vc.cmp_lt.2 q)
        refine ⟨fun q q1 q2 => ?_, hQ.out.2⟩
        by_cases e : q = h
        · subst e; exact c'
        · exact Vc.not_lt_trans (HS.out q h q1 (by omega) (by omega)) c'
      obtain ⟨⟨c0, c1, c2, c3⟩, d0, d1', d2, d3⟩ := HCC.out wr HW0.out
      obtain ⟨CV, hCV⟩ : ∃ CV, Vc.cmp (f m) (f h) = CV := ⟨_, rfl⟩
      rw [hCV] at HCM HYES HNO
      clear hCV hQ hX HS
      obtain ⟨x, hx⟩ : ∃ x, f m = x := ⟨_, rfl⟩
      obtain ⟨y, hy⟩ : ∃ y, f h = y := ⟨_, rfl⟩
      rw [hx, hy] at HCC HCM
      rw [hx] at c0 c1 c2 c3
      rw [hy] at d0 d1' d2 d3
      clear hx hy
      by_cases hc : CV < 0
      · have HQ2 := HYES.out (by omega)
        have hc2 : decide (CV < 0) = true := decide_eq_true hc
        clear HYES HNO
        go_wp2_with fail
        go_region_held3 (fun W => (W.cell? ⟨g, m * 4, none⟩ = some (.int .u64 x.root) ∧ W.cell? ⟨g, m * 4 + 1, none⟩ = some (.int .i64 x.cost) ∧ W.cell? ⟨g, m * 4 + 2, none⟩ = some (.int .u64 x.bridge) ∧ W.cell? ⟨g, m * 4 + 3, none⟩ = some (.int .i64 x.port)) ∧ W.cell? ⟨g, h * 4, none⟩ = some (.int .u64 y.root) ∧ W.cell? ⟨g, h * 4 + 1, none⟩ = some (.int .i64 y.cost) ∧ W.cell? ⟨g, h * 4 + 2, none⟩ = some (.int .u64 y.bridge) ∧ W.cell? ⟨g, h * 4 + 3, none⟩ = some (.int .i64 y.port))
          (first | (exact HCC.out _ (Below.drew HW0.out)) | (exact HCC.out _ (Hid.out (by assumption))))
          (first | (go_at_call 9; refine (HCM.out _ (Below.drew HW0.out)).mono ?_; rintro e w3 ⟨rfl, HB3⟩))
        clear c0 c1 c2 c3 d0 d1' d2 d3
        have HX2 : Hid _ := HLO.out w3 HB3.out
        clear HLO HCC HCM HW0 HB3
        go_wp2_with fail
        exact ⟨⟨i, h, li, l1, by omega, rfl, rfl, HQ2, HX2⟩, by simp [intOf]; omega⟩
      · have HQ2 := HNO.out (by omega)
        have hc2 : decide (CV < 0) = false := decide_eq_false hc
        clear HYES HNO
        go_wp2_with fail
        go_region_held3 (fun W => (W.cell? ⟨g, m * 4, none⟩ = some (.int .u64 x.root) ∧ W.cell? ⟨g, m * 4 + 1, none⟩ = some (.int .i64 x.cost) ∧ W.cell? ⟨g, m * 4 + 2, none⟩ = some (.int .u64 x.bridge) ∧ W.cell? ⟨g, m * 4 + 3, none⟩ = some (.int .i64 x.port)) ∧ W.cell? ⟨g, h * 4, none⟩ = some (.int .u64 y.root) ∧ W.cell? ⟨g, h * 4 + 1, none⟩ = some (.int .i64 y.cost) ∧ W.cell? ⟨g, h * 4 + 2, none⟩ = some (.int .u64 y.bridge) ∧ W.cell? ⟨g, h * 4 + 3, none⟩ = some (.int .i64 y.port))
          (first | (exact HCC.out _ (Below.drew HW0.out)) | (exact HCC.out _ (Hid.out (by assumption))))
          (first | (go_at_call 9; refine (HCM.out _ (Below.drew HW0.out)).mono ?_; rintro e w3 ⟨rfl, HB3⟩))
        clear c0 c1 c2 c3 d0 d1' d2 d3
        have HX2 : Hid _ := HLO.out w3 HB3.out
        clear HLO HCC HCM HW0 HB3
        go_wp2_with fail
        exact ⟨⟨h + 1, j, by omega, by omega, uj, by go_num, rfl, HQ2, HX2⟩, by simp [intOf]; omega⟩
    · obtain rfl : i = j := by omega
      have HSO : Hid (Vc.SIn a b (Vc.shR m i f)) := by
        have hm := HM.out
        subst hm
        exact Vc.shR_sorted a i m f HS.out li uj hQ.out.1 hQ.out.2
      have HX : Hid (wr.heap[g]? = some (.cells (rowV n f) 27 (0, 0)) ∧ Below g w wr) := hX
      clear hQ HS hX
      go_wp2_with fail
      go_loopw [17] (fun vk wi => ∃ k : Nat, i ≤ k ∧ k ≤ m ∧ vk = .int .i64 k ∧ Hid (wi.heap[g]? = some (.cells (rowV n (Vc.shR m k f)) 27 (0, 0)) ∧ Vc.Pm a b f (Vc.shR m k f) ∧ Below g w wi)) (fun k _ => (intOf k).toNat)
      case atStart => exact ⟨m, uj, by omega, rfl, by rw [Vc.shR_start]; exact ⟨HX.out.1, Vc.Pm.refl, HX.out.2⟩⟩
      case round =>
        obtain ⟨k, lk, uk, rfl, hY⟩ := hrel
        clear HX
        by_cases hk : i < k
        · obtain ⟨q, hq⟩ : ∃ q, q = k - 1 := ⟨_, rfl⟩
          have wq : IntKind.i64.wrap ((k : Int) - 1) = (q : Int) := by rw [wraps_i64 _ (by omega) (by omega)]; omega
          have ik : (0 : Int) ≤ (k : Int) := by omega
          have iq : (0 : Int) ≤ (q : Int) := by omega
          have nk : (k : Int) < (n : Int) := by omega
          have nq' : (q : Int) < (n : Int) := by omega
          have hk2 : (i : Int) < (k : Int) := by omega
          obtain ⟨c0, c1, c2, c3⟩ := rowV_cells hY.out.1 (show k < n by omega)
          obtain ⟨d0, d1', d2, d3⟩ := rowV_cells hY.out.1 (show q < n by omega)
          obtain ⟨f0, f1, f2, f3⟩ := rowV_free hY.out.1 k
          obtain ⟨e0, e1, e2, e3⟩ := rowV_free hY.out.1 q
          have HFN : Hid _ := swap_fin (F := Vc.shR m q f) hY.out.1 hY.out.2.2 (Nat.le_refl _) (show k < n by omega) (show q < n by omega) (show k ≠ q by omega) (by rw [hq]; exact Vc.shR_step m k f uk (by omega))
          have HPM : Hid (Vc.Pm a b f (Vc.shR m q f)) := by rw [hq, ← Vc.shR_step m k f uk (by omega)]; exact Vc.Pm.swap _ _ ⟨by omega, by omega⟩ ⟨by omega, by omega⟩ hY.out.2.1
          have hne : k * 4 ≠ q * 4 := by omega
          have qi : i ≤ q := by omega
          have kq : q < k := by omega
          generalize Vc.shR m k f = F at *
          generalize F k = x at *
          generalize F q = y at *
          clear hY hq
          go_wp2_with fail
          go_region
          all_goals go_wp2_with fail
          all_goals exact ⟨⟨q, qi, by omega, rfl, HFN.out.1, HPM.out, HFN.out.2⟩, by simp [intOf]; omega⟩
        · obtain rfl : k = i := by omega
          have HF : Hid _ := hY.out
          clear hY
          go_wp2_with fail
          exact bodyPost_ret (results_none Try.results35 _ _ _) rfl ⟨rfl, _, HF.out.1, HF.out.2.1, HSO.out, HF.out.2.2⟩
end Go.Proofs.Ythnklbcaodhbfaa
