/- walks: Go's stable sort: symMerge, where the left part is one -/
import Derived.Test.YthnklbcaodhbfaaVS3
namespace Go.Proofs.Ythnklbcaodhbfaa
open Go.RowKit
open Vc (V Of)

theorem lt_of_le_lt {x y z : V} (h : ¬ Vc.lt y x) (k : Vc.lt y z) : Vc.lt x z := by
  rcases Vc.lt_total x y with e | e | e
  · exact Vc.lt_trans e k
  · subst e; exact k
  · exact absurd e h
theorem lt_of_lt_le {x y z : V} (h : Vc.lt x y) (k : ¬ Vc.lt z y) : Vc.lt x z := by
  rcases Vc.lt_total y z with e | e | e
  · exact Vc.lt_trans h e
  · subst e; exact h
  · exact absurd e k
/-- The cells of two vectors of a row, wherever it stands as it did. -/
theorem two_cells {X : World} {g n : Nat} {G : Nat → V} {ty : TypeId} (hG : X.heap[g]? = some (.cells (rowV n G) ty (0, 0))) {i j : Nat} (hi : i < n) (hj : j < n) (W : World) (hW : Below X.heap.size X W) :
    (W.cell? ⟨g, i * 4, none⟩ = some (.int .u64 (G i).root) ∧ W.cell? ⟨g, i * 4 + 1, none⟩ = some (.int .i64 (G i).cost) ∧ W.cell? ⟨g, i * 4 + 2, none⟩ = some (.int .u64 (G i).bridge) ∧ W.cell? ⟨g, i * 4 + 3, none⟩ = some (.int .i64 (G i).port)) ∧ W.cell? ⟨g, j * 4, none⟩ = some (.int .u64 (G j).root) ∧ W.cell? ⟨g, j * 4 + 1, none⟩ = some (.int .i64 (G j).cost) ∧ W.cell? ⟨g, j * 4 + 2, none⟩ = some (.int .u64 (G j).bridge) ∧ W.cell? ⟨g, j * 4 + 3, none⟩ = some (.int .i64 (G j).port) :=
  ⟨rowV_cells (keep hG hW) hi, rowV_cells (keep hG hW) hj⟩
theorem row_stay {X w : World} {g n : Nat} {G : Nat → V} {ty : TypeId} (hG : X.heap[g]? = some (.cells (rowV n G) ty (0, 0))) (hB : Below g w X) (W : World) (hW : Below X.heap.size X W) : W.heap[g]? = some (.cells (rowV n G) ty (0, 0)) ∧ Below g w W :=
  ⟨keep hG hW, hB.trans (hW.mono (Nat.le_of_lt (Array.getElem?_eq_some_iff.1 hG).1))⟩
set_option maxRecDepth 100000 in
set_option maxHeartbeats 4000000 in
theorem smergeA (g n cap a m b : Nat) (f : Nat → V) (w : World) (hA : w.heap[g]? = some (.cells (rowV n f) 27 (0, 0))) (hn : n ≤ 4398046511104) (hm : m = a + 1) (h1 : m < b) (h2 : b ≤ n) (hs : Vc.SIn m b f) :
    Calls Try.prog 35 #[.slice (some ⟨g, 0, none⟩) n cap, .int .i64 a, .int .i64 m, .int .i64 b, .func (.func 9) #[] #[]] w fun x w' => x = .returned (.tuple #[]) ∧ ∃ G, w'.heap[g]? = some (.cells (rowV n G) 27 (0, 0)) ∧ Vc.Pm a b f G ∧ Vc.SIn a b G ∧ Below g w w' := by
  have HA : Hid (w.heap[g]? = some (.cells (rowV n f) 27 (0, 0))) := hA
  have HS : Hid (Vc.SIn m b f) := hs
  have HM : Hid (m = a + 1) := hm
  have wm : IntKind.i64.wrap ((m : Int) - (a : Int)) = 1 := by rw [wraps_i64 _ (by omega) (by omega)]; omega
  have am : a < m := by omega
  clear hA hs hm
  go_enter Try.func35, Try.ntmps35
  go_wp2_with fail
  go_loopw [10, 11] (fun x y wr => ∃ i j : Nat, m ≤ i ∧ i ≤ j ∧ j ≤ b ∧ x = .int .i64 i ∧ y = .int .i64 j ∧ Hid ((∀ q, m ≤ q → q < i → Vc.lt (f q) (f a)) ∧ ∀ q, j ≤ q → q < b → ¬ Vc.lt (f q) (f a)) ∧ Hid (wr.heap[g]? = some (.cells (rowV n f) 27 (0, 0)) ∧ Below g w wr)) (fun x y _ => (intOf y - intOf x).toNat)
  case atStart => exact ⟨m, b, by omega, by omega, by omega, rfl, rfl, ⟨fun q q1 q2 => by omega, fun q q1 q2 => by omega⟩, HA.out, Below.refl _ _⟩
  case round =>
    obtain ⟨i, j, li, lij, uj, rfl, rfl, hQ, hX⟩ := hrel
    clear HA
    by_cases hlt : i < j
    · obtain ⟨h, hh⟩ : ∃ h, h = (i + j) / 2 := ⟨_, rfl⟩
      have eh : ((i : Int) + (j : Int)) / 2 = (h : Int) := by omega
      have l1 : i ≤ h := by omega
      have l2 : h < j := by omega
      clear hh
      have hlt2 : (i : Int) < (j : Int) := by omega
      have ia : (0 : Int) ≤ (a : Int) := by omega
      have ih : (0 : Int) ≤ (h : Int) := by omega
      have na : (a : Int) < (n : Int) := by omega
      have nh : (h : Int) < (n : Int) := by omega
      have HCC : Hid (∀ W, Below wr.heap.size wr W → _) := two_cells hX.out.1 (show h < n by omega) (show a < n by omega)
      have HLO : Hid (∀ W, Below wr.heap.size wr W → W.heap[g]? = some (.cells (rowV n f) 27 (0, 0)) ∧ Below g w W) := row_stay hX.out.1 hX.out.2
      have HW0 : Hid (Below wr.heap.size wr wr) := Below.refl _ _
      have HCM : Hid (∀ W, Below wr.heap.size wr W → Calls Try.prog 9 #[.agg #[.int .u64 (f h).root, .int .i64 (f h).cost, .int .u64 (f h).bridge, .int .i64 (f h).port], .agg #[.int .u64 (f a).root, .int .i64 (f a).cost, .int .u64 (f a).bridge, .int .i64 (f a).port]] W fun e w' => e = .returned (.int .i64 (Vc.cmp (f h) (f a))) ∧ Hid (Below wr.heap.size wr w')) := fun W hW => cmp_say (f h) (f a) wr W hW
      have HYES : Hid (Vc.cmp (f h) (f a) < 0 → (∀ q, m ≤ q → q < h + 1 → Vc.lt (f q) (f a)) ∧ ∀ q, j ≤ q → q < b → ¬ Vc.lt (f q) (f a)) := fun c => by
        have c' := Vc.cmp_lt.1 c
        refine ⟨fun q q1 q2 => ?_, hQ.out.2⟩
        by_cases e : q = h
        · subst e; exact c'
        · exact lt_of_le_lt (HS.out q h q1 (by omega) (by omega)) c'
      have HNO : Hid (¬ Vc.cmp (f h) (f a) < 0 → (∀ q, m ≤ q → q < i → Vc.lt (f q) (f a)) ∧ ∀ q, h ≤ q → q < b → ¬ Vc.lt (f q) (f a)) := fun c => by
        have c' : ¬ Vc.lt (f h) (f a) := fun q => c (Vc.cmp_lt.2 q)
        refine ⟨hQ.out.1, fun q q1 q2 => ?_⟩
        by_cases e : q = h
        · subst e; exact c'
        · exact Vc.not_lt_trans c' (HS.out h q (by omega) (by omega) q2)
      obtain ⟨⟨c0, c1, c2, c3⟩, d0, d1, d2, d3⟩ := HCC.out wr HW0.out
      obtain ⟨CV, hCV⟩ : ∃ CV, Vc.cmp (f h) (f a) = CV := ⟨_, rfl⟩
      rw [hCV] at HCM HYES HNO
      clear hCV hQ hX HS
      obtain ⟨x, hx⟩ : ∃ x, f h = x := ⟨_, rfl⟩
      obtain ⟨y, hy⟩ : ∃ y, f a = y := ⟨_, rfl⟩
      rw [hx, hy] at HCC HCM
      rw [hx] at c0 c1 c2 c3
      rw [hy] at d0 d1 d2 d3
      clear hx hy
      go_wp2_with fail
      go_region_held3 (fun W => (W.cell? ⟨g, h * 4, none⟩ = some (.int .u64 x.root) ∧ W.cell? ⟨g, h * 4 + 1, none⟩ = some (.int .i64 x.cost) ∧ W.cell? ⟨g, h * 4 + 2, none⟩ = some (.int .u64 x.bridge) ∧ W.cell? ⟨g, h * 4 + 3, none⟩ = some (.int .i64 x.port)) ∧ W.cell? ⟨g, a * 4, none⟩ = some (.int .u64 y.root) ∧ W.cell? ⟨g, a * 4 + 1, none⟩ = some (.int .i64 y.cost) ∧ W.cell? ⟨g, a * 4 + 2, none⟩ = some (.int .u64 y.bridge) ∧ W.cell? ⟨g, a * 4 + 3, none⟩ = some (.int .i64 y.port))
        (first | (exact HCC.out _ (Below.drew HW0.out)) | (exact HCC.out _ (Hid.out (by assumption))))
        (first | (go_at_call 9; refine (HCM.out _ (Below.drew HW0.out)).mono ?_; rintro e w3 ⟨rfl, HB3⟩))
      clear c0 c1 c2 c3 d0 d1 d2 d3
      by_cases hc : CV < 0
      · have HQ2 := HYES.out (by omega)
        have HX2 : Hid _ := HLO.out w3 HB3.out
        clear HYES HNO HLO HCC HCM HW0 HB3
        go_wp2_with fail
        exact ⟨⟨h + 1, j, by omega, by omega, uj, by go_num, rfl, HQ2, HX2⟩, by simp [intOf]; omega⟩
      · have HQ2 := HNO.out (by omega)
        have HX2 : Hid _ := HLO.out w3 HB3.out
        have hc2 : decide (CV < 0) = false := decide_eq_false hc
        clear HYES HNO HLO HCC HCM HW0 HB3
        go_wp2_with fail
        exact ⟨⟨i, h, li, l1, by omega, rfl, rfl, HQ2, HX2⟩, by simp [intOf]; omega⟩
    · obtain rfl : i = j := by omega
      obtain ⟨p, hp⟩ : ∃ p, p = i - 1 := ⟨_, rfl⟩
      have wp : IntKind.i64.wrap ((i : Int) - 1) = (p : Int) := by rw [wraps_i64 _ (by omega) (by omega)]; omega
      have HSO : Hid (Vc.SIn a b (Vc.shL a p f)) := by
        have hm := HM.out
        subst hm
        subst hp
        exact Vc.shL_sorted a i b f HS.out li uj hQ.out.1 hQ.out.2
      have pb : p < b := by omega
      have ap : a ≤ p := by omega
      have HX : Hid (wr.heap[g]? = some (.cells (rowV n f) 27 (0, 0)) ∧ Below g w wr) := hX
      clear hp hQ HS hX
      go_wp2_with fail
      go_loopw [13] (fun vk wi => ∃ k : Nat, a ≤ k ∧ k ≤ p ∧ vk = .int .i64 k ∧ Hid (wi.heap[g]? = some (.cells (rowV n (Vc.shL a k f)) 27 (0, 0)) ∧ Vc.Pm a b f (Vc.shL a k f) ∧ Below g w wi)) (fun k _ => p - (intOf k).toNat)
      case atStart => exact ⟨a, by omega, ap, rfl, by rw [Vc.shL_start]; exact ⟨HX.out.1, Vc.Pm.refl, HX.out.2⟩⟩
      case round =>
        obtain ⟨k, lk, uk, rfl, hY⟩ := hrel
        clear HX
        by_cases hk : k < p
        · obtain ⟨q, hq⟩ : ∃ q, q = k + 1 := ⟨_, rfl⟩
          have wq : IntKind.i64.wrap ((k : Int) + 1) = (q : Int) := by rw [wraps_i64 _ (by omega) (by omega)]; omega
          have ik : (0 : Int) ≤ (k : Int) := by omega
          have iq : (0 : Int) ≤ (q : Int) := by omega
          have nk : (k : Int) < (n : Int) := by omega
          have nq' : (q : Int) < (n : Int) := by omega
          have hk2 : (k : Int) < (p : Int) := by omega
          obtain ⟨c0, c1, c2, c3⟩ := rowV_cells hY.out.1 (show k < n by omega)
          obtain ⟨d0, d1, d2, d3⟩ := rowV_cells hY.out.1 (show q < n by omega)
          obtain ⟨f0, f1, f2, f3⟩ := rowV_free hY.out.1 k
          obtain ⟨e0, e1, e2, e3⟩ := rowV_free hY.out.1 q
          have HFN : Hid _ := swap_fin (F := Vc.shL a q f) hY.out.1 hY.out.2.2 (Nat.le_refl _) (show k < n by omega) (show q < n by omega) (show k ≠ q by omega) (by rw [hq]; exact Vc.shL_step a k f lk)
          have HPM : Hid (Vc.Pm a b f (Vc.shL a q f)) := by rw [hq, ← Vc.shL_step a k f lk]; exact Vc.Pm.swap _ _ ⟨by omega, by omega⟩ ⟨by omega, by omega⟩ hY.out.2.1
          have hne : k * 4 ≠ q * 4 := by omega
          have qp : q ≤ p := by omega
          have kq : k < q := by omega
          generalize Vc.shL a k f = F at *
          generalize F k = x at *
          generalize F q = y at *
          clear hY hq
          go_wp2_with fail
          go_region
          all_goals go_wp2_with fail
          all_goals exact ⟨⟨q, by omega, qp, rfl, HFN.out.1, HPM.out, HFN.out.2⟩, by simp [intOf]; omega⟩
        · obtain rfl : k = p := by omega
          have HF : Hid _ := hY.out
          clear hY
          go_wp2_with fail
          exact bodyPost_ret (results_none Try.results35 _ _ _) rfl ⟨rfl, _, HF.out.1, HF.out.2.1, HSO.out, HF.out.2.2⟩
end Go.Proofs.Ythnklbcaodhbfaa
