/- walks: Go's stable sort: rotate -/
import Derived.Test.YtcbpafpaimpfnaaGreatDoorP15
namespace Go.Proofs.YtcbpafpaimpfnaaGreatDoor
section
open Go.RowKit
open Pl (En)
namespace Es
set_option maxRecDepth 100000 in
set_option maxHeartbeats 4000000 in
theorem smergeB (sp : Array Value) (g n cap a m b : Nat) (f : Nat → En) (w : World) (hA : w.heap[g]? = some (.cells (rowE sp n f) 111 (0, 0))) (hn : n ≤ 4398046511104) (hm : b = m + 1) (h1 : a + 1 < m) (h2 : b ≤ n) (hs : Ec.SIn a m f) :
  Calls Tryz.prog 85 #[.slice (some ⟨g, 0, none⟩) n cap, .int .i64 a, .int .i64 m, .int .i64 b, .func (.func 56) #[] #[]] w fun x w' => x = .returned (.tuple #[]) ∧ ∃ G, w'.heap[g]? = some (.cells (rowE sp n G) 111 (0, 0)) ∧ Ec.Pm a b f G ∧ Ec.SIn a b G ∧ But g w w' := by
 have HA : Hid (w.heap[g]? = some (.cells (rowE sp n f) 111 (0, 0))) := hA
 have HS : Hid (Ec.SIn a m f) := hs
 have HM : Hid (b = m + 1) := hm
 obtain ⟨d, hd⟩ : ∃ d, d = m - a := ⟨_, rfl⟩
 have wd : IntKind.i64.wrap ((m : Int) - (a : Int)) = (d : Int) := by rw [wraps_i64 _ (by omega) (by omega)]; omega
 have d1 : ((d : Int) == 1) = false := by simp; omega
 have wm : IntKind.i64.wrap ((b : Int) - (m : Int)) = 1 := by rw [wraps_i64 _ (by omega) (by omega)]; omega
 have am : a < m := by omega
 have mb : m < b := by omega
 have mn : m < n := by omega
 clear hA hs hm hd
 go_enter Tryz.func85, Tryz.ntmps85
 go_wp2_with fail
 go_loopw [14, 15] (fun x y wr => ∃ i j : Nat, a ≤ i ∧ i ≤ j ∧ j ≤ m ∧ x = .int .i64 i ∧ y = .int .i64 j ∧ Hid ((∀ q, a ≤ q → q < i → ¬ Ec.lt (f m) (f q)) ∧ ∀ q, j ≤ q → q < m → Ec.lt (f m) (f q)) ∧ Hid (wr.heap[g]? = some (.cells (rowE sp n f) 111 (0, 0)) ∧ But g w wr)) (fun x y _ => (intOf y - intOf x).toNat)
 case atStart => exact ⟨a, m, by omega, by omega, by omega, rfl, rfl, ⟨fun q q1 q2 => by omega, fun q q1 q2 => by omega⟩, HA.out, But.refl _ _⟩
 case round =>
  obtain ⟨i, j, li, lij, uj, rfl, rfl, hQ, hX⟩ := hrel
  clear HA
  by_cases hlt : i < j
  ·obtain ⟨h, hh⟩ : ∃ h, h = (i + j) / 2 := ⟨_, rfl⟩
   have eh : ((i : Int) + (j : Int)) / 2 = (h : Int) := by omega
   have l1 : i ≤ h := by omega
   have l2 : h < j := by omega
   clear hh
   have hlt2 : (i : Int) < (j : Int) := by omega
   have ia : (0 : Int) ≤ (m : Int) := by omega
   have ih : (0 : Int) ≤ (h : Int) := by omega
   have na : (m : Int) < (n : Int) := by omega
   have nh : (h : Int) < (n : Int) := by omega
   have HCC : Hid (∀ W, Below wr.heap.size wr W → _) := two_cells hX.out.1 (show m < n by omega) (show h < n by omega)
   have HLO : Hid (∀ W, Below wr.heap.size wr W → W.heap[g]? = some (.cells (rowE sp n f) 111 (0, 0)) ∧ But g w W) := row_stay hX.out.1 hX.out.2
   have HW0 : Hid (Below wr.heap.size wr wr) := Below.refl _ _
   have HCM : Hid (∀ W, Below wr.heap.size wr W → Calls Tryz.prog 56 #[.agg #[.int .i64 (f m).port, .int .i64 (f m).cost, .int .i64 (f m).other, .int .i64 (f m).oport, .bool (f m).live], .agg #[.int .i64 (f h).port, .int .i64 (f h).cost, .int .i64 (f h).other, .int .i64 (f h).oport, .bool (f h).live]] W fun e w' => e = .returned (.int .i64 (Ec.cmp (f m) (f h))) ∧ Hid (Below wr.heap.size wr w')) := fun W hW => cmp_say (f m) (f h) wr W hW
   have HYES : Hid (Ec.cmp (f m) (f h) < 0 → (∀ q, a ≤ q → q < i → ¬ Ec.lt (f m) (f q)) ∧ ∀ q, h ≤ q → q < m → Ec.lt (f m) (f q)) := fun c => by
    have c' := Ec.cmp_lt.1 c
    refine ⟨hQ.out.1, fun q q1 q2 => ?_⟩
    by_cases e : q = h
    ·subst e; exact c'
    ·exact lt_of_lt_le c' (HS.out h q (by omega) (by omega) q2)
   have HNO : Hid (¬ Ec.cmp (f m) (f h) < 0 → (∀ q, a ≤ q → q < h + 1 → ¬ Ec.lt (f m) (f q)) ∧ ∀ q, j ≤ q → q < m → Ec.lt (f m) (f q)) := fun c => by
    have c' : ¬ Ec.lt (f m) (f h) := fun q => c (Ec.cmp_lt.2 q)
    refine ⟨fun q q1 q2 => ?_, hQ.out.2⟩
    by_cases e : q = h
    ·subst e; exact c'
    ·exact Ec.not_lt_trans (HS.out q h q1 (by omega) (by omega)) c'
   obtain ⟨⟨c0, c1, c2, c3, c4⟩, d0, d1', d2, d3, d4⟩ := HCC.out wr HW0.out
   obtain ⟨CV, hCV⟩ : ∃ CV, Ec.cmp (f m) (f h) = CV := ⟨_, rfl⟩
   rw [hCV] at HCM HYES HNO
   clear hCV hQ hX HS
   obtain ⟨x, hx⟩ : ∃ x, f m = x := ⟨_, rfl⟩
   obtain ⟨y, hy⟩ : ∃ y, f h = y := ⟨_, rfl⟩
   rw [hx, hy] at HCC HCM
   rw [hx] at c0 c1 c2 c3 c4
   rw [hy] at d0 d1' d2 d3 d4
   clear hx hy
   by_cases hc : CV < 0
   ·have HQ2 := HYES.out (by omega)
    have hc2 : decide (CV < 0) = true := decide_eq_true hc
    clear HYES HNO
    go_wp2_with fail
    go_region_held3 (fun W => (W.cell? ⟨g, m * 5, none⟩ = some (.int .i64 x.port) ∧ W.cell? ⟨g, m * 5 + 1, none⟩ = some (.int .i64 x.cost) ∧ W.cell? ⟨g, m * 5 + 2, none⟩ = some (.int .i64 x.other) ∧ W.cell? ⟨g, m * 5 + 3, none⟩ = some (.int .i64 x.oport) ∧ W.cell? ⟨g, m * 5 + 4, none⟩ = some (.bool x.live)) ∧ W.cell? ⟨g, h * 5, none⟩ = some (.int .i64 y.port) ∧ W.cell? ⟨g, h * 5 + 1, none⟩ = some (.int .i64 y.cost) ∧ W.cell? ⟨g, h * 5 + 2, none⟩ = some (.int .i64 y.other) ∧ W.cell? ⟨g, h * 5 + 3, none⟩ = some (.int .i64 y.oport) ∧ W.cell? ⟨g, h * 5 + 4, none⟩ = some (.bool y.live))
     (first | (exact HCC.out _ (Below.drew HW0.out)) | (exact HCC.out _ (Hid.out (by assumption))))
     (first | (go_at_call 56; refine (HCM.out _ (Below.drew HW0.out)).mono ?_; rintro e w3 ⟨rfl, HB3⟩))
    clear c0 c1 c2 c3 c4 d0 d1' d2 d3 d4
    have HX2 : Hid _ := HLO.out w3 HB3.out
    clear HLO HCC HCM HW0 HB3
    go_wp2_with fail
    exact ⟨⟨i, h, li, l1, by omega, rfl, rfl, HQ2, HX2⟩, by simp [intOf]; omega⟩
   ·have HQ2 := HNO.out (by omega)
    have hc2 : decide (CV < 0) = false := decide_eq_false hc
    clear HYES HNO
    go_wp2_with fail
    go_region_held3 (fun W => (W.cell? ⟨g, m * 5, none⟩ = some (.int .i64 x.port) ∧ W.cell? ⟨g, m * 5 + 1, none⟩ = some (.int .i64 x.cost) ∧ W.cell? ⟨g, m * 5 + 2, none⟩ = some (.int .i64 x.other) ∧ W.cell? ⟨g, m * 5 + 3, none⟩ = some (.int .i64 x.oport) ∧ W.cell? ⟨g, m * 5 + 4, none⟩ = some (.bool x.live)) ∧ W.cell? ⟨g, h * 5, none⟩ = some (.int .i64 y.port) ∧ W.cell? ⟨g, h * 5 + 1, none⟩ = some (.int .i64 y.cost) ∧ W.cell? ⟨g, h * 5 + 2, none⟩ = some (.int .i64 y.other) ∧ W.cell? ⟨g, h * 5 + 3, none⟩ = some (.int .i64 y.oport) ∧ W.cell? ⟨g, h * 5 + 4, none⟩ = some (.bool y.live))
     (first | (exact HCC.out _ (Below.drew HW0.out)) | (exact HCC.out _ (Hid.out (by assumption))))
     (first | (go_at_call 56; refine (HCM.out _ (Below.drew HW0.out)).mono ?_; rintro e w3 ⟨rfl, HB3⟩))
    clear c0 c1 c2 c3 c4 d0 d1' d2 d3 d4
    have HX2 : Hid _ := HLO.out w3 HB3.out
    clear HLO HCC HCM HW0 HB3
    go_wp2_with fail
    exact ⟨⟨h + 1, j, by omega, by omega, uj, by go_num, rfl, HQ2, HX2⟩, by simp [intOf]; omega⟩
  ·obtain rfl : i = j := by omega
   have HSO : Hid (Ec.SIn a b (Ec.shR m i f)) := by
    have hm := HM.out
    subst hm
    exact Ec.shR_sorted a i m f HS.out li uj hQ.out.1 hQ.out.2
   have HX : Hid (wr.heap[g]? = some (.cells (rowE sp n f) 111 (0, 0)) ∧ But g w wr) := hX
   clear hQ HS hX
   go_wp2_with fail
   go_loopw [17] (fun vk wi => ∃ k : Nat, i ≤ k ∧ k ≤ m ∧ vk = .int .i64 k ∧ Hid (wi.heap[g]? = some (.cells (rowE sp n (Ec.shR m k f)) 111 (0, 0)) ∧ Ec.Pm a b f (Ec.shR m k f) ∧ But g w wi)) (fun k _ => (intOf k).toNat)
   case atStart => exact ⟨m, uj, by omega, rfl, by rw [Ec.shR_start]; exact ⟨HX.out.1, Ec.Pm.refl, HX.out.2⟩⟩
   case round =>
    obtain ⟨k, lk, uk, rfl, hY⟩ := hrel
    clear HX
    by_cases hk : i < k
    ·obtain ⟨q, hq⟩ : ∃ q, q = k - 1 := ⟨_, rfl⟩
     have wq : IntKind.i64.wrap ((k : Int) - 1) = (q : Int) := by rw [wraps_i64 _ (by omega) (by omega)]; omega
     have ik : (0 : Int) ≤ (k : Int) := by omega
     have iq : (0 : Int) ≤ (q : Int) := by omega
     have nk : (k : Int) < (n : Int) := by omega
     have nq' : (q : Int) < (n : Int) := by omega
     have hk2 : (i : Int) < (k : Int) := by omega
     obtain ⟨c0, c1, c2, c3, c4⟩ := rowE_cells hY.out.1 (show k < n by omega)
     obtain ⟨d0, d1', d2, d3, d4⟩ := rowE_cells hY.out.1 (show q < n by omega)
     obtain ⟨f0, f1, f2, f3, f4⟩ := rowE_free hY.out.1 k
     obtain ⟨e0, e1, e2, e3, e4⟩ := rowE_free hY.out.1 q
     have HFN : Hid _ := swap_fin (F := Ec.shR m q f) hY.out.1 hY.out.2.2 (Nat.le_refl _) (show k < n by omega) (show q < n by omega) (show k ≠ q by omega) (by rw [hq]; exact Ec.shR_step m k f uk (by omega))
     have HPM : Hid (Ec.Pm a b f (Ec.shR m q f)) := by rw [hq, ← Ec.shR_step m k f uk (by omega)]; exact Ec.Pm.swap _ _ ⟨by omega, by omega⟩ ⟨by omega, by omega⟩ hY.out.2.1
     have hne : k * 5 ≠ q * 5 := by omega
     have qi : i ≤ q := by omega
     have kq : q < k := by omega
     generalize Ec.shR m k f = F at *
     generalize F k = x at *
     generalize F q = y at *
     clear hY hq
     go_wp2_with fail
     go_region
     all_goals go_wp2_with fail
     all_goals exact ⟨⟨q, qi, by omega, rfl, HFN.out.1, HPM.out, HFN.out.2⟩, by simp [intOf]; omega⟩
    ·obtain rfl : k = i := by omega
     have HF : Hid _ := hY.out
     clear hY
     go_wp2_with fail
     exact bodyPost_ret (results_none Tryz.results85 _ _ _) rfl ⟨rfl, _, HF.out.1, HF.out.2.1, HSO.out, HF.out.2.2⟩
end Es
namespace Es
set_option maxRecDepth 100000 in
set_option maxHeartbeats 4000000 in
theorem sswapRange_any (sp : Array Value) (g n cap a b c : Nat) (f : Nat → En) (cv : Value) (w : World) (hA : w.heap[g]? = some (.cells (rowE sp n f) 111 (0, 0))) (hn : n ≤ 4398046511104) (h1 : a + c ≤ b) (h2 : b + c ≤ n) :
  Calls Tryz.prog 123 #[.slice (some ⟨g, 0, none⟩) n cap, .int .i64 a, .int .i64 b, .int .i64 c, cv] w fun e w' => e = .returned (.tuple #[]) ∧ w'.heap[g]? = some (.cells (rowE sp n (Ec.swr a b c f)) 111 (0, 0)) ∧ But g w w' := by
 have HA : Hid (w.heap[g]? = some (.cells (rowE sp n f) 111 (0, 0))) := hA
 clear hA
 go_enter Tryz.func123, Tryz.ntmps123
 go_wp2_with fail
 go_loopw [10] (fun i wr => ∃ k : Nat, k ≤ c ∧ i = .int .i64 k ∧ Hid (wr.heap[g]? = some (.cells (rowE sp n (Ec.swr a b k f)) 111 (0, 0)) ∧ But g w wr)) (fun i _ => c - (intOf i).toNat)
 case atStart => exact ⟨0, by omega, rfl, by rw [Ec.swr_zero]; exact HA.out, But.refl _ _⟩
 case round =>
  obtain ⟨k, hk, rfl, hX⟩ := hrel
  by_cases hlt : k < c
  ·obtain ⟨i, hi⟩ : ∃ i, i = a + k := ⟨_, rfl⟩
   obtain ⟨j, hj⟩ : ∃ j, j = b + k := ⟨_, rfl⟩
   have wi : IntKind.i64.wrap ((a : Int) + (k : Int)) = (i : Int) := by rw [wraps_i64 _ (by omega) (by omega)]; omega
   have wj : IntKind.i64.wrap ((b : Int) + (k : Int)) = (j : Int) := by rw [wraps_i64 _ (by omega) (by omega)]; omega
   have ii : (0 : Int) ≤ (i : Int) := by omega
   have ij : (0 : Int) ≤ (j : Int) := by omega
   have ni : (i : Int) < (n : Int) := by omega
   have nj : (j : Int) < (n : Int) := by omega
   obtain ⟨c0, c1, c2, c3, c4⟩ := rowE_cells hX.out.1 (show i < n by omega)
   obtain ⟨d0, d1, d2, d3, d4⟩ := rowE_cells hX.out.1 (show j < n by omega)
   obtain ⟨f0, f1, f2, f3, f4⟩ := rowE_free hX.out.1 i
   obtain ⟨e0, e1, e2, e3, e4⟩ := rowE_free hX.out.1 j
   have HFN : Hid _ := swap_fin (F := Ec.swr a b (k + 1) f) hX.out.1 hX.out.2 (Nat.le_refl _) (show i < n by omega) (show j < n by omega) (show i ≠ j by omega) (by rw [hi, hj]; exact Ec.swr_step a b k f (by omega))
   generalize Ec.swr a b k f = F at *
   generalize F i = x at *
   generalize F j = y at *
   have hne : i * 5 ≠ j * 5 := by omega
   clear hX HA hi hj
   go_wp2_with fail
   go_region
   all_goals go_wp2_with fail
   all_goals exact ⟨⟨k + 1, by omega, by go_num, HFN⟩, by simp [intOf]; omega⟩
  ·obtain rfl : k = c := by omega
   go_wp2_with fail
   exact bodyPost_end (results_none Tryz.results123 _ _ _) rfl ⟨rfl, hX.out⟩
end Es
namespace Es
set_option maxRecDepth 100000 in
set_option maxHeartbeats 4000000 in
theorem srotate_any (sp : Array Value) (g n cap s m e : Nat) (f : Nat → En) (cv : Value) (w : World) (hA : w.heap[g]? = some (.cells (rowE sp n f) 111 (0, 0))) (hn : n ≤ 4398046511104) (h1 : s < m) (h2 : m < e) (h3 : e ≤ n) :
  Calls Tryz.prog 106 #[.slice (some ⟨g, 0, none⟩) n cap, .int .i64 s, .int .i64 m, .int .i64 e, cv] w fun x w' => x = .returned (.tuple #[]) ∧ w'.heap[g]? = some (.cells (rowE sp n (Ec.rot s m e f)) 111 (0, 0)) ∧ Ec.Pm s e f (Ec.rot s m e f) ∧ But g w w' := by
 have HA : Hid (w.heap[g]? = some (.cells (rowE sp n f) 111 (0, 0))) := hA
 have HSW : Hid (∀ (a b c : Nat) (A B C : Int) (G : Nat → En) (W : World), A = a → B = b → C = c → W.heap[g]? = some (.cells (rowE sp n G) 111 (0, 0)) → a + c ≤ b → b + c ≤ n → Calls Tryz.prog 123 #[.slice (some ⟨g, 0, none⟩) n cap, .int .i64 A, .int .i64 B, .int .i64 C, cv] W fun e w' => e = .returned (.tuple #[]) ∧ w'.heap[g]? = some (.cells (rowE sp n (Ec.swr a b c G)) 111 (0, 0)) ∧ But g W w') := fun a b c A B C G W eA eB eC hW q1 q2 => by
  subst eA; subst eB; subst eC
  exact sswapRange_any sp g n cap a b c G cv W hW hn q1 q2
 have hi0 : IntKind.i64.wrap ((m : Int) - (s : Int)) = ((m - s : Nat) : Int) := by rw [wraps_i64 _ (by omega) (by omega)]; omega
 have hj0 : IntKind.i64.wrap ((e : Int) - (m : Int)) = ((e - m : Nat) : Int) := by rw [wraps_i64 _ (by omega) (by omega)]; omega
 clear hA
 go_enter Tryz.func106, Tryz.ntmps106
 go_wp2_with fail
 go_loopw [10, 11] (fun vi vj wr => ∃ i j : Nat, 0 < i ∧ 0 < j ∧ i + s ≤ m ∧ j + m ≤ e ∧ vi = .int .i64 i ∧ vj = .int .i64 j ∧ Hid (∃ G, wr.heap[g]? = some (.cells (rowE sp n G) 111 (0, 0)) ∧ Ec.Pm s e f G ∧ Ec.rot (m - i) m (m + j) G = Ec.rot s m e f ∧ But g w wr)) (fun i j _ => (intOf i).toNat + (intOf j).toNat)
 case atStart => exact ⟨m - s, e - m, by omega, by omega, by omega, by omega, by first | rfl | (congr 1; omega), by first | rfl | (congr 1; omega), f, HA.out, Ec.Pm.refl, by rw [show m - (m - s) = s by omega, show m + (e - m) = e by omega], But.refl _ _⟩
 case round =>
  obtain ⟨i, j, pi, pj, li, lj, rfl, rfl, hX⟩ := hrel
  obtain ⟨G, hG, hP, hR, hB⟩ := hX.out
  have HG : Hid (wr.heap[g]? = some (.cells (rowE sp n G) 111 (0, 0))) := hG
  have HP : Hid (Ec.Pm s e f G) := hP
  have HR : Hid (Ec.rot (m - i) m (m + j) G = Ec.rot s m e f) := hR
  have HB : Hid (But g w wr) := hB
  clear hX hG hP hR hB HA hi0 hj0
  by_cases q : i = j
  ·subst q
   have HC : Hid (Calls Tryz.prog 123 #[.slice (some ⟨g, 0, none⟩) n cap, .int .i64 ((m : Int) - (i : Int)), .int .i64 (m : Int), .int .i64 (i : Int), cv] wr fun e w' => e = .returned (.tuple #[]) ∧ w'.heap[g]? = some (.cells (rowE sp n (Ec.swr (m - i) m i G)) 111 (0, 0)) ∧ But g wr w') := HSW.out (m - i) m i _ _ _ G wr (by omega) rfl rfl HG.out (by omega) (by omega)
   clear HSW
   go_wp2_with fail
   refine HC.out.mono ?_
   rintro x w1 ⟨rfl, k1, k2⟩
   have HF : Hid (w1.heap[g]? = some (.cells (rowE sp n (Ec.rot s m e f)) 111 (0, 0)) ∧ Ec.Pm s e f (Ec.rot s m e f) ∧ But g w w1) := by
    have e1 := Ec.rot_same m i G (by omega)
    rw [HR.out] at e1
    rw [e1] at k1
    refine ⟨k1, ?_, HB.out.trans k2⟩
    have := HP.out.trans ((Ec.swr_pm (m - i) m G i (by omega)).mono (c := s) (d := e) (by omega) (by omega))
    rw [e1] at this
    exact this
   clear k1 k2
   go_wp2_with fail
   exact bodyPost_end (results_none Tryz.results106 _ _ _) rfl ⟨rfl, HF.out⟩
  ·have dq : ((i : Int) != (j : Int)) = true := by simp; omega
   have dn : ¬ ((i : Int) = (j : Int)) := by omega
   by_cases r : j < i
   ·have HC : Hid (Calls Tryz.prog 123 #[.slice (some ⟨g, 0, none⟩) n cap, .int .i64 ((m : Int) - (i : Int)), .int .i64 (m : Int), .int .i64 (j : Int), cv] wr fun e w' => e = .returned (.tuple #[]) ∧ w'.heap[g]? = some (.cells (rowE sp n (Ec.swr (m - i) m j G)) 111 (0, 0)) ∧ But g wr w') := HSW.out (m - i) m j _ _ _ G wr (by omega) rfl rfl HG.out (by omega) (by omega)
    have ri : (j : Int) < (i : Int) := by omega
    clear HSW
    go_wp2_with fail
    refine HC.out.mono ?_
    rintro x w1 ⟨rfl, k1, k2⟩
    have HF : Hid (∃ G, w1.heap[g]? = some (.cells (rowE sp n G) 111 (0, 0)) ∧ Ec.Pm s e f G ∧ Ec.rot (m - (i - j)) m (m + j) G = Ec.rot s m e f ∧ But g w w1) :=
     ⟨_, k1, HP.out.trans ((Ec.swr_pm (m - i) m G j (by omega)).mono (by omega) (by omega)), (Ec.rot_more m i j G (by omega) pj r).trans HR.out, HB.out.trans k2⟩
    clear k1 k2
    go_wp2_with fail
    exact ⟨⟨i - j, j, by omega, pj, by omega, lj, by congr 1; omega, rfl, HF⟩, by simp [intOf]; omega⟩
   ·have HC : Hid (Calls Tryz.prog 123 #[.slice (some ⟨g, 0, none⟩) n cap, .int .i64 ((m : Int) - (i : Int)), .int .i64 ((m : Int) + (j : Int) - (i : Int)), .int .i64 (i : Int), cv] wr fun e w' => e = .returned (.tuple #[]) ∧ w'.heap[g]? = some (.cells (rowE sp n (Ec.swr (m - i) (m + j - i) i G)) 111 (0, 0)) ∧ But g wr w') := HSW.out (m - i) (m + j - i) i _ _ _ G wr (by omega) (by omega) rfl HG.out (by omega) (by omega)
    have ri : (i : Int) < (j : Int) := by omega
    clear HSW
    go_wp2_with fail
    refine HC.out.mono ?_
    rintro x w1 ⟨rfl, k1, k2⟩
    have HF : Hid (∃ G, w1.heap[g]? = some (.cells (rowE sp n G) 111 (0, 0)) ∧ Ec.Pm s e f G ∧ Ec.rot (m - i) m (m + (j - i)) G = Ec.rot s m e f ∧ But g w w1) :=
     ⟨_, k1, HP.out.trans ((Ec.swr_pm (m - i) (m + j - i) G i (by omega)).mono (by omega) (by omega)), (Ec.rot_less m i j G (by omega) pi (by omega)).trans HR.out, HB.out.trans k2⟩
    clear k1 k2
    go_wp2_with fail
    exact ⟨⟨i, j - i, pi, by omega, li, by omega, rfl, by congr 1; omega, HF⟩, by simp [intOf]; omega⟩
end Es
end
end Go.Proofs.YtcbpafpaimpfnaaGreatDoor
