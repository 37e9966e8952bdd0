/- walks: package plan's firstWrong at links; wrongBridges, wrongLinks -/
import Derived.Test.YtcbpafpaimpfnaaGreatDoorP09
import Derived.Laws.EntriesVeiled
namespace Go.Proofs.YtcbpafpaimpfnaaGreatDoor
section
namespace Pl
open Vc (V Of)
section
variable {ids : Nat → Int} {E : Nat → List En} {K : Nat}
theorem fin_edge (G : Good ids E K) {i : Nat} (hi : i < K) {e : En} (he : e ∈ E i) (hl : e.live = true) : le2 (fin ids E K i).v (fin ids E K e.other.toNat).v.root ((fin ids E K e.other.toNat).v.cost + e.cost) := by
 obtain ⟨vs, hw⟩ := fin_real G e.other.toNat (toNat_lt (G.lt i hi e he hl).1)
 exact fin_up G hi (Walk.over i e vs _ _ hi he hl hw)
theorem fin_bridge (i : Nat) : (fin ids E K i).v.bridge = ids i ∧ (fin ids E K i).v.port = 0 := rounds_bridge ids E K K i
theorem fin_cost (G : Good ids E K) {i : Nat} (hi : i < K) : 0 ≤ (fin ids E K i).v.cost ∧ (fin ids E K i).v.cost ≤ 28800000 := by
 have h := (rounds_inv G K G.few).1 i hi
 have := G.few
 have h2 : (fin ids E K i).v.cost = (rounds ids E K K i).v.cost := rfl
 omega
theorem fin_port (G : Good ids E K) {i : Nat} (hi : i < K) : ((fin ids E K i).rp = -1 ∧ (fin ids E K i).v.root = ids i ∧ (fin ids E K i).v.cost = 0) ∨
  (0 ≤ (fin ids E K i).rp ∧ (fin ids E K i).v.root < ids i ∧ ∃ e, e ∈ E i ∧ e.live = true ∧ e.port = (fin ids E K i).rp ∧ (fin ids E K i).v.root = (fin ids E K e.other.toNat).v.root ∧ (fin ids E K i).v.cost = (fin ids E K e.other.toNat).v.cost + e.cost ∧
   ∀ q, q ∈ E i → q.live = true → ¬ Vc.ahead (offerOf (fin ids E K) q) (offerOf (fin ids E K) e)) := by
 have hf := fin_fix G i hi
 obtain ⟨X, hX⟩ : ∃ X, X = fin ids E K := ⟨_, rfl⟩
 rw [← hX] at hf ⊢
 rcases chS_real (ids i) (offs (E i) X) with ⟨h, _⟩ | ⟨o, ho, hm, h, hn⟩
 ·rw [h] at hf
  rw [hf]
  exact Or.inl ⟨rfl, rfl, rfl⟩
 ·rw [h] at hf
  obtain ⟨e, h1, h2, rfl⟩ := offs_mem ho
  refine Or.inr ?_
  rw [hf]
  refine ⟨hm.2.1, hm.2.2.2, e, h1, h2, rfl, rfl, rfl, fun q hq hql => ?_⟩
  by_cases hmq : Vc.may (ids i) (offerOf X q)
  ·exact hn _ (mem_offs hq hql) hmq
  ·intro ha
   apply hmq
   have hB := (rounds_inv G K G.few).1
   have hk := G.few
   have hfit := fits G (x := X) (by rw [hX]; exact hB) (by omega) hi hq hql
   refine ⟨hfit, (G.lt i hi q hq hql).2.2, ⟨Int.le_refl _, show (0 : Int) < 20 by decide⟩, ?_⟩
   have hr : (offerOf X e).vec.root < ids i := hm.2.2.2
   have : (offerOf X q).v.root ≤ (offerOf X e).v.root := by
    rcases ha with ha | ⟨ha, _⟩
    ·unfold Vc.lt at ha; omega
    ·rw [ha]; exact Int.le_refl _
   have e1 : (offerOf X q).v.root = (offerOf X q).vec.root := rfl
   have e2 : (offerOf X e).v.root = (offerOf X e).vec.root := rfl
   omega
theorem Walk.last {i : Nat} {vs : List Nat} {ρ c : Int} (h : Walk ids E K i vs ρ c) : ∃ j, j < K ∧ ids j = ρ ∧ ∀ us ρ' c', Walk ids E K j us ρ' c' → ∃ ws d, Walk ids E K i ws ρ' d := by
 induction h with
 | here i hi => exact ⟨i, hi, rfl, fun us ρ' c' h => ⟨us, c', h⟩⟩
 | over i e vs ρ c hi he hl _ ih =>
  obtain ⟨j, hj, e1, h2⟩ := ih
  refine ⟨j, hj, e1, fun us ρ' c' h => ?_⟩
  obtain ⟨ws, d, hw⟩ := h2 us ρ' c' h
  exact ⟨_, _, Walk.over i e ws ρ' d hi he hl hw⟩
theorem someTo_iff {p : Nat → Bool} : ∀ {n : Nat}, Vc.someTo p n = true ↔ ∃ i, i < n ∧ p i = true
 | 0 => ⟨fun h => by simp [Vc.someTo] at h, fun ⟨i, hi, _⟩ => by omega⟩
 | n + 1 => by
  simp only [Vc.someTo, Bool.or_eq_true]
  rw [someTo_iff (n := n)]
  constructor
  ·rintro (⟨i, hi, h⟩ | h)
   ·exact ⟨i, by omega, h⟩
   ·exact ⟨n, by omega, h⟩
  ·rintro ⟨i, hi, h⟩
   by_cases e : i = n
   ·subst e; exact Or.inr h
   ·exact Or.inl ⟨i, by omega, h⟩
end
section
variable {K L : Nat} {ls : Nat → Lk}
def eA (l : Lk) (lv : Bool) : En := ⟨l.pa, l.cost, l.b, l.pb, lv⟩
def eB (l : Lk) (lv : Bool) : En := ⟨l.pb, l.cost, l.a, l.pa, lv⟩
theorem eA_mem (R : RightL K L ls) (lv : Nat → Bool) {k : Nat} (hk : k < L) : eA (ls k) (lv k) ∈ ends ls lv L (ls k).a.toNat :=
 ends_mem.2 ⟨k, hk, Or.inl ⟨by have := (R.ok k hk).1; omega, rfl⟩⟩
theorem eB_mem (R : RightL K L ls) (lv : Nat → Bool) {k : Nat} (hk : k < L) : eB (ls k) (lv k) ∈ ends ls lv L (ls k).b.toNat :=
 ends_mem.2 ⟨k, hk, Or.inr ⟨by have := (R.ok k hk).2.1; omega, rfl⟩⟩
def says (ids : Nat → Int) (ls : Nat → Lk) (lv : Nat → Bool) (K L : Nat) : Nat → St := fin ids (fun i => ends ls lv L i) K
theorem says_link (R : RightL K L ls) (hK : K ≤ 12) (ids : Nat → Int) (lv : Nat → Bool) {k : Nat} (hk : k < L) (hl : lv k = true) :
  (says ids ls lv K L (ls k).a.toNat).v.root = (says ids ls lv K L (ls k).b.toNat).v.root ∧
  (says ids ls lv K L (ls k).a.toNat).v.cost ≤ (says ids ls lv K L (ls k).b.toNat).v.cost + (ls k).cost ∧
  (says ids ls lv K L (ls k).b.toNat).v.cost ≤ (says ids ls lv K L (ls k).a.toNat).v.cost + (ls k).cost := by
 have G := good R hK ids lv
 obtain ⟨o1, o2, _⟩ := R.ok k hk
 have h1 := fin_edge G (i := (ls k).a.toNat) (by omega) (eA_mem R lv hk) hl
 have h2 := fin_edge G (i := (ls k).b.toNat) (by omega) (eB_mem R lv hk) hl
 unfold le2 eA at h1
 unfold le2 eB at h2
 simp only at h1 h2
 unfold says
 omega
theorem Walk.more {ids : Nat → Int} {E E' : Nat → List En} (h : ∀ i, i < K → ∀ e, e ∈ E i → e.live = true → ∃ q, q ∈ E' i ∧ q.live = true ∧ q.other = e.other ∧ q.cost = e.cost) {i : Nat} {vs : List Nat} {ρ c : Int} (hw : Walk ids E K i vs ρ c) : Walk ids E' K i vs ρ c := by
 induction hw with
 | here i hi => exact Walk.here i hi
 | over i e vs ρ c hi he hl _ ih =>
  obtain ⟨q, q1, q2, q3, q4⟩ := h i hi e he hl
  rw [← q4]
  exact Walk.over i q vs ρ c hi q1 q2 (by rw [q3]; exact ih)
end
end Pl
end
section
open Go.RowKit Go.Maps
open Pl (Br Net Pc Lk En St)
theorem seq_isEnd (ls : Nat → Lk) (x p : Int) (k : Nat) : Vc.someTo (fun j => decide (endSeq ls j = (x, p))) (2 * k) = true ↔ ∃ i, i < k ∧ Pl.isEnd (ls i) x p = true := by
 rw [Pl.someTo_iff]
 constructor
 ·rintro ⟨j, hj, h⟩
  have h := of_decide_eq_true h
  refine ⟨j / 2, by omega, ?_⟩
  unfold endSeq at h
  unfold Pl.isEnd
  by_cases e : j % 2 = 0
  ·rw [if_pos e] at h
   injection h with h1 h2
   simp [h1, h2]
  ·rw [if_neg e] at h
   injection h with h1 h2
   simp [h1, h2]
 ·rintro ⟨i, hi, h⟩
  unfold Pl.isEnd at h
  simp only [Bool.or_eq_true, decide_eq_true_eq] at h
  rcases h with ⟨h1, h2⟩ | ⟨h1, h2⟩
  ·exact ⟨2 * i, by omega, decide_eq_true (by rw [endSeq_even, h1, h2])⟩
  ·exact ⟨2 * i + 1, by omega, decide_eq_true (by rw [endSeq_odd, h1, h2])⟩
theorem lSay_err (K : Nat) (ls : Nat → Lk) (k : Nat) : lSay K (ls k) (cntI (endSeq ls) ((ls k).a, (ls k).pa) (2 * k)) (cntI (endSeq ls) ((ls k).b, (ls k).pb) (2 * k + 1)) = Pl.lErr K ls k := by
 unfold lSay Pl.lErr
 by_cases h : Pl.lkErr K (ls k) = 0
 ·have hn : ¬ Pl.lkErr K (ls k) ≠ 0 := fun q => q h
  rw [if_neg hn, if_neg hn]
  have hab := (Pl.lkErr_ok h).2.2.1
  have c1 := (cntI_pos (endSeq ls) ((ls k).a, (ls k).pa) (2 * k)).trans (seq_isEnd ls _ _ k)
  have c2 : 0 < cntI (endSeq ls) ((ls k).b, (ls k).pb) (2 * k + 1) ↔ ∃ i, i < k ∧ Pl.isEnd (ls i) (ls k).b (ls k).pb = true := by
   have e : cntI (endSeq ls) ((ls k).b, (ls k).pb) (2 * k + 1) = cntI (endSeq ls) ((ls k).b, (ls k).pb) (2 * k) := by
    show _ + (if endSeq ls (2 * k) = _ then (1 : Int) else 0) = _
    rw [if_neg (by rw [endSeq_even]; intro q; injection q with q1 _; exact hab q1), Int.add_zero]
   rw [e]
   exact (cntI_pos (endSeq ls) ((ls k).b, (ls k).pb) (2 * k)).trans (seq_isEnd ls _ _ k)
  have c3 : Vc.someTo (fun j => Pl.isEnd (ls j) (ls k).a (ls k).pa || Pl.isEnd (ls j) (ls k).b (ls k).pb) k = true ↔ (0 < cntI (endSeq ls) ((ls k).a, (ls k).pa) (2 * k) ∨ 0 < cntI (endSeq ls) ((ls k).b, (ls k).pb) (2 * k + 1)) := by
   rw [Pl.someTo_iff, c1, c2]
   constructor
   ·rintro ⟨i, hi, q⟩
    simp only [Bool.or_eq_true] at q
    rcases q with q | q
    ·exact Or.inl ⟨i, hi, q⟩
    ·exact Or.inr ⟨i, hi, q⟩
   ·rintro (⟨i, hi, q⟩ | ⟨i, hi, q⟩)
    ·exact ⟨i, hi, by simp [q]⟩
    ·exact ⟨i, hi, by simp [q]⟩
  by_cases q1 : 0 < cntI (endSeq ls) ((ls k).a, (ls k).pa) (2 * k)
  ·rw [if_pos q1, if_pos (c3.2 (Or.inl q1))]
  ·rw [if_neg q1]
   by_cases q2 : 0 < cntI (endSeq ls) ((ls k).b, (ls k).pb) (2 * k + 1)
   ·rw [if_pos q2, if_pos (c3.2 (Or.inr q2))]
   ·rw [if_neg q2, if_neg (fun q => by rcases c3.1 q with q | q; exact q1 q; exact q2 q)]
 ·rw [if_pos h, if_pos h]
theorem lErr_zero {K : Nat} {ls : Nat → Lk} {k : Nat} (h : Pl.lErr K ls k = 0) : Pl.lkErr K (ls k) = 0 := (Pl.lErr_ok h).1
set_option maxRecDepth 100000 in
set_option maxHeartbeats 2000000 in
theorem plFirst_any (ao : Option Addr) (n cap : Nat) (ls : Nat → Lk) (K : Nat) (hK : K ≤ 12) (N Q P B : Nat) (W0 w : World) (hn : n ≤ 40) (hr : LRow W0 ao n cap ls) (hwf : ∀ i, i < n → (Lit.int .i64 (ls i).a).wf = true ∧ (Lit.int .i64 (ls i).pa).wf = true ∧ (Lit.int .i64 (ls i).b).wf = true ∧ (Lit.int .i64 (ls i).pb).wf = true)
  (hN : w.cell? ⟨N, 0, none⟩ = some (.int .i64 K)) (hNB : N ≠ B)
  (hQ : w.cell? ⟨Q, 0, none⟩ = some (.func (.func 69) #[] #[.pointer (some ⟨P, 0, none⟩)])) (hP : w.cell? ⟨P, 0, none⟩ = some (.map (some B))) (hPB : P ≠ B) (hQB : Q ≠ B) (hc : PCnt w B (endSeq ls) 0)
  (hM : W0.heap.size ≤ B) (hW0 : Below W0.heap.size W0 w) :
  Calls Tryz.prog 47 #[.slice ao n cap, .func (.func 48) #[] #[.pointer (some ⟨N, 0, none⟩), .pointer (some ⟨Q, 0, none⟩)]] w fun e w' => e = .returned (.agg (ftA (Pl.firstTo (Pl.lErr K ls) n))) ∧ Below W0.heap.size W0 w' := by
 have HRW : Hid (∀ W, Below W0.heap.size W0 W → LRow W ao n cap ls) := fun W hW => CRow.other hr (fun q _ _ hq => hW.block q hq) hW.size
 have HWF : Hid (∀ i, i < n → (Lit.int .i64 (ls i).a).wf = true ∧ (Lit.int .i64 (ls i).pa).wf = true ∧ (Lit.int .i64 (ls i).b).wf = true ∧ (Lit.int .i64 (ls i).pb).wf = true) := hwf
 have hcap := hr.1
 have hBl := hc.lt
 obtain ⟨G, HG⟩ : ∃ G, Hid (G = w.heap.size) := ⟨_, rfl⟩
 have hGB : G ≠ B := by rw [HG.out]; omega
 have hGM : W0.heap.size ≤ G := by rw [HG.out]; exact hW0.size
 have HI : Hid (∀ W, W = w.alloc (.cells #[.int .i64 0, .int .i64 0] 28) → Below W0.heap.size W0 W ∧ PCnt W B (endSeq ls) 0 ∧ W.heap[G]? = some (.cells #[.int .i64 0, .int .i64 0] 28 (0, 0)) ∧ W.cell? ⟨Q, 0, none⟩ = some (.func (.func 69) #[] #[.pointer (some ⟨P, 0, none⟩)]) ∧ W.cell? ⟨P, 0, none⟩ = some (.map (some B)) ∧ W.cell? ⟨N, 0, none⟩ = some (.int .i64 K)) := by
  intro W hW
  have h1 : Below w.heap.size w W := by rw [hW]; exact below_alloc1 _ _
  have hQl := block_lt_of_cell hQ
  have hPl := block_lt_of_cell hP
  have hNl := block_lt_of_cell hN
  exact ⟨hW0.trans (h1.mono hW0.size), hc.same (h1.block B hBl), by rw [hW, HG.out]; exact heap_alloc_last _ _, (h1.cell (by exact hQl)).trans hQ, (h1.cell (by exact hPl)).trans hP, (h1.cell (by exact hNl)).trans hN⟩
 clear hr hwf hQ hP hN hc hW0 hBl
 go_enter Tryz.func47, Tryz.ntmps47
 go_wp2_with fail
 rw [← HG.out]
 go_loopw [10] (fun i wr => ∃ k : Nat, k ≤ n ∧ i = .int .i64 k ∧ Hid (∀ j, j < k → Pl.lErr K ls j = 0) ∧ Hid (Below W0.heap.size W0 wr ∧ PCnt wr B (endSeq ls) (2 * k) ∧ wr.heap[G]? = some (.cells #[.int .i64 0, .int .i64 0] 28 (0, 0)) ∧ wr.cell? ⟨Q, 0, none⟩ = some (.func (.func 69) #[] #[.pointer (some ⟨P, 0, none⟩)]) ∧ wr.cell? ⟨P, 0, none⟩ = some (.map (some B)) ∧ wr.cell? ⟨N, 0, none⟩ = some (.int .i64 K))) (fun i _ => n - (intOf i).toNat)
 case atStart => exact ⟨0, by omega, rfl, (fun j hj => absurd hj (by omega)), HI.out _ rfl⟩
 case round =>
  obtain ⟨k, hk, rfl, hS, hX⟩ := hrel
  clear HI
  by_cases hlt : k < n
  ·obtain ⟨b, off, rfl, _⟩ := CRow.some (HRW.out wr hX.out.1) (by omega)
   obtain ⟨c0, c1, c2, c3, c4, c5⟩ := LRow.cells (HRW.out wr hX.out.1) hlt
   obtain ⟨X, HX⟩ : ∃ X, Hid (X = wr.alloc (.cells (lkA (ls k)) 46)) := ⟨_, rfl⟩
   have HXB : Hid (Below wr.heap.size wr X) := by rw [HX.out]; exact below_alloc1 _ _
   have HX5 : Hid (X.heap[wr.heap.size]? = some (.cells (lkA (ls k)) 46 (0, 0))) := by rw [HX.out]; exact heap_alloc_last _ _
   have HCL : Hid (Calls Tryz.prog 48 #[.agg (lkA (ls k)), .pointer (some ⟨N, 0, none⟩), .pointer (some ⟨Q, 0, none⟩)] X fun e w' => e = .returned (.int .i64 (Pl.lErr K ls k)) ∧ Hid (Below W0.heap.size W0 w' ∧ (Pl.lErr K ls k = 0 → PCnt w' B (endSeq ls) (2 * (k + 1))) ∧ w'.heap[G]? = some (.cells #[.int .i64 0, .int .i64 0] 28 (0, 0)) ∧ w'.cell? ⟨Q, 0, none⟩ = some (.func (.func 69) #[] #[.pointer (some ⟨P, 0, none⟩)]) ∧ w'.cell? ⟨P, 0, none⟩ = some (.map (some B)) ∧ w'.cell? ⟨N, 0, none⟩ = some (.int .i64 K))) := by
    obtain ⟨x1, x2, x3, x4, x5, x6⟩ := hX.out
    have l1 := block_lt_of_cell x4
    have l2 := block_lt_of_cell x5
    have l3 := block_lt_of_cell x6
    have y6 := (HXB.out.cell (by exact l3)).trans x6
    obtain ⟨v1, v2, v3, v4⟩ := HWF.out k hlt
    have y1 : Below W0.heap.size W0 X := x1.trans (HXB.out.mono x1.size)
    have y4 := (HXB.out.cell (by exact l1)).trans x4
    have y5 := (HXB.out.cell (by exact l2)).trans x5
    have y3 := keep x3 HXB.out
    refine (plClosure_any K hK (ls k) N Q P B (2 * k) (endSeq ls) X y6 y4 y5 hPB hQB (x2.same (HXB.out.block B x2.lt)) (by omega) (endSeq_even ls k) (endSeq_odd ls k) v1 v2 v3 v4).mono ?_
    rintro e w' ⟨rfl, z1, z2⟩
    rw [lSay_err]
    exact ⟨rfl, y1.trans (below_of_grown z2 y1.size hM), fun h => z1 (lErr_zero h), grown_block y3 z2 hGB, grown_cell y4 z2 hQB, grown_cell y5 z2 hPB, grown_cell y6 z2 hNB⟩
   have HF1 : Hid (Pl.lErr K ls k ≠ 0 → ftA (Pl.firstTo (Pl.lErr K ls) n) = #[.int .i64 (Pl.lErr K ls k), .int .i64 (k : Int)]) := fun h => by rw [Pl.firstTo_here (Pl.lErr K ls) k hS.out h n hlt]; rfl
   have HS1 : Hid (Pl.lErr K ls k = 0 → ∀ j, j < k + 1 → Pl.lErr K ls j = 0) := fun h j hj => by
    by_cases e : j = k
    ·subst e; exact h
    ·exact hS.out j (by omega)
   obtain ⟨d0, d1, d2, d3, d4, d5⟩ := lk_cells HX5.out
   clear hX hS HX5 HXB HWF HRW
   generalize Pl.lErr K ls k = E at *
   by_cases e0 : E = 0
   ·subst e0
    have HS2 : Hid (∀ j, j < k + 1 → Pl.lErr K ls j = 0) := HS1.out rfl
    clear HS1 HF1
    simp only [lkA] at *
    go_wp2_with fail
    rw [← HX.out]
    refine HCL.out.mono ?_
    rintro e w1 ⟨rfl, hY⟩
    clear d0 d1 d2 d3 d4 d5 c0 c1 c2 c3 c4 c5
    go_wp2_with fail
    exact ⟨⟨k + 1, by omega, by go_num, HS2, ⟨hY.out.1, hY.out.2.1 (by first | exact rfl | trivial), hY.out.2.2⟩⟩, by simp [intOf]; omega⟩
   ·have e1 : (E == 0) = false := by simp [e0]
    have HF2 : Hid _ := HF1.out e0
    clear HS1 HF1
    simp only [lkA] at *
    go_wp2_with fail
    rw [← HX.out]
    refine HCL.out.mono ?_
    rintro e w1 ⟨rfl, hY⟩
    clear d0 d1 d2 d3 d4 d5 c0 c1 c2 c3 c4 c5
    obtain ⟨f0, f1⟩ := two_cells2 hY.out.2.2.1
    obtain ⟨g0, g1, _, _⟩ := vc_free hY.out.2.2.1
    go_wp2_with fail
    exact bodyPost_ret (v := .agg #[.int .i64 E, .int .i64 (k : Int)]) (results_row (p := 4) (ty := 28) Tryz.results47 _ _ G 28 #[.int .i64 E, .int .i64 (k : Int)] (0, 0) _ rfl (set2_same hY.out.2.2.1) Tryz.underlying28 rfl (by rw [sizeFt]; rfl)) rfl ⟨by rw [HF2.out], (hY.out.1.setCell hGM _).setCell hGM _⟩
  ·obtain rfl : k = n := by omega
   have HF2 : Hid (ftA (Pl.firstTo (Pl.lErr K ls) k) = #[.int .i64 0, .int .i64 0]) := by rw [Pl.firstTo_all _ _ hS.out]; rfl
   obtain ⟨f0, f1⟩ := two_cells2 hX.out.2.2.1
   obtain ⟨g0, g1, _, _⟩ := vc_free hX.out.2.2.1
   go_wp2_with fail
   exact bodyPost_ret (v := .agg #[.int .i64 0, .int .i64 0]) (results_row (p := 4) (ty := 28) Tryz.results47 _ _ G 28 #[.int .i64 0, .int .i64 0] (0, 0) _ rfl (set2_same hX.out.2.2.1) Tryz.underlying28 rfl (by rw [sizeFt]; rfl)) rfl ⟨by rw [HF2.out], (hX.out.1.setCell hGM _).setCell hGM _⟩
set_option maxRecDepth 100000 in
set_option maxHeartbeats 2000000 in
theorem pwrongBridges_any (ao : Option Addr) (n cap : Nat) (bs : Nat → Br) (w : World) (hn : n ≤ 12) (hr : BRow w ao n cap bs) (hb : ∀ i, i < n → (bs i).at' w) (hwf : ∀ i, i < n → (Lit.int .u64 (bs i).addr).wf = true) :
  Calls Tryz.prog 23 #[.slice ao n cap] w fun e w' => e = .returned (.agg (ftA (Pl.firstTo (Pl.bErr bs) n))) ∧ Below w.heap.size w w' := by
 obtain ⟨X, HX⟩ : ∃ X, Hid (X = w.alloc (.cells #[.int .i64 0, .int .i64 0] 28)) := ⟨_, rfl⟩
 have hXB : Below w.heap.size w X := by rw [HX.out]; exact below_alloc1 _ _
 have hXb : X.heap[w.heap.size]? = some (.cells #[.int .i64 0, .int .i64 0] 28 (0, 0)) := by rw [HX.out]; exact heap_alloc_last _ _
 have hXs : X.heap.size = w.heap.size + 1 := by rw [HX.out]; simp
 have HT : Hid (Calls Tryz.prog 42 #[] X fun e w' => e = .returned (.func (.func 64) #[] #[.pointer (some ⟨X.heap.size + 1, 0, none⟩)]) ∧ Hid (w'.cell? ⟨X.heap.size + 1, 0, none⟩ = some (.map (some X.heap.size)) ∧ UCnt w' X.heap.size (fun j => (bs j).addr) 0 ∧ Below X.heap.size X w')) := utaker_any _ X
 have HF : Hid (∀ w1, Hid (w1.cell? ⟨X.heap.size + 1, 0, none⟩ = some (.map (some X.heap.size)) ∧ UCnt w1 X.heap.size (fun j => (bs j).addr) 0 ∧ Below X.heap.size X w1) → ∀ Y, Y = w1.alloc (.cells #[.func (.func 64) #[] #[.pointer (some ⟨X.heap.size + 1, 0, none⟩)]] 97) →
   Calls Tryz.prog 43 #[.slice ao n cap, .func (.func 44) #[] #[.pointer (some ⟨w1.heap.size, 0, none⟩)]] Y fun e w' => e = .returned (.agg (ftA (Pl.firstTo (Pl.bErr bs) n))) ∧ Below X.heap.size X w') := by
  intro w1 h Y hY
  obtain ⟨h1, h2, h3⟩ := h.out
  have hYB : Below w1.heap.size w1 Y := by rw [hY]; exact below_alloc1 _ _
  have l1 := block_lt_of_cell h1
  have h2' := h2.lt
  have hYX : Below X.heap.size X Y := h3.trans (hYB.mono h3.size)
  have hYQ : Y.heap[w1.heap.size]? = some (.cells #[.func (.func 64) #[] #[.pointer (some ⟨X.heap.size + 1, 0, none⟩)]] 97 (0, 0)) := by rw [hY]; exact heap_alloc_last _ _
  refine (pbFirst_any ao n cap bs w1.heap.size (X.heap.size + 1) X.heap.size X Y hn (CRow.below hr hXB) (fun i hi => (hb i hi).below hXB) hwf (cell_of_row _ _ 0 _ _ _ hYQ) ((hYB.cell (by exact l1)).trans h1) (by omega) (by omega) (h2.same (hYB.block _ h2')) (Nat.le_refl _) hYX).mono ?_
  rintro e w' ⟨rfl, z⟩
  exact ⟨rfl, z⟩
 have HEND : Hid (∀ W, Below X.heap.size X W → W.heap[w.heap.size]? = some (.cells #[.int .i64 0, .int .i64 0] 28 (0, 0)) ∧ Below w.heap.size w W) := fun W hW => ⟨keep hXb hW, hXB.trans (hW.mono hXB.size)⟩
 clear hr hb hwf hXb hXB hXs
 generalize Pl.firstTo (Pl.bErr bs) n = R at *
 obtain ⟨r1, r2⟩ := R
 simp only [ftA] at *
 go_enter Tryz.func23, Tryz.ntmps23
 go_wp2_with fail
 rw [← HX.out]
 refine HT.out.mono ?_
 rintro e w1 ⟨rfl, h1⟩
 have hf := HF.out w1 h1 _ rfl
 clear HT HF h1
 go_wp2_with fail
 refine hf.mono ?_
 rintro e w2 ⟨rfl, h2⟩
 obtain ⟨k1, k2⟩ := HEND.out w2 h2
 obtain ⟨f0, f1⟩ := two_cells2 k1
 obtain ⟨g0, g1, _, _⟩ := vc_free k1
 have HK1 : Hid (w2.heap[w.heap.size]? = some (.cells #[.int .i64 0, .int .i64 0] 28 (0, 0))) := k1
 have HK2 : Hid (Below w.heap.size w w2) := k2
 clear hf k1 k2 h2 HEND
 go_wp2_with fail
 exact bodyPost_ret (v := .agg #[.int .i64 r1, .int .i64 r2]) (results_row (p := 2) (ty := 28) Tryz.results23 _ _ w.heap.size 28 #[.int .i64 r1, .int .i64 r2] (0, 0) _ rfl (set2_same HK1.out) Tryz.underlying28 rfl (by rw [sizeFt]; rfl)) rfl ⟨rfl, (HK2.out.setCell (Nat.le_refl _) _).setCell (Nat.le_refl _) _⟩
set_option maxRecDepth 100000 in
set_option maxHeartbeats 2000000 in
theorem pwrongLinks_any (ao : Option Addr) (n cap : Nat) (ls : Nat → Lk) (K : Nat) (hK : K ≤ 12) (w : World) (hn : n ≤ 40) (hr : LRow w ao n cap ls) (hwf : ∀ i, i < n → (Lit.int .i64 (ls i).a).wf = true ∧ (Lit.int .i64 (ls i).pa).wf = true ∧ (Lit.int .i64 (ls i).b).wf = true ∧ (Lit.int .i64 (ls i).pb).wf = true) :
  Calls Tryz.prog 24 #[.slice ao n cap, .int .i64 K] w fun e w' => e = .returned (.agg (ftA (Pl.firstTo (Pl.lErr K ls) n))) ∧ Below w.heap.size w w' := by
 obtain ⟨X, HX⟩ : ∃ X, Hid (X = (w.alloc (.cells #[.int .i64 K] 3)).alloc (.cells #[.int .i64 0, .int .i64 0] 28)) := ⟨_, rfl⟩
 have hXB : Below w.heap.size w X := by rw [HX.out]; exact below_alloc2 _ _ _
 have hXn : X.heap[w.heap.size]? = some (.cells #[.int .i64 K] 3 (0, 0)) := by rw [HX.out]; exact heap_alloc2_old w _ _
 have hXb : X.heap[w.heap.size + 1]? = some (.cells #[.int .i64 0, .int .i64 0] 28 (0, 0)) := by rw [HX.out]; exact heap_alloc2_new w _ _
 have hXs : X.heap.size = w.heap.size + 2 := by rw [HX.out]; simp
 have HT : Hid (Calls Tryz.prog 46 #[] X fun e w' => e = .returned (.func (.func 69) #[] #[.pointer (some ⟨X.heap.size + 1, 0, none⟩)]) ∧ Hid (w'.cell? ⟨X.heap.size + 1, 0, none⟩ = some (.map (some X.heap.size)) ∧ PCnt w' X.heap.size (endSeq ls) 0 ∧ Below X.heap.size X w')) := ptaker_any _ X
 have HF : Hid (∀ w1, Hid (w1.cell? ⟨X.heap.size + 1, 0, none⟩ = some (.map (some X.heap.size)) ∧ PCnt w1 X.heap.size (endSeq ls) 0 ∧ Below X.heap.size X w1) → ∀ Y, Y = w1.alloc (.cells #[.func (.func 69) #[] #[.pointer (some ⟨X.heap.size + 1, 0, none⟩)]] 101) →
   Calls Tryz.prog 47 #[.slice ao n cap, .func (.func 48) #[] #[.pointer (some ⟨w.heap.size, 0, none⟩), .pointer (some ⟨w1.heap.size, 0, none⟩)]] Y fun e w' => e = .returned (.agg (ftA (Pl.firstTo (Pl.lErr K ls) n))) ∧ Below X.heap.size X w') := by
  intro w1 h Y hY
  obtain ⟨h1, h2, h3⟩ := h.out
  have hYB : Below w1.heap.size w1 Y := by rw [hY]; exact below_alloc1 _ _
  have l1 := block_lt_of_cell h1
  have h2' := h2.lt
  have hYX : Below X.heap.size X Y := h3.trans (hYB.mono h3.size)
  have hYQ : Y.heap[w1.heap.size]? = some (.cells #[.func (.func 69) #[] #[.pointer (some ⟨X.heap.size + 1, 0, none⟩)]] 101 (0, 0)) := by rw [hY]; exact heap_alloc_last _ _
  refine (plFirst_any ao n cap ls K hK w.heap.size w1.heap.size (X.heap.size + 1) X.heap.size X Y hn (CRow.below hr hXB) hwf (cell_of_row _ _ 0 _ _ _ (keep hXn hYX)) (by omega) (cell_of_row _ _ 0 _ _ _ hYQ) ((hYB.cell (by exact l1)).trans h1) (by omega) (by omega) (h2.same (hYB.block _ h2')) (Nat.le_refl _) hYX).mono ?_
  rintro e w' ⟨rfl, z⟩
  exact ⟨rfl, z⟩
 have HEND : Hid (∀ W, Below X.heap.size X W → W.heap[w.heap.size + 1]? = some (.cells #[.int .i64 0, .int .i64 0] 28 (0, 0)) ∧ Below w.heap.size w W) := fun W hW => ⟨keep hXb hW, hXB.trans (hW.mono hXB.size)⟩
 clear hr hwf hXb hXn hXB hXs
 generalize Pl.firstTo (Pl.lErr K ls) n = R at *
 obtain ⟨r1, r2⟩ := R
 simp only [ftA] at *
 go_enter Tryz.func24, Tryz.ntmps24
 go_wp2_with fail
 rw [← HX.out]
 refine HT.out.mono ?_
 rintro e w1 ⟨rfl, h1⟩
 have hf := HF.out w1 h1 _ rfl
 clear HT HF h1
 go_wp2_with fail
 refine hf.mono ?_
 rintro e w2 ⟨rfl, h2⟩
 obtain ⟨k1, k2⟩ := HEND.out w2 h2
 obtain ⟨f0, f1⟩ := two_cells2 k1
 obtain ⟨g0, g1, _, _⟩ := vc_free k1
 have HK1 : Hid (w2.heap[w.heap.size + 1]? = some (.cells #[.int .i64 0, .int .i64 0] 28 (0, 0))) := k1
 have HK2 : Hid (Below w.heap.size w w2) := k2
 clear hf k1 k2 h2 HEND
 go_wp2_with fail
 exact bodyPost_ret (v := .agg #[.int .i64 r1, .int .i64 r2]) (results_row (p := 4) (ty := 28) Tryz.results24 _ _ (w.heap.size + 1) 28 #[.int .i64 r1, .int .i64 r2] (0, 0) _ rfl (set2_same HK1.out) Tryz.underlying28 rfl (by rw [sizeFt]; rfl)) rfl ⟨rfl, (HK2.out.setCell (Nat.le_add_right _ _) _).setCell (Nat.le_add_right _ _) _⟩
end
end Go.Proofs.YtcbpafpaimpfnaaGreatDoor
