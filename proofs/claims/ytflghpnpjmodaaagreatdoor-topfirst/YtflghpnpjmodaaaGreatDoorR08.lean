/- What the rows of regions ask: a region that came in. -/
import Derived.Test.YtflghpnpjmodaaaGreatDoorR07
import Derived.Test.YtflghpnpjmodaaaGreatDoorR03
import Derived.Test.YtflghpnpjmodaaaGreatDoorR06
import Derived.Test.YtflghpnpjmodaaaGreatDoorR05
import Derived.Laws.EntriesVeiled
import Derived.ProofKit
import Derived.OpenShut
import Derived.ChangeOld
import Derived.SizedLaws
import Derived.Deep.DeepHandedRow
import Derived.Lib.LaidTab
import Derived.Stop.LaidErr
import Derived.Deep.SlicePairs
namespace Go.Proofs.YtflghpnpjmodaaaGreatDoor
open Go.RowKit Go.Maps
open Pl (Br Net Pc Lk En St)
theorem seq_isEnd (ls : Nat → Lk) (x p : Int) (k : Nat) : Vc.someTo (fun j => decide (endSeq ls j = (x, p))) (2 * k) = true ↔ ∃ i, i < k ∧ Pl.isEnd (ls i) x p = true := by
 rw [Pl.someTo_iff]
 constructor
 ·rintro ⟨j, hj, h⟩
  have h := of_decide_eq_true h
  refine ⟨j / 2, by omega, ?_⟩
  unfold endSeq at h
  unfold Pl.isEnd
  by_cases e : j % 2 = 0
  ·rw [if_pos e] at h
   injection h with h1 h2
   simp [h1, h2]
  ·rw [if_neg e] at h
   injection h with h1 h2
   simp [h1, h2]
 ·rintro ⟨i, hi, h⟩
  unfold Pl.isEnd at h
  simp only [Bool.or_eq_true, decide_eq_true_eq] at h
  rcases h with ⟨h1, h2⟩ | ⟨h1, h2⟩
  ·exact ⟨2 * i, by omega, decide_eq_true (by rw [endSeq_even, h1, h2])⟩
  ·exact ⟨2 * i + 1, by omega, decide_eq_true (by rw [endSeq_odd, h1, h2])⟩
theorem lSay_err (K : Nat) (ls : Nat → Lk) (k : Nat) : lSay K (ls k) (cntI (endSeq ls) ((ls k).a, (ls k).pa) (2 * k)) (cntI (endSeq ls) ((ls k).b, (ls k).pb) (2 * k + 1)) = Pl.lErr K ls k := by
 unfold lSay Pl.lErr
 by_cases h : Pl.lkErr K (ls k) = 0
 ·have hn : ¬ Pl.lkErr K (ls k) ≠ 0 := fun q => q h
  rw [if_neg hn, if_neg hn]
  have hab := (Pl.lkErr_ok h).2.2.1
  have c1 := (cntI_pos (endSeq ls) ((ls k).a, (ls k).pa) (2 * k)).trans (seq_isEnd ls _ _ k)
  have c2 : 0 < cntI (endSeq ls) ((ls k).b, (ls k).pb) (2 * k + 1) ↔ ∃ i, i < k ∧ Pl.isEnd (ls i) (ls k).b (ls k).pb = true := by
   have e : cntI (endSeq ls) ((ls k).b, (ls k).pb) (2 * k + 1) = cntI (endSeq ls) ((ls k).b, (ls k).pb) (2 * k) := by
    show _ + (if endSeq ls (2 * k) = _ then (1 : Int) else 0) = _
    rw [if_neg (by rw [endSeq_even]; intro q; injection q with q1 _; exact hab q1), Int.add_zero]
   rw [e]
   exact (cntI_pos (endSeq ls) ((ls k).b, (ls k).pb) (2 * k)).trans (seq_isEnd ls _ _ k)
  have c3 : Vc.someTo (fun j => Pl.isEnd (ls j) (ls k).a (ls k).pa || Pl.isEnd (ls j) (ls k).b (ls k).pb) k = true ↔ (0 < cntI (endSeq ls) ((ls k).a, (ls k).pa) (2 * k) ∨ 0 < cntI (endSeq ls) ((ls k).b, (ls k).pb) (2 * k + 1)) := by
   rw [Pl.someTo_iff, c1, c2]
   constructor
   ·rintro ⟨i, hi, q⟩
    simp only [Bool.or_eq_true] at q
    rcases q with q | q
    ·exact Or.inl ⟨i, hi, q⟩
    ·exact Or.inr ⟨i, hi, q⟩
   ·rintro (⟨i, hi, q⟩ | ⟨i, hi, q⟩)
    ·exact ⟨i, hi, by simp [q]⟩
    ·exact ⟨i, hi, by simp [q]⟩
  by_cases q1 : 0 < cntI (endSeq ls) ((ls k).a, (ls k).pa) (2 * k)
  ·rw [if_pos q1, if_pos (c3.2 (Or.inl q1))]
  ·rw [if_neg q1]
   by_cases q2 : 0 < cntI (endSeq ls) ((ls k).b, (ls k).pb) (2 * k + 1)
   ·rw [if_pos q2, if_pos (c3.2 (Or.inr q2))]
   ·rw [if_neg q2, if_neg (fun q => by rcases c3.1 q with q | q; exact q1 q; exact q2 q)]
 ·rw [if_pos h, if_pos h]
theorem lErr_zero {K : Nat} {ls : Nat → Lk} {k : Nat} (h : Pl.lErr K ls k = 0) : Pl.lkErr K (ls k) = 0 := (Pl.lErr_ok h).1
set_option maxRecDepth 100000 in
set_option maxHeartbeats 2000000 in
theorem plFirst_any (ao : Option Addr) (n cap : Nat) (ls : Nat → Lk) (K : Nat) (hK : K ≤ 12) (N Q P B : Nat) (W0 w : World) (hn : n ≤ 40) (hr : LRow W0 ao n cap ls) (hwf : ∀ i, i < n → (Lit.int .i64 (ls i).a).wf = true ∧ (Lit.int .i64 (ls i).pa).wf = true ∧ (Lit.int .i64 (ls i).b).wf = true ∧ (Lit.int .i64 (ls i).pb).wf = true)
  (hN : w.cell? ⟨N, 0, none⟩ = some (.int .i64 K)) (hNB : N ≠ B)
  (hQ : w.cell? ⟨Q, 0, none⟩ = some (.func (.func 160) #[] #[.pointer (some ⟨P, 0, none⟩)])) (hP : w.cell? ⟨P, 0, none⟩ = some (.map (some B))) (hPB : P ≠ B) (hQB : Q ≠ B) (hc : PCnt w B (endSeq ls) 0)
  (hM : W0.heap.size ≤ B) (hW0 : Below W0.heap.size W0 w) :
  Calls Tryz.prog 109 #[.slice ao n cap, .func (.func 110) #[] #[.pointer (some ⟨N, 0, none⟩), .pointer (some ⟨Q, 0, none⟩)]] w fun e w' => e = .returned (.agg (ftA (Pl.firstTo (Pl.lErr K ls) n))) ∧ Below W0.heap.size W0 w' := by
 have HRW : Hid (∀ W, Below W0.heap.size W0 W → LRow W ao n cap ls) := fun W hW => CRow.other hr (fun q _ _ hq => hW.block q hq) hW.size
 have HWF : Hid (∀ i, i < n → (Lit.int .i64 (ls i).a).wf = true ∧ (Lit.int .i64 (ls i).pa).wf = true ∧ (Lit.int .i64 (ls i).b).wf = true ∧ (Lit.int .i64 (ls i).pb).wf = true) := hwf
 have hcap := hr.1
 have hBl := hc.lt
 obtain ⟨G, HG⟩ : ∃ G, Hid (G = w.heap.size) := ⟨_, rfl⟩
 have hGB : G ≠ B := by rw [HG.out]; omega
 have hGM : W0.heap.size ≤ G := by rw [HG.out]; exact hW0.size
 have HI : Hid (∀ W, W = w.alloc (.cells #[.int .i64 0, .int .i64 0] 26) → Below W0.heap.size W0 W ∧ PCnt W B (endSeq ls) 0 ∧ W.heap[G]? = some (.cells #[.int .i64 0, .int .i64 0] 26 (0, 0)) ∧ W.cell? ⟨Q, 0, none⟩ = some (.func (.func 160) #[] #[.pointer (some ⟨P, 0, none⟩)]) ∧ W.cell? ⟨P, 0, none⟩ = some (.map (some B)) ∧ W.cell? ⟨N, 0, none⟩ = some (.int .i64 K)) := by
  intro W hW
  have h1 : Below w.heap.size w W := by rw [hW]; exact below_alloc1 _ _
  have hQl := block_lt_of_cell hQ
  have hPl := block_lt_of_cell hP
  have hNl := block_lt_of_cell hN
  exact ⟨hW0.trans (h1.mono hW0.size), hc.same (h1.block B hBl), by rw [hW, HG.out]; exact heap_alloc_last _ _, (h1.cell (by exact hQl)).trans hQ, (h1.cell (by exact hPl)).trans hP, (h1.cell (by exact hNl)).trans hN⟩
 clear hr hwf hQ hP hN hc hW0 hBl
 go_enter Tryz.func109, Tryz.ntmps109
 go_wp2_with fail
 rw [← HG.out]
 go_loopw [10] (fun i wr => ∃ k : Nat, k ≤ n ∧ i = .int .i64 k ∧ Hid (∀ j, j < k → Pl.lErr K ls j = 0) ∧ Hid (Below W0.heap.size W0 wr ∧ PCnt wr B (endSeq ls) (2 * k) ∧ wr.heap[G]? = some (.cells #[.int .i64 0, .int .i64 0] 26 (0, 0)) ∧ wr.cell? ⟨Q, 0, none⟩ = some (.func (.func 160) #[] #[.pointer (some ⟨P, 0, none⟩)]) ∧ wr.cell? ⟨P, 0, none⟩ = some (.map (some B)) ∧ wr.cell? ⟨N, 0, none⟩ = some (.int .i64 K))) (fun i _ => n - (intOf i).toNat)
 case atStart => exact ⟨0, by omega, rfl, (fun j hj => absurd hj (by omega)), HI.out _ rfl⟩
 case round =>
  obtain ⟨k, hk, rfl, hS, hX⟩ := hrel
  clear HI
  by_cases hlt : k < n
  ·obtain ⟨b, off, rfl, _⟩ := CRow.some (HRW.out wr hX.out.1) (by omega)
   obtain ⟨c0, c1, c2, c3, c4, c5⟩ := LRow.cells (HRW.out wr hX.out.1) hlt
   obtain ⟨X, HX⟩ : ∃ X, Hid (X = wr.alloc (.cells (lkA (ls k)) 83)) := ⟨_, rfl⟩
   have HXB : Hid (Below wr.heap.size wr X) := by rw [HX.out]; exact below_alloc1 _ _
   have HX5 : Hid (X.heap[wr.heap.size]? = some (.cells (lkA (ls k)) 83 (0, 0))) := by rw [HX.out]; exact heap_alloc_last _ _
   have HCL : Hid (Calls Tryz.prog 110 #[.agg (lkA (ls k)), .pointer (some ⟨N, 0, none⟩), .pointer (some ⟨Q, 0, none⟩)] X fun e w' => e = .returned (.int .i64 (Pl.lErr K ls k)) ∧ Hid (Below W0.heap.size W0 w' ∧ (Pl.lErr K ls k = 0 → PCnt w' B (endSeq ls) (2 * (k + 1))) ∧ w'.heap[G]? = some (.cells #[.int .i64 0, .int .i64 0] 26 (0, 0)) ∧ w'.cell? ⟨Q, 0, none⟩ = some (.func (.func 160) #[] #[.pointer (some ⟨P, 0, none⟩)]) ∧ w'.cell? ⟨P, 0, none⟩ = some (.map (some B)) ∧ w'.cell? ⟨N, 0, none⟩ = some (.int .i64 K))) := by
    obtain ⟨x1, x2, x3, x4, x5, x6⟩ := hX.out
    have l1 := block_lt_of_cell x4
    have l2 := block_lt_of_cell x5
    have l3 := block_lt_of_cell x6
    have y6 := (HXB.out.cell (by exact l3)).trans x6
    obtain ⟨v1, v2, v3, v4⟩ := HWF.out k hlt
    have y1 : Below W0.heap.size W0 X := x1.trans (HXB.out.mono x1.size)
    have y4 := (HXB.out.cell (by exact l1)).trans x4
    have y5 := (HXB.out.cell (by exact l2)).trans x5
    have y3 := keep x3 HXB.out
    refine (plClosure_any K hK (ls k) N Q P B (2 * k) (endSeq ls) X y6 y4 y5 hPB hQB (x2.same (HXB.out.block B x2.lt)) (by omega) (endSeq_even ls k) (endSeq_odd ls k) v1 v2 v3 v4).mono ?_
    rintro e w' ⟨rfl, z1, z2⟩
    rw [lSay_err]
    exact ⟨rfl, y1.trans (below_of_grown z2 y1.size hM), fun h => z1 (lErr_zero h), grown_block y3 z2 hGB, grown_cell y4 z2 hQB, grown_cell y5 z2 hPB, grown_cell y6 z2 hNB⟩
   have HF1 : Hid (Pl.lErr K ls k ≠ 0 → ftA (Pl.firstTo (Pl.lErr K ls) n) = #[.int .i64 (Pl.lErr K ls k), .int .i64 (k : Int)]) := fun h => by rw [Pl.firstTo_here (Pl.lErr K ls) k hS.out h n hlt]; rfl
   have HS1 : Hid (Pl.lErr K ls k = 0 → ∀ j, j < k + 1 → Pl.lErr K ls j = 0) := fun h j hj => by
    by_cases e : j = k
    ·subst e; exact h
    ·exact hS.out j (by omega)
   obtain ⟨d0, d1, d2, d3, d4, d5⟩ := lk_cells HX5.out
   clear hX hS HX5 HXB HWF HRW
   generalize Pl.lErr K ls k = E at *
   by_cases e0 : E = 0
   ·subst e0
    have HS2 : Hid (∀ j, j < k + 1 → Pl.lErr K ls j = 0) := HS1.out rfl
    clear HS1 HF1
    simp only [lkA] at *
    go_wp2_with fail
    rw [← HX.out]
    refine HCL.out.mono ?_
    rintro e w1 ⟨rfl, hY⟩
    clear d0 d1 d2 d3 d4 d5 c0 c1 c2 c3 c4 c5
    go_wp2_with fail
    exact ⟨⟨k + 1, by omega, by go_num, HS2, ⟨hY.out.1, hY.out.2.1 (by first | exact rfl | trivial), hY.out.2.2⟩⟩, by simp [intOf]; omega⟩
   ·have e1 : (E == 0) = false := by simp [e0]
    have HF2 : Hid _ := HF1.out e0
    clear HS1 HF1
    simp only [lkA] at *
    go_wp2_with fail
    rw [← HX.out]
    refine HCL.out.mono ?_
    rintro e w1 ⟨rfl, hY⟩
    clear d0 d1 d2 d3 d4 d5 c0 c1 c2 c3 c4 c5
    obtain ⟨f0, f1⟩ := two_cells2 hY.out.2.2.1
    obtain ⟨g0, g1, _, _⟩ := vc_free hY.out.2.2.1
    go_wp2_with fail
    exact bodyPost_ret (v := .agg #[.int .i64 E, .int .i64 (k : Int)]) (results_row (p := 4) (ty := 26) Tryz.results109 _ _ G 26 #[.int .i64 E, .int .i64 (k : Int)] (0, 0) _ rfl (set2_same hY.out.2.2.1) Tryz.underlying26 rfl (by rw [sizeFt]; rfl)) rfl ⟨by rw [HF2.out], (hY.out.1.setCell hGM _).setCell hGM _⟩
  ·obtain rfl : k = n := by omega
   have HF2 : Hid (ftA (Pl.firstTo (Pl.lErr K ls) k) = #[.int .i64 0, .int .i64 0]) := by rw [Pl.firstTo_all _ _ hS.out]; rfl
   obtain ⟨f0, f1⟩ := two_cells2 hX.out.2.2.1
   obtain ⟨g0, g1, _, _⟩ := vc_free hX.out.2.2.1
   go_wp2_with fail
   exact bodyPost_ret (v := .agg #[.int .i64 0, .int .i64 0]) (results_row (p := 4) (ty := 26) Tryz.results109 _ _ G 26 #[.int .i64 0, .int .i64 0] (0, 0) _ rfl (set2_same hX.out.2.2.1) Tryz.underlying26 rfl (by rw [sizeFt]; rfl)) rfl ⟨by rw [HF2.out], (hX.out.1.setCell hGM _).setCell hGM _⟩
set_option maxRecDepth 100000 in
set_option maxHeartbeats 2000000 in
theorem pwrongBridges_any (ao : Option Addr) (n cap : Nat) (bs : Nat → Br) (w : World) (hn : n ≤ 12) (hr : BRow w ao n cap bs) (hb : ∀ i, i < n → (bs i).at' w) (hwf : ∀ i, i < n → (Lit.int .u64 (bs i).addr).wf = true) :
  Calls Tryz.prog 65 #[.slice ao n cap] w fun e w' => e = .returned (.agg (ftA (Pl.firstTo (Pl.bErr bs) n))) ∧ Below w.heap.size w w' := by
 obtain ⟨X, HX⟩ : ∃ X, Hid (X = w.alloc (.cells #[.int .i64 0, .int .i64 0] 26)) := ⟨_, rfl⟩
 have hXB : Below w.heap.size w X := by rw [HX.out]; exact below_alloc1 _ _
 have hXb : X.heap[w.heap.size]? = some (.cells #[.int .i64 0, .int .i64 0] 26 (0, 0)) := by rw [HX.out]; exact heap_alloc_last _ _
 have hXs : X.heap.size = w.heap.size + 1 := by rw [HX.out]; simp
 have HT : Hid (Calls Tryz.prog 104 #[] X fun e w' => e = .returned (.func (.func 157) #[] #[.pointer (some ⟨X.heap.size + 1, 0, none⟩)]) ∧ Hid (w'.cell? ⟨X.heap.size + 1, 0, none⟩ = some (.map (some X.heap.size)) ∧ UCnt w' X.heap.size (fun j => (bs j).addr) 0 ∧ Below X.heap.size X w')) := utaker_any _ X
 have HF : Hid (∀ w1, Hid (w1.cell? ⟨X.heap.size + 1, 0, none⟩ = some (.map (some X.heap.size)) ∧ UCnt w1 X.heap.size (fun j => (bs j).addr) 0 ∧ Below X.heap.size X w1) → ∀ Y, Y = w1.alloc (.cells #[.func (.func 157) #[] #[.pointer (some ⟨X.heap.size + 1, 0, none⟩)]] 199) →
   Calls Tryz.prog 105 #[.slice ao n cap, .func (.func 106) #[] #[.pointer (some ⟨w1.heap.size, 0, none⟩)]] Y fun e w' => e = .returned (.agg (ftA (Pl.firstTo (Pl.bErr bs) n))) ∧ Below X.heap.size X w') := by
  intro w1 h Y hY
  obtain ⟨h1, h2, h3⟩ := h.out
  have hYB : Below w1.heap.size w1 Y := by rw [hY]; exact below_alloc1 _ _
  have l1 := block_lt_of_cell h1
  have h2' := h2.lt
  have hYX : Below X.heap.size X Y := h3.trans (hYB.mono h3.size)
  have hYQ : Y.heap[w1.heap.size]? = some (.cells #[.func (.func 157) #[] #[.pointer (some ⟨X.heap.size + 1, 0, none⟩)]] 199 (0, 0)) := by rw [hY]; exact heap_alloc_last _ _
  refine (pbFirst_any ao n cap bs w1.heap.size (X.heap.size + 1) X.heap.size X Y hn (CRow.below hr hXB) (fun i hi => (hb i hi).below hXB) hwf (cell_of_row _ _ 0 _ _ _ hYQ) ((hYB.cell (by exact l1)).trans h1) (by omega) (by omega) (h2.same (hYB.block _ h2')) (Nat.le_refl _) hYX).mono ?_
  rintro e w' ⟨rfl, z⟩
  exact ⟨rfl, z⟩
 have HEND : Hid (∀ W, Below X.heap.size X W → W.heap[w.heap.size]? = some (.cells #[.int .i64 0, .int .i64 0] 26 (0, 0)) ∧ Below w.heap.size w W) := fun W hW => ⟨keep hXb hW, hXB.trans (hW.mono hXB.size)⟩
 clear hr hb hwf hXb hXB hXs
 generalize Pl.firstTo (Pl.bErr bs) n = R at *
 obtain ⟨r1, r2⟩ := R
 simp only [ftA] at *
 go_enter Tryz.func65, Tryz.ntmps65
 go_wp2_with fail
 rw [← HX.out]
 refine HT.out.mono ?_
 rintro e w1 ⟨rfl, h1⟩
 have hf := HF.out w1 h1 _ rfl
 clear HT HF h1
 go_wp2_with fail
 refine hf.mono ?_
 rintro e w2 ⟨rfl, h2⟩
 obtain ⟨k1, k2⟩ := HEND.out w2 h2
 obtain ⟨f0, f1⟩ := two_cells2 k1
 obtain ⟨g0, g1, _, _⟩ := vc_free k1
 have HK1 : Hid (w2.heap[w.heap.size]? = some (.cells #[.int .i64 0, .int .i64 0] 26 (0, 0))) := k1
 have HK2 : Hid (Below w.heap.size w w2) := k2
 clear hf k1 k2 h2 HEND
 go_wp2_with fail
 exact bodyPost_ret (v := .agg #[.int .i64 r1, .int .i64 r2]) (results_row (p := 2) (ty := 26) Tryz.results65 _ _ w.heap.size 26 #[.int .i64 r1, .int .i64 r2] (0, 0) _ rfl (set2_same HK1.out) Tryz.underlying26 rfl (by rw [sizeFt]; rfl)) rfl ⟨rfl, (HK2.out.setCell (Nat.le_refl _) _).setCell (Nat.le_refl _) _⟩
set_option maxRecDepth 100000 in
set_option maxHeartbeats 2000000 in
theorem pwrongLinks_any (ao : Option Addr) (n cap : Nat) (ls : Nat → Lk) (K : Nat) (hK : K ≤ 12) (w : World) (hn : n ≤ 40) (hr : LRow w ao n cap ls) (hwf : ∀ i, i < n → (Lit.int .i64 (ls i).a).wf = true ∧ (Lit.int .i64 (ls i).pa).wf = true ∧ (Lit.int .i64 (ls i).b).wf = true ∧ (Lit.int .i64 (ls i).pb).wf = true) :
  Calls Tryz.prog 66 #[.slice ao n cap, .int .i64 K] w fun e w' => e = .returned (.agg (ftA (Pl.firstTo (Pl.lErr K ls) n))) ∧ Below w.heap.size w w' := by
 obtain ⟨X, HX⟩ : ∃ X, Hid (X = (w.alloc (.cells #[.int .i64 K] 3)).alloc (.cells #[.int .i64 0, .int .i64 0] 26)) := ⟨_, rfl⟩
 have hXB : Below w.heap.size w X := by rw [HX.out]; exact below_alloc2 _ _ _
 have hXn : X.heap[w.heap.size]? = some (.cells #[.int .i64 K] 3 (0, 0)) := by rw [HX.out]; exact heap_alloc2_old w _ _
 have hXb : X.heap[w.heap.size + 1]? = some (.cells #[.int .i64 0, .int .i64 0] 26 (0, 0)) := by rw [HX.out]; exact heap_alloc2_new w _ _
 have hXs : X.heap.size = w.heap.size + 2 := by rw [HX.out]; simp
 have HT : Hid (Calls Tryz.prog 108 #[] X fun e w' => e = .returned (.func (.func 160) #[] #[.pointer (some ⟨X.heap.size + 1, 0, none⟩)]) ∧ Hid (w'.cell? ⟨X.heap.size + 1, 0, none⟩ = some (.map (some X.heap.size)) ∧ PCnt w' X.heap.size (endSeq ls) 0 ∧ Below X.heap.size X w')) := ptaker_any _ X
 have HF : Hid (∀ w1, Hid (w1.cell? ⟨X.heap.size + 1, 0, none⟩ = some (.map (some X.heap.size)) ∧ PCnt w1 X.heap.size (endSeq ls) 0 ∧ Below X.heap.size X w1) → ∀ Y, Y = w1.alloc (.cells #[.func (.func 160) #[] #[.pointer (some ⟨X.heap.size + 1, 0, none⟩)]] 203) →
   Calls Tryz.prog 109 #[.slice ao n cap, .func (.func 110) #[] #[.pointer (some ⟨w.heap.size, 0, none⟩), .pointer (some ⟨w1.heap.size, 0, none⟩)]] Y fun e w' => e = .returned (.agg (ftA (Pl.firstTo (Pl.lErr K ls) n))) ∧ Below X.heap.size X w') := by
  intro w1 h Y hY
  obtain ⟨h1, h2, h3⟩ := h.out
  have hYB : Below w1.heap.size w1 Y := by rw [hY]; exact below_alloc1 _ _
  have l1 := block_lt_of_cell h1
  have h2' := h2.lt
  have hYX : Below X.heap.size X Y := h3.trans (hYB.mono h3.size)
  have hYQ : Y.heap[w1.heap.size]? = some (.cells #[.func (.func 160) #[] #[.pointer (some ⟨X.heap.size + 1, 0, none⟩)]] 203 (0, 0)) := by rw [hY]; exact heap_alloc_last _ _
  refine (plFirst_any ao n cap ls K hK w.heap.size w1.heap.size (X.heap.size + 1) X.heap.size X Y hn (CRow.below hr hXB) hwf (cell_of_row _ _ 0 _ _ _ (keep hXn hYX)) (by omega) (cell_of_row _ _ 0 _ _ _ hYQ) ((hYB.cell (by exact l1)).trans h1) (by omega) (by omega) (h2.same (hYB.block _ h2')) (Nat.le_refl _) hYX).mono ?_
  rintro e w' ⟨rfl, z⟩
  exact ⟨rfl, z⟩
 have HEND : Hid (∀ W, Below X.heap.size X W → W.heap[w.heap.size + 1]? = some (.cells #[.int .i64 0, .int .i64 0] 26 (0, 0)) ∧ Below w.heap.size w W) := fun W hW => ⟨keep hXb hW, hXB.trans (hW.mono hXB.size)⟩
 clear hr hwf hXb hXn hXB hXs
 generalize Pl.firstTo (Pl.lErr K ls) n = R at *
 obtain ⟨r1, r2⟩ := R
 simp only [ftA] at *
 go_enter Tryz.func66, Tryz.ntmps66
 go_wp2_with fail
 rw [← HX.out]
 refine HT.out.mono ?_
 rintro e w1 ⟨rfl, h1⟩
 have hf := HF.out w1 h1 _ rfl
 clear HT HF h1
 go_wp2_with fail
 refine hf.mono ?_
 rintro e w2 ⟨rfl, h2⟩
 obtain ⟨k1, k2⟩ := HEND.out w2 h2
 obtain ⟨f0, f1⟩ := two_cells2 k1
 obtain ⟨g0, g1, _, _⟩ := vc_free k1
 have HK1 : Hid (w2.heap[w.heap.size + 1]? = some (.cells #[.int .i64 0, .int .i64 0] 26 (0, 0))) := k1
 have HK2 : Hid (Below w.heap.size w w2) := k2
 clear hf k1 k2 h2 HEND
 go_wp2_with fail
 exact bodyPost_ret (v := .agg #[.int .i64 r1, .int .i64 r2]) (results_row (p := 4) (ty := 26) Tryz.results66 _ _ (w.heap.size + 1) 26 #[.int .i64 r1, .int .i64 r2] (0, 0) _ rfl (set2_same HK1.out) Tryz.underlying26 rfl (by rw [sizeFt]; rfl)) rfl ⟨rfl, (HK2.out.setCell (Nat.le_add_right _ _) _).setCell (Nat.le_add_right _ _) _⟩
theorem ft_neq (a b c d : Int) (W : World) : (binOp .neq 26 (.agg #[.int .i64 a, .int .i64 b]) (.agg #[.int .i64 c, .int .i64 d])).run Tryz.prog W = .ok (.bool (!decide (a = c ∧ b = d))) W := by
 by_cases h : a = c ∧ b = d
 ·rw [decide_eq_true h]
  obtain ⟨rfl, rfl⟩ := h
  go_simp
 ·rw [decide_eq_false h]
  go_simp
  exact fun p q => h ⟨p, q⟩
theorem ft4_cells {w : World} {g : Nat} {a0 a1 a2 a3 : Value} {ty : TypeId} (h : w.heap[g]? = some (.cells #[a0, a1, a2, a3] ty (0, 0))) : w.cell? ⟨g, 0, none⟩ = some a0 ∧ w.cell? ⟨g, 1, none⟩ = some a1 ∧ w.cell? ⟨g, 2, none⟩ = some a2 ∧ w.cell? ⟨g, 3, none⟩ = some a3 := vc_cells h
set_option maxRecDepth 100000 in
set_option maxHeartbeats 2000000 in
theorem corf2 (x1 x2 y1 y2 : Int) (g : Nat) (ty : TypeId) (w : World) (h : w.heap[g]? = some (.cells #[.int .i64 x1, .int .i64 x2, .int .i64 y1, .int .i64 y2] ty (0, 0))) (R1 R2 : Int) (hR : (R1, R2) = if x1 = 0 ∧ x2 = 0 then (y1, y2) else (x1, x2)) :
  Calls Tryz.prog 64 #[.slice (some ⟨g, 0, none⟩) 2 2] w fun e w' => e = .returned (.agg #[.int .i64 R1, .int .i64 R2]) ∧ Below w.heap.size w w' := by
 have hgl := (Array.getElem?_eq_some_iff.1 h).1
 obtain ⟨W0, HW0⟩ : ∃ W0, Hid (W0 = (w.alloc (.cells #[.int .i64 0, .int .i64 0] 26)).alloc (.cells #[.int .i64 0, .int .i64 0] 26)) := ⟨_, rfl⟩
 have hB0 : Below w.heap.size w W0 := by rw [HW0.out]; exact below_alloc2 _ _ _
 have h20 : W0.heap[w.heap.size]? = some (.cells #[.int .i64 0, .int .i64 0] 26 (0, 0)) := by rw [HW0.out]; exact heap_alloc2_old w _ _
 have h30 : W0.heap[w.heap.size + 1]? = some (.cells #[.int .i64 0, .int .i64 0] 26 (0, 0)) := by rw [HW0.out]; exact heap_alloc2_new w _ _
 have HC : Hid (∀ W, Below W0.heap.size W0 W → W.heap[g]? = some (.cells #[.int .i64 x1, .int .i64 x2, .int .i64 y1, .int .i64 y2] ty (0, 0)) ∧ W.heap[w.heap.size]? = some (.cells #[.int .i64 0, .int .i64 0] 26 (0, 0)) ∧ W.heap[w.heap.size + 1]? = some (.cells #[.int .i64 0, .int .i64 0] 26 (0, 0)) ∧ Below w.heap.size w W) := fun W hW =>
  ⟨keep (keep h hB0) hW, keep h20 hW, keep h30 hW, hB0.trans (hW.mono hB0.size)⟩
 have HNE : Hid (∀ a b W, (binOp .neq 26 (.agg #[.int .i64 a, .int .i64 b]) (.agg #[.int .i64 0, .int .i64 0])).run Tryz.prog W = .ok (.bool (!decide (a = 0 ∧ b = 0))) W) := fun a b W => ft_neq a b 0 0 W
 have HR : Hid ((R1, R2) = if x1 = 0 ∧ x2 = 0 then (y1, y2) else (x1, x2)) := hR
 clear h hB0 h20 h30 hR
 go_enter Tryz.func64, Tryz.ntmps64
 go_wp2_with fail
 rw [← HW0.out]
 go_loopw [8] (fun i wr => ∃ k : Nat, k ≤ 2 ∧ i = .int .i64 k ∧ Hid ((0 < k → x1 = 0 ∧ x2 = 0) ∧ (1 < k → y1 = 0 ∧ y2 = 0)) ∧ Hid (Below W0.heap.size W0 wr)) (fun i _ => 2 - (intOf i).toNat)
 case atStart => exact ⟨0, by omega, rfl, ⟨fun h => absurd h (by omega), fun h => absurd h (by omega)⟩, Below.refl _ _⟩
 case round =>
  obtain ⟨k, hk, rfl, hS, hX⟩ := hrel
  obtain ⟨j1, j2, j3, j4⟩ := HC.out wr hX.out
  by_cases hlt : k < 2
  ·have pick : ∃ a b : Int, wr.cell? ⟨g, k * 2, none⟩ = some (.int .i64 a) ∧ wr.cell? ⟨g, k * 2 + 1, none⟩ = some (.int .i64 b) ∧ Hid ((a = 0 ∧ b = 0) → (0 < k + 1 → x1 = 0 ∧ x2 = 0) ∧ (1 < k + 1 → y1 = 0 ∧ y2 = 0)) ∧ Hid (¬ (a = 0 ∧ b = 0) → (R1, R2) = (a, b)) := by
    obtain ⟨c0, c1, c2, c3⟩ := ft4_cells j1
    rcases (by omega : k = 0 ∨ k = 1) with e | e <;> subst e
    ·exact ⟨x1, x2, c0, c1, fun q => ⟨fun _ => q, fun h => absurd h (by omega)⟩, fun q => by rw [HR.out, if_neg q]⟩
    ·exact ⟨y1, y2, c2, c3, fun q => ⟨fun _ => hS.out.1 (by omega), fun _ => q⟩, fun q => by rw [HR.out, if_pos (hS.out.1 (by omega))]⟩
   obtain ⟨a, b, c0, c1, HZ, HNZ⟩ := pick
   obtain ⟨X, HX⟩ : ∃ X, Hid (X = wr.alloc (.cells #[.int .i64 a, .int .i64 b] 26)) := ⟨_, rfl⟩
   have HXB : Hid (Below W0.heap.size W0 X) := by rw [HX.out]; exact hX.out.alloc hX.out.size _
   obtain ⟨i1, i2, i3, i4⟩ := HC.out X HXB.out
   obtain ⟨z0, z1⟩ := two_cells2 i3
   obtain ⟨r0, r1⟩ := two_cells2 i2
   obtain ⟨f0, f1, _, _⟩ := vc_free i2
   have HI2 : Hid (X.heap[w.heap.size]? = some (.cells #[.int .i64 0, .int .i64 0] 26 (0, 0))) := i2
   have HI4 : Hid (Below w.heap.size w X) := i4
   have b5 : X.heap[wr.heap.size]? = some (.cells #[.int .i64 a, .int .i64 b] 26 (0, 0)) := by rw [HX.out]; exact heap_alloc_last _ _
   obtain ⟨u0, u1⟩ := two_cells2 b5
   have hq := HNE.out a b X
   clear j1 j2 j3 j4 i1 i2 i3 i4 b5 hS hX HC HR
   by_cases h0 : a = 0 ∧ b = 0
   ·have HZ1 : Hid _ := HZ.out h0
    obtain ⟨rfl, rfl⟩ := h0
    clear HZ HNZ hq
    rw [HX.out] at z0 z1 u0 u1
    go_wp2_with fail
    rw [← HX.out]
    exact ⟨⟨k + 1, by omega, by go_num, HZ1, HXB⟩, by simp [intOf]; omega⟩
   ·have HZ1 : Hid ((R1, R2) = (a, b)) := HNZ.out h0
    clear HZ HNZ hq
    rw [HX.out] at z0 z1 u0 u1 r0 r1 f0 f1
    by_cases ha : a = 0
    ·subst ha
     have hb : ¬ b = 0 := fun q => h0 ⟨rfl, q⟩
     clear h0
     go_wp2_with fail
     rw [← HX.out]
     exact bodyPost_ret (v := .agg #[.int .i64 0, .int .i64 b]) (results_row (p := 2) (ty := 26) Tryz.results64 _ _ w.heap.size 26 #[.int .i64 0, .int .i64 b] (0, 0) _ rfl (set2_same HI2.out) Tryz.underlying26 rfl (by rw [sizeFt]; rfl)) rfl ⟨by have := HZ1.out; injection this with t1 t2; rw [t1, t2], (HI4.out.setCell (Nat.le_refl _) _).setCell (Nat.le_refl _) _⟩
    ·clear h0
     go_wp2_with fail
     rw [← HX.out]
     exact bodyPost_ret (v := .agg #[.int .i64 a, .int .i64 b]) (results_row (p := 2) (ty := 26) Tryz.results64 _ _ w.heap.size 26 #[.int .i64 a, .int .i64 b] (0, 0) _ rfl (set2_same HI2.out) Tryz.underlying26 rfl (by rw [sizeFt]; rfl)) rfl ⟨by have := HZ1.out; injection this with t1 t2; rw [t1, t2], (HI4.out.setCell (Nat.le_refl _) _).setCell (Nat.le_refl _) _⟩
  ·obtain rfl : k = 2 := by omega
   have HZ1 : Hid ((R1, R2) = ((0 : Int), (0 : Int))) := by
    rw [HR.out, if_pos (hS.out.1 (by omega))]
    obtain ⟨e1, e2⟩ := hS.out.2 (by omega)
    rw [e1, e2]; rfl
   obtain ⟨r0, r1⟩ := two_cells2 j2
   obtain ⟨z0, z1⟩ := two_cells2 j3
   obtain ⟨f0, f1, _, _⟩ := vc_free j2
   have HI2 : Hid (wr.heap[w.heap.size]? = some (.cells #[.int .i64 0, .int .i64 0] 26 (0, 0))) := j2
   have HI4 : Hid (Below w.heap.size w wr) := j4
   clear j1 j2 j3 j4 hS hX HC HR
   go_wp2_with fail
   exact bodyPost_ret (v := .agg #[.int .i64 0, .int .i64 0]) (results_row (p := 2) (ty := 26) Tryz.results64 _ _ w.heap.size 26 #[.int .i64 0, .int .i64 0] (0, 0) _ rfl (set2_same HI2.out) Tryz.underlying26 rfl (by rw [sizeFt]; rfl)) rfl ⟨by have := HZ1.out; injection this with t1 t2; rw [t1, t2], (HI4.out.setCell (Nat.le_refl _) _).setCell (Nat.le_refl _) _⟩
namespace Pl
structure Net.Wf (n : Net) : Prop where
 addr : ∀ i, i < n.K → (Lit.int .u64 (n.bs i).addr).wf = true
 link : ∀ i, i < n.L → (Lit.int .i64 (n.ls i).a).wf = true ∧ (Lit.int .i64 (n.ls i).pa).wf = true ∧ (Lit.int .i64 (n.ls i).b).wf = true ∧ (Lit.int .i64 (n.ls i).pb).wf = true
end Pl
set_option maxRecDepth 100000 in
set_option maxHeartbeats 4000000 in
theorem pwrong_any (n : Net) (w : World) (hat : n.at' w) (hwf : n.Wf) :
  Calls Tryz.prog 31 #[n.val] w fun e w' => e = .returned (.agg (ftA n.wrong)) ∧ Below w.heap.size w w' := by
 obtain ⟨bao, K, bcap, bs, lao, L, lcap, ls⟩ := n
 obtain ⟨hbr, heach, hlk, hmB, hmL⟩ := hat
 obtain ⟨hwa, hwl⟩ := hwf
 simp only at hbr heach hlk hmB hmL hwa hwl
 simp only [Pl.Net.val]
 have HE : Hid (Pl.Net.wrong ⟨bao, K, bcap, bs, lao, L, lcap, ls⟩ = if 12 < K ∨ 40 < L then (5, 0) else if (Pl.firstTo (Pl.bErr bs) K).1 ≠ 0 then Pl.firstTo (Pl.bErr bs) K else Pl.firstTo (Pl.lErr K ls) L) := rfl
 rw [HE.out]
 clear HE
 obtain ⟨X, HX⟩ : ∃ X, Hid (X = (w.alloc (.cells #[.slice bao K bcap, .slice lao L lcap] 32)).alloc (.cells #[.int .i64 0, .int .i64 0] 26)) := ⟨_, rfl⟩
 have hXB : Below w.heap.size w X := by rw [HX.out]; exact below_alloc2 _ _ _
 have hXn : X.heap[w.heap.size]? = some (.cells #[.slice bao K bcap, .slice lao L lcap] 32 (0, 0)) := by rw [HX.out]; exact heap_alloc2_old w _ _
 have hXf : X.heap[w.heap.size + 1]? = some (.cells #[.int .i64 0, .int .i64 0] 26 (0, 0)) := by rw [HX.out]; exact heap_alloc2_new w _ _
 have HC : Hid (∀ W, Below X.heap.size X W → (W.cell? ⟨w.heap.size, 0, none⟩ = some (.slice bao K bcap) ∧ W.cell? ⟨w.heap.size, 1, none⟩ = some (.slice lao L lcap)) ∧ (W.cell? ⟨w.heap.size + 1, 0, none⟩ = some (.int .i64 0) ∧ W.cell? ⟨w.heap.size + 1, 1, none⟩ = some (.int .i64 0)) ∧ W.frozen? ⟨w.heap.size + 1, 0, none⟩ = false ∧ W.frozen? ⟨w.heap.size + 1, 1, none⟩ = false) := fun W hW =>
  ⟨two_cells2 (keep hXn hW), two_cells2 (keep hXf hW), (vc_free (keep hXf hW)).1, (vc_free (keep hXf hW)).2.1⟩
 have HF : Hid (∀ W, Below X.heap.size X W → W.heap[w.heap.size + 1]? = some (.cells #[.int .i64 0, .int .i64 0] 26 (0, 0)) ∧ Below w.heap.size w W) := fun W hW => ⟨keep hXf hW, hXB.trans (hW.mono hXB.size)⟩
 obtain ⟨⟨c0, c1⟩, ⟨d0, d1⟩, e0, e1⟩ := HC.out X (Below.refl _ _)
 by_cases h12 : 12 < K
 ·rw [if_pos (Or.inl h12)]
  have h12z : (12 : Int) < (K : Int) := by omega
  clear hbr heach hlk hwa hwl hXn hXf HC HF hXB
  rw [HX.out] at c0 c1 d0 d1 e0 e1
  go_enter Tryz.func31, Tryz.ntmps31
  go_wp2_with fail
  exact bodyPost_ret (v := .agg #[.int .i64 5, .int .i64 0]) (results_row (p := 2) (ty := 26) Tryz.results31 _ _ (w.heap.size + 1) 26 #[.int .i64 5, .int .i64 0] (0, 0) _ rfl (heap_alloc2_new w _ _) Tryz.underlying26 rfl (by rw [sizeFt]; rfl)) rfl ⟨rfl, below_alloc2 _ _ _⟩
 ·have h12z : ¬ (12 : Int) < (K : Int) := by omega
  by_cases h40 : 40 < L
  ·rw [if_pos (Or.inr h40)]
   have h40z : (40 : Int) < (L : Int) := by omega
   clear hbr heach hlk hwa hwl hXn hXf HC HF hXB
   rw [HX.out] at c0 c1 d0 d1 e0 e1
   go_enter Tryz.func31, Tryz.ntmps31
   go_wp2_with fail
   exact bodyPost_ret (v := .agg #[.int .i64 5, .int .i64 0]) (results_row (p := 2) (ty := 26) Tryz.results31 _ _ (w.heap.size + 1) 26 #[.int .i64 5, .int .i64 0] (0, 0) _ rfl (heap_alloc2_new w _ _) Tryz.underlying26 rfl (by rw [sizeFt]; rfl)) rfl ⟨rfl, below_alloc2 _ _ _⟩
  ·rw [if_neg (fun q => by rcases q with q | q; exact h12 q; exact h40 q)]
   have h40z : ¬ (40 : Int) < (L : Int) := by omega
   have HWB : Hid (∀ W, Below X.heap.size X W → Calls Tryz.prog 65 #[.slice bao K bcap] W fun e w' => e = .returned (.agg (ftA (Pl.firstTo (Pl.bErr bs) K))) ∧ Hid (Below X.heap.size X w')) := fun W hW => by
    have hW2 : Below w.heap.size w W := hXB.trans (hW.mono hXB.size)
    refine (pwrongBridges_any bao K bcap bs W (by omega) (CRow.below hbr hW2) (fun i hi => (heach i hi).below hW2) hwa).mono ?_
    rintro e w' ⟨rfl, z⟩
    exact ⟨rfl, hW.trans (z.mono hW.size)⟩
   have HWL : Hid (∀ W, Below X.heap.size X W → Calls Tryz.prog 66 #[.slice lao L lcap, .int .i64 K] W fun e w' => e = .returned (.agg (ftA (Pl.firstTo (Pl.lErr K ls) L))) ∧ Hid (Below X.heap.size X w')) := fun W hW => by
    have hW2 : Below w.heap.size w W := hXB.trans (hW.mono hXB.size)
    refine (pwrongLinks_any lao L lcap ls K (by omega) W (by omega) (CRow.below hlk hW2) hwl).mono ?_
    rintro e w' ⟨rfl, z⟩
    exact ⟨rfl, hW.trans (z.mono hW.size)⟩
   have HEQ : Hid ((if (Pl.firstTo (Pl.bErr bs) K).1 ≠ 0 then Pl.firstTo (Pl.bErr bs) K else Pl.firstTo (Pl.lErr K ls) L) = if (Pl.firstTo (Pl.bErr bs) K).1 = 0 ∧ (Pl.firstTo (Pl.bErr bs) K).2 = 0 then ((Pl.firstTo (Pl.lErr K ls) L).1, (Pl.firstTo (Pl.lErr K ls) L).2) else ((Pl.firstTo (Pl.bErr bs) K).1, (Pl.firstTo (Pl.bErr bs) K).2)) := by
    show (if _ then _ else _) = _
    by_cases q : (Pl.firstTo (Pl.bErr bs) K).1 = 0
    ·rw [if_neg (fun p => p q), if_pos ⟨q, by rw [(Pl.firstTo_zero _ _ q).1]⟩]
    ·rw [if_pos q, if_neg (fun p => q p.1)]
   clear hbr heach hlk hwa hwl hXn hXf hXB
   generalize Pl.firstTo (Pl.bErr bs) K = x at *
   generalize Pl.firstTo (Pl.lErr K ls) L = y at *
   obtain ⟨x1, x2⟩ := x
   obtain ⟨y1, y2⟩ := y
   generalize (if (x1, x2).1 ≠ 0 then (x1, x2) else (y1, y2)) = R at *
   obtain ⟨R1, R2⟩ := R
   simp only [ftA] at *
   have HOR : Hid (∀ (g : Nat) (ty : TypeId) (W : World), Below X.heap.size X W → W.heap[g]? = some (.cells #[.int .i64 x1, .int .i64 x2, .int .i64 y1, .int .i64 y2] ty (0, 0)) → Calls Tryz.prog 64 #[.slice (some ⟨g, 0, none⟩) 2 2] W fun e w' => e = .returned (.agg #[.int .i64 R1, .int .i64 R2]) ∧ Hid (Below X.heap.size X w')) := fun g ty W hW h => by
    refine (corf2 x1 x2 y1 y2 g ty W h R1 R2 HEQ.out).mono ?_
    rintro e w' ⟨rfl, z⟩
    exact ⟨rfl, hW.trans (z.mono hW.size)⟩
   have HXX : Hid (Below X.heap.size X X.drew) := Below.drew (Below.refl _ _)
   clear HEQ
   rw [HX.out] at c0 c1
   go_enter Tryz.func31, Tryz.ntmps31
   go_wp2_with fail
   rw [← HX.out] at c0 c1 ⊢
   go_region_with (first | (go_at_call 65; (with_reducible refine (HWB.out _ (by first | exact (Below.refl _ _).drew | exact below_drewN (Below.refl _ _) _ | exact Below.refl _ _)).mono ?_); rintro e w1 ⟨rfl, Hw1⟩; obtain ⟨⟨k0, k1⟩, ⟨m0, m1⟩, n0, n1⟩ := HC.out w1 Hw1.out) | (go_at_call 66; (with_reducible refine (HWL.out _ (by first | exact Hw1.out | exact Hw1.out.drew | exact below_drewN Hw1.out _)).mono ?_); rintro e w2 ⟨rfl, Hw2⟩; obtain ⟨⟨k0, k1⟩, ⟨m0, m1⟩, n0, n1⟩ := HC.out w2 Hw2.out) | (go_at_call 64; refine (HOR.out _ _ _ (Hw2.out.alloc Hw2.out.size _) (heap_alloc_last _ _)).mono ?_; rintro e w3 ⟨rfl, Hw3⟩; obtain ⟨⟨k0, k1⟩, ⟨m0, m1⟩, n0, n1⟩ := HC.out w3 Hw3.out))
   all_goals go_wp2_with fail
   all_goals exact bodyPost_ret (v := .agg #[.int .i64 R1, .int .i64 R2]) (results_row (p := 2) (ty := 26) Tryz.results31 _ _ (w.heap.size + 1) 26 #[.int .i64 R1, .int .i64 R2] (0, 0) _ rfl (set2_same (HF.out _ Hw3.out).1) Tryz.underlying26 rfl (by rw [sizeFt]; rfl)) rfl ⟨rfl, ((HF.out _ Hw3.out).2.setCell (Nat.le_add_right _ _) _).setCell (Nat.le_add_right _ _) _⟩
end Go.Proofs.YtflghpnpjmodaaaGreatDoor
namespace Go.Proofs.YtflghpnpjmodaaaGreatDoor
open Go.ChangeShapes Go.WideShapes Go.ChangeAt Go.RowKit
theorem gTurns : Tryz.prog.globalNamed "hedgerow/md5.turns" = some 1 := by kernel_rfl
theorem gTurnsType : (Tryz.prog.globals[1]?).map (·.type) = some 279 := by kernel_rfl
theorem gAdds : Tryz.prog.globalNamed "hedgerow/md5.addends" = some 0 := by kernel_rfl
theorem gAddsType : (Tryz.prog.globals[0]?).map (·.type) = some 274 := by kernel_rfl
theorem cells52 : Tryz.prog.cellsOf 274 = 64 := by kernel_rfl
theorem cells55 : Tryz.prog.cellsOf 278 = 4 := by kernel_rfl
theorem cells32 : Tryz.prog.cellsOf 168 = 1 := by kernel_rfl
theorem cells3 : Tryz.prog.cellsOf 3 = 1 := by kernel_rfl
theorem tabs_of {W : World} (h : laidMetH Tryz.prog [("hedgerow/md5.turns", Rows.laid_hedgerow_md5_turns), ("hedgerow/md5.addends", Rows.laid_hedgerow_md5_addends)] W) : Tabs W := by
 have h' : laidMet Tryz.prog [("hedgerow/md5.turns", Rows.laid_hedgerow_md5_turns), ("hedgerow/md5.addends", Rows.laid_hedgerow_md5_addends)] W := h
 refine ⟨fun i hi => ?_, fun i hi => ?_⟩
 ·have ht : laidMet Tryz.prog [("hedgerow/md5.addends", Lib.tabData .u32 Md.tab)] W := laidMet.tail h'
  have := Lib.tabIs_of_head (rest := []) gAdds gAddsType Tryz.underlying274 Tryz.underlying168 cells32 cells52 ht
  exact this.cell gAdds i hi
 ·obtain ⟨ps, ⟨g', t', cs, fuel, p, q, hg', ht', hvar, hd, _, _⟩, _⟩ := h'
  obtain rfl := Option.some.inj (gTurns.symm.trans hg')
  obtain rfl := Option.some.inj (gTurnsType.symm.trans ht')
  obtain ⟨xs, m, rfl, hx, hl, hxl, hall⟩ := DataW.trod_array Tryz.underlying279 hd
  have hx1 : xs.map (·.1) = [Lib.tabData .i64 [7, 12, 17, 22], Lib.tabData .i64 [5, 9, 14, 20], Lib.tabData .i64 [4, 11, 16, 23], Lib.tabData .i64 [6, 10, 15, 21]] := by
   have := congrArg Prod.fst hx
   simp only [Rows.laid_hedgerow_md5_turns] at this
   exact (DataW.agg.inj this).symm
  have row : ∀ r zs, r < 4 → (xs.map (·.1))[r]? = some (Lib.tabData .i64 zs) → (cs.toList.drop (r * 4)).take 4 = zs.map fun z => Value.int .i64 z := by
   intro r zs hr hz
   have h1 := hall r hr
   rw [cells55] at h1
   simp only [List.getElem?_map, Option.map_eq_some_iff] at hz
   obtain ⟨y, hy, hy1⟩ := hz
   rw [hy] at h1
   obtain ⟨y1, y2⟩ := y
   simp only at hy1
   subst hy1
   exact Lib.cells_of_tab Tryz.underlying278 Tryz.underlying3 cells3 cells55 h1
  have cell := World.var?_cell gTurns hvar i
  rw [cell]
  have hget : ∀ r j, j < 4 → cs[r * 4 + j]? = ((cs.toList.drop (r * 4)).take 4)[j]? := by
   intro r j hj
   rw [List.getElem?_take_of_lt hj, List.getElem?_drop, Array.getElem?_toList]
  rcases (show (∃ j, j < 4 ∧ i = 0 * 4 + j) ∨ (∃ j, j < 4 ∧ i = 1 * 4 + j) ∨ (∃ j, j < 4 ∧ i = 2 * 4 + j) ∨ (∃ j, j < 4 ∧ i = 3 * 4 + j) from by
   by_cases h1 : i < 4
   ·exact Or.inl ⟨i, h1, by omega⟩
   ·by_cases h2 : i < 8
    ·exact Or.inr (Or.inl ⟨i - 4, by omega, by omega⟩)
    ·by_cases h3 : i < 12
     ·exact Or.inr (Or.inr (Or.inl ⟨i - 8, by omega, by omega⟩))
     ·exact Or.inr (Or.inr (Or.inr ⟨i - 12, by omega, by omega⟩))) with ⟨j, hj, rfl⟩ | ⟨j, hj, rfl⟩ | ⟨j, hj, rfl⟩ | ⟨j, hj, rfl⟩
  ·rw [hget 0 j hj, row 0 [7, 12, 17, 22] (by omega) (by rw [hx1]; rfl)]
   rcases (show j = 0 ∨ j = 1 ∨ j = 2 ∨ j = 3 by omega) with rfl | rfl | rfl | rfl <;> rfl
  ·rw [hget 1 j hj, row 1 [5, 9, 14, 20] (by omega) (by rw [hx1]; rfl)]
   rcases (show j = 0 ∨ j = 1 ∨ j = 2 ∨ j = 3 by omega) with rfl | rfl | rfl | rfl <;> rfl
  ·rw [hget 2 j hj, row 2 [4, 11, 16, 23] (by omega) (by rw [hx1]; rfl)]
   rcases (show j = 0 ∨ j = 1 ∨ j = 2 ∨ j = 3 by omega) with rfl | rfl | rfl | rfl <;> rfl
  ·rw [hget 3 j hj, row 3 [6, 10, 15, 21] (by omega) (by rw [hx1]; rfl)]
   rcases (show j = 0 ∨ j = 1 ∨ j = 2 ∨ j = 3 by omega) with rfl | rfl | rfl | rfl <;> rfl
def rowPut (cs : Array Value) : Obj → Obj
 | .cells _ t frozen => .cells cs t frozen
 | o => o
def laidW (w : World) : World :=
 { w with heap := (w.heap.modify 0 (rowPut (Md.tab.map (Value.int .u32)).toArray)).modify 1 (rowPut (Md.trn.map (Value.int .i64)).toArray) }
theorem cellsWay : Tryz.prog.cellsOf 92 = 2 := by kernel_rfl
theorem cellsInt : Tryz.prog.cellsOf 3 = 1 := by kernel_rfl
theorem ways_cell {H : Type} {enc : TypeId × Value → H} {W : World} {v : Value} {fuel : Nat} {x : DataW H × List MemPlace}
  (hf : DataW.trod enc Tryz.prog W 0 (fun _ => true) true fuel 54 [v] = some x) :
  ∃ ao n cap vs ts, v = .slice ao n cap ∧ WayRow W ao n cap vs ts ∧ n ≤ 9223372036854775807 := by
 rcases Deep.open_slice_pairs Tryz.underlying54 Tryz.underlying92 cellsWay rfl rfl cellsInt cellsInt hf with ⟨hcs, _⟩ | ⟨a, len, cap, m, k, V0, V1, D0, D1, P0, P1, hcs, _, hl, hm, hmm, _, hx⟩
 ·simp at hcs
  subst hcs
  exact ⟨none, 0, 0, fun _ => 0, fun _ => 0, rfl, ⟨Nat.le_refl _, fun h => absurd h (by omega)⟩, by omega⟩
 ·simp at hcs
  subst hcs
  rw [if_pos rfl] at hmm
  have each : ∀ i, i < len → ∃ q : Int × Int, V0 i = .int .i64 q.1 ∧ V1 i = .int .i64 q.2 := by
   intro i hi
   obtain ⟨_, _, t0, t1⟩ := hx i (by omega)
   obtain ⟨y0, e0, _, _⟩ := DataW.trod_int Tryz.underlying3 t0
   obtain ⟨y1, e1, _, _⟩ := DataW.trod_int Tryz.underlying3 t1
   exact ⟨(y0, y1), one_of e0, one_of e1⟩
  obtain ⟨q, hq⟩ := Deep.choose_lt each
  refine ⟨some a, len, cap, fun i => (q i).1, fun i => (q i).2, rfl, ⟨hl, fun hp => ?_⟩, by unfold maxLen at hm; omega⟩
  obtain ⟨b, off, spot⟩ := a
  have hspot : spot = none := by
   have h0 := (hx 0 (by omega)).1
   simpa [Addr.add] using World.cell?_spot h0
  subst hspot
  have hc : ∀ i, i < len → W.cell? ⟨b, off + i * 2, none⟩ = some (.int .i64 (q i).1) ∧ W.cell? ⟨b, off + i * 2 + 1, none⟩ = some (.int .i64 (q i).2) := by
   intro i hi
   obtain ⟨c0, c1, _, _⟩ := hx i (by omega)
   rw [add_row, (hq i hi).1] at c0
   rw [add_row, (hq i hi).2] at c1
   exact ⟨c0, c1⟩
  exact ⟨b, off, rfl, block_lt_of_cell (hc 0 hp).1, hc⟩
end Go.Proofs.YtflghpnpjmodaaaGreatDoor
