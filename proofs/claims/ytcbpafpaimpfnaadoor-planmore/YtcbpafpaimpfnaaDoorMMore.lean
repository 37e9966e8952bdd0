/- 'hedgelaw6.PlanMore' returns true for every net, every tree and every number, and leaves it as it was: the row and its tied card. Conditions: none beyond the form's own (the tables lie as the program's text lays them: the card's tie). -/
import Derived.Test.YtcbpafpaimpfnaaDoorME
import Derived.Test.YtcbpafpaimpfnaaDoorCards
import Derived.Test.YtcbpafpaimpfnaaDoorTie
import Derived.Test.YtcbpafpaimpfnaaDoorMF
namespace Go.Proofs.YtcbpafpaimpfnaaDoor
open Go.RowKit
open Vc (V Of)
open Pl (Br Net Pc Lk En St)

/-- Links with one up, or down. -/
def putL (ls : Nat → Lk) (wh : Nat) (up : Bool) (k : Nat) : Lk := if k = wh then { ls k with up := up } else ls k
def Pl.Net.put (n : Net) (wh : Nat) (up : Bool) : Net := { n with ls := putL n.ls wh up }
def Pl.Net.lay (n : Net) (lao : Option Addr) (lcap : Nat) : Net := { n with lao := lao, lcap := lcap }
theorem putL_row (ls : Nat → Lk) (wh : Nat) (up : Bool) (L : Nat) (h : wh < L) : (cellsL L 6 (fun i => lkC (ls i))).set (wh * 6 + 5) (.bool up) = cellsL L 6 (fun i => lkC (putL ls wh up i)) := by
  have h1 := congrArg Array.toList (rowC_put (n := L) (k := 6) (fun i => lkC (ls i)) h (show 5 < 6 by omega) (.bool up))
  rw [Array.toList_setIfInBounds] at h1
  have h2 : rowC L 6 (updC (fun i => lkC (ls i)) wh 5 (.bool up)) = rowC L 6 (fun i => lkC (putL ls wh up i)) := by
    apply rowC_congr2
    intro i _ j hj
    unfold updC putL
    by_cases e : i = wh
    · subst e
      rw [if_pos rfl]
      rcases (by omega : j = 0 ∨ j = 1 ∨ j = 2 ∨ j = 3 ∨ j = 4 ∨ j = 5) with q | q | q | q | q | q <;> subst q <;> simp [lkC]
    · rw [if_neg (fun q => e q.1), if_neg e]
  rw [h2] at h1
  exact h1
/-- What the copy of links is, as it lies; what a store at one makes of it. -/
theorem more_net {w : World} (n : Net) (wh : Nat) (hat : n.at' w) (hw : wh < n.L) (hby : n.L * 48 ≤ 140737488355328) :
    ∃ g c w2, (Builtin.append_ #[23, 23] 23 #[.slice (some ⟨w.heap.size + 1 + 1, 0, none⟩) 0 0, .slice n.lao n.L n.lcap]).run Tryd.prog (((w.alloc (.cells #[.int .i64 0, .int .i64 0] 30)).alloc (.cells #[.slice n.bao n.K n.bcap, .slice n.lao n.L n.lcap] 25)).alloc (.cells #[] 32)) = .ok (.slice (some ⟨g, 0, none⟩) n.L c) w2 ∧ Below w.heap.size w w2 ∧
      w2.heap[w.heap.size]? = some (.cells #[.int .i64 0, .int .i64 0] 30 (0, 0)) ∧ w2.heap[w.heap.size + 1]? = some (.cells #[.slice n.bao n.K n.bcap, .slice n.lao n.L n.lcap] 25 (0, 0)) ∧ w.heap.size + 1 < g ∧ n.L ≤ c ∧
      w2.ownsRow (w.heap.size + 1 + 1) 32 6 (.slice (some ⟨g, 0, none⟩) n.L c) n.L (cellsL n.L 6 (fun i => lkC (n.ls i))) := by
  obtain ⟨Y, hY⟩ : ∃ Y, Y = ((w.alloc (.cells #[.int .i64 0, .int .i64 0] 30)).alloc (.cells #[.slice n.bao n.K n.bcap, .slice n.lao n.L n.lcap] 25)) := ⟨_, rfl⟩
  have hYB : Below w.heap.size w Y := by rw [hY]; exact below_alloc2 _ _ _
  have hYf : Y.heap[w.heap.size]? = some (.cells #[.int .i64 0, .int .i64 0] 30 (0, 0)) := by rw [hY]; exact heap_alloc2_old w _ _
  have hYn : Y.heap[w.heap.size + 1]? = some (.cells #[.slice n.bao n.K n.bcap, .slice n.lao n.L n.lcap] 25 (0, 0)) := by rw [hY]; exact heap_alloc2_new w _ _
  have hYs : Y.heap.size = w.heap.size + 1 + 1 := by rw [hY]; simp
  rw [← hY]
  have hZB : Below Y.heap.size Y (Y.alloc (.cells #[] 32)) := below_alloc1 _ _
  have hZ := heap_alloc_last Y (.cells #[] 32)
  have hr : LRow (Y.alloc (.cells #[] 32)) n.lao n.L n.lcap n.ls := CRow.below (CRow.below hat.lks hYB) hZB
  have hown := ownsC_empty (k := 6) (base := w.heap.size + 1 + 1) (fun i => lkC (n.ls i)) hZ (by omega)
  rw [hYs] at hown
  obtain ⟨a1, c1, w2, r, ho, hb, _⟩ := append_c (Y.alloc (.cells #[] 32)) 23 32 _ 6 48 Tryd.underlying23 infoLk rfl (by omega) (w.heap.size + 1 + 1) _ 0 _ hown n.lao n.L n.lcap (fun i => lkC (n.ls i)) (fun _ j => lkC_one _ j) hr (fun e => by
    obtain ⟨b, off, e', _⟩ := hr.2 (by omega)
    rw [e] at e'; cases e') (by unfold maxLen; omega) (by omega) (by simp; omega)
  rw [Nat.zero_add] at r ho
  rw [cellsL_congr n.L 6 _ (fun i => lkC (n.ls i)) (fun i hi => by simp [catC])] at ho
  rcases ho.2 with ⟨e, _⟩ | ⟨g, cap, cur, e, hg, hh, q1, q2, q3, q4⟩
  · injection e with e1 e2 e3
    omega
  · injection e with e1 e2 e3
    subst e1
    subst e3
    have hl1 := (Array.getElem?_eq_some_iff.1 hYf).1
    have hl2 := (Array.getElem?_eq_some_iff.1 hYn).1
    have hZs := hZB.size
    refine ⟨g, c1, w2, r, (hYB.trans (hZB.mono hYB.size)).trans (hb.mono (by omega)), ?_, ?_, by omega, q1, ho⟩
    · rw [hb.block _ (by omega)]; exact keep hYf hZB
    · rw [hb.block _ (by omega)]; exact keep hYn hZB
theorem more_put {w w2 : World} (n : Net) (wh : Nat) (up : Bool) {g c : Nat} (hat : n.at' w) (hw : wh < n.L) (hb : Below w.heap.size w w2) (hf : w2.heap[w.heap.size]? = some (.cells #[.int .i64 0, .int .i64 0] 30 (0, 0))) (hn : w2.heap[w.heap.size + 1]? = some (.cells #[.slice n.bao n.K n.bcap, .slice n.lao n.L n.lcap] 25 (0, 0))) (hg : w.heap.size + 1 < g)
    (ho : w2.ownsRow (w.heap.size + 1 + 1) 32 6 (.slice (some ⟨g, 0, none⟩) n.L c) n.L (cellsL n.L 6 (fun i => lkC (n.ls i)))) :
    ∀ W3, W3 = w2.setCell ⟨w.heap.size + 1, 1, none⟩ (.slice (some ⟨g, 0, none⟩) n.L c) → (Below w.heap.size w W3 ∧ W3.heap[w.heap.size]? = some (.cells #[.int .i64 0, .int .i64 0] 30 (0, 0)) ∧ W3.heap[w.heap.size + 1]? = some (.cells #[.slice n.bao n.K n.bcap, .slice (some ⟨g, 0, none⟩) n.L c] 25 (0, 0)) ∧ W3.cell? ⟨g, wh * 6 + 5, none⟩ = some (.bool (n.ls wh).up) ∧ W3.frozen? ⟨g, wh * 6 + 5, none⟩ = false) ∧
      ∀ W4, W4 = W3.setCell ⟨g, wh * 6 + 5, none⟩ (.bool up) → Below w.heap.size w W4 ∧ W4.heap[w.heap.size]? = some (.cells #[.int .i64 0, .int .i64 0] 30 (0, 0)) ∧ W4.heap[w.heap.size + 1]? = some (.cells #[.slice n.bao n.K n.bcap, .slice (some ⟨g, 0, none⟩) n.L c] 25 (0, 0)) ∧ ((n.put wh up).lay (some ⟨g, 0, none⟩) c).at' W4 := by
  intro W3 e3
  have hb3 : Below w.heap.size w W3 := by rw [e3]; exact hb.setCell (by show w.heap.size ≤ w.heap.size + 1; omega) _
  have hf3 : W3.heap[w.heap.size]? = some (.cells #[.int .i64 0, .int .i64 0] 30 (0, 0)) := by
    rw [e3, heap_setCell_other _ _ _ _ (by show w.heap.size ≠ w.heap.size + 1; omega)]; exact hf
  have hn3 : W3.heap[w.heap.size + 1]? = some (.cells #[.slice n.bao n.K n.bcap, .slice (some ⟨g, 0, none⟩) n.L c] 25 (0, 0)) := by
    rw [e3, heap_setCell_same _ _ _ _ _ _ hn]; rfl
  have ho3 : W3.ownsRow (w.heap.size + 1 + 1) 32 6 (.slice (some ⟨g, 0, none⟩) n.L c) n.L (cellsL n.L 6 (fun i => lkC (n.ls i))) := by
    refine ho.kept (row := some (w.heap.size + 1)) ?_ (Or.inr (by show some g ≠ some (w.heap.size + 1); intro q; injection q with q; omega))
    rw [e3]
    exact ⟨by first | rfl | simp, by first | rfl | simp, by first | rfl | simp, by first | exact Nat.le_refl _ | simp, fun q _ hne => heap_setCell_other _ _ _ _ (by exact fun p => hne (by rw [p]))⟩
  have hlt : wh * 6 + 5 < n.L * 6 := by omega
  refine ⟨⟨hb3, hf3, hn3, ?_, ho3.frozenAt _⟩, ?_⟩
  · rw [ho3.cellAt _ hlt]
    have := rowC_get (n := n.L) (k := 6) (fun i => lkC (n.ls i)) hw (show 5 < 6 by omega)
    rw [rowC, List.getElem?_toArray] at this
    exact this
  · intro W4 e4
    obtain ⟨ho4, hg4⟩ := ho3.stored (wh * 6 + 5) (.bool up)
    rw [← e4] at ho4 hg4
    rw [putL_row n.ls wh up n.L hw] at ho4
    have hs3 := hb3.size
    have l2 := (Array.getElem?_eq_some_iff.1 hn3).1
    have hb4 : Below w.heap.size w W4 := by rw [e4]; exact hb3.setCell (by show w.heap.size ≤ g; omega) _
    obtain ⟨ao, cap, e, hr, _⟩ := owns_c (by omega) ho4
    injection e with q1 q2 q3
    subst q1
    subst q3
    refine ⟨hb4, ?_, ?_, CRow.below hat.brs hb4, fun i hi => (hat.each i hi).below hb4, hr, hat.manyB, hat.manyL⟩
    · rw [hg4.block _ (by omega) (by intro q; injection q with q; omega)]; exact hf3
    · rw [hg4.block _ (by omega) (by intro q; injection q with q; omega)]; exact hn3
theorem put_wf {n : Net} (h : n.Wf) (wh : Nat) (up : Bool) (lao : Option Addr) (lcap : Nat) : ((n.put wh up).lay lao lcap).Wf := by
  refine ⟨h.addr, fun i hi => ?_⟩
  have h1 := h.link i hi
  show (Lit.int .i64 (putL n.ls wh up i).a).wf = true ∧ (Lit.int .i64 (putL n.ls wh up i).pa).wf = true ∧ (Lit.int .i64 (putL n.ls wh up i).b).wf = true ∧ (Lit.int .i64 (putL n.ls wh up i).pb).wf = true
  unfold putL
  split
  · exact h1
  · exact h1
set_option maxRecDepth 100000 in
set_option maxHeartbeats 2000000 in
theorem pwith_any (n : Net) (tree : Int) (wh : Nat) (up : Bool) (BN BW BT : Nat) (w : World) (hat : n.at' w) (hwf : n.Wf) (ht : Tabs w) (hbt : 2 ≤ w.heap.size) (hw : wh < n.L) (hby : n.L * 48 ≤ 140737488355328)
    (cN : w.heap[BN]? = some (.cells #[.slice n.bao n.K n.bcap, .slice n.lao n.L n.lcap] 25 (0, 0))) (cW : w.heap[BW]? = some (.cells #[.int .i64 wh] 3 (0, 0))) (cT : w.heap[BT]? = some (.cells #[.int .i64 tree] 3 (0, 0))) :
    Calls Tryd.prog 5 #[.bool up, .pointer (some ⟨BN, 0, none⟩), .pointer (some ⟨BW, 0, none⟩), .pointer (some ⟨BT, 0, none⟩)] w fun e w' => ∃ a k c f1 f2, e = .returned (.tuple #[.slice a k c, .agg #[.int .i64 f1, .int .i64 f2]]) ∧ Hid (Below w.heap.size w w' ∧ PlRes (n.put wh up) tree w.heap.size w' a k c f1 f2) := by
  obtain ⟨g, c, w2, hrun, hb2, hf2, hn2, hg, hLc, ho⟩ := more_net n wh hat hw hby
  obtain ⟨⟨hb3, hf3, hn3, x3, y3⟩, h4⟩ := more_put n wh up hat hw hb2 hf2 hn2 hg ho _ rfl
  obtain ⟨hb4, hf4, hn4, hat4⟩ := h4 _ rfl
  obtain ⟨W3, HW3⟩ : ∃ W3, Hid (W3 = w2.setCell ⟨w.heap.size + 1, 1, none⟩ (.slice (some ⟨g, 0, none⟩) n.L c)) := ⟨_, rfl⟩
  obtain ⟨W4, HW4⟩ : ∃ W4, Hid (W4 = W3.setCell ⟨g, wh * 6 + 5, none⟩ (.bool up)) := ⟨_, rfl⟩
  rw [← HW3.out] at hb3 hf3 hn3 x3 y3 hb4 hf4 hn4 hat4
  rw [← HW4.out] at hb4 hf4 hn4 hat4
  have lN := (Array.getElem?_eq_some_iff.1 cN).1
  have lW := (Array.getElem?_eq_some_iff.1 cW).1
  have lT := (Array.getElem?_eq_some_iff.1 cT).1
  have hP := pplan_res ((n.put wh up).lay (some ⟨g, 0, none⟩) c) tree W4 hat4 (put_wf hwf wh up _ _) (ht.below hb4 hbt) (Nat.le_trans hbt hb4.size)
  have HP : Hid (Calls Tryd.prog 6 #[.agg #[.slice n.bao n.K n.bcap, .slice (some ⟨g, 0, none⟩) n.L c], .int .i64 tree] W4 fun e w' => ∃ a k c f1 f2, e = .returned (.tuple #[.slice a k c, .agg #[.int .i64 f1, .int .i64 f2]]) ∧ Hid (Below W4.heap.size W4 w' ∧ PlRes (n.put wh up) tree W4.heap.size w' a k c f1 f2)) := hP
  have HB4 : Hid (Below w.heap.size w W4 ∧ W4.heap[w.heap.size]? = some (.cells #[.int .i64 0, .int .i64 0] 30 (0, 0))) := ⟨hb4, hf4⟩
  obtain ⟨n0, n1⟩ := two_cells2 cN
  have h0 : ∀ o, (w.alloc o).cell? ⟨BN, 0, none⟩ = some (.slice n.bao n.K n.bcap) := fun o => ((below_alloc1 w o).cell (by exact lN)).trans n0
  have h1 : ∀ o, (w.alloc o).cell? ⟨BN, 1, none⟩ = some (.slice n.lao n.L n.lcap) := fun o => ((below_alloc1 w o).cell (by exact lN)).trans n1
  have g1 : ∀ o p q, (((w.alloc o).alloc p).alloc q).cell? ⟨BN, 1, none⟩ = some (.slice n.lao n.L n.lcap) := fun o p q => (((below_alloc2 w o p).trans ((below_alloc1 ((w.alloc o).alloc p) q).mono (below_alloc2 w o p).size)).cell (by exact lN)).trans n1
  obtain ⟨s0, s1⟩ := two_cells2 hn2
  obtain ⟨_, z1, _, _⟩ := vc_free hn2
  obtain ⟨t0, t1⟩ := two_cells2 hn3
  obtain ⟨u0, u1⟩ := two_cells2 hn4
  have d3 : W3.cell? ⟨BW, 0, none⟩ = some (.int .i64 wh) := (hb3.cell (by exact lW)).trans (cell_of_row _ _ 0 _ _ _ cW)
  have d4 : W4.cell? ⟨BT, 0, none⟩ = some (.int .i64 tree) := (hb4.cell (by exact lT)).trans (cell_of_row _ _ 0 _ _ _ cT)
  have HR : Hid _ := hrun
  have i0 : (0 : Int) ≤ (wh : Int) := by omega
  have i1 : (wh : Int) < (n.L : Int) := by omega
  clear hP hat hwf ht hat4 hrun ho h4 hf2 hn2 hf3 hn3 hf4 hn4 cN cW cT n0 n1
  rw [HW3.out] at t0 t1 x3 y3 d3
  rw [HW4.out, HW3.out] at u0 u1 d4
  go_enter Tryd.func5, Tryd.ntmps5
  go_wp2_with (at_builtin; refine wpList_append_run rfl (.tmp 9) (.tmp 11) 23 rfl _ _ _ rfl rfl HR.out ?_)
  rw [← HW3.out, ← HW4.out]
  refine HP.out.mono ?_
  rintro e w5 ⟨a, k, c5, f1, f2, rfl, hh⟩
  have HB5 : Hid (Below w.heap.size w w5) := HB4.out.1.trans (hh.out.1.mono HB4.out.1.size)
  have k5 : w5.heap[w.heap.size]? = some (.cells #[.int .i64 0, .int .i64 0] 30 (0, 0)) := keep HB4.out.2 hh.out.1
  have HK5 : Hid (w5.heap[w.heap.size]? = some (.cells #[.int .i64 0, .int .i64 0] 30 (0, 0))) := k5
  have HRS : Hid (PlRes (n.put wh up) tree w.heap.size ((w5.setCell ⟨w.heap.size, 0, none⟩ (.int .i64 f1)).setCell ⟨w.heap.size, 1, none⟩ (.int .i64 f2)) a k c5 f1 f2) := (hh.out.2.told k5).mono HB4.out.1.size
  obtain ⟨m0, m1⟩ := two_cells2 k5
  obtain ⟨q0, q1, _, _⟩ := vc_free k5
  clear hh k5 HP HB4 HR t0 t1 x3 y3 d3 u0 u1 d4 h0 h1 g1 s0 s1 z1
  go_wp2_with fail
  exact bodyPost_ret (v := .tuple #[.slice a k c5, .agg #[.int .i64 f1, .int .i64 f2]]) (results_tmp_row (u := 5) (p := 6) (ty := 30) Tryd.results5 _ _ w.heap.size 30 #[.int .i64 f1, .int .i64 f2] (0, 0) _ rfl (set2_same HK5.out) Tryd.underlying30 rfl (by rw [sizeFt]; rfl)) rfl ⟨a, k, c5, f1, f2, rfl, (HB5.out.setCell (Nat.le_refl _) _).setCell (Nat.le_refl _) _, HRS.out⟩
end Go.Proofs.YtcbpafpaimpfnaaDoor

namespace Go.Proofs.YtcbpafpaimpfnaaDoor
open Go.RowKit
open Vc (V Of)
open Pl (Br Net Pc Lk En St)

theorem put_a (ls : Nat → Lk) (wh : Nat) (up : Bool) (k : Nat) : (putL ls wh up k).a = (ls k).a := by unfold putL; split <;> rfl
theorem put_b (ls : Nat → Lk) (wh : Nat) (up : Bool) (k : Nat) : (putL ls wh up k).b = (ls k).b := by unfold putL; split <;> rfl
theorem put_pa (ls : Nat → Lk) (wh : Nat) (up : Bool) (k : Nat) : (putL ls wh up k).pa = (ls k).pa := by unfold putL; split <;> rfl
theorem put_pb (ls : Nat → Lk) (wh : Nat) (up : Bool) (k : Nat) : (putL ls wh up k).pb = (ls k).pb := by unfold putL; split <;> rfl
theorem put_cost (ls : Nat → Lk) (wh : Nat) (up : Bool) (k : Nat) : (putL ls wh up k).cost = (ls k).cost := by unfold putL; split <;> rfl
theorem put_lErr (K : Nat) (ls : Nat → Lk) (wh : Nat) (up : Bool) : Pl.lErr K (putL ls wh up) = Pl.lErr K ls := by
  funext i
  unfold Pl.lErr Pl.lkErr Pl.isEnd
  simp only [put_a, put_b, put_pa, put_pb, put_cost]
theorem put_wrong (n : Net) (wh : Nat) (up : Bool) : (n.put wh up).wrong = n.wrong := by
  unfold Pl.Net.wrong Pl.Net.put
  simp only [put_lErr]
theorem put_live {n : Net} {wh k : Nat} (h : (n.put wh false).live k = true) : (n.put wh true).live k = true := by
  unfold Pl.Net.live Pl.Net.put at h ⊢
  simp only [put_a, put_b] at h ⊢
  rw [Bool.and_eq_true] at h ⊢
  refine ⟨?_, h.2⟩
  have h1 := h.1
  unfold putL at h1 ⊢
  by_cases e : k = wh
  · rw [if_pos e]
  · rw [if_neg e] at h1 ⊢; exact h1
/-- The net with the link up says no worse. -/
theorem put_more {n : Net} (hwf : n.Wf) (h : n.wrong.1 = 0) (wh : Nat) (tree : Int) {i : Nat} (hi : i < n.K) :
    Pl.le2 (Pl.rounds (n.ids tree) (n.put wh true).ends n.K n.K i).v (Pl.rounds (n.ids tree) (n.put wh false).ends n.K n.K i).v.root (Pl.rounds (n.ids tree) (n.put wh false).ends n.K n.K i).v.cost := by
  have R : ∀ up, (n.put wh up).Right := fun up => right_of (put_wf hwf wh up n.lao n.lcap) (by rw [put_wrong]; exact h)
  exact Pl.says_more (ls := (n.put wh false).ls) (ls' := (n.put wh true).ls) (R false).links (R true).links (R false).few (n.ids tree) (n.put wh false).live (n.put wh true).live (fun k _ => ⟨by show (putL _ _ _ k).a = (putL _ _ _ k).a; rw [put_a, put_a], by show (putL _ _ _ k).b = (putL _ _ _ k).b; rw [put_b, put_b], by show (putL _ _ _ k).pa = (putL _ _ _ k).pa; rw [put_pa, put_pa], by show (putL _ _ _ k).pb = (putL _ _ _ k).pb; rw [put_pb, put_pb], by show (putL _ _ _ k).cost = (putL _ _ _ k).cost; rw [put_cost, put_cost], put_live⟩) hi
/-- What the loop reads of places. -/
def VecsAt (w : World) (P K : Nat) (x : Nat → St) : Prop := ∀ i, i < K → w.cell? ⟨P, i * 7, none⟩ = some (.int .u64 (x i).v.root) ∧ w.cell? ⟨P, i * 7 + 1, none⟩ = some (.int .i64 (x i).v.cost)
theorem PlacesAt.vecs {w : World} {P K : Nat} {x : Nat → St} {E : Nat → List En} {k : Nat} (h : PlacesAt w P K x E k) : VecsAt w P K x := by
  obtain ⟨c, h1, h2, _⟩ := h
  intro i hi
  refine ⟨?_, ?_⟩
  · have := rowC_cell h1 hi (show 0 < 7 by omega); rw [h2 i hi 0 (by omega)] at this; exact this
  · have := rowC_cell h1 hi (show 1 < 7 by omega); rw [h2 i hi 1 (by omega)] at this; exact this
set_option maxRecDepth 100000 in
set_option maxHeartbeats 2000000 in
theorem pmore_any (n : Net) (tree wh : Int) (w : World) (hat : n.at' w) (hwf : n.Wf) (ht : Tabs w) (hbt : 2 ≤ w.heap.size) (hby : n.L * 48 ≤ 140737488355328) :
    Calls Tryd.prog 3 #[n.val, .int .i64 tree, .int .i64 wh] w fun e w' => e = .returned (.bool true) ∧ Below w.heap.size w w' := by
  obtain ⟨X, HX⟩ : ∃ X, Hid (X = ((w.alloc (.cells #[.slice n.bao n.K n.bcap, .slice n.lao n.L n.lcap] 25)).alloc (.cells #[.int .i64 tree] 3)).alloc (.cells #[.int .i64 wh] 3)) := ⟨_, rfl⟩
  obtain ⟨X2, hX2⟩ : ∃ X2, X2 = (w.alloc (.cells #[.slice n.bao n.K n.bcap, .slice n.lao n.L n.lcap] 25)).alloc (.cells #[.int .i64 tree] 3) := ⟨_, rfl⟩
  have hX2B : Below w.heap.size w X2 := by rw [hX2]; exact below_alloc2 _ _ _
  have hX2n : X2.heap[w.heap.size]? = some (.cells #[.slice n.bao n.K n.bcap, .slice n.lao n.L n.lcap] 25 (0, 0)) := by rw [hX2]; exact heap_alloc2_old w _ _
  have hX2t : X2.heap[w.heap.size + 1]? = some (.cells #[.int .i64 tree] 3 (0, 0)) := by rw [hX2]; exact heap_alloc2_new w _ _
  have hX2s : X2.heap.size = w.heap.size + 1 + 1 := by rw [hX2]; simp
  have hXe : X = X2.alloc (.cells #[.int .i64 wh] 3) := by rw [HX.out, hX2]
  have hXB2 : Below X2.heap.size X2 X := by rw [hXe]; exact below_alloc1 _ _
  have hXw : X.heap[w.heap.size + 1 + 1]? = some (.cells #[.int .i64 wh] 3 (0, 0)) := by rw [hXe, ← hX2s]; exact heap_alloc_last _ _
  have hXn := keep hX2n hXB2
  have hXt := keep hX2t hXB2
  have hXB : Below w.heap.size w X := hX2B.trans (hXB2.mono hX2B.size)
  have HC : Hid (∀ W, Below X.heap.size X W → W.heap[w.heap.size]? = some (.cells #[.slice n.bao n.K n.bcap, .slice n.lao n.L n.lcap] 25 (0, 0)) ∧ W.heap[w.heap.size + 1]? = some (.cells #[.int .i64 tree] 3 (0, 0)) ∧ W.heap[w.heap.size + 1 + 1]? = some (.cells #[.int .i64 wh] 3 (0, 0)) ∧ Below w.heap.size w W) := fun W hW => ⟨keep hXn hW, keep hXt hW, keep hXw hW, hXB.trans (hW.mono hXB.size)⟩
  have HAL : Hid (Calls Tryd.prog 4 #[] X fun e w' => e = .returned (.bool true) ∧ Below X.heap.size X w') := palive_any X (ht.below hXB hbt) (Nat.le_trans hbt hXB.size)
  have HWI : Hid (∀ W, Below X.heap.size X W → ∀ k : Nat, wh = (k : Int) → k < n.L → ∀ up : Bool, Calls Tryd.prog 5 #[.bool up, .pointer (some ⟨w.heap.size, 0, none⟩), .pointer (some ⟨w.heap.size + 1 + 1, 0, none⟩), .pointer (some ⟨w.heap.size + 1, 0, none⟩)] W fun e w' => ∃ a m c f1 f2, e = .returned (.tuple #[.slice a m c, .agg #[.int .i64 f1, .int .i64 f2]]) ∧ Hid (Below W.heap.size W w' ∧ PlRes (n.put k up) tree W.heap.size w' a m c f1 f2)) := fun W hW k hk hlt up => by
    obtain ⟨c0, c1, c2, hb⟩ := HC.out W hW
    exact pwith_any n tree k up _ _ _ W (hat.below hb) hwf (ht.below hb hbt) (Nat.le_trans hbt hb.size) hlt hby c0 (by rw [← hk]; exact c2) c1
  have HMO : Hid (n.wrong.1 = 0 → ∀ k i : Nat, i < n.K → Pl.le2 (Pl.rounds (n.ids tree) (n.put k true).ends n.K n.K i).v (Pl.rounds (n.ids tree) (n.put k false).ends n.K n.K i).v.root (Pl.rounds (n.ids tree) (n.put k false).ends n.K n.K i).v.cost) := fun h k i hi => put_more hwf h k tree hi
  have hmL := hat.manyL
  have hmB := hat.manyB
  clear hat hwf ht hXn hXt hXw hX2n hX2t hX2B hXB2 hX2s hXe hX2
  simp only [Pl.Net.val]
  go_enter Tryd.func3, Tryd.ntmps3
  go_wp2_with fail
  rw [← HX.out]
  refine HAL.out.mono ?_
  rintro e w1 ⟨rfl, hb1⟩
  obtain ⟨c0, c1, c2, cB⟩ := HC.out w1 hb1
  have d2 : w1.cell? ⟨w.heap.size + 1 + 1, 0, none⟩ = some (.int .i64 wh) := cell_of_row _ _ 0 _ _ _ c2
  obtain ⟨d0, d1⟩ := two_cells2 c0
  have HCB : Hid (Below w.heap.size w w1) := cB
  clear HAL c0 c1 c2 cB
  by_cases hr : 0 ≤ wh ∧ wh < (n.L : Int)
  · obtain ⟨k, hk⟩ : ∃ k : Nat, wh = (k : Int) := ⟨wh.toNat, by omega⟩
    have hlt : k < n.L := by omega
    have hw1 := HWI.out w1 hb1 k hk hlt false
    have i0 : ¬ wh < 0 := by omega
    have i1 : ¬ (n.L : Int) ≤ wh := by omega
    go_wp2_with fail
    refine hw1.mono ?_
    rintro e w2 ⟨a, m, c, f1, f2, rfl, hA⟩
    have hXw2 : Below X.heap.size X w2 := hb1.trans (hA.out.1.mono hb1.size)
    obtain ⟨Y, HY⟩ : ∃ Y, Hid (Y = w2.alloc (.cells #[.int .i64 f1, .int .i64 f2] 30)) := ⟨_, rfl⟩
    have hYB : Below w2.heap.size w2 Y := by rw [HY.out]; exact below_alloc1 _ _
    have hYf : Y.heap[w2.heap.size]? = some (.cells #[.int .i64 f1, .int .i64 f2] 30 (0, 0)) := by rw [HY.out]; exact heap_alloc_last _ _
    have hXY : Below X.heap.size X Y := hXw2.trans (hYB.mono hXw2.size)
    have hw2 := HWI.out Y hXY k (by first | exact hk | rfl) hlt true
    clear hw1 d0 d1 d2
    go_wp2_with fail
    rw [← HY.out]
    refine hw2.mono ?_
    rintro e w3 ⟨b, m', c', g1, g2, rfl, hB⟩
    have hf3 := keep hYf hB.out.1
    have lf3 := (Array.getElem?_eq_some_iff.1 hf3).1
    have HXW : Hid (∀ o, Below w.heap.size w (w3.alloc o)) := fun o => by
      have h1 : Below X.heap.size X w3 := hXY.trans (hB.out.1.mono hXY.size)
      have h2 := (HC.out w3 h1).2.2.2
      exact h2.alloc h2.size o
    obtain ⟨u0, u1⟩ := two_cells2 hf3
    have k0 : ∀ o, (w3.alloc o).cell? ⟨w2.heap.size, 0, none⟩ = some (.int .i64 f1) := fun o => ((below_alloc1 w3 o).cell (by exact lf3)).trans u0
    have k1 : ∀ o, (w3.alloc o).cell? ⟨w2.heap.size, 1, none⟩ = some (.int .i64 f2) := fun o => ((below_alloc1 w3 o).cell (by exact lf3)).trans u1
    have hBelA : Below w2.heap.size w2 w3 := hYB.trans (hB.out.1.mono hYB.size)
    have HRES : Hid ((∃ E1 E2 : Int, E1 ≠ 0 ∧ f1 = E1 ∧ f2 = E2 ∧ g1 = E1 ∧ g2 = E2) ∨ ((f1 = 0 ∧ f2 = 0 ∧ g1 = 0 ∧ g2 = 0) ∧ ∃ P Q, (a = some ⟨P, 0, none⟩ ∧ m = n.K ∧ c = n.K) ∧ (b = some ⟨Q, 0, none⟩ ∧ m' = n.K ∧ c' = n.K) ∧ ∃ x y : Nat → St, VecsAt w3 P n.K x ∧ VecsAt w3 Q n.K y ∧ ∀ i, i < n.K → Pl.le2 (y i).v (x i).v.root (x i).v.cost)) := by
      have r1 := hA.out.2.below hBelA
      have r2 := hB.out.2
      unfold PlRes at r1 r2
      rw [put_wrong] at r1 r2
      rcases r1 with ⟨q1, _, q2⟩ | ⟨q1, q2, _, q3, q4⟩ | ⟨q1, q2, P, q3, ⟨q4, q5⟩, q6, _⟩
      · rcases r2 with ⟨_, _, p2⟩ | ⟨p1, _⟩ | ⟨p1, _⟩
        · refine Or.inl ⟨n.wrong.1, n.wrong.2, q1, ?_, ?_, ?_, ?_⟩ <;> first | (rw [← q2]; done) | (rw [← p2]; done)
        · exact absurd p1 q1
        · exact absurd p1 q1
      · rcases r2 with ⟨p1, _⟩ | ⟨_, _, _, p3, p4⟩ | ⟨_, p2, _⟩
        · exact absurd q1 p1
        · exact Or.inl ⟨3, 0, by decide, q3, q4, p3, p4⟩
        · exact absurd p2 q2
      · rcases r2 with ⟨p1, _⟩ | ⟨_, p2, _⟩ | ⟨p1, p2, Q, p3, ⟨p4, p5⟩, p6, _⟩
        · exact absurd q1 p1
        · exact absurd q2 p2
        · exact Or.inr ⟨⟨q4, q5, p4, p5⟩, P, Q, q3, p3, _, _, q6.vecs, p6.vecs, fun i hi => HMO.out q1 k i hi⟩
    clear hA hB hw2 hYf hf3 u0 u1 HWI HC HMO hXY hYB hXw2 hBelA hb1
    rcases HRES.out with ⟨E1, E2, hE, rfl, rfl, rfl, rfl⟩ | ⟨⟨rfl, rfl, rfl, rfl⟩, P, Q, ⟨rfl, rfl, rfl⟩, ⟨rfl, rfl, rfl⟩, x, y, hVx, hVy, hle⟩
    · clear HRES
      go_wp2_with fail
      go_ret
      exact ⟨rfl, HXW.out _⟩
    · clear HRES
      obtain ⟨Z, HZ⟩ : ∃ Z, Hid (Z = w3.alloc (.cells #[.int .i64 0, .int .i64 0] 30)) := ⟨_, rfl⟩
      have HZB : Hid (∀ W, Below Z.heap.size Z W → Below w.heap.size w W ∧ VecsAt W P n.K x ∧ VecsAt W Q n.K y) := fun W hW => by
        have h1 : Below w.heap.size w Z := by rw [HZ.out]; exact HXW.out _
        have h2 : Below w3.heap.size w3 Z := by rw [HZ.out]; exact below_alloc1 _ _
        have h3 : Below w3.heap.size w3 W := h2.trans (hW.mono h2.size)
        have up : ∀ (R : Nat) (z : Nat → St), VecsAt w3 R n.K z → VecsAt W R n.K z := fun R z hz i hi => by
          obtain ⟨z1, z2⟩ := hz i hi
          exact ⟨(h3.cell (by exact block_lt_of_cell z1)).trans z1, (h3.cell (by exact block_lt_of_cell z2)).trans z2⟩
        exact ⟨h1.trans (hW.mono h1.size), up P x hVx, up Q y hVy⟩
      have HLE : Hid (∀ i, i < n.K → Pl.le2 (y i).v (x i).v.root (x i).v.cost) := hle
      clear hVx hVy hle
      go_wp2_with fail
      rw [← HZ.out]
      clear k0 k1 HXW HY HZ
      go_loopw [48] (fun q wr => ∃ j : Nat, j ≤ n.K ∧ q = .int .i64 j ∧ Hid (Below Z.heap.size Z wr)) (fun q _ => n.K - (intOf q).toNat)
      case atStart => exact ⟨0, by omega, rfl, Below.refl _ _⟩
      case round =>
        obtain ⟨j, hj, rfl, hW⟩ := hrel
        by_cases hlj : j < n.K
        · obtain ⟨_, hx, hy⟩ := HZB.out wr hW.out
          obtain ⟨x0, x1⟩ := hx j hlj
          obtain ⟨y0, y1⟩ := hy j hlj
          have hl := HLE.out j hlj
          unfold Pl.le2 at hl
          generalize (x j).v.root = xr at *
          generalize (x j).v.cost = xc at *
          generalize (y j).v.root = yr at *
          generalize (y j).v.cost = yc at *
          clear hx hy
          have i2 : (0 : Int) ≤ (j : Int) := by omega
          have i3 : (j : Int) < (n.K : Int) := by omega
          rcases hl with hl | ⟨hl, hl2⟩
          · have e1 : decide (xr < yr) = false := decide_eq_false (by omega)
            have e2 : (yr == xr) = false := by simp; omega
            go_wp2_with fail
            clear HZB HLE HCB HX
            go_quiet (fail)
            go_wp2_with fail
            exact ⟨⟨j + 1, by omega, by go_num, below_drewN hW.out _⟩, by simp [intOf]; omega⟩
          · subst hl
            have e1 : decide (yr < yr) = false := decide_eq_false (by omega)
            have e2 : (yr == yr) = true := by simp
            have e3 : decide (xc < yc) = false := decide_eq_false (by omega)
            go_wp2_with fail
            clear HZB HLE HCB HX
            go_quiet (fail)
            go_wp2_with fail
            exact ⟨⟨j + 1, by omega, by go_num, below_drewN hW.out _⟩, by simp [intOf]; omega⟩
        · obtain hjK : j = n.K := by omega
          have hnk : ¬ (j : Int) < (n.K : Int) := by omega
          have HB := (HZB.out wr hW.out).1
          clear hW HZB HLE
          go_wp2_with fail
          go_ret
          exact ⟨rfl, HB⟩
  · have hbad : wh < 0 ∨ (n.L : Int) ≤ wh := by omega
    clear HWI HMO HC
    rcases Int.lt_or_le wh 0 with i0 | i0
    · go_wp2_with fail
      go_ret
      exact ⟨rfl, HCB.out⟩
    · have i1 : (n.L : Int) ≤ wh := by omega
      go_wp2_with fail
      go_ret
      exact ⟨rfl, HCB.out⟩
end Go.Proofs.YtcbpafpaimpfnaaDoor

namespace Go.Proofs.YtcbpafpaimpfnaaDoor.planMore
open Go.ChangeShapes Go.WideShapes Go.ChangeAt Go.RowKit

set_option maxRecDepth 100000 in
theorem contract (H : Type) (enc : TypeId × Value → H) (W : World) (base : Nat) (args : Array Value) (ds gs : List (DataW H)) (before : List MemPlace)
    (hval : ∀ (j : Nat) t v, Tryd.f3.params[j]? = some t → args[j]? = some v → Value.okWide Tryd.prog W .any base t v)
    (hW : DataW.Whole enc Tryd.prog Tryd.f3.params.toList Rows.planMoreSpec.vars false W args.toList ds gs before)
    (hsz : (DataW.weightsEach Tryd.prog (Tryd.f3.params.toList ++ (OpenSpec.ofChange Rows.planMoreSpec).bare.plain.varTypes Tryd.prog) (ds ++ gs)).all (· ≤ reachBytes) = true)
    (hL : laidMetH Tryd.prog Rows.planMoreRow.laid W) :
    Calls Tryd.prog 3 args W fun e W' => ∃ v, e = .returned v ∧ Rows.planMoreSpec.post enc Tryd.prog Tryd.f3 false true false false W args v W' := by
  have hW' := hW
  obtain ⟨p, q, hA0, hV, rfl, hfz, hnd⟩ := hW
  have hA : DataW.TrodAll enc Tryd.prog W 0 (fun _ => true) true Tryd.f3.params.toList args.toList ds p := hA0
  rw [Tryd.params3] at hA hval hsz
  obtain ⟨v0, vs0, d0, ds0, p0, q0, hargs, rfl, rfl, h0, r0⟩ := trodAll_cons hA
  obtain ⟨v1, vs1, d1, ds1, p1, q1, rfl, rfl, rfl, h1, r1⟩ := trodAll_cons r0
  obtain ⟨v2, vs2, d2, ds2, p2, q2, rfl, rfl, rfl, h2, r2⟩ := trodAll_cons r1
  obtain ⟨rfl, rfl, rfl⟩ := trodAll_nil r2
  obtain rfl : args = #[v0, v1, v2] := by cases args; simp_all
  obtain ⟨rfl, rfl⟩ := trodVars_none hV
  have lt0 : ∀ x ∈ p0, x.block < W.heap.size := by obtain ⟨m, hm⟩ := h0; exact DataW.trod_lt m _ _ _ hm
  obtain ⟨n0, rfl, hat0, hwf0, hz0⟩ := net_in (hval 0 25 v0 rfl rfl) h0
  have lt1 : ∀ x ∈ p1, x.block < W.heap.size := by obtain ⟨m, hm⟩ := h1; exact DataW.trod_lt m _ _ _ hm
  obtain ⟨z1, rfl⟩ := okWide_int Tryd.underlying3 (hval 1 3 v1 rfl rfl)
  have lt2 : ∀ x ∈ p2, x.block < W.heap.size := by obtain ⟨m, hm⟩ := h2; exact DataW.trod_lt m _ _ _ hm
  obtain ⟨z2, rfl⟩ := okWide_int Tryd.underlying3 (hval 2 3 v2 rfl rfl)
  have hall := hsz
  simp only [List.cons_append, DataW.weightsEach, List.all_append, Bool.and_eq_true] at hall
  have hm0 := hz0 hall.1
  unfold reachBytes at hm0
  have hT := tabs_of hL
  have hG : 2 ≤ W.heap.size := hT.lt
  clear hA0 hall hsz
  refine (pmore_any n0 z1 z2 W hat0 hwf0 hT hG (by omega)).mono fun e W' ⟨he, bel⟩ => ?_
  subst he
  exact ⟨_, rfl, _, _, _, [], _, [], hW', trodAll_mk1 (shut_bool Tryd.underlying4 _), (trodAll_cons_mk (Below.trod laidOut (by kernel_rfl) (of_decide_eq_true (by kernel_rfl)) h0 bel lt0) (trodAll_cons_mk (Below.trod laidOut (by kernel_rfl) (of_decide_eq_true (by kernel_rfl)) h1 bel lt1) (trodAll_cons_mk (Below.trod laidOut (by kernel_rfl) (of_decide_eq_true (by kernel_rfl)) h2 bel lt2) trodAll_mk0))), rfl, bel.frame _, fun h => by cases h⟩

theorem laid_met (os : Os) : laidMet Tryd.prog Rows.planMoreRow.laid ((laidW (World.holding Tryd.prog os ⟨#[], #[], []⟩)).forCall (fun _ _ => 0) ⟨#[], #[.agg #[.slice none 0 0, .slice none 0 0], .int .i64 0, .int .i64 0], []⟩).memory :=
  laidMet_of_run' 8 (by kernel_rfl) (by kernel_rfl)
theorem reads (os : Os) {H : Type} (enc : TypeId × Value → H) : ∃ places, DataW.whole enc Tryd.prog ((laidW (World.holding Tryd.prog os ⟨#[], #[], []⟩)).forCall (fun _ _ => 0) ⟨#[], #[.agg #[.slice none 0 0, .slice none 0 0], .int .i64 0, .int .i64 0], []⟩).memory Tryd.f3.params.toList Rows.planMoreSpec.vars false #[Value.agg #[.slice none 0 0, .slice none 0 0], .int .i64 0, .int .i64 0].toList 8 = some ([.agg [.nil, .nil], .lit (.int .i64 0), .lit (.int .i64 0)], [], places) :=
  ⟨[], by kernel_rfl⟩

set_option maxRecDepth 100000 in
theorem lifted (os : Os) (started : os.Started) (H : Type) (enc : TypeId × Value → H) (F : Stop.Interp) :
    ReturnsInHanded {} Tryd.checked os 3 .any ((OpenSpec.ofChange Rows.planMoreSpec).preRow enc Tryd.prog Tryd.f3 Rows.planMoreRow.domain false Rows.planMoreRow.laid) (((OpenSpec.ofChange Rows.planMoreSpec).at F).post enc Tryd.prog Tryd.f3 false true false false) := by
  obtain ⟨places, hx⟩ := reads os enc
  refine returnsInHanded_of_row (C := Tryd.checked) (s := OpenSpec.ofChange Rows.planMoreSpec) own started (by kernel_rfl) Tryd.func3
    (witness_row_at (enc := enc) (C := Tryd.checked) false (laidW (World.holding Tryd.prog os ⟨#[], #[], []⟩)) #[.agg #[.slice none 0 0, .slice none 0 0], .int .i64 0, .int .i64 0] rfl (by kernel_rfl) (by kernel_rfl) (by kernel_rfl)
      (OpenSpec.preRow_of_cond 8 hx (by kernel_rfl) (fun k hk => by cases hk) (by kernel_rfl) (laid_met os))) ?_
  intro W base args ds gs before hval hW _ _ hsz hL _ _
  exact contract H enc W base args ds gs before hval hW hsz hL

theorem said : Rows.PlanMoreSaid :=
  OpenClaim.holds_of_cond 3 Tryd.f3 rfl rfl rfl rfl rfl rfl rfl ⟨rfl, rfl, rfl, rfl, rfl⟩ rfl rfl rfl rfl rfl (by kernel_rfl) Tryd.func3 (by kernel_rfl)
    (of_decide_eq_true (by kernel_rfl)) (by unfold Func.isWrapper; first | (rw [if_pos (by decide +kernel)]; kernel_rfl) | (rw [if_neg (by decide +kernel)]; exact ⟨rfl, rfl⟩))
    (fun os started H enc _ F => by rw [OpenClaim.pre_eq_preRow]; exact lifted os started H enc F)

theorem plain (f : FuncId) (fn : Func) (hf : Tryd.pinned.checked.prog.funcNamed "hedgerow/hedgelaw6.PlanMore" = some f) (hfn : Tryd.pinned.checked.prog.funcs[f]? = some fn) :
    false = Tryd.pinned.checked.prog.looks [] ∧ ∀ (j : Nat) t, fn.params[j]? = some t → Tryd.pinned.checked.prog.wantsStandIn t = false := by
  obtain rfl : f = 3 := Option.some.inj ((show Tryd.prog.funcNamed "hedgerow/hedgelaw6.PlanMore" = some 3 by kernel_rfl).symm.trans hf) |>.symm
  obtain rfl : fn = Tryd.f3 := (Option.some.inj (Tryd.func3.symm.trans hfn)).symm
  refine ⟨by kernel_rfl, fun j t ht => ?_⟩
  rw [Tryd.params3] at ht
  have h1 : Tryd.prog.wantsStandIn 25 = false := by kernel_rfl
  have h2 : Tryd.prog.wantsStandIn 3 = false := by kernel_rfl
  have ht2 : t = 25 ∨ t = 3 := by simpa using Array.mem_of_getElem? ht
  rcases ht2 with rfl | rfl
  · exact h1
  · exact h2

/-- ████ THE CARD ████ -/
theorem card : Rows.PlanMoreCardSaid :=
  Claim7.holds_tied_plain_at .later [] _ _ _ _ said (fun _ h => by cases h) (by kernel_rfl) (fun _ h => by cases h) planMore_row_tie rfl ⟨rfl, rfl⟩ (by kernel_rfl) rfl plain (by kernel_rfl)
end Go.Proofs.YtcbpafpaimpfnaaDoor.planMore
namespace Go.Proofs.YtcbpafpaimpfnaaDoor
/-- ONE LINK MORE IS NO HARM: the statement, as it was given. -/
theorem planMore_card : Rows.PlanMoreCardSaid := planMore.card
#print axioms planMore_card
end Go.Proofs.YtcbpafpaimpfnaaDoor
