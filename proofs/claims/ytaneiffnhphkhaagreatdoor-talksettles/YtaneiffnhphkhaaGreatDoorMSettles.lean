/- 'hedgelaw7.TalkSettles' returns true for every net, every number of trees, whatever is done and every number of ticks more, and leaves it as it was: the row and its tied card. Conditions: none beyond the form's own (the tables lie as the program's text lays them: the card's tie). -/
import Derived.Test.YtaneiffnhphkhaaGreatDoorK36
import Derived.Test.YtaneiffnhphkhaaGreatDoorK28
import Derived.Test.YtaneiffnhphkhaaGreatDoorK12
import Derived.Test.YtaneiffnhphkhaaGreatDoorK37
import Derived.Test.YtaneiffnhphkhaaGreatDoorK35
import Derived.Test.YtaneiffnhphkhaaGreatDoorCards
import Derived.Test.YtaneiffnhphkhaaGreatDoorTie
import Derived.BigQuiet
import Derived.Deep.RegionHeld3
namespace Go.Proofs.YtaneiffnhphkhaaGreatDoor
open Go.RowKit
open Tk (Dn)

section
variable {P : Program} {ops : Array Oper} {Q : Exit → Act → World → Prop} {md : Region.Mode} {z : Nat} {C : World → Prop}
theorem z_mem {fuel : Nat} {listed : Array Bool} {a : Act} {w : World} {rs : List Nat} (hr : Region.ready md ops listed = rs) (hne : rs ≠ [])
    (h : ∀ i, i ∈ rs → wpOp P ops Q i (fun a' w' => ((listed.setIfInBounds i true).getD z true = true ∨ C w') ∧ wpAnyZ P md ops Q z C fuel (listed.setIfInBounds i true) a' w') a w) : wpAnyZ P md ops Q z C (fuel + 1) listed a w :=
  ⟨fun h0 => absurd (hr.symm.trans h0) hne, fun i hi => h i (by rw [← hr]; exact hi)⟩
theorem z_op {i : Nat} {o : Oper} {fuel : Nat} {listed : Array Bool} {a : Act} {w : World} (ho : ops[i]? = some o)
    (h : ∀ K' : Act → World → Prop, Shut (∀ a w, ((listed.setIfInBounds i true).getD z true = true ∨ C w) → wpAnyZ P md ops Q z C fuel (listed.setIfInBounds i true) a w → K' a w) → if Region.wanted o (yielded ops a.tmps) = true then Oper.wp P o a w K' Q else K' (a.put o.dst undef) w) :
    wpOp P ops Q i (fun a' w' => ((listed.setIfInBounds i true).getD z true = true ∨ C w') ∧ wpAnyZ P md ops Q z C fuel (listed.setIfInBounds i true) a' w') a w :=
  wpOp_step ho (fun K' hK => h K' (fun a w hS hW => hK a w ⟨hS, hW⟩))
end
def cnt3 (a b c : Bool) : Nat := (if a then 0 else 1) + (if b then 0 else 1) + (if c then 0 else 1)
/-- A variable's box, if it is there. -/
def AlF (W : World) (lo : Nat) (b : Bool) (s : Value) (g : Nat) (z : Array Value) (ty : TypeId) : Prop := b = true → s = .pointer (some ⟨g, 0, none⟩) ∧ W.heap[g]? = some (.cells z ty (0, 0)) ∧ lo ≤ g
theorem AlF.below {W W' : World} {lo : Nat} {b : Bool} {s : Value} {g : Nat} {z : Array Value} {ty : TypeId} (h : AlF W lo b s g z ty) (hb : Below W.heap.size W W') : AlF W' lo b s g z ty := fun e => ⟨(h e).1, keep (h e).2.1 hb, (h e).2.2⟩
theorem AlF.new (W : World) {lo : Nat} (hl : lo ≤ W.heap.size) (b : Bool) (z : Array Value) (ty : TypeId) : AlF (W.alloc (.cells z ty)) lo b (.pointer (some ⟨W.heap.size, 0, none⟩)) W.heap.size z ty := fun _ => ⟨rfl, heap_alloc_last _ _, hl⟩
theorem AlF.app {W W' : World} {lo lo2 n k e : Nat} {v : Value} {xs : List Value} {b : Bool} {s : Value} {g : Nat} {z : Array Value} {ty : TypeId} (h : AlF W lo b s g z ty) (ho : W.ownsRow lo2 e k v n xs) (hq : ∀ q, q < W.heap.size → some q ≠ v.ownBlock → W'.heap[q]? = W.heap[q]?) (hne : ty ≠ e) : AlF W' lo b s g z ty := fun eb => by
  obtain ⟨h1, h2, h3⟩ := h eb
  refine ⟨h1, (hq g (lt_some h2) (fun hv => ?_)).trans h2, h3⟩
  obtain ⟨c2, h4⟩ := owns_type ho hv.symm
  exact hne (cells_type h2 h4)
/-- What is done, and so many ticks more. -/
def dsT (dn : Nat) (ds : Nat → Dn) (tk : Int) (i : Nat) : Dn := if i < dn then ds i else tickD tk
theorem infoDo : (Tryz.prog.info? 45).map (fun i => (i.zero, i.size, i.bytes)) = some (some (.agg #[.int .i64 0, .int .i64 0, .int .i64 0, .int .i64 0]), 4, 32) := by kernel_rfl
theorem dnC_one (d : Dn) (j : Nat) : (dnC d j).oneCell' = true := by
  unfold dnC
  repeat' split
  all_goals rfl
abbrev runAppD (v x : Value) (w : World) (v' : Value) (w' : World) : Prop := (Builtin.append_ #[26, 26] 26 #[v, x]).run Tryz.prog w = .ok v' w'
theorem own_empty (W : World) {lo : Nat} (hl : lo ≤ W.heap.size) : (W.alloc (.cells #[] 45)).ownsRow lo 45 4 (.slice (some ⟨W.heap.size, 0, none⟩) 0 0) 0 (cellsL 0 4 (fun _ _ => .int .i64 0)) :=
  ⟨cellsL_length _ _ _, Or.inr ⟨W.heap.size, 0, #[], rfl, hl, heap_alloc_last _ _, Nat.le_refl _, by unfold maxLen; omega, rfl, by simp [cellsL]⟩⟩
/-- 'append([]api.Do{}, l...)'. -/
theorem do_copy {W : World} {lo : Nat} {v : Value} {dao : Option Addr} {dn dcap : Nat} {ds : Nat → Dn} (ho : W.ownsRow lo 45 4 v 0 (cellsL 0 4 (fun _ _ => .int .i64 0))) (hr : DRow W dao dn dcap ds) (hnil : NilOk dao dn dcap) (hn : dn * 32 ≤ 140737488355328) (hl : lo ≤ W.heap.size) :
    ∃ a1 c1 w', runAppD v (.slice dao dn dcap) W (.slice a1 dn c1) w' ∧ w'.ownsRow lo 45 4 (.slice a1 dn c1) dn (cellsL dn 4 (fun i => dnC (ds i))) ∧ Below lo W w' ∧ (∀ q, q < W.heap.size → some q ≠ v.ownBlock → w'.heap[q]? = W.heap[q]?) := by
  obtain ⟨a1, c1, w', r, o, b, q⟩ := append_c W 26 45 _ 4 32 Tryz.underlying26 infoDo rfl (by omega) lo v 0 _ ho dao dn dcap (fun i => dnC (ds i)) (fun _ _ => dnC_one _ _) hr hnil (by unfold maxLen; omega) (by omega) hl
  rw [Nat.zero_add] at r o
  rw [cellsL_congr dn 4 _ (fun i => dnC (ds i)) (fun i hi => by unfold catC; rw [if_neg (by omega), Nat.sub_zero])] at o
  exact ⟨a1, c1, w', r, o, b, q⟩
/-- 'append(.., ticks(t))'. -/
theorem do_more {W : World} {lo : Nat} {a1 : Option Addr} {c1 dn g : Nat} {ds : Nat → Dn} {tk : Int} (ho : W.ownsRow lo 45 4 (.slice a1 dn c1) dn (cellsL dn 4 (fun i => dnC (ds i)))) (hg : W.heap[g]? = some (.cells #[.int .i64 1, .int .i64 tk, .int .i64 0, .int .i64 0] 45 (0, 0))) (hn : dn ≤ 100000) (hl : lo ≤ W.heap.size) :
    ∃ a2 c2 w', runAppD (.slice a1 dn c1) (.slice (some ⟨g, 0, none⟩) 1 1) W (.slice a2 (dn + 1) c2) w' ∧ w'.ownsRow lo 45 4 (.slice a2 (dn + 1) c2) (dn + 1) (cellsL (dn + 1) 4 (fun i => dnC (dsT dn ds tk i))) ∧ Below lo W w' ∧ (∀ q, q < W.heap.size → some q ≠ (Value.slice a1 dn c1).ownBlock → w'.heap[q]? = W.heap[q]?) := by
  obtain ⟨a2, c2, w', r, o, b, q⟩ := append_c W 26 45 _ 4 32 Tryz.underlying26 infoDo rfl (by omega) lo (.slice a1 dn c1) dn _ ho (some ⟨g, 0, none⟩) 1 1 (fun _ => dnC (tickD tk)) (fun _ _ => dnC_one _ _) (one_do (d := tickD tk) hg) (fun h => by cases h) (by unfold maxLen; omega) (by omega) hl
  rw [cellsL_congr (dn + 1) 4 _ (fun i => dnC (dsT dn ds tk i)) (fun i hi => by
    unfold catC dsT
    by_cases h : i < dn
    · rw [if_pos h, if_pos h]
    · rw [if_neg h, if_neg h])] at o
  exact ⟨a2, c2, w', r, o, b, q⟩
theorem own_do {W : World} {lo dn c : Nat} {a : Option Addr} {ds : Nat → Dn} (h : W.ownsRow lo 45 4 (.slice a dn c) dn (cellsL dn 4 (fun i => dnC (ds i)))) : DRow W a dn c ds := (owns_cs (by omega) h).2
end Go.Proofs.YtaneiffnhphkhaaGreatDoor

namespace Go.Proofs.YtaneiffnhphkhaaGreatDoor
open Go.RowKit
open Vc (V Of)
open Pl (Br Net Pc Lk En St)
open Tk (Md Mnd Cn Sc Dn)

theorem start_ok {n : Net} (hw : n.Wf) (h : n.wrong.1 = 0) (T : Nat) : Tk.Ok n.cn (n.sc (startMs n)) T := by
  refine ⟨net_fine hw h _, fun k hk i hi => ?_, fun k hk i hi j => ?_⟩
  · rw [Pl.Net.sc_E]
    have e : (n.pts i).length = (n.ends i).length := by unfold Pl.Net.pts; simp
    show (zer (n.pts i).length).length = _ ∧ (zer (n.pts i).length).length = _
    rw [zer_len]
    exact ⟨e, e⟩
  · show 0 ≤ (zer (n.pts i).length).getD j 0 ∧ (0 < (zer (n.pts i).length).getD j 0 → _)
    rw [zer_get]
    exact ⟨Int.le_refl _, fun h => absurd h (Int.lt_irrefl _)⟩
theorem all_ticks (s : Sc) (c : Cn) (ds : Nat → Dn) (dn : Nat) (tk : Int) : s.all c (dsT dn ds tk) (dn + 1) = (s.all c ds dn).ticks c tk.toNat := by
  have e : dsT dn ds tk = fun k => if k < dn then ds k else tickD tk := rfl
  rw [e, Tk.all_last, Tk.Sc.one_tick rfl]
  rfl
theorem dsT_err {c : Cn} {ds : Nat → Dn} {dn : Nat} {tk : Int} (h : ∀ k, k < dn + 1 → Tk.errOf c (dsT dn ds tk k) = 0) : ∀ k, k < dn → Tk.errOf c (ds k) = 0 := fun k hk => by
  have := h k (by omega)
  unfold dsT at this
  rw [if_pos hk] at this
  exact this
theorem sn_net {W : World} {n : Net} {T : Nat} {s : Sc} {n' : Net} {oa : Option Addr} {oc : Nat} {t' : List Tr} (h : SnOut W n T s n' oa oc t') : n'.K = n.K ∧ n'.L = n.L ∧ n'.ends = s.E n.cn ∧ ∀ k : Int, n'.ids k = s.ids n.cn k := by
  have e1 : n'.K = n.K := congrArg Cn.K h.cn
  have e2 : n'.L = n.L := congrArg Cn.L h.cn
  refine ⟨e1, e2, ?_, fun k => ?_⟩
  · have := Pl.Net.sc_E n' s.ms
    rw [h.sc, h.cn] at this
    exact this.symm
  · funext i
    have := net_ids (n := n') s.ms k i
    rw [h.sc, h.cn] at this
    exact this.symm
theorem idx_at {l : List Int} {j : Nat} (hj : j < l.length) (h : ∀ a, a < j → l.getD a 0 ≠ l.getD j 0) : Bk.idx l (l.getD j 0) l.length = (j : Int) := by
  have H : ∀ k, k ≤ l.length → Bk.idx l (l.getD j 0) k = if j < k then (j : Int) else -1 := by
    intro k
    induction k with
    | zero => intro _; rfl
    | succ k ih =>
      intro hk
      have ih := ih (by omega)
      show (if 0 ≤ Bk.idx l (l.getD j 0) k then Bk.idx l (l.getD j 0) k else if l.getD j 0 = l.getD k 0 then (k : Int) else -1) = _
      rw [ih]
      by_cases q : j < k
      · rw [if_pos q, if_pos (by omega), if_pos (by omega)]
      · rw [if_neg q, if_neg (by omega)]
        by_cases q2 : j = k
        · subst q2
          rw [if_pos rfl, if_pos (by omega)]
        · rw [if_neg (fun e => h k (by omega) e.symm), if_neg (by omega)]
  rw [H _ (Nat.le_refl _), if_pos hj]
theorem EL_get {es : List En} {j : Nat} (hj : j < es.length) : es[j]? = some (EL es j) := by
  simp [EL, hj]
theorem pts_get {es : List En} {j : Nat} (hj : j < es.length) : (es.map (fun e : En => e.port)).getD j 0 = (EL es j).port := by
  simp [EL, hj]
/-- THE TREE OPENS, as it lies. -/
theorem sn_opens {W : World} {n : Net} {T : Nat} {ds : Nat → Dn} {dn : Nat} {tk : Int} {n' : Net} {oa : Option Addr} {oc : Nat} {t' : List Tr} (h : SnOut W n T ((n.sc (startMs n)).all n.cn (dsT dn ds tk) (dn + 1)) n' oa oc t') (hw : n.Wf) (h0 : n.wrong.1 = 0) (he : ∀ k, k < dn → Tk.errOf n.cn (ds k) = 0) (ht : 83 ≤ tk.toNat)
    {k i j : Nat} (hk : k < T) (hi : i < n.K) (hj : j < (n'.ends i).length) :
    opT t' k i (EL (n'.ends i) j).port = decide (Pl.roleAt (Pl.rounds (n'.ids k) n'.ends n'.K n'.K i) (Pl.offs (n'.ends i) (Pl.rounds (n'.ids k) n'.ends n'.K n'.K)) (EL (n'.ends i) j) = 1 ∨ Pl.roleAt (Pl.rounds (n'.ids k) n'.ends n'.K n'.K i) (Pl.offs (n'.ends i) (Pl.rounds (n'.ids k) n'.ends n'.K n'.K)) (EL (n'.ends i) j) = 2) := by
  obtain ⟨e1, _, e3, e4⟩ := sn_net h
  have hE := h.each k hk
  have hlen := h.len
  rw [all_ticks] at hE e3 e4
  obtain ⟨s0, hs0⟩ : ∃ s0, s0 = (n.sc (startMs n)).all n.cn ds dn := ⟨_, rfl⟩
  rw [← hs0] at hE e3 e4
  have e3 : n'.ends = s0.E n.cn := e3
  have e4 : n'.ids k = s0.ids n.cn k := e4 k
  have hok : Tk.Ok n.cn s0 T := by rw [hs0]; exact (start_ok hw h0 T).all ds dn he
  have hsame := ((net_fine hw h0 (startMs n)).all ds dn he)
  rw [← hs0] at hsame
  have hpts : n.pts i = (n'.ends i).map (fun e : En => e.port) := by
    have := (hsame.2.len (net_fine hw h0 (startMs n)) hsame.1 i).1
    rw [Pl.Net.sc_E] at this
    rw [e3]
    exact this.symm
  obtain ⟨hl, hm⟩ := hE
  obtain ⟨hm1, hm2⟩ := hm i hi
  have hcalm : (mat (tat t' k).l i).calm = ((s0.ticks n.cn tk.toNat).ms k i).calm := congrArg Mnd.calm hm1
  have hfit := ((ok_ticks hok tk.toNat).fit k hk i hi).2
  have hfit : ((s0.ticks n.cn tk.toNat).ms k i).calm.length = (n'.ends i).length := by rw [e3]; exact hfit
  rw [e3] at hj hpts hfit ⊢
  have hop := hok.opens ht hk hi (EL_get hj)
  have hrole : (s0.roles n.cn k i).getD j 0 = Pl.roleAt (s0.says n.cn k i) (Pl.offs (s0.E n.cn i) (s0.says n.cn k)) (EL (s0.E n.cn i) j) := by
    unfold Tk.Sc.roles
    exact Tk.map_getD _ _ (EL_get hj)
  have hsays : Pl.rounds (n'.ids k) (s0.E n.cn) n'.K n'.K = s0.says n.cn k := by
    rw [e4, e1]
    rfl
  rw [hsays, ← hrole]
  have hidx : Bk.idx (mat (tat t' k).l i).ports (EL (s0.E n.cn i) j).port (mat (tat t' k).l i).ports.length = (j : Int) := by
    rw [hm2, hpts, ← pts_get hj]
    refine idx_at (by simpa using hj) (fun a ha => ?_)
    rw [pts_get (by omega), pts_get hj]
    have hs := Pl.ends_sorted hok.fine.links (s0.lv n.cn) i
    have := List.pairwise_iff_getElem.1 hs a j (by have := hj; unfold Tk.Sc.E at this; omega) (by have := hj; unfold Tk.Sc.E at this; exact this) ha
    have g1 : EL (s0.E n.cn i) a = (s0.E n.cn i)[a]'(by omega) := by simp [EL, show a < (s0.E n.cn i).length by omega]
    have g2 : EL (s0.E n.cn i) j = (s0.E n.cn i)[j] := by simp [EL, hj]
    rw [g1, g2]
    exact Int.ne_of_lt this
  unfold opT
  rw [Int.toNat_natCast, Int.toNat_natCast, if_pos ⟨⟨by omega, by omega⟩, ⟨by omega, by omega⟩⟩]
  unfold opM
  rw [hidx, hcalm, if_pos ⟨by omega, by omega⟩, Int.toNat_natCast]
  exact decide_eq_decide.2 hop
/-- Three variables' boxes, written behind a call: what the call left is as it was. -/
theorem boxes_kept {V W0 W U : World} {b g7 g8 g9 : Nat} {v0 v1 v2 v3 v4 : Value} {P : World → Prop} (hK : Kept W0 b P) (hVb : V.heap.size ≤ b) (hb : Below W0.heap.size W0 W) (z7 : g7 < V.heap.size ∨ W0.heap.size ≤ g7) (z8 : g8 < V.heap.size ∨ W0.heap.size ≤ g8) (z9 : g9 < V.heap.size ∨ W0.heap.size ≤ g9)
    (hU : Below W.heap.size (((((W.setCell ⟨g7, 0, none⟩ v0).setCell ⟨g7, 1, none⟩ v1).setCell ⟨g8, 0, none⟩ v2).setCell ⟨g9, 0, none⟩ v3).setCell ⟨g9, 1, none⟩ v4) U) : P U := hK U (fun q h1 h2 => by
  have hs := hb.size
  rw [hU.block q (by omega), heap_setCell_other _ _ _ _ (by show q ≠ g9; omega), heap_setCell_other _ _ _ _ (by show q ≠ g9; omega), heap_setCell_other _ _ _ _ (by show q ≠ g8; omega), heap_setCell_other _ _ _ _ (by show q ≠ g7; omega), heap_setCell_other _ _ _ _ (by show q ≠ g7; omega)]
  exact hb.block q h2)
end Go.Proofs.YtaneiffnhphkhaaGreatDoor

namespace Go.Proofs.YtaneiffnhphkhaaGreatDoor
open Go.RowKit
open Vc (V Of)
open Pl (Br Net Pc Lk En St)
open Tk (Md Mnd Cn Sc Dn)

theorem sn_pts {W : World} {n : Net} {T : Nat} {ds : Nat → Dn} {dn : Nat} {n' : Net} {oa : Option Addr} {oc : Nat} {t' : List Tr} (h : SnOut W n T ((n.sc (startMs n)).all n.cn ds dn) n' oa oc t') (hw : n.Wf) (h0 : n.wrong.1 = 0) (he : ∀ k, k < dn → Tk.errOf n.cn (ds k) = 0) (i : Nat) : n.pts i = n'.pts i := by
  obtain ⟨_, _, e3, _⟩ := sn_net h
  have hsame := ((net_fine hw h0 (startMs n)).all ds dn he)
  have := (hsame.2.len (net_fine hw h0 (startMs n)) hsame.1 i).1
  rw [Pl.Net.sc_E, ← e3] at this
  exact this.symm
theorem sn_fit {W : World} {n : Net} {T : Nat} {s : Sc} {n' : Net} {oa : Option Addr} {oc : Nat} {t' : List Tr} (h : SnOut W n T s n' oa oc t') (hT : 1 ≤ T ∧ T ≤ 4) (hp : ∀ i, n.pts i = n'.pts i) : fitT n' t' = true ∧ CalmT t' ∧ ∀ k, k < t'.length → ∀ i, i < n'.K → s.ms k i = msT t' k i := by
  obtain ⟨e1, _, e3, _⟩ := sn_net h
  have hl := h.len
  refine ⟨fit_iff.2 ⟨by omega, fun k hk => ?_⟩, fun k hk i hi j => ?_, fun k hk i hi => ?_⟩
  · rw [hl] at hk
    obtain ⟨a1, a2⟩ := h.each k hk
    refine ⟨a1.trans e1.symm, fun i hi => ?_⟩
    rw [e1] at hi
    obtain ⟨b1, b2⟩ := a2 i hi
    have hf := h.ok.fit k hk i hi
    have hpl : (n'.pts i).length = (s.E n.cn i).length := by unfold Pl.Net.pts; rw [e3]; simp
    rw [← b1] at hf
    exact ⟨b2.trans (hp i), hf.1.trans hpl.symm, hf.2.trans hpl.symm⟩
  · rw [hl] at hk
    obtain ⟨a1, a2⟩ := h.each k hk
    rw [a1] at hi
    obtain ⟨b1, _⟩ := a2 i hi
    have := h.ok.calm k hk i hi j
    rw [← b1] at this
    exact this
  · rw [hl] at hk
    rw [e1] at hi
    exact ((h.each k hk).2 i hi).1.symm
/-- What On leaves of what Play left, taken apart. -/
def OnF (V w' : World) (n' : Net) (T : Nat) (s : Sc) (na : Option Addr) (nk nc : Nat) (la : Option Addr) (lk lc : Nat) (oa : Option Addr) (ol oc : Nat) (f1 f2 : Int) : Prop :=
  (f1 = 0 ∧ f2 = 0) ∧ ∃ (n2 : Net) (t2 : List Tr), (na = n2.bao ∧ nk = n2.K ∧ nc = n2.bcap) ∧ (la = n2.lao ∧ lk = n2.L ∧ lc = n2.lcap) ∧ ol = t2.length ∧ ∃ b, V.heap.size ≤ b ∧ Kept w' b (fun U => SnOut U n' T s n2 oa oc t2)
theorem on_more {V : World} {n : Net} {T : Nat} {ds : Nat → Dn} {dn : Nat} {n' : Net} {oa : Option Addr} {oc : Nat} {t' : List Tr} (h : SnOut V n T ((n.sc (startMs n)).all n.cn ds dn) n' oa oc t') (hw : n.Wf) (h0 : n.wrong.1 = 0) (he : ∀ k, k < dn → Tk.errOf n.cn (ds k) = 0) (hT : 1 ≤ T ∧ T ≤ 4) {x : Int} (hx : 0 ≤ x ∧ x ≤ 200) {g : Nat} (hg : DRow V (some ⟨g, 0, none⟩) 1 1 (fun _ => tickD x)) (htb : Tabs V) (hbt : 2 ≤ V.heap.size) :
    Calls Tryz.prog 20 #[.agg #[.slice n'.bao n'.K n'.bcap, .slice n'.lao n'.L n'.lcap], .agg #[.slice oa t'.length oc], .slice (some ⟨g, 0, none⟩) 1 1] V fun e w' => ∃ na nk nc la lk lc oa ol oc f1 f2, e = .returned (.tuple #[.agg #[.slice na nk nc, .slice la lk lc], .agg #[.slice oa ol oc], .agg #[.int .i64 f1, .int .i64 f2]]) ∧ Hid (Below V.heap.size V w' ∧ OnF V w' n' T (((n.sc (startMs n)).all n.cn ds dn).ticks n.cn x.toNat) na nk nc la lk lc oa ol oc f1 f2) := by
  obtain ⟨hf, hc, hm⟩ := sn_fit h hT (sn_pts h hw h0 he)
  have herr : (onErr n' t' (fun _ => tickD x) 1).1 = 0 := by
    rw [on_start h.right hf, if_neg (by omega)]
    have : Tk.errOf n'.cn (tickD x) = 0 := by
      unfold Tk.errOf tickD
      simp only [if_pos]
      rw [if_pos hx]
    show (Pl.firstTo (fun _ => Tk.errOf n'.cn (tickD x)) 1).1 = 0
    rw [Pl.firstTo_all _ _ (fun _ _ => this)]
  refine (ton_any n' oa oc t' ((n.sc (startMs n)).all n.cn ds dn).ms (some ⟨g, 0, none⟩) 1 1 (fun _ => tickD x) V h.wf h.net h.row (by omega) hg hc hm htb hbt).mono ?_
  rintro e w' ⟨h1, ⟨h2, _⟩ | ⟨_, n2, oao, ocap, t2, rfl, b, hb, h3⟩⟩
  · exact absurd herr h2
  · refine ⟨n2.bao, n2.K, n2.bcap, n2.lao, n2.L, n2.lcap, oao, t2.length, ocap, 0, 0, rfl, h1, ⟨rfl, rfl⟩, n2, t2, ⟨rfl, rfl, rfl⟩, ⟨rfl, rfl, rfl⟩, rfl, b, hb, ?_⟩
    have e1 : (n'.sc ((n.sc (startMs n)).all n.cn ds dn).ms).all n'.cn (fun _ => tickD x) 1 = ((n.sc (startMs n)).all n.cn ds dn).ticks n.cn x.toNat := by
      rw [h.sc, h.cn]
      show ((n.sc (startMs n)).all n.cn ds dn).one n.cn (tickD x) = _
      rw [Tk.Sc.one_tick rfl]
      rfl
    rw [← h.len, ← e1]
    exact h3
/-- Two variables' boxes and an older one, written behind a call: what the call left is as it was. -/
theorem boxes_kept2 {V W0 W U : World} {b g7 g8 g9 : Nat} {v0 v1 v2 v3 v4 : Value} {P : World → Prop} (hK : Kept W0 b P) (hVb : V.heap.size ≤ b) (hb : Below W0.heap.size W0 W) (z7 : g7 < V.heap.size ∨ W0.heap.size ≤ g7) (z8 : g8 < V.heap.size ∨ W0.heap.size ≤ g8) (z9 : g9 < V.heap.size)
    (hU : Below W.heap.size (((((W.setCell ⟨g7, 0, none⟩ v0).setCell ⟨g7, 1, none⟩ v1).setCell ⟨g8, 0, none⟩ v2).setCell ⟨g9, 0, none⟩ v3).setCell ⟨g9, 1, none⟩ v4) U) : P U := boxes_kept hK hVb hb z7 z8 (Or.inl z9) hU
/-- The older box keeps what it had: nothing that was there has changed. -/
theorem boxes_same {X W : World} {g7 g8 g9 : Nat} {v0 v1 v2 : Value} (hX : Below X.heap.size X W) (l7 : X.heap.size ≤ g7) (l8 : X.heap.size ≤ g8) (n79 : g9 ≠ g7) (n89 : g9 ≠ g8) (k9 : W.heap[g9]? = some (.cells #[.int .i64 0, .int .i64 0] 32 (0, 0))) :
    Below X.heap.size X (((((W.setCell ⟨g7, 0, none⟩ v0).setCell ⟨g7, 1, none⟩ v1).setCell ⟨g8, 0, none⟩ v2).setCell ⟨g9, 0, none⟩ (.int .i64 0)).setCell ⟨g9, 1, none⟩ (.int .i64 0)) := by
  have h1 : Below X.heap.size X (((W.setCell ⟨g7, 0, none⟩ v0).setCell ⟨g7, 1, none⟩ v1).setCell ⟨g8, 0, none⟩ v2) := ((hX.setCell l7 _).setCell l7 _).setCell l8 _
  have h2 := below_same (set_keep (set_keep (set_keep k9 n79) n79) n89 : (((W.setCell ⟨g7, 0, none⟩ v0).setCell ⟨g7, 1, none⟩ v1).setCell ⟨g8, 0, none⟩ v2).heap[g9]? = _)
  exact h1.trans (h2.mono h1.size)
/-- One tick more, plain: nobody says anything else; roles stay, ports are calm for one tick more. -/
structure QuM (a b : Mi) : Prop where
  md : b.md = a.md
  roles : b.roles = a.roles
  len : b.calm.length = a.calm.length
  rlen : a.roles.length = a.calm.length
  calm : ∀ j, j < a.calm.length → (0 ≤ a.calm.getD j 0 ∧ a.calm.getD j 0 ≤ 50) ∧ b.calm.getD j 0 = Tk.calmOf (a.roles.getD j 0) (a.calm.getD j 0)
theorem calmOf_top {r c : Int} : Tk.calmOf r c ≤ 50 := by
  unfold Tk.calmOf
  split
  · split <;> omega
  · omega
theorem sn_quiet {W W2 : World} {n : Net} {T : Nat} {ds : Nat → Dn} {dn : Nat} {n' n2 : Net} {oa oa2 : Option Addr} {oc oc2 : Nat} {t' t2 : List Tr} (h : SnOut W n T ((n.sc (startMs n)).all n.cn (dsT dn ds 40) (dn + 1)) n' oa oc t') (h2 : SnOut W2 n' T (((n.sc (startMs n)).all n.cn (dsT dn ds 40) (dn + 1)).ticks n.cn 1) n2 oa2 oc2 t2) (hw : n.Wf) (h0 : n.wrong.1 = 0) (he : ∀ k, k < dn → Tk.errOf n.cn (ds k) = 0)
    {k i : Nat} (hk : k < T) (hi : i < n.K) : QuM (mat (tat t' k).l i) (mat (tat t2 k).l i) := by
  obtain ⟨e1, _, _, _⟩ := sn_net h
  obtain ⟨m1, _⟩ := (h.each k hk).2 i hi
  obtain ⟨m2, _⟩ := (h2.each k hk).2 i (by rw [e1]; exact hi)
  rw [all_ticks] at m1 m2
  obtain ⟨s0, hs0⟩ : ∃ s0, s0 = (n.sc (startMs n)).all n.cn ds dn := ⟨_, rfl⟩
  rw [← hs0] at m1 m2
  have hok : Tk.Ok n.cn s0 T := by rw [hs0]; exact (start_ok hw h0 T).all ds dn he
  rw [Tk.Sc.ticks_add] at m2
  have hok40 := ok_ticks hok 40
  have m1 : msT t' k i = Tk.ticksF (s0.ids n.cn k) (s0.E n.cn) (s0.ms k) 40 i := m1
  have m2 : msT t2 k i = Tk.ticksF (s0.ids n.cn k) (s0.E n.cn) (s0.ms k) 41 i := m2
  have q1 := Tk.quietF (hok.fine.good (s0.ids n.cn k)) hok.fine.ports (s0.ms k) (t := 41) (s := 40) (by omega) (by omega) hi
  have r40 := (Tk.settledF (hok.fine.good (s0.ids n.cn k)) hok.fine.ports (s0.ms k) (t := 40) (by omega) hi).2.2
  have r41 := (Tk.settledF (hok.fine.good (s0.ids n.cn k)) hok.fine.ports (s0.ms k) (t := 41) (by omega) hi).2.2
  have f39 := Tk.ticksF_fit (ids := s0.ids n.cn k) (hok.fit k hk) 39
  have f40 := Tk.ticksF_fit (ids := s0.ids n.cn k) (hok.fit k hk) 40
  have f41 := Tk.ticksF_fit (ids := s0.ids n.cn k) (hok.fit k hk) 41
  have c40 := Tk.ticksF_Calm (ids := s0.ids n.cn k) (hok.fit k hk) (hok.calm k hk) 40
  have a1 : (mat (tat t' k).l i).md = (Tk.ticksF (s0.ids n.cn k) (s0.E n.cn) (s0.ms k) 40 i).md := congrArg Mnd.md m1
  have a2 : (mat (tat t' k).l i).roles = (Tk.ticksF (s0.ids n.cn k) (s0.E n.cn) (s0.ms k) 40 i).roles := congrArg Mnd.roles m1
  have a3 : (mat (tat t' k).l i).calm = (Tk.ticksF (s0.ids n.cn k) (s0.E n.cn) (s0.ms k) 40 i).calm := congrArg Mnd.calm m1
  have b1 : (mat (tat t2 k).l i).md = (Tk.ticksF (s0.ids n.cn k) (s0.E n.cn) (s0.ms k) 41 i).md := congrArg Mnd.md m2
  have b2 : (mat (tat t2 k).l i).roles = (Tk.ticksF (s0.ids n.cn k) (s0.E n.cn) (s0.ms k) 41 i).roles := congrArg Mnd.roles m2
  have b3 : (mat (tat t2 k).l i).calm = (Tk.ticksF (s0.ids n.cn k) (s0.E n.cn) (s0.ms k) 41 i).calm := congrArg Mnd.calm m2
  have hf40 := f40 i hi
  have hf41 := f41 i hi
  refine ⟨b1.trans (q1.trans a1.symm), ?_, ?_, ?_, fun j hj => ⟨⟨?_, ?_⟩, ?_⟩⟩
  · rw [b2, a2]; exact r41.trans r40.symm
  · rw [b3, a3]; omega
  · rw [a2, a3]; omega
  · rw [a3]; exact (c40 i hi j).1
  · rw [a3] at hj ⊢
    have := Tk.tickF_calm (ids := s0.ids n.cn k) f39 hi (j := j) (by omega)
    rw [show Tk.ticksF (s0.ids n.cn k) (s0.E n.cn) (s0.ms k) 40 i = Tk.tickF (s0.ids n.cn k) (s0.E n.cn) (Tk.ticksF (s0.ids n.cn k) (s0.E n.cn) (s0.ms k) 39) i from rfl, this]
    exact calmOf_top
  · rw [a3] at hj
    have := Tk.tickF_calm (ids := s0.ids n.cn k) f40 hi (j := j) (by omega)
    rw [b3, a2, a3, show Tk.ticksF (s0.ids n.cn k) (s0.E n.cn) (s0.ms k) 41 i = Tk.tickF (s0.ids n.cn k) (s0.E n.cn) (Tk.ticksF (s0.ids n.cn k) (s0.E n.cn) (s0.ms k) 40) i from rfl, this]
    rw [show (Tk.tickF (s0.ids n.cn k) (s0.E n.cn) (Tk.ticksF (s0.ids n.cn k) (s0.E n.cn) (s0.ms k) 40) i).roles = (Tk.ticksF (s0.ids n.cn k) (s0.E n.cn) (s0.ms k) 41 i).roles from rfl, r41, r40]
end Go.Proofs.YtaneiffnhphkhaaGreatDoor

namespace Go.Proofs.YtaneiffnhphkhaaGreatDoor
open Go.RowKit
open Vc (V Of)
open Pl (Br Net Pc Lk En St)
namespace Pl
def LN (l : List Nat) (j : Nat) : Nat := l.getD j 0
/-- The live links among the first k. -/
def Net.lvsTo (n : Net) (k : Nat) : List Nat := (List.range k).filter n.live
def Net.lvs (n : Net) : List Nat := n.lvsTo n.L
theorem Net.lvsTo_next (n : Net) (k : Nat) : n.lvsTo (k + 1) = n.lvsTo k ++ if n.live k = true then [k] else [] := by
  unfold Net.lvsTo
  rw [List.range_succ, List.filter_append]
  congr 1
  cases h : n.live k <;> simp [h]
theorem Net.lvsTo_few (n : Net) (k : Nat) : (n.lvsTo k).length ≤ k := by
  have := List.length_filter_le n.live (List.range k)
  rw [List.length_range] at this
  exact this
theorem LN_get {l : List Nat} {j : Nat} (h : j < l.length) : LN l j = l[j] := by
  unfold LN
  rw [List.getD_eq_getElem?_getD, List.getElem?_eq_getElem h]
  rfl
theorem Net.lvs_mem {n : Net} {j : Nat} (h : j < n.lvs.length) : LN n.lvs j < n.L ∧ n.live (LN n.lvs j) = true := by
  have hm : LN n.lvs j ∈ n.lvs := by rw [LN_get h]; exact List.getElem_mem h
  unfold Net.lvs Net.lvsTo at hm
  obtain ⟨h1, h2⟩ := List.mem_filter.1 hm
  exact ⟨List.mem_range.1 h1, h2⟩
theorem Net.lvs_rise {n : Net} {i j : Nat} (hij : i < j) (h : j < n.lvs.length) : LN n.lvs i < LN n.lvs j := by
  have hp : n.lvs.Pairwise (· < ·) := by
    unfold Net.lvs Net.lvsTo
    exact List.Pairwise.filter _ List.pairwise_lt_range
  rw [LN_get (by omega), LN_get h]
  exact List.pairwise_iff_getElem.1 hp i j (by omega) h hij
theorem Net.lvs_all {n : Net} {k : Nat} (hk : k < n.L) (h : n.live k = true) : ∃ j, j < n.lvs.length ∧ LN n.lvs j = k := by
  have hm : k ∈ n.lvs := List.mem_filter.2 ⟨List.mem_range.2 hk, h⟩
  obtain ⟨j, hj, e⟩ := List.getElem_of_mem hm
  exact ⟨j, hj, by rw [LN_get hj]; exact e⟩
end Pl
open Pl (LN)
abbrev lkCells (ls : Nat → Lk) (l : List Nat) : List Value := cellsL l.length 6 (fun j => lkC (ls (LN l j)))
theorem ln_snoc (ls : Nat → Lk) (l : List Nat) (k : Nat) : cellsL (l.length + 1) 6 (catC l.length (fun j => lkC (ls (LN l j))) (fun _ => lkC (ls k))) = lkCells ls (l ++ [k]) := by
  unfold lkCells
  rw [List.length_append]
  apply cellsL_congr
  intro i hi
  simp only [catC]
  by_cases q : i < l.length
  · rw [if_pos q]
    simp [LN, List.getD, List.getElem?_append_left q]
  · rw [if_neg q]
    obtain rfl : i = l.length := by omega
    simp [LN, List.getD]
theorem one_lk_row {w : World} {g : Nat} {l : Lk} {ty : TypeId} (h : w.heap[g]? = some (.cells (lkA l) ty (0, 0))) : LRow w (some ⟨g, 0, none⟩) 1 1 (fun _ => l) := by
  refine ⟨Nat.le_refl _, fun _ => ⟨g, 0, rfl, (Array.getElem?_eq_some_iff.1 h).1, fun i hi j hj => ?_⟩⟩
  obtain rfl : i = 0 := by omega
  rcases (by omega : j = 0 ∨ j = 1 ∨ j = 2 ∨ j = 3 ∨ j = 4 ∨ j = 5) with e | e | e | e | e | e <;> subst e <;> exact cell_of_row w g _ _ _ _ h
/-- Identities are apart, and within 64 bits. -/
theorem ids_range {n : Net} (R : n.Right) (tree : Int) {i : Nat} (hi : i < n.K) : 0 ≤ n.ids tree i ∧ n.ids tree i < 18446744073709551616 := by
  obtain ⟨h1, h2, h3, _⟩ := R.fine i hi
  have hp : 0 ≤ (n.bs i).prio tree ∧ (n.bs i).prio tree ≤ 61440 := by
    unfold Pl.Br.prio
    by_cases h : 0 ≤ tree ∧ tree ≤ ((n.bs i).pn : Int) - 1
    · rw [if_pos h]; exact h3 _ (by omega)
    · rw [if_neg h]; exact ⟨by decide, by decide⟩
  unfold Pl.Net.ids Pl.Br.id
  generalize (n.bs i).prio tree = p at *
  omega
theorem ids_apart {n : Net} (R : n.Right) (tree : Int) : ∀ i j, i < n.K → j < n.K → n.ids tree i = n.ids tree j → i = j := by
  intro i j hi hj e
  have h1 := (R.fine i hi).addr
  have h2 := (R.fine j hj).addr
  refine R.apart i j hi hj ?_
  unfold Pl.Net.ids Pl.Br.id at e
  generalize (n.bs i).prio tree = p at *
  generalize (n.bs j).prio tree = q at *
  omega
end Go.Proofs.YtaneiffnhphkhaaGreatDoor

namespace Go.Proofs.YtaneiffnhphkhaaGreatDoor
open Go.RowKit
open Vc (V Of)
open Pl (Br Net Pc Lk En St)

set_option maxRecDepth 100000 in
set_option maxHeartbeats 1000000 in
theorem rints_any (ao bo : Option Addr) (n c1 c2 : Nat) (f : Nat → Int) (w : World) (hn : n ≤ 1000) (h1 : IRow w ao n c1 f) (h2 : IRow w bo n c2 f) :
    Calls Tryz.prog 71 #[.slice ao n c1, .slice bo n c2] w fun e w' => e = .returned (.bool true) ∧ ∃ m, w' = w.drewN m := by
  have HA : Hid (∀ m, IRow (w.drewN m) ao n c1 f ∧ IRow (w.drewN m) bo n c2 f) := fun m => ⟨CRow.below h1 (below_drewN (Below.refl _ _) m), CRow.below h2 (below_drewN (Below.refl _ _) m)⟩
  have k1 := h1.1
  have k2 := h2.1
  clear h1 h2
  go_enter Tryz.func71, Tryz.ntmps71
  go_wp2_with fail
  go_loopw [13] (fun i wr => ∃ k m : Nat, k ≤ n ∧ i = .int .i64 k ∧ wr = w.drewN m) (fun i _ => n - (intOf i).toNat)
  case atStart => exact ⟨0, 0, by omega, rfl, rfl⟩
  case round =>
    obtain ⟨k, m, hk, rfl, HW⟩ := hrel
    by_cases hlt : k < n
    · obtain ⟨r1, r2⟩ := HA.out m
      rw [← HW] at r1 r2
      obtain ⟨b1, o1, rfl, _⟩ := CRow.some r1 (by omega)
      obtain ⟨b2, o2, rfl, _⟩ := CRow.some r2 (by omega)
      have x1 := IRow.cells r1 hlt
      have x2 := IRow.cells r2 hlt
      have HE : Hid (wr = w.drewN m) := HW
      have i0 : (0 : Int) ≤ (k : Int) := by omega
      have i1 : (k : Int) < (n : Int) := by omega
      clear r1 r2 HA HW
      generalize f k = z at *
      go_wp2_with fail
      go_quiet (fail)
      go_wp2_with fail
      exact ⟨⟨k + 1, _, by omega, by go_num, by rw [HE.out, World.drewN_drewN]⟩, by simp [intOf]; omega⟩
    · have hnk : ¬ (k : Int) < (n : Int) := by omega
      have HE : Hid (wr = w.drewN m) := HW
      clear HA HW
      go_wp2_with fail
      go_ret
      exact ⟨rfl, m, HE.out⟩
theorem vec_neq (a b c d : Int) (W : World) : (binOp .neq 58 (.agg #[.int .u64 a, .int .i64 b, .int .u64 c, .int .i64 d]) (.agg #[.int .u64 a, .int .i64 b, .int .u64 c, .int .i64 d])).run Tryz.prog W = .ok (.bool false) W := by go_simp
/-- Two places that say the same. -/
def OneSame (w : World) (P a Q b : Nat) : Prop :=
  ∃ (s : St) (len : Nat) (p q : Option Addr) (pc qc : Nat) (r t : Option Addr) (rc tc : Nat) (f g : Nat → Int), len ≤ 1000 ∧
    (w.cell? ⟨P, a, none⟩ = some (.int .u64 s.v.root) ∧ w.cell? ⟨P, a + 1, none⟩ = some (.int .i64 s.v.cost) ∧ w.cell? ⟨P, a + 2, none⟩ = some (.int .u64 s.v.bridge) ∧ w.cell? ⟨P, a + 3, none⟩ = some (.int .i64 s.v.port) ∧ w.cell? ⟨P, a + 4, none⟩ = some (.int .i64 s.rp) ∧ w.cell? ⟨P, a + 5, none⟩ = some (.slice p len pc) ∧ w.cell? ⟨P, a + 6, none⟩ = some (.slice r len rc)) ∧
    (w.cell? ⟨Q, b, none⟩ = some (.int .u64 s.v.root) ∧ w.cell? ⟨Q, b + 1, none⟩ = some (.int .i64 s.v.cost) ∧ w.cell? ⟨Q, b + 2, none⟩ = some (.int .u64 s.v.bridge) ∧ w.cell? ⟨Q, b + 3, none⟩ = some (.int .i64 s.v.port) ∧ w.cell? ⟨Q, b + 4, none⟩ = some (.int .i64 s.rp) ∧ w.cell? ⟨Q, b + 5, none⟩ = some (.slice q len qc) ∧ w.cell? ⟨Q, b + 6, none⟩ = some (.slice t len tc)) ∧
    (IRow w p len pc f ∧ IRow w q len qc f) ∧ (IRow w r len rc g ∧ IRow w t len tc g)
theorem OneSame.drewN {w : World} {P a Q b : Nat} (h : OneSame w P a Q b) (m : Nat) : OneSame (w.drewN m) P a Q b := by
  obtain ⟨s, len, p, q, pc, qc, r, t, rc, tc, f, g, h0, h1, h2, ⟨h3, h4⟩, h5, h6⟩ := h
  have hb := below_drewN (Below.refl w.heap.size w) m
  exact ⟨s, len, p, q, pc, qc, r, t, rc, tc, f, g, h0, h1, h2, ⟨CRow.below h3 hb, CRow.below h4 hb⟩, CRow.below h5 hb, CRow.below h6 hb⟩
set_option maxRecDepth 100000 in
set_option maxHeartbeats 4000000 in
theorem rsame6_any (n P oP cP Q oQ cQ : Nat) (w : World) (hn : n ≤ 1000) (h : ∀ i, i < n → OneSame w P (oP + i * 7) Q (oQ + i * 7)) :
    Calls Tryz.prog 47 #[.slice (some ⟨P, oP, none⟩) n cP, .slice (some ⟨Q, oQ, none⟩) n cQ] w fun e w' => e = .returned (.bool true) ∧ ∃ m, w' = w.drewN m := by
  have HA : Hid (∀ i, i < n → ∀ m, OneSame (w.drewN m) P (oP + i * 7) Q (oQ + i * 7)) := fun i hi m => (h i hi).drewN m
  clear h
  go_enter Tryz.func47, Tryz.ntmps47
  go_wp2_with fail
  go_loopw [13] (fun i wr => ∃ k m : Nat, k ≤ n ∧ i = .int .i64 k ∧ wr = w.drewN m) (fun i _ => n - (intOf i).toNat)
  case atStart => exact ⟨0, 0, by omega, rfl, rfl⟩
  case round =>
    obtain ⟨k, m, hk, rfl, HW⟩ := hrel
    by_cases hlt : k < n
    · have hs := HA.out k hlt m
      rw [← HW] at hs
      obtain ⟨⟨⟨v0, v1, v2, v3⟩, rp⟩, len, p, q, pc, qc, r, t, rc, tc, f, g, h0, ⟨x0, x1, x2, x3, x4, x5, x6⟩, ⟨y0, y1, y2, y3, y4, y5, y6⟩, ⟨r1, r2⟩, r3, r4⟩ := hs
      simp only at x0 x1 x2 x3 x4 y0 y1 y2 y3 y4
      have HI1 : Hid (∀ q', Calls Tryz.prog 71 #[.slice p len pc, .slice q len qc] (wr.drewN q') fun e w' => e = .returned (.bool true) ∧ ∃ m, w' = (wr.drewN q').drewN m) := fun q' => rints_any p q len pc qc f (wr.drewN q') h0 (CRow.below r1 (below_drewN (Below.refl _ _) q')) (CRow.below r2 (below_drewN (Below.refl _ _) q'))
      have HI2 : Hid (∀ q', Calls Tryz.prog 71 #[.slice r len rc, .slice t len tc] (wr.drewN q') fun e w' => e = .returned (.bool true) ∧ ∃ m, w' = (wr.drewN q').drewN m) := fun q' => rints_any r t len rc tc g (wr.drewN q') h0 (CRow.below r3 (below_drewN (Below.refl _ _) q')) (CRow.below r4 (below_drewN (Below.refl _ _) q'))
      have hne := vec_neq v0 v1 v2 v3
      have HE : Hid (wr = w.drewN m) := HW
      have i0 : (0 : Int) ≤ (k : Int) := by omega
      have i1 : (k : Int) < (n : Int) := by omega
      clear r1 r2 r3 r4 HA HW h0
      go_wp2_with fail
      go_quiet (first | (go_at_call 71; (with_reducible exact Calls.quiet_of (HI1.out _))) | (go_at_call 71; (with_reducible exact Calls.quiet_of (HI2.out _))))
      all_goals go_wp2_with fail
      all_goals exact ⟨⟨k + 1, _, by omega, by go_num, by rw [HE.out, World.drewN_drewN]⟩, by simp [intOf]; omega⟩
    · have hnk : ¬ (k : Int) < (n : Int) := by omega
      have HE : Hid (wr = w.drewN m) := HW
      clear HA HW
      go_wp2_with fail
      go_ret
      exact ⟨rfl, m, HE.out⟩
/-- Two rows of places that say the same, one by one. -/
theorem same_of_places {w : World} {P Q K K' : Nat} {x y : Nat → St} {E F : Nat → List En} (h1 : PlacesAt w P K x E K) (h2 : PlacesAt w Q K' y F K') {i j : Nat} (hi : i < K) (hj : j < K') (hl : (E i).length ≤ 1000) (e1 : x i = y j) (e2 : (F j).length = (E i).length) (e3 : ∀ q, q < (E i).length → (EL (F j) q).port = (EL (E i) q).port)
    (e4 : ∀ q, q < (E i).length → Pl.roleAt (y j) (Pl.offs (F j) y) (EL (F j) q) = Pl.roleAt (x i) (Pl.offs (E i) x) (EL (E i) q)) : OneSame w P (i * 7) Q (j * 7) := by
  obtain ⟨c, a1, a2, _, a4⟩ := h1
  obtain ⟨d, b1, b2, _, b4⟩ := h2
  obtain ⟨p, r, pc, rc, p5, p6, hp, hr, _, _⟩ := a4 i hi
  obtain ⟨q, t, qc, tc, q5, q6, hq, ht, _, _⟩ := b4 j hj
  rw [e2] at q5 q6 hq ht
  have A : ∀ s, s < 7 → w.cell? ⟨P, i * 7 + s, none⟩ = some (c i s) := fun s hs => rowC_cell a1 hi hs
  have B : ∀ s, s < 7 → w.cell? ⟨Q, j * 7 + s, none⟩ = some (d j s) := fun s hs => rowC_cell b1 hj hs
  have a2' := a2 i hi
  have b2' := b2 j hj
  rw [← e1] at b2'
  refine ⟨x i, (E i).length, p, q, pc, qc, r, t, rc, tc, _, _, hl, ⟨?_, ?_, ?_, ?_, ?_, ?_, ?_⟩, ⟨?_, ?_, ?_, ?_, ?_, ?_, ?_⟩, ⟨hp, CRow.congr hq (fun s hs => by funext _; exact congrArg (Value.int .i64) (e3 s hs))⟩, hr, CRow.congr ht (fun s hs => by funext _; exact congrArg (Value.int .i64) (e4 s hs))⟩
  · have := A 0 (by omega); rw [a2' 0 (by omega)] at this; exact this
  · have := A 1 (by omega); rw [a2' 1 (by omega)] at this; exact this
  · have := A 2 (by omega); rw [a2' 2 (by omega)] at this; exact this
  · have := A 3 (by omega); rw [a2' 3 (by omega)] at this; exact this
  · have := A 4 (by omega); rw [a2' 4 (by omega)] at this; exact this
  · have := A 5 (by omega); rw [p5] at this; exact this
  · have := A 6 (by omega); rw [p6] at this; exact this
  · have := B 0 (by omega); rw [b2' 0 (by omega)] at this; exact this
  · have := B 1 (by omega); rw [b2' 1 (by omega)] at this; exact this
  · have := B 2 (by omega); rw [b2' 2 (by omega)] at this; exact this
  · have := B 3 (by omega); rw [b2' 3 (by omega)] at this; exact this
  · have := B 4 (by omega); rw [b2' 4 (by omega)] at this; exact this
  · have := B 5 (by omega); rw [q5] at this; exact this
  · have := B 6 (by omega); rw [q6] at this; exact this
end Go.Proofs.YtaneiffnhphkhaaGreatDoor

namespace Go.Proofs.YtaneiffnhphkhaaGreatDoor
open Go.RowKit
open Vc (V Of)
open Pl (Br Net Pc Lk En St)
open Tk (Md Mnd Cn Sc Dn)

/-- A mind stands as it must. -/
structure AsM (m : Mi) (x : St) (es : List En) (os : List Of) : Prop where
  v : m.md.v = x.v
  rp : m.md.rp = x.rp
  ports : m.ports = es.map (fun e : En => e.port)
  roles : m.roles = es.map (Pl.roleAt x os)
/-- A talk stands as it must. -/
structure AsT (n' : Net) (t' : List Tr) : Prop where
  few : n'.K ≤ 12 ∧ t'.length ≤ 4
  short : ∀ i, (n'.ends i).length ≤ 1000
  lens : ∀ k, k < t'.length → (tat t' k).l.length = n'.K
  minds : ∀ k i, k < t'.length → i < n'.K → AsM (mat (tat t' k).l i) (Pl.rounds (n'.ids k) n'.ends n'.K n'.K i) (n'.ends i) (Pl.offs (n'.ends i) (Pl.rounds (n'.ids k) n'.ends n'.K n'.K))
theorem sn_as {W : World} {n0 n : Net} {T : Nat} {s0 : Sc} {t : Nat} {n' : Net} {oa : Option Addr} {oc : Nat} {t' : List Tr} (h : SnOut W n T (s0.ticks n.cn t) n' oa oc t') (hT : T ≤ 4) (hok : Tk.Ok n.cn s0 T) (ht : 33 ≤ t) (hp : ∀ i, n.pts i = n'.pts i) (hn0 : n0 = n) : AsT n' t' := by
  subst hn0
  obtain ⟨e1, _, e3, e4⟩ := sn_net h
  have R := right_of h.wf h.right
  refine ⟨⟨R.few, by rw [h.len]; exact hT⟩, fun i => by have := ends_few n' i R.fewL; omega, fun k hk => ((h.each k (by rw [← h.len]; exact hk)).1).trans e1.symm, fun k i hk hi => ?_⟩
  have hk' : k < T := by rw [← h.len]; exact hk
  have hi' : i < n0.K := by rw [← e1]; exact hi
  obtain ⟨m1, m2⟩ := (h.each k hk').2 i hi'
  obtain ⟨a1, a2, a3⟩ := hok.fine.settles ht k i hi'
  have e3' : n'.ends = s0.E n0.cn := e3
  have e4' : n'.ids k = s0.ids n0.cn k := e4 k
  have hs : Pl.rounds (n'.ids k) n'.ends n'.K n'.K = (s0.ticks n0.cn t).says n0.cn k := by
    rw [e4', e3', e1]
    rfl
  rw [hs]
  refine ⟨?_, ?_, ?_, ?_⟩
  · have := congrArg (fun x : Mnd => x.md.v) m1
    exact this.trans a1
  · have := congrArg (fun x : Mnd => x.md.rp) m1
    exact this.trans a2
  · exact m2.trans (hp i)
  · have := congrArg Mnd.roles m1
    refine Eq.trans this (a3.trans ?_)
    rw [e3]
    rfl
theorem map_IL {es : List En} (f : En → Int) {j : Nat} (hj : j < es.length) : (es.map f).getD j 0 = f (EL es j) := by
  simp [EL, hj]
/-- One place, built of a mind, is the place that Plan tells. -/
theorem as_one {U : World} {P Q K : Nat} {x : Nat → St} {E : Nat → List En} {i : Nat} {m : Mi} (hP : PlacesAt U P K x E K) (hi : i < K) (hl : (E i).length ≤ 1000) (ha : AsM m (x i) (E i) (Pl.offs (E i) x)) (hm : MiIn U m)
    (hQ : U.heap[Q]? = some (.cells #[.int .u64 m.md.v.root, .int .i64 m.md.v.cost, .int .u64 m.md.v.bridge, .int .i64 m.md.v.port, .int .i64 m.md.rp, .slice m.po m.ports.length m.pc, .slice m.ro m.roles.length m.rc] 61 (0, 0))) : OneSame U P (i * 7) Q 0 := by
  obtain ⟨c, a1, a2, _, a4⟩ := hP
  obtain ⟨p, r, pc, rc, p5, p6, hp, hr, _, _⟩ := a4 i hi
  have A : ∀ s, s < 7 → U.cell? ⟨P, i * 7 + s, none⟩ = some (c i s) := fun s hs => rowC_cell a1 hi hs
  have a2' := a2 i hi
  have lp : m.ports.length = (E i).length := by rw [ha.ports]; simp
  have lr : m.roles.length = (E i).length := by rw [ha.roles]; simp
  rw [ha.v, ha.rp, lp, lr] at hQ
  have hp2 : IRow U m.po (E i).length m.pc (fun j => (EL (E i) j).port) := by
    have := hm.ports
    unfold ILs at this
    rw [lp] at this
    refine this.congr (fun j hj => ?_)
    funext _
    rw [ha.ports, map_IL _ hj]
  have hr2 : IRow U m.ro (E i).length m.rc (fun j => Pl.roleAt (x i) (Pl.offs (E i) x) (EL (E i) j)) := by
    have := hm.roles
    unfold ILs at this
    rw [lr] at this
    refine this.congr (fun j hj => ?_)
    funext _
    rw [ha.roles, map_IL _ hj]
  refine ⟨x i, (E i).length, p, m.po, pc, m.pc, r, m.ro, rc, m.rc, _, _, hl, ⟨?_, ?_, ?_, ?_, ?_, ?_, ?_⟩, ⟨?_, ?_, ?_, ?_, ?_, ?_, ?_⟩, ⟨hp, hp2⟩, hr, hr2⟩
  · have := A 0 (by omega); rw [a2' 0 (by omega)] at this; exact this
  · have := A 1 (by omega); rw [a2' 1 (by omega)] at this; exact this
  · have := A 2 (by omega); rw [a2' 2 (by omega)] at this; exact this
  · have := A 3 (by omega); rw [a2' 3 (by omega)] at this; exact this
  · have := A 4 (by omega); rw [a2' 4 (by omega)] at this; exact this
  · have := A 5 (by omega); rw [p5] at this; exact this
  · have := A 6 (by omega); rw [p6] at this; exact this
  · exact cell_of_row U Q 0 _ _ _ hQ
  · exact cell_of_row U Q 1 _ _ _ hQ
  · exact cell_of_row U Q 2 _ _ _ hQ
  · exact cell_of_row U Q 3 _ _ _ hQ
  · exact cell_of_row U Q 4 _ _ _ hQ
  · exact cell_of_row U Q 5 _ _ _ hQ
  · exact cell_of_row U Q 6 _ _ _ hQ
set_option maxRecDepth 100000 in
set_option maxHeartbeats 4000000 in
theorem tas_any (n' : Net) (oa : Option Addr) (oc : Nat) (t' : List Tr) (w : World) (hat : n'.at' w) (hwf : n'.Wf) (hR : n'.wrong.1 = 0) (hr : TrRow w oa oc t') (ha : AsT n' t') (htb : Tabs w) (hbt : 2 ≤ w.heap.size) :
    Calls Tryz.prog 24 #[.agg #[.slice n'.bao n'.K n'.bcap, .slice n'.lao n'.L n'.lcap], .agg #[.slice oa t'.length oc]] w fun e w' => e = .returned (.bool true) ∧ Below w.heap.size w w' := by
  obtain ⟨Z, HZ⟩ : ∃ Z, Hid (Z = (w.alloc (.cells #[.slice n'.bao n'.K n'.bcap, .slice n'.lao n'.L n'.lcap] 25)).alloc (.cells #[.slice oa t'.length oc] 29)) := ⟨_, rfl⟩
  have hZB : Below w.heap.size w Z := by rw [HZ.out]; exact below_alloc2 _ _ _
  have y7 : Z.heap[w.heap.size]? = some (.cells #[.slice n'.bao n'.K n'.bcap, .slice n'.lao n'.L n'.lcap] 25 (0, 0)) := by rw [HZ.out]; exact heap_alloc2_old _ _ _
  have y8 : Z.heap[w.heap.size + 1]? = some (.cells #[.slice oa t'.length oc] 29 (0, 0)) := by rw [HZ.out]; exact heap_alloc2_new _ _ _
  have HG : Hid (∀ V, Below Z.heap.size Z V → ((V.cell? ⟨w.heap.size, 0, none⟩ = some (.slice n'.bao n'.K n'.bcap) ∧ V.cell? ⟨w.heap.size, 1, none⟩ = some (.slice n'.lao n'.L n'.lcap)) ∧ V.cell? ⟨w.heap.size + 1, 0, none⟩ = some (.slice oa t'.length oc)) ∧ (n'.at' V ∧ TrRow V oa oc t' ∧ Tabs V ∧ 2 ≤ V.heap.size) ∧ Below w.heap.size w V) := fun V hV => by
    have h := hZB.trans (hV.mono hZB.size)
    exact ⟨⟨two_cells2 (keep y7 hV), one_cell (keep y8 hV)⟩, ⟨hat.below h, hr.below h, htb.below h hbt, Nat.le_trans hbt h.size⟩, h⟩
  have HA : Hid (AsT n' t') := ha
  have HWF : Hid n'.Wf := hwf
  have HRR : Hid (n'.wrong.1 = 0) := hR
  have hfewT : t'.length ≤ 4 := ha.few.2
  have hfewK : n'.K ≤ 12 := ha.few.1
  have hcap := hr.row.1
  obtain ⟨⟨⟨c70, c71⟩, c80⟩, _⟩ := HG.out Z (Below.refl _ _)
  rw [HZ.out] at c70 c71 c80
  clear hat hwf hR hr ha htb hbt hZB y7 y8
  go_enter Tryz.func24, Tryz.ntmps24
  go_wp2_with fail
  rw [← HZ.out]
  clear c70 c71 c80
  go_loopw [14] (fun i wr => ∃ k : Nat, k ≤ t'.length ∧ i = .int .i64 k ∧ Hid (Below Z.heap.size Z wr)) (fun i _ => t'.length - (intOf i).toNat)
  case atStart => exact ⟨0, by omega, rfl, Below.refl _ _⟩
  case round =>
    obtain ⟨k, hk, rfl, hB⟩ := hrel
    by_cases hlt : k < t'.length
    · obtain ⟨⟨⟨c70, c71⟩, c80⟩, ⟨a1', a2', a3', a4'⟩, _⟩ := HG.out wr hB.out
      obtain ⟨b, off, rfl, _⟩ := a2'.place (by omega)
      have c0 := a2'.cell hlt
      have ik : (0 : Int) ≤ (k : Int) := by omega
      have nk : (k : Int) < (t'.length : Int) := by omega
      have elen := HA.out.lens k hlt
      rw [elen] at c0
      have HPL : Hid (Calls Tryz.prog 28 #[.agg #[.slice n'.bao n'.K n'.bcap, .slice n'.lao n'.L n'.lcap], .int .i64 (k : Int)] wr fun e w' => ∃ P, e = .returned (.tuple #[.slice (some ⟨P, 0, none⟩) n'.K n'.K, .agg #[.int .i64 0, .int .i64 0]]) ∧ Hid (Below Z.heap.size Z w' ∧ PlacesAt w' P n'.K (Pl.rounds (n'.ids k) n'.ends n'.K n'.K) n'.ends n'.K)) := by
        refine (pplan_any n' (k : Int) wr a1' HWF.out a3' a4').mono ?_
        rintro e w' ⟨z1, ⟨y, _⟩ | ⟨_, y, _⟩ | ⟨_, _, P, rfl, y, _⟩⟩
        · exact absurd HRR.out y
        · exact absurd ⟨by omega, by omega⟩ y
        · exact ⟨P, rfl, hB.out.trans (z1.mono hB.out.size), y⟩
      have HMK : Hid (∀ i, i < n'.K → AsM (mat (tat t' k).l i) (Pl.rounds (n'.ids k) n'.ends n'.K n'.K i) (n'.ends i) (Pl.offs (n'.ends i) (Pl.rounds (n'.ids k) n'.ends n'.K n'.K))) := fun i hi => HA.out.minds k i hlt hi
      have HRK : Hid (∀ V, Below Z.heap.size Z V → MiRow V (tat t' k).ao (tat t' k).cap (tat t' k).l) := fun V hV => (HG.out V hV).2.1.2.1.each k hlt
      have hmc := (HRK.out wr hB.out).row.1
      rw [elen] at hmc
      have HKT : Hid (k + 1 ≤ t'.length) := hlt
      clear a1' a2' a3' a4'
      generalize tat t' k = x at *
      obtain ⟨xa, xc, xl⟩ := x
      simp only at *
      go_wp2_with fail
      refine HPL.out.mono ?_
      rintro e w3 ⟨P, rfl, H3⟩
      clear HPL c70 c71 c80 c0
      obtain ⟨Y, HY⟩ : ∃ Y, Hid (Y = w3.alloc (.cells #[.int .i64 0, .int .i64 0] 32)) := ⟨_, rfl⟩
      have hY3 : Below w3.heap.size w3 Y := by rw [HY.out]; exact below_alloc1 _ _
      have HYZ : Hid (Below Z.heap.size Z Y) := H3.out.1.trans (hY3.mono H3.out.1.size)
      have HPA : Hid (∀ U, Below Y.heap.size Y U → PlacesAt U P n'.K (Pl.rounds (n'.ids k) n'.ends n'.K n'.K) n'.ends n'.K) := fun U hU => (H3.out.2.below hY3).below hU
      generalize Pl.rounds (n'.ids k) n'.ends n'.K n'.K = rs at *
      clear H3 hY3 hB
      have q1 : ((n'.K : Int) != (n'.K : Int)) = false := by simp
      go_wp2_with fail
      rw [← HY.out]
      go_loopw [37] (fun i wr => ∃ i' : Nat, i' ≤ n'.K ∧ i = .int .i64 i' ∧ Hid (Below Y.heap.size Y wr)) (fun i _ => n'.K - (intOf i).toNat)
      case atStart => exact ⟨0, by omega, rfl, Below.refl _ _⟩
      case round =>
        obtain ⟨i, hi, rfl, hB2⟩ := hrel
        by_cases hlt2 : i < n'.K
        · have hZr : Below Z.heap.size Z wr := HYZ.out.trans (hB2.out.mono HYZ.out.size)
          have h1 := HRK.out wr hZr
          obtain ⟨mb, moff, rfl, _⟩ := h1.place (by omega)
          obtain ⟨d0, d1, d2, d3, d4, d5, d6, d7, d8⟩ := h1.cells (i := i) (by omega)
          have hmi := h1.each i (by omega)
          have ii : (0 : Int) ≤ (i : Int) := by omega
          have ni : (i : Int) < (n'.K : Int) := by omega
          have hmk := HMK.out i hlt2
          have hpl := HPA.out wr hB2.out
          obtain ⟨M, HM⟩ : ∃ M, Hid (M = wr.alloc (.cells #[.int .u64 (mat xl i).md.v.root, .int .i64 (mat xl i).md.v.cost, .int .u64 (mat xl i).md.v.bridge, .int .i64 (mat xl i).md.v.port, .int .i64 (mat xl i).md.age, .int .i64 (mat xl i).md.rp, .slice (mat xl i).po (mat xl i).ports.length (mat xl i).pc, .slice (mat xl i).ro (mat xl i).roles.length (mat xl i).rc, .slice (mat xl i).co (mat xl i).calm.length (mat xl i).cc] 66)) := ⟨_, rfl⟩
          obtain ⟨g, Hg⟩ : ∃ g, Hid (g = wr.heap.size) := ⟨_, rfl⟩
          have hMr : Below wr.heap.size wr M := by rw [HM.out]; exact below_alloc1 _ _
          have hMg : M.heap[g]? = some (.cells #[.int .u64 (mat xl i).md.v.root, .int .i64 (mat xl i).md.v.cost, .int .u64 (mat xl i).md.v.bridge, .int .i64 (mat xl i).md.v.port, .int .i64 (mat xl i).md.age, .int .i64 (mat xl i).md.rp, .slice (mat xl i).po (mat xl i).ports.length (mat xl i).pc, .slice (mat xl i).ro (mat xl i).roles.length (mat xl i).rc, .slice (mat xl i).co (mat xl i).calm.length (mat xl i).cc] 66 (0, 0)) := by rw [HM.out, Hg.out]; exact heap_alloc_last _ _
          have HSM : Hid (∀ V, Below M.heap.size M V → ∀ Q, V.heap[Q]? = some (.cells #[.int .u64 (mat xl i).md.v.root, .int .i64 (mat xl i).md.v.cost, .int .u64 (mat xl i).md.v.bridge, .int .i64 (mat xl i).md.v.port, .int .i64 (mat xl i).md.rp, .slice (mat xl i).po (mat xl i).ports.length (mat xl i).pc, .slice (mat xl i).ro (mat xl i).roles.length (mat xl i).rc] 61 (0, 0)) → Calls Tryz.prog 47 #[.slice (some ⟨P, i * 7, none⟩) 1 (n'.K - i), .slice (some ⟨Q, 0, none⟩) 1 1] V fun e w' => e = .returned (.bool true) ∧ Hid (Below M.heap.size M w' ∧ Below Y.heap.size Y w')) := fun V hV Q hQ => by
            have hVr := hMr.trans (hV.mono hMr.size)
            refine (rsame6_any 1 P (i * 7) (n'.K - i) Q 0 1 V (by omega) (fun j hj => ?_)).mono ?_
            · obtain rfl : j = 0 := by omega
              exact as_one (hpl.below hVr) hlt2 (HA.out.short i) hmk (hmi.below hVr) hQ
            · rintro e w' ⟨rfl, m, rfl⟩
              have := hB2.out.trans (hVr.mono hB2.out.size)
              exact ⟨rfl, below_drewN hV m, below_drewN this m⟩
          have HCC : Hid (∀ V, Below M.heap.size M V → (V.cell? ⟨g, 0, none⟩ = some (.int .u64 (mat xl i).md.v.root) ∧ V.cell? ⟨g, 1, none⟩ = some (.int .i64 (mat xl i).md.v.cost) ∧ V.cell? ⟨g, 2, none⟩ = some (.int .u64 (mat xl i).md.v.bridge) ∧ V.cell? ⟨g, 3, none⟩ = some (.int .i64 (mat xl i).md.v.port)) ∧ V.cell? ⟨g, 5, none⟩ = some (.int .i64 (mat xl i).md.rp) ∧ V.cell? ⟨g, 6, none⟩ = some (.slice (mat xl i).po (mat xl i).ports.length (mat xl i).pc) ∧ V.cell? ⟨g, 7, none⟩ = some (.slice (mat xl i).ro (mat xl i).roles.length (mat xl i).rc)) := fun V hV => by
            have h := keep hMg hV
            exact ⟨⟨cell_of_row V g 0 _ _ _ h, cell_of_row V g 1 _ _ _ h, cell_of_row V g 2 _ _ _ h, cell_of_row V g 3 _ _ _ h⟩, cell_of_row V g 5 _ _ _ h, cell_of_row V g 6 _ _ _ h, cell_of_row V g 7 _ _ _ h⟩
          have HB0 : Hid (Below M.heap.size M M.drew) := Below.drew (Below.refl _ _)
          have HB1 : Hid (Below M.heap.size M M) := Below.refl _ _
          have HAL : Hid (∀ (V : World) (o : Obj), Below M.heap.size M V → Below M.heap.size M (V.alloc o)) := fun V o hV => hV.alloc hV.size o
          obtain ⟨⟨m0, m1, m2, m3⟩, m5, m6, m7⟩ := HCC.out M (Below.refl _ _)
          have HII : Hid (i + 1 ≤ n'.K) := hlt2
          have wi : IntKind.i64.wrap ((i : Int) + 1) = (i : Int) + 1 := wraps_i64 _ (by omega) (by omega)
          have ni2 : (i : Int) + 1 ≤ (n'.K : Int) := by omega
          have ni4 : (0 : Int) ≤ (i : Int) + 1 := by omega
          have nKi : n'.K ≠ i := by omega
          clear h1 hmi hmk hpl hMr hMg hZr hB2 HPA HMK HRK HA HG
          generalize mat xl i = A at *
          go_wp2_with fail
          rw [← HM.out, ← Hg.out]
          clear d0 d1 d2 d3 d4 d5 d6 d7 d8
          go_region_held3 (fun W => (W.cell? ⟨g, 0, none⟩ = some (.int .u64 A.md.v.root) ∧ W.cell? ⟨g, 1, none⟩ = some (.int .i64 A.md.v.cost) ∧ W.cell? ⟨g, 2, none⟩ = some (.int .u64 A.md.v.bridge) ∧ W.cell? ⟨g, 3, none⟩ = some (.int .i64 A.md.v.port)) ∧ W.cell? ⟨g, 5, none⟩ = some (.int .i64 A.md.rp) ∧ W.cell? ⟨g, 6, none⟩ = some (.slice A.po A.ports.length A.pc) ∧ W.cell? ⟨g, 7, none⟩ = some (.slice A.ro A.roles.length A.rc))
            (first | (with_reducible exact HCC.out _ HB0.out) | (with_reducible exact HCC.out _ H5.out.1) | (with_reducible exact HCC.out _ (Below.drew (HAL.out _ _ HB1.out))) | (with_reducible exact HCC.out _ (HAL.out _ _ HB0.out)))
            (first | (go_at_call 47; refine (HSM.out _ (by first | exact Below.drew (HAL.out _ _ HB1.out) | exact HAL.out _ _ HB0.out) _ (by first | exact drew_keep (heap_alloc_last _ _) | exact heap_alloc_last _ _)).mono ?_; rintro e w5 ⟨rfl, H5⟩))
          all_goals go_wp2_with fail
          all_goals exact ⟨⟨i + 1, by omega, by go_num, H5.out.2⟩, by simp [intOf]; omega⟩
        · have hiK : i = n'.K := by omega
          have hni : ¬ (i : Int) < (n'.K : Int) := by omega
          have HN : Hid (Below Z.heap.size Z wr) := HYZ.out.trans (hB2.out.mono HYZ.out.size)
          have h3 := HKT.out
          clear HMK HRK HPA
          go_wp2_with fail
          exact ⟨⟨k + 1, h3, by go_num, HN⟩, by simp [intOf]; omega⟩
    · obtain rfl : k = t'.length := by omega
      have HF : Hid (Below w.heap.size w wr) := (HG.out wr hB.out).2.2
      clear HG
      go_wp2_with fail
      go_ret
      exact ⟨rfl, HF.out⟩
end Go.Proofs.YtaneiffnhphkhaaGreatDoor

namespace Go.Proofs.YtaneiffnhphkhaaGreatDoor
open Go.RowKit
open Tk (Dn)

section
variable {Q : Exit → Act → World → Prop} (df : List Deferred) (X : World) (BN : Nat) (nb nl : Value) (trees : Int) (dao : Option Addr) (dn dcap : Nat) (ds : Nat → Dn)
variable (R : World → World → Option Addr → Nat → Nat → Option Addr → Nat → Nat → Option Addr → Nat → Nat → Int → Int → Prop)
variable (x0 x3 x5 x6 x7 x8 x12 x13 x14 x15 x16 x17 x18 x19 x20 x21 x22 x23 x24 x25 x26 x27 x28 x31 x33 x34 x35 x36 x37 x38 x39 x40 x41 x42 x43 x44 x45 x46 x47 x48 x49 x50 x51 x52 x53 x54 x55 x56 x57 x58 x59 x60 x61 x62 x63 x64 x65 : Value)
def rs5_ops : Array Oper := #[{ dst := some 29, op := Op.load 25 (Operand.tmp 4), type := 25, pos := "law.go:80", after := #[], guard := none }, { dst := some 30, op := Op.move (Operand.tmp 1), type := 3, pos := "law.go:80", after := #[], guard := none }, { dst := some 31, op := Op.buildSlice 26 0 #[], type := 26, pos := "law.go:80", after := #[], guard := none }, { dst := some 32, op := Op.move (Operand.tmp 2), type := 26, pos := "law.go:80", after := #[], guard := none }, { dst := some 33, op := Op.call { callee := Callee.builtin Builtin.append, args := #[Operand.tmp 31, Operand.tmp 32], argTypes := #[26, 26] }, type := 26, pos := "law.go:80", after := #[{ on := 2, ground := Ground.data }, { on := 3, ground := Ground.data }], guard := none }, { dst := some 34, op := Op.call { callee := Callee.value (Operand.func 23), args := #[Operand.const (Value.int IntKind.i64 40)], argTypes := #[3] }, type := 45, pos := "law.go:80", after := #[{ on := 4, ground := Ground.chain }], guard := none }, { dst := some 35, op := Op.buildSlice 26 1 #[(0, Operand.tmp 34)], type := 26, pos := "law.go:80", after := #[{ on := 5, ground := Ground.data }], guard := none }, { dst := some 36, op := Op.call { callee := Callee.builtin Builtin.append, args := #[Operand.tmp 33, Operand.tmp 35], argTypes := #[26, 26] }, type := 26, pos := "law.go:80", after := #[{ on := 4, ground := Ground.data }, { on := 6, ground := Ground.data }, { on := 5, ground := Ground.chain }], guard := none }, { dst := some 37, op := Op.call { callee := Callee.value (Operand.func 15), args := #[Operand.tmp 29, Operand.tmp 30, Operand.tmp 36], argTypes := #[25, 3, 26] }, type := 36, pos := "law.go:80", after := #[{ on := 0, ground := Ground.data }, { on := 1, ground := Ground.data }, { on := 7, ground := Ground.data }, { on := 7, ground := Ground.chain }], guard := none }, { dst := some 28, op := Op.move (Operand.tmp 37), type := 36, pos := "law.go:80", after := #[{ on := 8, ground := Ground.data }], guard := none }, { dst := some 38, op := Op.extract (Operand.tmp 28) 0, type := 25, pos := "law.go:80", after := #[{ on := 9, ground := Ground.data }], guard := none }, { dst := some 39, op := Op.extract (Operand.tmp 28) 1, type := 29, pos := "law.go:80", after := #[{ on := 9, ground := Ground.data }, { on := 16, ground := Ground.gcOnly Departure.lateStores }], guard := none }, { dst := some 40, op := Op.extract (Operand.tmp 28) 2, type := 32, pos := "law.go:80", after := #[{ on := 9, ground := Ground.data }, { on := 17, ground := Ground.gcOnly Departure.lateStores }], guard := none }, { dst := some 9, op := Op.alloc 25, type := 0, pos := "law.go:80", after := #[], guard := none }, { dst := some 10, op := Op.alloc 29, type := 0, pos := "law.go:80", after := #[], guard := none }, { dst := some 11, op := Op.alloc 32, type := 0, pos := "law.go:80", after := #[], guard := none }, { dst := none, op := Op.store 25 (Operand.tmp 9) (Operand.tmp 38), type := 0, pos := "law.go:80", after := #[{ on := 13, ground := Ground.data }, { on := 10, ground := Ground.data }, { on := 8, ground := Ground.chain }, { on := 0, ground := Ground.phase }, { on := 1, ground := Ground.phase }, { on := 2, ground := Ground.phase }, { on := 3, ground := Ground.phase }, { on := 4, ground := Ground.phase }, { on := 5, ground := Ground.phase }, { on := 6, ground := Ground.phase }, { on := 7, ground := Ground.phase }, { on := 8, ground := Ground.phase }, { on := 9, ground := Ground.phase }, { on := 10, ground := Ground.phase }, { on := 11, ground := Ground.textOnly Departure.lateStores }, { on := 12, ground := Ground.textOnly Departure.lateStores }, { on := 13, ground := Ground.phase }, { on := 14, ground := Ground.phase }, { on := 15, ground := Ground.phase }], guard := none }, { dst := none, op := Op.store 29 (Operand.tmp 10) (Operand.tmp 39), type := 0, pos := "law.go:80", after := #[{ on := 14, ground := Ground.data }, { on := 11, ground := Ground.data }, { on := 16, ground := Ground.chain }, { on := 0, ground := Ground.phase }, { on := 1, ground := Ground.phase }, { on := 2, ground := Ground.phase }, { on := 3, ground := Ground.phase }, { on := 4, ground := Ground.phase }, { on := 5, ground := Ground.phase }, { on := 6, ground := Ground.phase }, { on := 7, ground := Ground.phase }, { on := 8, ground := Ground.phase }, { on := 9, ground := Ground.phase }, { on := 10, ground := Ground.phase }, { on := 11, ground := Ground.phase }, { on := 12, ground := Ground.textOnly Departure.lateStores }, { on := 13, ground := Ground.phase }, { on := 14, ground := Ground.phase }, { on := 15, ground := Ground.phase }, { on := 16, ground := Ground.phase }], guard := none }, { dst := none, op := Op.store 32 (Operand.tmp 11) (Operand.tmp 40), type := 0, pos := "law.go:80", after := #[{ on := 15, ground := Ground.data }, { on := 12, ground := Ground.data }, { on := 17, ground := Ground.chain }, { on := 0, ground := Ground.phase }, { on := 1, ground := Ground.phase }, { on := 2, ground := Ground.phase }, { on := 3, ground := Ground.phase }, { on := 4, ground := Ground.phase }, { on := 5, ground := Ground.phase }, { on := 6, ground := Ground.phase }, { on := 7, ground := Ground.phase }, { on := 8, ground := Ground.phase }, { on := 9, ground := Ground.phase }, { on := 10, ground := Ground.phase }, { on := 11, ground := Ground.phase }, { on := 12, ground := Ground.phase }, { on := 13, ground := Ground.phase }, { on := 14, ground := Ground.phase }, { on := 15, ground := Ground.phase }, { on := 16, ground := Ground.phase }, { on := 17, ground := Ground.phase }], guard := none }]
variable (hQ : ∀ c (a : Act) (d : Tmp) (v : Value) (w : World), Q (.panic c) (a.put (some d) v) w → Q (.panic c) a w)
variable (hC : ∀ V, Below X.heap.size X V → V.cell? ⟨BN, 0, none⟩ = some nb ∧ V.cell? ⟨BN, 1, none⟩ = some nl)
variable (hdn : dn ≤ 1000) (hnil : NilOk dao dn dcap) (hds : ∀ V, Below X.heap.size X V → DRow V dao dn dcap ds)
variable (hT : ∀ V, Calls Tryz.prog 23 #[.int .i64 40] V fun e w' => e = .returned (.agg #[.int .i64 1, .int .i64 40, .int .i64 0, .int .i64 0]) ∧ Below V.heap.size V w')
variable (hP : ∀ V a2 c2, Below X.heap.size X V → DRow V a2 (dn + 1) c2 (dsT dn ds 40) → Calls Tryz.prog 15 #[.agg #[nb, nl], .int .i64 trees, .slice a2 (dn + 1) c2] V fun e w' => ∃ na nk nc la lk lc oa ol oc f1 f2, e = .returned (.tuple #[.agg #[.slice na nk nc, .slice la lk lc], .agg #[.slice oa ol oc], .agg #[.int .i64 f1, .int .i64 f2]]) ∧ Hid (Below V.heap.size V w' ∧ R V w' na nk nc la lk lc oa ol oc f1 f2))
variable (fin : ∀ (v27 : Value) (a1 : Option Addr) (c1 gt : Nat) (a2 : Option Addr) (c2 : Nat) (V : World) (na : Option Addr) (nk nc : Nat) (la : Option Addr) (lk lc : Nat) (oa : Option Addr) (ol oc : Nat) (f1 f2 : Int) (g7 g8 g9 : Nat) (W0 W : World), R V W0 na nk nc la lk lc oa ol oc f1 f2 → Below W0.heap.size W0 W → Below X.heap.size X W → (W.heap[g7]? = some (.cells #[.slice none 0 0, .slice none 0 0] 25 (0, 0)) ∧ W.heap[g8]? = some (.cells #[.slice none 0 0] 29 (0, 0)) ∧ W.heap[g9]? = some (.cells #[.int .i64 0, .int .i64 0] 32 (0, 0))) → (X.heap.size ≤ g7 ∧ X.heap.size ≤ g8 ∧ X.heap.size ≤ g9) → ((g7 < V.heap.size ∨ W0.heap.size ≤ g7) ∧ (g8 < V.heap.size ∨ W0.heap.size ≤ g8) ∧ (g9 < V.heap.size ∨ W0.heap.size ≤ g9)) → Q .normal { tmps := #[x0, (.int .i64 trees), (.slice dao dn dcap), x3, (.pointer (some ⟨BN, 0, none⟩)), x5, x6, x7, x8, (.pointer (some ⟨g7, 0, none⟩)), (.pointer (some ⟨g8, 0, none⟩)), (.pointer (some ⟨g9, 0, none⟩)), x12, x13, x14, x15, x16, x17, x18, x19, x20, x21, x22, x23, x24, x25, x26, x27, (.tuple #[.agg #[.slice na nk nc, .slice la lk lc], .agg #[.slice oa ol oc], .agg #[.int .i64 f1, .int .i64 f2]]), (.agg #[nb, nl]), (.int .i64 trees), v27, (.slice dao dn dcap), (.slice a1 dn c1), (.agg #[.int .i64 1, .int .i64 40, .int .i64 0, .int .i64 0]), (.slice (some ⟨gt, 0, none⟩) 1 1), (.slice a2 (dn + 1) c2), (.tuple #[.agg #[.slice na nk nc, .slice la lk lc], .agg #[.slice oa ol oc], .agg #[.int .i64 f1, .int .i64 f2]]), (.agg #[.slice na nk nc, .slice la lk lc]), (.agg #[.slice oa ol oc]), (.agg #[.int .i64 f1, .int .i64 f2]), x41, x42, x43, x44, x45, x46, x47, x48, x49, x50, x51, x52, x53, x54, x55, x56, x57, x58, x59, x60, x61, x62, x63, x64, x65], defers := df } (((((W.setCell ⟨g7, 0, none⟩ (.slice na nk nc)).setCell ⟨g7, 1, none⟩ (.slice la lk lc)).setCell ⟨g8, 0, none⟩ (.slice oa ol oc)).setCell ⟨g9, 0, none⟩ (.int .i64 f1)).setCell ⟨g9, 1, none⟩ (.int .i64 f2)))
set_option maxRecDepth 100000
theorem rs5_rd0 (b7 b8 b9 : Bool) : Region.ready .any rs5_ops #[true, true, false, true, false, false, false, false, false, false, false, false, false, b7, b8, b9, false, false, false] = (2 :: ((if b7 then [] else [13]) ++ ((if b8 then [] else [14]) ++ (if b9 then [] else [15]))) : List Nat) := by
  cases b7 <;> cases b8 <;> cases b9 <;> kernel_rfl
theorem rs5_rd1 (b7 b8 b9 : Bool) : Region.ready .any rs5_ops #[true, true, true, true, false, false, false, false, false, false, false, false, false, b7, b8, b9, false, false, false] = (4 :: ((if b7 then [] else [13]) ++ ((if b8 then [] else [14]) ++ (if b9 then [] else [15]))) : List Nat) := by
  cases b7 <;> cases b8 <;> cases b9 <;> kernel_rfl
theorem rs5_rd2 (b7 b8 b9 : Bool) : Region.ready .any rs5_ops #[true, true, true, true, true, false, false, false, false, false, false, false, false, b7, b8, b9, false, false, false] = (5 :: ((if b7 then [] else [13]) ++ ((if b8 then [] else [14]) ++ (if b9 then [] else [15]))) : List Nat) := by
  cases b7 <;> cases b8 <;> cases b9 <;> kernel_rfl
theorem rs5_rd3 (b7 b8 b9 : Bool) : Region.ready .any rs5_ops #[true, true, true, true, true, true, false, false, false, false, false, false, false, b7, b8, b9, false, false, false] = (6 :: ((if b7 then [] else [13]) ++ ((if b8 then [] else [14]) ++ (if b9 then [] else [15]))) : List Nat) := by
  cases b7 <;> cases b8 <;> cases b9 <;> kernel_rfl
theorem rs5_rd4 (b7 b8 b9 : Bool) : Region.ready .any rs5_ops #[true, true, true, true, true, true, true, false, false, false, false, false, false, b7, b8, b9, false, false, false] = (7 :: ((if b7 then [] else [13]) ++ ((if b8 then [] else [14]) ++ (if b9 then [] else [15]))) : List Nat) := by
  cases b7 <;> cases b8 <;> cases b9 <;> kernel_rfl
theorem rs5_rd5 (b7 b8 b9 : Bool) : Region.ready .any rs5_ops #[true, true, true, true, true, true, true, true, false, false, false, false, false, b7, b8, b9, false, false, false] = (8 :: ((if b7 then [] else [13]) ++ ((if b8 then [] else [14]) ++ (if b9 then [] else [15]))) : List Nat) := by
  cases b7 <;> cases b8 <;> cases b9 <;> kernel_rfl
theorem rs5_rd6 (b7 b8 b9 : Bool) : Region.ready .any rs5_ops #[true, true, true, true, true, true, true, true, true, true, true, true, true, b7, b8, b9, false, false, false] = (if (b7 && (b8 && b9)) = true then [16] else (if b7 then [] else [13]) ++ ((if b8 then [] else [14]) ++ (if b9 then [] else [15])) : List Nat) := by
  cases b7 <;> cases b8 <;> cases b9 <;> kernel_rfl
include hC fin in
set_option maxRecDepth 100000 in
set_option maxHeartbeats 1500000 in
theorem rs5_6 : ∀ (fuel : Nat) (b7 b8 b9 : Bool), 3 + cnt3 b7 b8 b9 ≤ fuel → ∀ (s7 s8 s9 : Value) (g7 g8 g9 : Nat) (v27 : Value) (a1 : Option Addr) (c1 gt : Nat) (a2 : Option Addr) (c2 : Nat) (V : World) (na : Option Addr) (nk nc : Nat) (la : Option Addr) (lk lc : Nat) (oa : Option Addr) (ol oc : Nat) (f1 f2 : Int) (W0 W : World), R V W0 na nk nc la lk lc oa ol oc f1 f2 → Below W0.heap.size W0 W → Below X.heap.size X W → AlF W X.heap.size b7 s7 g7 #[.slice none 0 0, .slice none 0 0] 25 → AlF W X.heap.size b8 s8 g8 #[.slice none 0 0] 29 → AlF W X.heap.size b9 s9 g9 #[.int .i64 0, .int .i64 0] 32 → (b7 = true → g7 < V.heap.size ∨ W0.heap.size ≤ g7) → (b8 = true → g8 < V.heap.size ∨ W0.heap.size ≤ g8) → (b9 = true → g9 < V.heap.size ∨ W0.heap.size ≤ g9) → wpAnyZ Tryz.prog .any rs5_ops Q 16 (fun W => W.cell? ⟨BN, 0, none⟩ = some nb ∧ W.cell? ⟨BN, 1, none⟩ = some nl) fuel #[true, true, true, true, true, true, true, true, true, true, true, true, true, b7, b8, b9, false, false, false] { tmps := #[x0, (.int .i64 trees), (.slice dao dn dcap), x3, (.pointer (some ⟨BN, 0, none⟩)), x5, x6, x7, x8, s7, s8, s9, x12, x13, x14, x15, x16, x17, x18, x19, x20, x21, x22, x23, x24, x25, x26, x27, (.tuple #[.agg #[.slice na nk nc, .slice la lk lc], .agg #[.slice oa ol oc], .agg #[.int .i64 f1, .int .i64 f2]]), (.agg #[nb, nl]), (.int .i64 trees), v27, (.slice dao dn dcap), (.slice a1 dn c1), (.agg #[.int .i64 1, .int .i64 40, .int .i64 0, .int .i64 0]), (.slice (some ⟨gt, 0, none⟩) 1 1), (.slice a2 (dn + 1) c2), (.tuple #[.agg #[.slice na nk nc, .slice la lk lc], .agg #[.slice oa ol oc], .agg #[.int .i64 f1, .int .i64 f2]]), (.agg #[.slice na nk nc, .slice la lk lc]), (.agg #[.slice oa ol oc]), (.agg #[.int .i64 f1, .int .i64 f2]), x41, x42, x43, x44, x45, x46, x47, x48, x49, x50, x51, x52, x53, x54, x55, x56, x57, x58, x59, x60, x61, x62, x63, x64, x65], defers := df } W := by
  intro fuel
  induction fuel with
  | zero => intro b7 b8 b9 h; omega
  | succ fuel ih =>
    intro b7 b8 b9 hf s7 s8 s9 g7 g8 g9 v27 a1 c1 gt a2 c2 V na nk nc la lk lc oa ol oc f1 f2 W0 W hF hb hX h7 h8 h9 hz7 hz8 hz9 
    have hHeld : (#[true, true, true, true, true, true, true, true, true, true, true, true, true, b7, b8, b9, false, false, false] : Array Bool).getD 16 true = true ∨ (fun W => W.cell? ⟨BN, 0, none⟩ = some nb ∧ W.cell? ⟨BN, 1, none⟩ = some nl) W := Or.inr (hC W hX)
    by_cases hall : b7 = true ∧ b8 = true ∧ b9 = true
    · obtain ⟨rfl, rfl, rfl⟩ := hall
      obtain ⟨rfl, k7, l7⟩ := h7 rfl
      obtain ⟨rfl, k8, l8⟩ := h8 rfl
      obtain ⟨rfl, k9, l9⟩ := h9 rfl
      have hfin := fin v27 a1 c1 gt a2 c2 V na nk nc la lk lc oa ol oc f1 f2 g7 g8 g9 W0 W hF hb hX ⟨k7, k8, k9⟩ ⟨l7, l8, l9⟩ ⟨hz7 rfl, hz8 rfl, hz9 rfl⟩
      have n78 : g7 ≠ g8 := fun e => by subst e; exact absurd (cells_type k7 k8) (by decide)
      have n79 : g7 ≠ g9 := fun e => by subst e; exact absurd (cells_type k7 k9) (by decide)
      have n89 : g8 ≠ g9 := fun e => by subst e; exact absurd (cells_type k8 k9) (by decide)
      have n87 := n78.symm
      have n97 := n79.symm
      have n98 := n89.symm
      obtain ⟨u0, u1⟩ := two_cells2 k7
      have u2 := one_cell k8
      obtain ⟨u3, u4⟩ := two_cells2 k9
      have v0 : W.frozen? ⟨g7, 0, none⟩ = false := frozen_of_row _ _ _ _ _ k7
      have v1 : W.frozen? ⟨g7, 1, none⟩ = false := frozen_of_row _ _ _ _ _ k7
      have v2 : W.frozen? ⟨g8, 0, none⟩ = false := frozen_of_row _ _ _ _ _ k8
      have v3 : W.frozen? ⟨g9, 0, none⟩ = false := frozen_of_row _ _ _ _ _ k9
      have v4 : W.frozen? ⟨g9, 1, none⟩ = false := frozen_of_row _ _ _ _ _ k9
      obtain ⟨fuel, rfl⟩ : ∃ q, fuel = q + 1 + 1 := ⟨fuel - 2, by simp [cnt3] at hf; omega⟩
      clear k7 k8 k9 fin ih hz7 hz8 hz9 h7 h8 h9
      refine z_one (i := 16) (o := { dst := none, op := Op.store 25 (Operand.tmp 9) (Operand.tmp 38), type := 0, pos := "law.go:80", after := #[{ on := 13, ground := Ground.data }, { on := 10, ground := Ground.data }, { on := 8, ground := Ground.chain }, { on := 0, ground := Ground.phase }, { on := 1, ground := Ground.phase }, { on := 2, ground := Ground.phase }, { on := 3, ground := Ground.phase }, { on := 4, ground := Ground.phase }, { on := 5, ground := Ground.phase }, { on := 6, ground := Ground.phase }, { on := 7, ground := Ground.phase }, { on := 8, ground := Ground.phase }, { on := 9, ground := Ground.phase }, { on := 10, ground := Ground.phase }, { on := 11, ground := Ground.textOnly Departure.lateStores }, { on := 12, ground := Ground.textOnly Departure.lateStores }, { on := 13, ground := Ground.phase }, { on := 14, ground := Ground.phase }, { on := 15, ground := Ground.phase }], guard := none }) (by kernel_rfl) rfl (fun K hK => ?_)
      go_simp
      refine hK.out _ _ (Or.inl (by kernel_rfl)) (fun hHeld => ?_)
      clear hK K
      (try simp only [List.setIfInBounds_toArray, List.set_cons_zero, List.set_cons_succ])
      refine z_one (i := 17) (o := { dst := none, op := Op.store 29 (Operand.tmp 10) (Operand.tmp 39), type := 0, pos := "law.go:80", after := #[{ on := 14, ground := Ground.data }, { on := 11, ground := Ground.data }, { on := 16, ground := Ground.chain }, { on := 0, ground := Ground.phase }, { on := 1, ground := Ground.phase }, { on := 2, ground := Ground.phase }, { on := 3, ground := Ground.phase }, { on := 4, ground := Ground.phase }, { on := 5, ground := Ground.phase }, { on := 6, ground := Ground.phase }, { on := 7, ground := Ground.phase }, { on := 8, ground := Ground.phase }, { on := 9, ground := Ground.phase }, { on := 10, ground := Ground.phase }, { on := 11, ground := Ground.phase }, { on := 12, ground := Ground.textOnly Departure.lateStores }, { on := 13, ground := Ground.phase }, { on := 14, ground := Ground.phase }, { on := 15, ground := Ground.phase }, { on := 16, ground := Ground.phase }], guard := none }) (by kernel_rfl) rfl (fun K hK => ?_)
      go_simp
      refine hK.out _ _ (Or.inl (by kernel_rfl)) (fun hHeld => ?_)
      clear hK K
      (try simp only [List.setIfInBounds_toArray, List.set_cons_zero, List.set_cons_succ])
      refine z_one (i := 18) (o := { dst := none, op := Op.store 32 (Operand.tmp 11) (Operand.tmp 40), type := 0, pos := "law.go:80", after := #[{ on := 15, ground := Ground.data }, { on := 12, ground := Ground.data }, { on := 17, ground := Ground.chain }, { on := 0, ground := Ground.phase }, { on := 1, ground := Ground.phase }, { on := 2, ground := Ground.phase }, { on := 3, ground := Ground.phase }, { on := 4, ground := Ground.phase }, { on := 5, ground := Ground.phase }, { on := 6, ground := Ground.phase }, { on := 7, ground := Ground.phase }, { on := 8, ground := Ground.phase }, { on := 9, ground := Ground.phase }, { on := 10, ground := Ground.phase }, { on := 11, ground := Ground.phase }, { on := 12, ground := Ground.phase }, { on := 13, ground := Ground.phase }, { on := 14, ground := Ground.phase }, { on := 15, ground := Ground.phase }, { on := 16, ground := Ground.phase }, { on := 17, ground := Ground.phase }], guard := none }) (by kernel_rfl) rfl (fun K hK => ?_)
      go_simp
      refine hK.out _ _ (Or.inl (by kernel_rfl)) (fun hHeld => ?_)
      clear hK K
      (try simp only [List.setIfInBounds_toArray, List.set_cons_zero, List.set_cons_succ])
      refine z_done (by kernel_rfl) ?_ _
      exact hfin
    · refine z_mem (rs5_rd6 b7 b8 b9) (by revert hall; cases b7 <;> cases b8 <;> cases b9 <;> simp) (fun i hi => ?_)
      rw [if_neg (by revert hall; cases b7 <;> cases b8 <;> cases b9 <;> simp)] at hi
      simp only [List.mem_append] at hi
      rcases hi with hi | hi | hi
      · cases b7 with
        | true => simp at hi
        | false =>
          obtain rfl : i = 13 := by simpa using hi
          refine z_op (o := { dst := some 9, op := Op.alloc 25, type := 0, pos := "law.go:80", after := #[], guard := none }) rfl (fun K hK => ?_)
          go_simp
          have hn : Below W.heap.size W (W.alloc (.cells #[.slice none 0 0, .slice none 0 0] 25)) := below_alloc1 _ _
          have hXn := hX.trans (hn.mono hX.size)
          refine hK.out _ _ (Or.inr (hC _ hXn)) ?_
          (try simp only [List.setIfInBounds_toArray, List.set_cons_zero, List.set_cons_succ])
          exact ih true b8 b9 (by revert hf; cases b8 <;> cases b9 <;> simp [cnt3] <;> omega) _ s8 s9 W.heap.size g8 g9 v27 a1 c1 gt a2 c2 V na nk nc la lk lc oa ol oc f1 f2 W0 _ hF (hb.trans (hn.mono hb.size)) hXn (AlF.new W hX.size _ _ _) (h8.below hn) (h9.below hn) (fun _ => Or.inr hb.size) hz8 hz9
      · cases b8 with
        | true => simp at hi
        | false =>
          obtain rfl : i = 14 := by simpa using hi
          refine z_op (o := { dst := some 10, op := Op.alloc 29, type := 0, pos := "law.go:80", after := #[], guard := none }) rfl (fun K hK => ?_)
          go_simp
          have hn : Below W.heap.size W (W.alloc (.cells #[.slice none 0 0] 29)) := below_alloc1 _ _
          have hXn := hX.trans (hn.mono hX.size)
          refine hK.out _ _ (Or.inr (hC _ hXn)) ?_
          (try simp only [List.setIfInBounds_toArray, List.set_cons_zero, List.set_cons_succ])
          exact ih b7 true b9 (by revert hf; cases b7 <;> cases b9 <;> simp [cnt3] <;> omega) s7 _ s9 g7 W.heap.size g9 v27 a1 c1 gt a2 c2 V na nk nc la lk lc oa ol oc f1 f2 W0 _ hF (hb.trans (hn.mono hb.size)) hXn (h7.below hn) (AlF.new W hX.size _ _ _) (h9.below hn) hz7 (fun _ => Or.inr hb.size) hz9
      · cases b9 with
        | true => simp at hi
        | false =>
          obtain rfl : i = 15 := by simpa using hi
          refine z_op (o := { dst := some 11, op := Op.alloc 32, type := 0, pos := "law.go:80", after := #[], guard := none }) rfl (fun K hK => ?_)
          go_simp
          have hn : Below W.heap.size W (W.alloc (.cells #[.int .i64 0, .int .i64 0] 32)) := below_alloc1 _ _
          have hXn := hX.trans (hn.mono hX.size)
          refine hK.out _ _ (Or.inr (hC _ hXn)) ?_
          (try simp only [List.setIfInBounds_toArray, List.set_cons_zero, List.set_cons_succ])
          exact ih b7 b8 true (by revert hf; cases b7 <;> cases b8 <;> simp [cnt3] <;> omega) s7 s8 _ g7 g8 W.heap.size v27 a1 c1 gt a2 c2 V na nk nc la lk lc oa ol oc f1 f2 W0 _ hF (hb.trans (hn.mono hb.size)) hXn (h7.below hn) (h8.below hn) (AlF.new W hX.size _ _ _) hz7 hz8 (fun _ => Or.inr hb.size)
include hQ hC hP fin in
set_option maxRecDepth 100000 in
set_option maxHeartbeats 1500000 in
theorem rs5_5 : ∀ (fuel : Nat) (b7 b8 b9 : Bool), 8 + cnt3 b7 b8 b9 ≤ fuel → ∀ (s7 s8 s9 : Value) (g7 g8 g9 : Nat) (v27 : Value) (a1 : Option Addr) (c1 gt : Nat) (a2 : Option Addr) (c2 : Nat) (W0 W : World), DRow W0 a2 (dn + 1) c2 (dsT dn ds 40) → Below W0.heap.size W0 W → Below X.heap.size X W → AlF W X.heap.size b7 s7 g7 #[.slice none 0 0, .slice none 0 0] 25 → AlF W X.heap.size b8 s8 g8 #[.slice none 0 0] 29 → AlF W X.heap.size b9 s9 g9 #[.int .i64 0, .int .i64 0] 32 → wpAnyZ Tryz.prog .any rs5_ops Q 16 (fun W => W.cell? ⟨BN, 0, none⟩ = some nb ∧ W.cell? ⟨BN, 1, none⟩ = some nl) fuel #[true, true, true, true, true, true, true, true, false, false, false, false, false, b7, b8, b9, false, false, false] { tmps := #[x0, (.int .i64 trees), (.slice dao dn dcap), x3, (.pointer (some ⟨BN, 0, none⟩)), x5, x6, x7, x8, s7, s8, s9, x12, x13, x14, x15, x16, x17, x18, x19, x20, x21, x22, x23, x24, x25, x26, x27, x28, (.agg #[nb, nl]), (.int .i64 trees), v27, (.slice dao dn dcap), (.slice a1 dn c1), (.agg #[.int .i64 1, .int .i64 40, .int .i64 0, .int .i64 0]), (.slice (some ⟨gt, 0, none⟩) 1 1), (.slice a2 (dn + 1) c2), x37, x38, x39, x40, x41, x42, x43, x44, x45, x46, x47, x48, x49, x50, x51, x52, x53, x54, x55, x56, x57, x58, x59, x60, x61, x62, x63, x64, x65], defers := df } W := by
  intro fuel
  induction fuel with
  | zero => intro b7 b8 b9 h; omega
  | succ fuel ih =>
    intro b7 b8 b9 hf s7 s8 s9 g7 g8 g9 v27 a1 c1 gt a2 c2 W0 W hF hb hX h7 h8 h9 
    have hHeld : (#[true, true, true, true, true, true, true, true, false, false, false, false, false, b7, b8, b9, false, false, false] : Array Bool).getD 16 true = true ∨ (fun W => W.cell? ⟨BN, 0, none⟩ = some nb ∧ W.cell? ⟨BN, 1, none⟩ = some nl) W := Or.inr (hC W hX)
    refine z_mem (rs5_rd5 b7 b8 b9) (by simp) (fun i hi => ?_)
    simp only [List.mem_cons, List.mem_append] at hi
    rcases hi with rfl | hi | hi | hi
    · refine z_op (o := { dst := some 37, op := Op.call { callee := Callee.value (Operand.func 15), args := #[Operand.tmp 29, Operand.tmp 30, Operand.tmp 36], argTypes := #[25, 3, 26] }, type := 36, pos := "law.go:80", after := #[{ on := 0, ground := Ground.data }, { on := 1, ground := Ground.data }, { on := 7, ground := Ground.data }, { on := 7, ground := Ground.chain }], guard := none }) rfl (fun K hK => ?_)
      go_simp
      refine (hP W a2 c2 hX (CRow.below hF hb)).mono ?_
      rintro e w2 ⟨na, nk, nc, la, lk, lc, oa, ol, oc, f1, f2, rfl, H⟩
      have hn := H.out.1
      have hXn := hX.trans (hn.mono hX.size)
      refine hK.out _ _ (Or.inr (hC _ hXn)) ?_
      (try simp only [List.setIfInBounds_toArray, List.set_cons_zero, List.set_cons_succ])
      obtain ⟨fuel, rfl⟩ : ∃ q, fuel = q + 1 + 1 + 1 + 1 := ⟨fuel - 4, by omega⟩
      refine z_take (i := 9) (oi := { dst := some 28, op := Op.move (Operand.tmp 37), type := 36, pos := "law.go:80", after := #[{ on := 8, ground := Ground.data }], guard := none }) (v := ?_) (some 28) rfl rfl (by cases b7 <;> cases b8 <;> cases b9 <;> kernel_rfl) (by cases b7 <;> cases b8 <;> cases b9 <;> kernel_rfl) (by cases b7 <;> cases b8 <;> cases b9 <;> kernel_rfl) (by decide) (fun c a w h => hQ c a _ _ w h) (by rfl) ?_ (Or.inr (hC _ hXn)) ?_
      rotate_left 1
      · (intro wq; go_simp; try with_reducible rfl)
      (try simp only [Act.put, List.setIfInBounds_toArray, List.set_cons_zero, List.set_cons_succ])
      refine z_take (i := 10) (oi := { dst := some 38, op := Op.extract (Operand.tmp 28) 0, type := 25, pos := "law.go:80", after := #[{ on := 9, ground := Ground.data }], guard := none }) (v := ?_) (some 38) rfl rfl (by cases b7 <;> cases b8 <;> cases b9 <;> kernel_rfl) (by cases b7 <;> cases b8 <;> cases b9 <;> kernel_rfl) (by cases b7 <;> cases b8 <;> cases b9 <;> kernel_rfl) (by decide) (fun c a w h => hQ c a _ _ w h) (by rfl) ?_ (Or.inr (hC _ hXn)) ?_
      rotate_left 1
      · (intro wq; go_simp; try with_reducible rfl)
      (try simp only [Act.put, List.setIfInBounds_toArray, List.set_cons_zero, List.set_cons_succ])
      refine z_take (i := 11) (oi := { dst := some 39, op := Op.extract (Operand.tmp 28) 1, type := 29, pos := "law.go:80", after := #[{ on := 9, ground := Ground.data }, { on := 16, ground := Ground.gcOnly Departure.lateStores }], guard := none }) (v := ?_) (some 39) rfl rfl (by cases b7 <;> cases b8 <;> cases b9 <;> kernel_rfl) (by cases b7 <;> cases b8 <;> cases b9 <;> kernel_rfl) (by cases b7 <;> cases b8 <;> cases b9 <;> kernel_rfl) (by decide) (fun c a w h => hQ c a _ _ w h) (by rfl) ?_ (Or.inr (hC _ hXn)) ?_
      rotate_left 1
      · (intro wq; go_simp; try with_reducible rfl)
      (try simp only [Act.put, List.setIfInBounds_toArray, List.set_cons_zero, List.set_cons_succ])
      refine z_take (i := 12) (oi := { dst := some 40, op := Op.extract (Operand.tmp 28) 2, type := 32, pos := "law.go:80", after := #[{ on := 9, ground := Ground.data }, { on := 17, ground := Ground.gcOnly Departure.lateStores }], guard := none }) (v := ?_) (some 40) rfl rfl (by cases b7 <;> cases b8 <;> cases b9 <;> kernel_rfl) (by cases b7 <;> cases b8 <;> cases b9 <;> kernel_rfl) (by cases b7 <;> cases b8 <;> cases b9 <;> kernel_rfl) (by decide) (fun c a w h => hQ c a _ _ w h) (by rfl) ?_ (Or.inr (hC _ hXn)) ?_
      rotate_left 1
      · (intro wq; go_simp; try with_reducible rfl)
      (try simp only [Act.put, List.setIfInBounds_toArray, List.set_cons_zero, List.set_cons_succ])
      exact rs5_6 df X BN nb nl trees dao dn dcap R x0 x3 x5 x6 x7 x8 x12 x13 x14 x15 x16 x17 x18 x19 x20 x21 x22 x23 x24 x25 x26 x27 x41 x42 x43 x44 x45 x46 x47 x48 x49 x50 x51 x52 x53 x54 x55 x56 x57 x58 x59 x60 x61 x62 x63 x64 x65 hC fin fuel b7 b8 b9 (by omega) s7 s8 s9 g7 g8 g9 v27 a1 c1 gt a2 c2 W na nk nc la lk lc oa ol oc f1 f2 w2 w2 H.out.2 (Below.refl _ _) hXn (h7.below hn) (h8.below hn) (h9.below hn) (fun e => Or.inl (lt_some (h7 e).2.1)) (fun e => Or.inl (lt_some (h8 e).2.1)) (fun e => Or.inl (lt_some (h9 e).2.1))
    · cases b7 with
      | true => simp at hi
      | false =>
        obtain rfl : i = 13 := by simpa using hi
        refine z_op (o := { dst := some 9, op := Op.alloc 25, type := 0, pos := "law.go:80", after := #[], guard := none }) rfl (fun K hK => ?_)
        go_simp
        have hn : Below W.heap.size W (W.alloc (.cells #[.slice none 0 0, .slice none 0 0] 25)) := below_alloc1 _ _
        have hXn := hX.trans (hn.mono hX.size)
        refine hK.out _ _ (Or.inr (hC _ hXn)) ?_
        (try simp only [List.setIfInBounds_toArray, List.set_cons_zero, List.set_cons_succ])
        exact ih true b8 b9 (by revert hf; cases b8 <;> cases b9 <;> simp [cnt3] <;> omega) _ s8 s9 W.heap.size g8 g9 v27 a1 c1 gt a2 c2 W0 _ hF (hb.trans (hn.mono hb.size)) hXn (AlF.new W hX.size _ _ _) (h8.below hn) (h9.below hn) 
    · cases b8 with
      | true => simp at hi
      | false =>
        obtain rfl : i = 14 := by simpa using hi
        refine z_op (o := { dst := some 10, op := Op.alloc 29, type := 0, pos := "law.go:80", after := #[], guard := none }) rfl (fun K hK => ?_)
        go_simp
        have hn : Below W.heap.size W (W.alloc (.cells #[.slice none 0 0] 29)) := below_alloc1 _ _
        have hXn := hX.trans (hn.mono hX.size)
        refine hK.out _ _ (Or.inr (hC _ hXn)) ?_
        (try simp only [List.setIfInBounds_toArray, List.set_cons_zero, List.set_cons_succ])
        exact ih b7 true b9 (by revert hf; cases b7 <;> cases b9 <;> simp [cnt3] <;> omega) s7 _ s9 g7 W.heap.size g9 v27 a1 c1 gt a2 c2 W0 _ hF (hb.trans (hn.mono hb.size)) hXn (h7.below hn) (AlF.new W hX.size _ _ _) (h9.below hn) 
    · cases b9 with
      | true => simp at hi
      | false =>
        obtain rfl : i = 15 := by simpa using hi
        refine z_op (o := { dst := some 11, op := Op.alloc 32, type := 0, pos := "law.go:80", after := #[], guard := none }) rfl (fun K hK => ?_)
        go_simp
        have hn : Below W.heap.size W (W.alloc (.cells #[.int .i64 0, .int .i64 0] 32)) := below_alloc1 _ _
        have hXn := hX.trans (hn.mono hX.size)
        refine hK.out _ _ (Or.inr (hC _ hXn)) ?_
        (try simp only [List.setIfInBounds_toArray, List.set_cons_zero, List.set_cons_succ])
        exact ih b7 b8 true (by revert hf; cases b7 <;> cases b8 <;> simp [cnt3] <;> omega) s7 s8 _ g7 g8 W.heap.size v27 a1 c1 gt a2 c2 W0 _ hF (hb.trans (hn.mono hb.size)) hXn (h7.below hn) (h8.below hn) (AlF.new W hX.size _ _ _) 
include hQ hC hdn hP fin in
set_option maxRecDepth 100000 in
set_option maxHeartbeats 1500000 in
theorem rs5_4 : ∀ (fuel : Nat) (b7 b8 b9 : Bool), 9 + cnt3 b7 b8 b9 ≤ fuel → ∀ (s7 s8 s9 : Value) (g7 g8 g9 : Nat) (v27 : Value) (a1 : Option Addr) (c1 gt : Nat) (W0 W : World), (W0.ownsRow X.heap.size 45 4 (.slice a1 dn c1) dn (cellsL dn 4 (fun i => dnC (ds i)))) ∧ W0.heap[gt]? = some (.cells #[.int .i64 1, .int .i64 40, .int .i64 0, .int .i64 0] 45 (0, 0)) → Below W0.heap.size W0 W → Below X.heap.size X W → AlF W X.heap.size b7 s7 g7 #[.slice none 0 0, .slice none 0 0] 25 → AlF W X.heap.size b8 s8 g8 #[.slice none 0 0] 29 → AlF W X.heap.size b9 s9 g9 #[.int .i64 0, .int .i64 0] 32 → wpAnyZ Tryz.prog .any rs5_ops Q 16 (fun W => W.cell? ⟨BN, 0, none⟩ = some nb ∧ W.cell? ⟨BN, 1, none⟩ = some nl) fuel #[true, true, true, true, true, true, true, false, false, false, false, false, false, b7, b8, b9, false, false, false] { tmps := #[x0, (.int .i64 trees), (.slice dao dn dcap), x3, (.pointer (some ⟨BN, 0, none⟩)), x5, x6, x7, x8, s7, s8, s9, x12, x13, x14, x15, x16, x17, x18, x19, x20, x21, x22, x23, x24, x25, x26, x27, x28, (.agg #[nb, nl]), (.int .i64 trees), v27, (.slice dao dn dcap), (.slice a1 dn c1), (.agg #[.int .i64 1, .int .i64 40, .int .i64 0, .int .i64 0]), (.slice (some ⟨gt, 0, none⟩) 1 1), x36, x37, x38, x39, x40, x41, x42, x43, x44, x45, x46, x47, x48, x49, x50, x51, x52, x53, x54, x55, x56, x57, x58, x59, x60, x61, x62, x63, x64, x65], defers := df } W := by
  intro fuel
  induction fuel with
  | zero => intro b7 b8 b9 h; omega
  | succ fuel ih =>
    intro b7 b8 b9 hf s7 s8 s9 g7 g8 g9 v27 a1 c1 gt W0 W hF hb hX h7 h8 h9 
    have hHeld : (#[true, true, true, true, true, true, true, false, false, false, false, false, false, b7, b8, b9, false, false, false] : Array Bool).getD 16 true = true ∨ (fun W => W.cell? ⟨BN, 0, none⟩ = some nb ∧ W.cell? ⟨BN, 1, none⟩ = some nl) W := Or.inr (hC W hX)
    refine z_mem (rs5_rd4 b7 b8 b9) (by simp) (fun i hi => ?_)
    simp only [List.mem_cons, List.mem_append] at hi
    rcases hi with rfl | hi | hi | hi
    · refine z_op (o := { dst := some 36, op := Op.call { callee := Callee.builtin Builtin.append, args := #[Operand.tmp 33, Operand.tmp 35], argTypes := #[26, 26] }, type := 26, pos := "law.go:80", after := #[{ on := 4, ground := Ground.data }, { on := 6, ground := Ground.data }, { on := 5, ground := Ground.chain }], guard := none }) rfl (fun K hK => ?_)
      obtain ⟨a2, c2, w2, r, ho, hl, hq⟩ := do_more (ownsC_below hF.1 hb) (keep hF.2 hb) (by omega) hX.size
      have hXn : Below X.heap.size X w2 := hX.trans hl
      refine step_append_d (some 36) rfl rfl (.tmp 33) (.tmp 35) 26 rfl _ _ _ rfl rfl r ?_
      refine hK.out _ _ (Or.inr (hC _ hXn)) ?_
      (try simp only [Act.put, List.setIfInBounds_toArray, List.set_cons_zero, List.set_cons_succ])
      exact rs5_5 df X BN nb nl trees dao dn dcap ds R x0 x3 x5 x6 x7 x8 x12 x13 x14 x15 x16 x17 x18 x19 x20 x21 x22 x23 x24 x25 x26 x27 x28 x37 x38 x39 x40 x41 x42 x43 x44 x45 x46 x47 x48 x49 x50 x51 x52 x53 x54 x55 x56 x57 x58 x59 x60 x61 x62 x63 x64 x65 hQ hC hP fin fuel b7 b8 b9 (by omega) s7 s8 s9 g7 g8 g9 v27 a1 c1 gt a2 c2 w2 w2 (own_do ho) (Below.refl _ _) hXn (h7.app (ownsC_below hF.1 hb) hq (by decide)) (h8.app (ownsC_below hF.1 hb) hq (by decide)) (h9.app (ownsC_below hF.1 hb) hq (by decide))
    · cases b7 with
      | true => simp at hi
      | false =>
        obtain rfl : i = 13 := by simpa using hi
        refine z_op (o := { dst := some 9, op := Op.alloc 25, type := 0, pos := "law.go:80", after := #[], guard := none }) rfl (fun K hK => ?_)
        go_simp
        have hn : Below W.heap.size W (W.alloc (.cells #[.slice none 0 0, .slice none 0 0] 25)) := below_alloc1 _ _
        have hXn := hX.trans (hn.mono hX.size)
        refine hK.out _ _ (Or.inr (hC _ hXn)) ?_
        (try simp only [List.setIfInBounds_toArray, List.set_cons_zero, List.set_cons_succ])
        exact ih true b8 b9 (by revert hf; cases b8 <;> cases b9 <;> simp [cnt3] <;> omega) _ s8 s9 W.heap.size g8 g9 v27 a1 c1 gt W0 _ hF (hb.trans (hn.mono hb.size)) hXn (AlF.new W hX.size _ _ _) (h8.below hn) (h9.below hn) 
    · cases b8 with
      | true => simp at hi
      | false =>
        obtain rfl : i = 14 := by simpa using hi
        refine z_op (o := { dst := some 10, op := Op.alloc 29, type := 0, pos := "law.go:80", after := #[], guard := none }) rfl (fun K hK => ?_)
        go_simp
        have hn : Below W.heap.size W (W.alloc (.cells #[.slice none 0 0] 29)) := below_alloc1 _ _
        have hXn := hX.trans (hn.mono hX.size)
        refine hK.out _ _ (Or.inr (hC _ hXn)) ?_
        (try simp only [List.setIfInBounds_toArray, List.set_cons_zero, List.set_cons_succ])
        exact ih b7 true b9 (by revert hf; cases b7 <;> cases b9 <;> simp [cnt3] <;> omega) s7 _ s9 g7 W.heap.size g9 v27 a1 c1 gt W0 _ hF (hb.trans (hn.mono hb.size)) hXn (h7.below hn) (AlF.new W hX.size _ _ _) (h9.below hn) 
    · cases b9 with
      | true => simp at hi
      | false =>
        obtain rfl : i = 15 := by simpa using hi
        refine z_op (o := { dst := some 11, op := Op.alloc 32, type := 0, pos := "law.go:80", after := #[], guard := none }) rfl (fun K hK => ?_)
        go_simp
        have hn : Below W.heap.size W (W.alloc (.cells #[.int .i64 0, .int .i64 0] 32)) := below_alloc1 _ _
        have hXn := hX.trans (hn.mono hX.size)
        refine hK.out _ _ (Or.inr (hC _ hXn)) ?_
        (try simp only [List.setIfInBounds_toArray, List.set_cons_zero, List.set_cons_succ])
        exact ih b7 b8 true (by revert hf; cases b7 <;> cases b8 <;> simp [cnt3] <;> omega) s7 s8 _ g7 g8 W.heap.size v27 a1 c1 gt W0 _ hF (hb.trans (hn.mono hb.size)) hXn (h7.below hn) (h8.below hn) (AlF.new W hX.size _ _ _) 
include hQ hC hdn hP fin in
set_option maxRecDepth 100000 in
set_option maxHeartbeats 1500000 in
theorem rs5_3 : ∀ (fuel : Nat) (b7 b8 b9 : Bool), 10 + cnt3 b7 b8 b9 ≤ fuel → ∀ (s7 s8 s9 : Value) (g7 g8 g9 : Nat) (v27 : Value) (a1 : Option Addr) (c1 : Nat) (W0 W : World), W0.ownsRow X.heap.size 45 4 (.slice a1 dn c1) dn (cellsL dn 4 (fun i => dnC (ds i))) → Below W0.heap.size W0 W → Below X.heap.size X W → AlF W X.heap.size b7 s7 g7 #[.slice none 0 0, .slice none 0 0] 25 → AlF W X.heap.size b8 s8 g8 #[.slice none 0 0] 29 → AlF W X.heap.size b9 s9 g9 #[.int .i64 0, .int .i64 0] 32 → wpAnyZ Tryz.prog .any rs5_ops Q 16 (fun W => W.cell? ⟨BN, 0, none⟩ = some nb ∧ W.cell? ⟨BN, 1, none⟩ = some nl) fuel #[true, true, true, true, true, true, false, false, false, false, false, false, false, b7, b8, b9, false, false, false] { tmps := #[x0, (.int .i64 trees), (.slice dao dn dcap), x3, (.pointer (some ⟨BN, 0, none⟩)), x5, x6, x7, x8, s7, s8, s9, x12, x13, x14, x15, x16, x17, x18, x19, x20, x21, x22, x23, x24, x25, x26, x27, x28, (.agg #[nb, nl]), (.int .i64 trees), v27, (.slice dao dn dcap), (.slice a1 dn c1), (.agg #[.int .i64 1, .int .i64 40, .int .i64 0, .int .i64 0]), x35, x36, x37, x38, x39, x40, x41, x42, x43, x44, x45, x46, x47, x48, x49, x50, x51, x52, x53, x54, x55, x56, x57, x58, x59, x60, x61, x62, x63, x64, x65], defers := df } W := by
  intro fuel
  induction fuel with
  | zero => intro b7 b8 b9 h; omega
  | succ fuel ih =>
    intro b7 b8 b9 hf s7 s8 s9 g7 g8 g9 v27 a1 c1 W0 W hF hb hX h7 h8 h9 
    have hHeld : (#[true, true, true, true, true, true, false, false, false, false, false, false, false, b7, b8, b9, false, false, false] : Array Bool).getD 16 true = true ∨ (fun W => W.cell? ⟨BN, 0, none⟩ = some nb ∧ W.cell? ⟨BN, 1, none⟩ = some nl) W := Or.inr (hC W hX)
    refine z_mem (rs5_rd3 b7 b8 b9) (by simp) (fun i hi => ?_)
    simp only [List.mem_cons, List.mem_append] at hi
    rcases hi with rfl | hi | hi | hi
    · refine z_op (o := { dst := some 35, op := Op.buildSlice 26 1 #[(0, Operand.tmp 34)], type := 26, pos := "law.go:80", after := #[{ on := 5, ground := Ground.data }], guard := none }) rfl (fun K hK => ?_)
      go_simp
      have hn : Below W.heap.size W (W.alloc (.cells #[.int .i64 1, .int .i64 40, .int .i64 0, .int .i64 0] 45)) := below_alloc1 _ _
      have hXn := hX.trans (hn.mono hX.size)
      refine hK.out _ _ (Or.inr (hC _ hXn)) ?_
      (try simp only [List.setIfInBounds_toArray, List.set_cons_zero, List.set_cons_succ])
      exact rs5_4 df X BN nb nl trees dao dn dcap ds R x0 x3 x5 x6 x7 x8 x12 x13 x14 x15 x16 x17 x18 x19 x20 x21 x22 x23 x24 x25 x26 x27 x28 x36 x37 x38 x39 x40 x41 x42 x43 x44 x45 x46 x47 x48 x49 x50 x51 x52 x53 x54 x55 x56 x57 x58 x59 x60 x61 x62 x63 x64 x65 hQ hC hdn hP fin fuel b7 b8 b9 (by omega) s7 s8 s9 g7 g8 g9 v27 a1 c1 W.heap.size _ _ ⟨ownsC_below (ownsC_below hF hb) hn, heap_alloc_last _ _⟩ (Below.refl _ _) hXn (h7.below hn) (h8.below hn) (h9.below hn)
    · cases b7 with
      | true => simp at hi
      | false =>
        obtain rfl : i = 13 := by simpa using hi
        refine z_op (o := { dst := some 9, op := Op.alloc 25, type := 0, pos := "law.go:80", after := #[], guard := none }) rfl (fun K hK => ?_)
        go_simp
        have hn : Below W.heap.size W (W.alloc (.cells #[.slice none 0 0, .slice none 0 0] 25)) := below_alloc1 _ _
        have hXn := hX.trans (hn.mono hX.size)
        refine hK.out _ _ (Or.inr (hC _ hXn)) ?_
        (try simp only [List.setIfInBounds_toArray, List.set_cons_zero, List.set_cons_succ])
        exact ih true b8 b9 (by revert hf; cases b8 <;> cases b9 <;> simp [cnt3] <;> omega) _ s8 s9 W.heap.size g8 g9 v27 a1 c1 W0 _ hF (hb.trans (hn.mono hb.size)) hXn (AlF.new W hX.size _ _ _) (h8.below hn) (h9.below hn) 
    · cases b8 with
      | true => simp at hi
      | false =>
        obtain rfl : i = 14 := by simpa using hi
        refine z_op (o := { dst := some 10, op := Op.alloc 29, type := 0, pos := "law.go:80", after := #[], guard := none }) rfl (fun K hK => ?_)
        go_simp
        have hn : Below W.heap.size W (W.alloc (.cells #[.slice none 0 0] 29)) := below_alloc1 _ _
        have hXn := hX.trans (hn.mono hX.size)
        refine hK.out _ _ (Or.inr (hC _ hXn)) ?_
        (try simp only [List.setIfInBounds_toArray, List.set_cons_zero, List.set_cons_succ])
        exact ih b7 true b9 (by revert hf; cases b7 <;> cases b9 <;> simp [cnt3] <;> omega) s7 _ s9 g7 W.heap.size g9 v27 a1 c1 W0 _ hF (hb.trans (hn.mono hb.size)) hXn (h7.below hn) (AlF.new W hX.size _ _ _) (h9.below hn) 
    · cases b9 with
      | true => simp at hi
      | false =>
        obtain rfl : i = 15 := by simpa using hi
        refine z_op (o := { dst := some 11, op := Op.alloc 32, type := 0, pos := "law.go:80", after := #[], guard := none }) rfl (fun K hK => ?_)
        go_simp
        have hn : Below W.heap.size W (W.alloc (.cells #[.int .i64 0, .int .i64 0] 32)) := below_alloc1 _ _
        have hXn := hX.trans (hn.mono hX.size)
        refine hK.out _ _ (Or.inr (hC _ hXn)) ?_
        (try simp only [List.setIfInBounds_toArray, List.set_cons_zero, List.set_cons_succ])
        exact ih b7 b8 true (by revert hf; cases b7 <;> cases b8 <;> simp [cnt3] <;> omega) s7 s8 _ g7 g8 W.heap.size v27 a1 c1 W0 _ hF (hb.trans (hn.mono hb.size)) hXn (h7.below hn) (h8.below hn) (AlF.new W hX.size _ _ _) 
include hQ hC hdn hT hP fin in
set_option maxRecDepth 100000 in
set_option maxHeartbeats 1500000 in
theorem rs5_2 : ∀ (fuel : Nat) (b7 b8 b9 : Bool), 11 + cnt3 b7 b8 b9 ≤ fuel → ∀ (s7 s8 s9 : Value) (g7 g8 g9 : Nat) (v27 : Value) (a1 : Option Addr) (c1 : Nat) (W0 W : World), W0.ownsRow X.heap.size 45 4 (.slice a1 dn c1) dn (cellsL dn 4 (fun i => dnC (ds i))) → Below W0.heap.size W0 W → Below X.heap.size X W → AlF W X.heap.size b7 s7 g7 #[.slice none 0 0, .slice none 0 0] 25 → AlF W X.heap.size b8 s8 g8 #[.slice none 0 0] 29 → AlF W X.heap.size b9 s9 g9 #[.int .i64 0, .int .i64 0] 32 → wpAnyZ Tryz.prog .any rs5_ops Q 16 (fun W => W.cell? ⟨BN, 0, none⟩ = some nb ∧ W.cell? ⟨BN, 1, none⟩ = some nl) fuel #[true, true, true, true, true, false, false, false, false, false, false, false, false, b7, b8, b9, false, false, false] { tmps := #[x0, (.int .i64 trees), (.slice dao dn dcap), x3, (.pointer (some ⟨BN, 0, none⟩)), x5, x6, x7, x8, s7, s8, s9, x12, x13, x14, x15, x16, x17, x18, x19, x20, x21, x22, x23, x24, x25, x26, x27, x28, (.agg #[nb, nl]), (.int .i64 trees), v27, (.slice dao dn dcap), (.slice a1 dn c1), x34, x35, x36, x37, x38, x39, x40, x41, x42, x43, x44, x45, x46, x47, x48, x49, x50, x51, x52, x53, x54, x55, x56, x57, x58, x59, x60, x61, x62, x63, x64, x65], defers := df } W := by
  intro fuel
  induction fuel with
  | zero => intro b7 b8 b9 h; omega
  | succ fuel ih =>
    intro b7 b8 b9 hf s7 s8 s9 g7 g8 g9 v27 a1 c1 W0 W hF hb hX h7 h8 h9 
    have hHeld : (#[true, true, true, true, true, false, false, false, false, false, false, false, false, b7, b8, b9, false, false, false] : Array Bool).getD 16 true = true ∨ (fun W => W.cell? ⟨BN, 0, none⟩ = some nb ∧ W.cell? ⟨BN, 1, none⟩ = some nl) W := Or.inr (hC W hX)
    refine z_mem (rs5_rd2 b7 b8 b9) (by simp) (fun i hi => ?_)
    simp only [List.mem_cons, List.mem_append] at hi
    rcases hi with rfl | hi | hi | hi
    · refine z_op (o := { dst := some 34, op := Op.call { callee := Callee.value (Operand.func 23), args := #[Operand.const (Value.int IntKind.i64 40)], argTypes := #[3] }, type := 45, pos := "law.go:80", after := #[{ on := 4, ground := Ground.chain }], guard := none }) rfl (fun K hK => ?_)
      go_simp
      refine (hT W).mono ?_
      rintro e w2 ⟨rfl, hn⟩
      have hXn := hX.trans (hn.mono hX.size)
      refine hK.out _ _ (Or.inr (hC _ hXn)) ?_
      (try simp only [List.setIfInBounds_toArray, List.set_cons_zero, List.set_cons_succ])
      exact rs5_3 df X BN nb nl trees dao dn dcap ds R x0 x3 x5 x6 x7 x8 x12 x13 x14 x15 x16 x17 x18 x19 x20 x21 x22 x23 x24 x25 x26 x27 x28 x35 x36 x37 x38 x39 x40 x41 x42 x43 x44 x45 x46 x47 x48 x49 x50 x51 x52 x53 x54 x55 x56 x57 x58 x59 x60 x61 x62 x63 x64 x65 hQ hC hdn hP fin fuel b7 b8 b9 (by omega) s7 s8 s9 g7 g8 g9 v27 a1 c1 W0 w2 hF (hb.trans (hn.mono hb.size)) hXn (h7.below hn) (h8.below hn) (h9.below hn)
    · cases b7 with
      | true => simp at hi
      | false =>
        obtain rfl : i = 13 := by simpa using hi
        refine z_op (o := { dst := some 9, op := Op.alloc 25, type := 0, pos := "law.go:80", after := #[], guard := none }) rfl (fun K hK => ?_)
        go_simp
        have hn : Below W.heap.size W (W.alloc (.cells #[.slice none 0 0, .slice none 0 0] 25)) := below_alloc1 _ _
        have hXn := hX.trans (hn.mono hX.size)
        refine hK.out _ _ (Or.inr (hC _ hXn)) ?_
        (try simp only [List.setIfInBounds_toArray, List.set_cons_zero, List.set_cons_succ])
        exact ih true b8 b9 (by revert hf; cases b8 <;> cases b9 <;> simp [cnt3] <;> omega) _ s8 s9 W.heap.size g8 g9 v27 a1 c1 W0 _ hF (hb.trans (hn.mono hb.size)) hXn (AlF.new W hX.size _ _ _) (h8.below hn) (h9.below hn) 
    · cases b8 with
      | true => simp at hi
      | false =>
        obtain rfl : i = 14 := by simpa using hi
        refine z_op (o := { dst := some 10, op := Op.alloc 29, type := 0, pos := "law.go:80", after := #[], guard := none }) rfl (fun K hK => ?_)
        go_simp
        have hn : Below W.heap.size W (W.alloc (.cells #[.slice none 0 0] 29)) := below_alloc1 _ _
        have hXn := hX.trans (hn.mono hX.size)
        refine hK.out _ _ (Or.inr (hC _ hXn)) ?_
        (try simp only [List.setIfInBounds_toArray, List.set_cons_zero, List.set_cons_succ])
        exact ih b7 true b9 (by revert hf; cases b7 <;> cases b9 <;> simp [cnt3] <;> omega) s7 _ s9 g7 W.heap.size g9 v27 a1 c1 W0 _ hF (hb.trans (hn.mono hb.size)) hXn (h7.below hn) (AlF.new W hX.size _ _ _) (h9.below hn) 
    · cases b9 with
      | true => simp at hi
      | false =>
        obtain rfl : i = 15 := by simpa using hi
        refine z_op (o := { dst := some 11, op := Op.alloc 32, type := 0, pos := "law.go:80", after := #[], guard := none }) rfl (fun K hK => ?_)
        go_simp
        have hn : Below W.heap.size W (W.alloc (.cells #[.int .i64 0, .int .i64 0] 32)) := below_alloc1 _ _
        have hXn := hX.trans (hn.mono hX.size)
        refine hK.out _ _ (Or.inr (hC _ hXn)) ?_
        (try simp only [List.setIfInBounds_toArray, List.set_cons_zero, List.set_cons_succ])
        exact ih b7 b8 true (by revert hf; cases b7 <;> cases b8 <;> simp [cnt3] <;> omega) s7 s8 _ g7 g8 W.heap.size v27 a1 c1 W0 _ hF (hb.trans (hn.mono hb.size)) hXn (h7.below hn) (h8.below hn) (AlF.new W hX.size _ _ _) 
include hQ hC hdn hnil hds hT hP fin in
set_option maxRecDepth 100000 in
set_option maxHeartbeats 1500000 in
theorem rs5_1 : ∀ (fuel : Nat) (b7 b8 b9 : Bool), 12 + cnt3 b7 b8 b9 ≤ fuel → ∀ (s7 s8 s9 : Value) (g7 g8 g9 : Nat) (v27 : Value) (W0 W : World), W0.ownsRow X.heap.size 45 4 v27 0 (cellsL 0 4 (fun _ _ => .int .i64 0)) → Below W0.heap.size W0 W → Below X.heap.size X W → AlF W X.heap.size b7 s7 g7 #[.slice none 0 0, .slice none 0 0] 25 → AlF W X.heap.size b8 s8 g8 #[.slice none 0 0] 29 → AlF W X.heap.size b9 s9 g9 #[.int .i64 0, .int .i64 0] 32 → wpAnyZ Tryz.prog .any rs5_ops Q 16 (fun W => W.cell? ⟨BN, 0, none⟩ = some nb ∧ W.cell? ⟨BN, 1, none⟩ = some nl) fuel #[true, true, true, true, false, false, false, false, false, false, false, false, false, b7, b8, b9, false, false, false] { tmps := #[x0, (.int .i64 trees), (.slice dao dn dcap), x3, (.pointer (some ⟨BN, 0, none⟩)), x5, x6, x7, x8, s7, s8, s9, x12, x13, x14, x15, x16, x17, x18, x19, x20, x21, x22, x23, x24, x25, x26, x27, x28, (.agg #[nb, nl]), (.int .i64 trees), v27, (.slice dao dn dcap), x33, x34, x35, x36, x37, x38, x39, x40, x41, x42, x43, x44, x45, x46, x47, x48, x49, x50, x51, x52, x53, x54, x55, x56, x57, x58, x59, x60, x61, x62, x63, x64, x65], defers := df } W := by
  intro fuel
  induction fuel with
  | zero => intro b7 b8 b9 h; omega
  | succ fuel ih =>
    intro b7 b8 b9 hf s7 s8 s9 g7 g8 g9 v27 W0 W hF hb hX h7 h8 h9 
    have hHeld : (#[true, true, true, true, false, false, false, false, false, false, false, false, false, b7, b8, b9, false, false, false] : Array Bool).getD 16 true = true ∨ (fun W => W.cell? ⟨BN, 0, none⟩ = some nb ∧ W.cell? ⟨BN, 1, none⟩ = some nl) W := Or.inr (hC W hX)
    refine z_mem (rs5_rd1 b7 b8 b9) (by simp) (fun i hi => ?_)
    simp only [List.mem_cons, List.mem_append] at hi
    rcases hi with rfl | hi | hi | hi
    · refine z_op (o := { dst := some 33, op := Op.call { callee := Callee.builtin Builtin.append, args := #[Operand.tmp 31, Operand.tmp 32], argTypes := #[26, 26] }, type := 26, pos := "law.go:80", after := #[{ on := 2, ground := Ground.data }, { on := 3, ground := Ground.data }], guard := none }) rfl (fun K hK => ?_)
      obtain ⟨a1, c1, w2, r, ho, hl, hq⟩ := do_copy (ownsC_below hF hb) (hds W hX) hnil (by omega) hX.size
      have hXn : Below X.heap.size X w2 := hX.trans hl
      refine step_append_d (some 33) rfl rfl (.tmp 31) (.tmp 32) 26 rfl _ _ _ rfl rfl r ?_
      refine hK.out _ _ (Or.inr (hC _ hXn)) ?_
      (try simp only [Act.put, List.setIfInBounds_toArray, List.set_cons_zero, List.set_cons_succ])
      exact rs5_2 df X BN nb nl trees dao dn dcap ds R x0 x3 x5 x6 x7 x8 x12 x13 x14 x15 x16 x17 x18 x19 x20 x21 x22 x23 x24 x25 x26 x27 x28 x34 x35 x36 x37 x38 x39 x40 x41 x42 x43 x44 x45 x46 x47 x48 x49 x50 x51 x52 x53 x54 x55 x56 x57 x58 x59 x60 x61 x62 x63 x64 x65 hQ hC hdn hT hP fin fuel b7 b8 b9 (by omega) s7 s8 s9 g7 g8 g9 v27 a1 c1 w2 w2 ho (Below.refl _ _) hXn (h7.app (ownsC_below hF hb) hq (by decide)) (h8.app (ownsC_below hF hb) hq (by decide)) (h9.app (ownsC_below hF hb) hq (by decide))
    · cases b7 with
      | true => simp at hi
      | false =>
        obtain rfl : i = 13 := by simpa using hi
        refine z_op (o := { dst := some 9, op := Op.alloc 25, type := 0, pos := "law.go:80", after := #[], guard := none }) rfl (fun K hK => ?_)
        go_simp
        have hn : Below W.heap.size W (W.alloc (.cells #[.slice none 0 0, .slice none 0 0] 25)) := below_alloc1 _ _
        have hXn := hX.trans (hn.mono hX.size)
        refine hK.out _ _ (Or.inr (hC _ hXn)) ?_
        (try simp only [List.setIfInBounds_toArray, List.set_cons_zero, List.set_cons_succ])
        exact ih true b8 b9 (by revert hf; cases b8 <;> cases b9 <;> simp [cnt3] <;> omega) _ s8 s9 W.heap.size g8 g9 v27 W0 _ hF (hb.trans (hn.mono hb.size)) hXn (AlF.new W hX.size _ _ _) (h8.below hn) (h9.below hn) 
    · cases b8 with
      | true => simp at hi
      | false =>
        obtain rfl : i = 14 := by simpa using hi
        refine z_op (o := { dst := some 10, op := Op.alloc 29, type := 0, pos := "law.go:80", after := #[], guard := none }) rfl (fun K hK => ?_)
        go_simp
        have hn : Below W.heap.size W (W.alloc (.cells #[.slice none 0 0] 29)) := below_alloc1 _ _
        have hXn := hX.trans (hn.mono hX.size)
        refine hK.out _ _ (Or.inr (hC _ hXn)) ?_
        (try simp only [List.setIfInBounds_toArray, List.set_cons_zero, List.set_cons_succ])
        exact ih b7 true b9 (by revert hf; cases b7 <;> cases b9 <;> simp [cnt3] <;> omega) s7 _ s9 g7 W.heap.size g9 v27 W0 _ hF (hb.trans (hn.mono hb.size)) hXn (h7.below hn) (AlF.new W hX.size _ _ _) (h9.below hn) 
    · cases b9 with
      | true => simp at hi
      | false =>
        obtain rfl : i = 15 := by simpa using hi
        refine z_op (o := { dst := some 11, op := Op.alloc 32, type := 0, pos := "law.go:80", after := #[], guard := none }) rfl (fun K hK => ?_)
        go_simp
        have hn : Below W.heap.size W (W.alloc (.cells #[.int .i64 0, .int .i64 0] 32)) := below_alloc1 _ _
        have hXn := hX.trans (hn.mono hX.size)
        refine hK.out _ _ (Or.inr (hC _ hXn)) ?_
        (try simp only [List.setIfInBounds_toArray, List.set_cons_zero, List.set_cons_succ])
        exact ih b7 b8 true (by revert hf; cases b7 <;> cases b8 <;> simp [cnt3] <;> omega) s7 s8 _ g7 g8 W.heap.size v27 W0 _ hF (hb.trans (hn.mono hb.size)) hXn (h7.below hn) (h8.below hn) (AlF.new W hX.size _ _ _) 
include hQ hC hdn hnil hds hT hP fin in
set_option maxRecDepth 100000 in
set_option maxHeartbeats 1500000 in
theorem rs5_0 : ∀ (fuel : Nat) (b7 b8 b9 : Bool), 13 + cnt3 b7 b8 b9 ≤ fuel → ∀ (s7 s8 s9 : Value) (g7 g8 g9 : Nat) (W0 W : World), True → Below W0.heap.size W0 W → Below X.heap.size X W → AlF W X.heap.size b7 s7 g7 #[.slice none 0 0, .slice none 0 0] 25 → AlF W X.heap.size b8 s8 g8 #[.slice none 0 0] 29 → AlF W X.heap.size b9 s9 g9 #[.int .i64 0, .int .i64 0] 32 → wpAnyZ Tryz.prog .any rs5_ops Q 16 (fun W => W.cell? ⟨BN, 0, none⟩ = some nb ∧ W.cell? ⟨BN, 1, none⟩ = some nl) fuel #[true, true, false, true, false, false, false, false, false, false, false, false, false, b7, b8, b9, false, false, false] { tmps := #[x0, (.int .i64 trees), (.slice dao dn dcap), x3, (.pointer (some ⟨BN, 0, none⟩)), x5, x6, x7, x8, s7, s8, s9, x12, x13, x14, x15, x16, x17, x18, x19, x20, x21, x22, x23, x24, x25, x26, x27, x28, (.agg #[nb, nl]), (.int .i64 trees), x31, (.slice dao dn dcap), x33, x34, x35, x36, x37, x38, x39, x40, x41, x42, x43, x44, x45, x46, x47, x48, x49, x50, x51, x52, x53, x54, x55, x56, x57, x58, x59, x60, x61, x62, x63, x64, x65], defers := df } W := by
  intro fuel
  induction fuel with
  | zero => intro b7 b8 b9 h; omega
  | succ fuel ih =>
    intro b7 b8 b9 hf s7 s8 s9 g7 g8 g9 W0 W hF hb hX h7 h8 h9 
    have hHeld : (#[true, true, false, true, false, false, false, false, false, false, false, false, false, b7, b8, b9, false, false, false] : Array Bool).getD 16 true = true ∨ (fun W => W.cell? ⟨BN, 0, none⟩ = some nb ∧ W.cell? ⟨BN, 1, none⟩ = some nl) W := Or.inr (hC W hX)
    refine z_mem (rs5_rd0 b7 b8 b9) (by simp) (fun i hi => ?_)
    simp only [List.mem_cons, List.mem_append] at hi
    rcases hi with rfl | hi | hi | hi
    · refine z_op (o := { dst := some 31, op := Op.buildSlice 26 0 #[], type := 26, pos := "law.go:80", after := #[], guard := none }) rfl (fun K hK => ?_)
      go_simp
      have hn : Below W.heap.size W (W.alloc (.cells #[] 45)) := below_alloc1 _ _
      have hXn := hX.trans (hn.mono hX.size)
      refine hK.out _ _ (Or.inr (hC _ hXn)) ?_
      (try simp only [List.setIfInBounds_toArray, List.set_cons_zero, List.set_cons_succ])
      exact rs5_1 df X BN nb nl trees dao dn dcap ds R x0 x3 x5 x6 x7 x8 x12 x13 x14 x15 x16 x17 x18 x19 x20 x21 x22 x23 x24 x25 x26 x27 x28 x33 x34 x35 x36 x37 x38 x39 x40 x41 x42 x43 x44 x45 x46 x47 x48 x49 x50 x51 x52 x53 x54 x55 x56 x57 x58 x59 x60 x61 x62 x63 x64 x65 hQ hC hdn hnil hds hT hP fin fuel b7 b8 b9 (by omega) s7 s8 s9 g7 g8 g9 _ _ _ (own_empty W hX.size) (Below.refl _ _) hXn (h7.below hn) (h8.below hn) (h9.below hn)
    · cases b7 with
      | true => simp at hi
      | false =>
        obtain rfl : i = 13 := by simpa using hi
        refine z_op (o := { dst := some 9, op := Op.alloc 25, type := 0, pos := "law.go:80", after := #[], guard := none }) rfl (fun K hK => ?_)
        go_simp
        have hn : Below W.heap.size W (W.alloc (.cells #[.slice none 0 0, .slice none 0 0] 25)) := below_alloc1 _ _
        have hXn := hX.trans (hn.mono hX.size)
        refine hK.out _ _ (Or.inr (hC _ hXn)) ?_
        (try simp only [List.setIfInBounds_toArray, List.set_cons_zero, List.set_cons_succ])
        exact ih true b8 b9 (by revert hf; cases b8 <;> cases b9 <;> simp [cnt3] <;> omega) _ s8 s9 W.heap.size g8 g9 W0 _ hF (hb.trans (hn.mono hb.size)) hXn (AlF.new W hX.size _ _ _) (h8.below hn) (h9.below hn) 
    · cases b8 with
      | true => simp at hi
      | false =>
        obtain rfl : i = 14 := by simpa using hi
        refine z_op (o := { dst := some 10, op := Op.alloc 29, type := 0, pos := "law.go:80", after := #[], guard := none }) rfl (fun K hK => ?_)
        go_simp
        have hn : Below W.heap.size W (W.alloc (.cells #[.slice none 0 0] 29)) := below_alloc1 _ _
        have hXn := hX.trans (hn.mono hX.size)
        refine hK.out _ _ (Or.inr (hC _ hXn)) ?_
        (try simp only [List.setIfInBounds_toArray, List.set_cons_zero, List.set_cons_succ])
        exact ih b7 true b9 (by revert hf; cases b7 <;> cases b9 <;> simp [cnt3] <;> omega) s7 _ s9 g7 W.heap.size g9 W0 _ hF (hb.trans (hn.mono hb.size)) hXn (h7.below hn) (AlF.new W hX.size _ _ _) (h9.below hn) 
    · cases b9 with
      | true => simp at hi
      | false =>
        obtain rfl : i = 15 := by simpa using hi
        refine z_op (o := { dst := some 11, op := Op.alloc 32, type := 0, pos := "law.go:80", after := #[], guard := none }) rfl (fun K hK => ?_)
        go_simp
        have hn : Below W.heap.size W (W.alloc (.cells #[.int .i64 0, .int .i64 0] 32)) := below_alloc1 _ _
        have hXn := hX.trans (hn.mono hX.size)
        refine hK.out _ _ (Or.inr (hC _ hXn)) ?_
        (try simp only [List.setIfInBounds_toArray, List.set_cons_zero, List.set_cons_succ])
        exact ih b7 b8 true (by revert hf; cases b7 <;> cases b8 <;> simp [cnt3] <;> omega) s7 s8 _ g7 g8 W.heap.size W0 _ hF (hb.trans (hn.mono hb.size)) hXn (h7.below hn) (h8.below hn) (AlF.new W hX.size _ _ _) 
include hQ hC hdn hnil hds hT hP fin in
set_option maxHeartbeats 1500000 in
theorem rs5 (x9 x10 x11 x29 x30 x32 : Value) : (Code.region 5 rs5_ops true).wp Tryz.prog Q { tmps := #[x0, (.int .i64 trees), (.slice dao dn dcap), x3, (.pointer (some ⟨BN, 0, none⟩)), x5, x6, x7, x8, x9, x10, x11, x12, x13, x14, x15, x16, x17, x18, x19, x20, x21, x22, x23, x24, x25, x26, x27, x28, x29, x30, x31, x32, x33, x34, x35, x36, x37, x38, x39, x40, x41, x42, x43, x44, x45, x46, x47, x48, x49, x50, x51, x52, x53, x54, x55, x56, x57, x58, x59, x60, x61, x62, x63, x64, x65], defers := df } X := by
  have hXd : Below X.heap.size X X.drew := Below.drew (Below.refl _ _)
  have hc := hC X (Below.refl _ _)
  refine wp_region_z (z := 16) (C := fun W => W.cell? ⟨BN, 0, none⟩ = some nb ∧ W.cell? ⟨BN, 1, none⟩ = some nl) (by kernel_rfl) (hC _ hXd) (fun hHeld => ?_)
  refine z_load (i := 0) (oi := { dst := some 29, op := Op.load 25 (Operand.tmp 4), type := 25, pos := "law.go:80", after := #[], guard := none }) (v := ?_) (some 29) rfl rfl (by kernel_rfl) (by kernel_rfl) (by kernel_rfl) (by kernel_rfl) (fun c a w h => hQ c a _ _ w h) (by rfl) ?_ hHeld ?_
  rotate_left 1
  · (intro wq hSw; go_simp; try with_reducible rfl)
  (try simp only [Act.put, List.setIfInBounds_toArray, List.set_cons_zero, List.set_cons_succ])
  refine z_take (i := 1) (oi := { dst := some 30, op := Op.move (Operand.tmp 1), type := 3, pos := "law.go:80", after := #[], guard := none }) (v := ?_) (some 30) rfl rfl (by kernel_rfl) (by kernel_rfl) (by kernel_rfl) (by decide) (fun c a w h => hQ c a _ _ w h) (by rfl) ?_ hHeld ?_
  rotate_left 1
  · (intro wq; go_simp; try with_reducible rfl)
  (try simp only [Act.put, List.setIfInBounds_toArray, List.set_cons_zero, List.set_cons_succ])
  refine z_take (i := 3) (oi := { dst := some 32, op := Op.move (Operand.tmp 2), type := 26, pos := "law.go:80", after := #[], guard := none }) (v := ?_) (some 32) rfl rfl (by kernel_rfl) (by kernel_rfl) (by kernel_rfl) (by decide) (fun c a w h => hQ c a _ _ w h) (by rfl) ?_ hHeld ?_
  rotate_left 1
  · (intro wq; go_simp; try with_reducible rfl)
  (try simp only [Act.put, List.setIfInBounds_toArray, List.set_cons_zero, List.set_cons_succ])
  exact rs5_0 df X BN nb nl trees dao dn dcap ds R x0 x3 x5 x6 x7 x8 x12 x13 x14 x15 x16 x17 x18 x19 x20 x21 x22 x23 x24 x25 x26 x27 x28 x31 x33 x34 x35 x36 x37 x38 x39 x40 x41 x42 x43 x44 x45 x46 x47 x48 x49 x50 x51 x52 x53 x54 x55 x56 x57 x58 x59 x60 x61 x62 x63 x64 x65 hQ hC hdn hnil hds hT hP fin _ false false false (by simp [cnt3]) _ _ _ 0 0 0 X _ trivial hXd hXd (fun e => by cases e) (fun e => by cases e) (fun e => by cases e)
end
end Go.Proofs.YtaneiffnhphkhaaGreatDoor

namespace Go.Proofs.YtaneiffnhphkhaaGreatDoor
open Go.RowKit
open Tk (Dn)

section
variable {Q : Exit → Act → World → Prop} (df : List Deferred) (X : World) (gM gT gF : Nat) (nb nl tb : Value) (p1 p2 : Int) (more : Int)
variable (R : World → World → Option Addr → Nat → Nat → Option Addr → Nat → Nat → Option Addr → Nat → Nat → Int → Int → Prop)
variable (x0 x1 x2 x4 x5 x6 x7 x8 x14 x15 x16 x17 x18 x19 x20 x21 x22 x23 x24 x25 x26 x27 x28 x29 x30 x31 x32 x33 x34 x35 x36 x37 x38 x39 x40 x41 x42 x43 x44 x45 x46 x47 x48 x52 x53 x54 x55 x56 x57 x58 x59 x60 x61 x62 x63 x64 x65 : Value)
def rs10_ops : Array Oper := #[{ dst := some 49, op := Op.load 25 (Operand.tmp 9), type := 25, pos := "law.go:87", after := #[], guard := none }, { dst := some 50, op := Op.load 29 (Operand.tmp 10), type := 29, pos := "law.go:87", after := #[], guard := none }, { dst := some 51, op := Op.move (Operand.tmp 3), type := 3, pos := "law.go:87", after := #[], guard := none }, { dst := some 52, op := Op.call { callee := Callee.value (Operand.func 23), args := #[Operand.tmp 51], argTypes := #[3] }, type := 45, pos := "law.go:87", after := #[{ on := 2, ground := Ground.data }], guard := none }, { dst := some 53, op := Op.buildSlice 26 1 #[(0, Operand.tmp 52)], type := 26, pos := "law.go:87", after := #[{ on := 3, ground := Ground.data }], guard := none }, { dst := some 54, op := Op.call { callee := Callee.value (Operand.func 20), args := #[Operand.tmp 49, Operand.tmp 50, Operand.tmp 53], argTypes := #[25, 29, 26] }, type := 36, pos := "law.go:87", after := #[{ on := 0, ground := Ground.data }, { on := 1, ground := Ground.data }, { on := 4, ground := Ground.data }, { on := 3, ground := Ground.chain }], guard := none }, { dst := some 48, op := Op.move (Operand.tmp 54), type := 36, pos := "law.go:87", after := #[{ on := 5, ground := Ground.data }], guard := none }, { dst := some 55, op := Op.extract (Operand.tmp 48) 0, type := 25, pos := "law.go:87", after := #[{ on := 6, ground := Ground.data }], guard := none }, { dst := some 56, op := Op.extract (Operand.tmp 48) 1, type := 29, pos := "law.go:87", after := #[{ on := 6, ground := Ground.data }, { on := 12, ground := Ground.gcOnly Departure.lateStores }], guard := none }, { dst := some 57, op := Op.extract (Operand.tmp 48) 2, type := 32, pos := "law.go:87", after := #[{ on := 6, ground := Ground.data }, { on := 13, ground := Ground.gcOnly Departure.lateStores }], guard := none }, { dst := some 12, op := Op.alloc 25, type := 0, pos := "law.go:87", after := #[], guard := none }, { dst := some 13, op := Op.alloc 29, type := 0, pos := "law.go:87", after := #[], guard := none }, { dst := none, op := Op.store 25 (Operand.tmp 12) (Operand.tmp 55), type := 0, pos := "law.go:87", after := #[{ on := 10, ground := Ground.data }, { on := 7, ground := Ground.data }, { on := 5, ground := Ground.chain }, { on := 0, ground := Ground.phase }, { on := 1, ground := Ground.phase }, { on := 2, ground := Ground.phase }, { on := 3, ground := Ground.phase }, { on := 4, ground := Ground.phase }, { on := 5, ground := Ground.phase }, { on := 6, ground := Ground.phase }, { on := 7, ground := Ground.phase }, { on := 8, ground := Ground.textOnly Departure.lateStores }, { on := 9, ground := Ground.textOnly Departure.lateStores }, { on := 10, ground := Ground.phase }, { on := 11, ground := Ground.phase }], guard := none }, { dst := none, op := Op.store 29 (Operand.tmp 13) (Operand.tmp 56), type := 0, pos := "law.go:87", after := #[{ on := 11, ground := Ground.data }, { on := 8, ground := Ground.data }, { on := 12, ground := Ground.chain }, { on := 0, ground := Ground.phase }, { on := 1, ground := Ground.phase }, { on := 2, ground := Ground.phase }, { on := 3, ground := Ground.phase }, { on := 4, ground := Ground.phase }, { on := 5, ground := Ground.phase }, { on := 6, ground := Ground.phase }, { on := 7, ground := Ground.phase }, { on := 8, ground := Ground.phase }, { on := 9, ground := Ground.textOnly Departure.lateStores }, { on := 10, ground := Ground.phase }, { on := 11, ground := Ground.phase }, { on := 12, ground := Ground.phase }], guard := none }, { dst := none, op := Op.store 32 (Operand.tmp 11) (Operand.tmp 57), type := 0, pos := "law.go:87", after := #[{ on := 9, ground := Ground.data }, { on := 13, ground := Ground.chain }, { on := 0, ground := Ground.phase }, { on := 1, ground := Ground.phase }, { on := 2, ground := Ground.phase }, { on := 3, ground := Ground.phase }, { on := 4, ground := Ground.phase }, { on := 5, ground := Ground.phase }, { on := 6, ground := Ground.phase }, { on := 7, ground := Ground.phase }, { on := 8, ground := Ground.phase }, { on := 9, ground := Ground.phase }, { on := 10, ground := Ground.phase }, { on := 11, ground := Ground.phase }, { on := 12, ground := Ground.phase }, { on := 13, ground := Ground.phase }], guard := none }]
variable (hQ : ∀ c (a : Act) (d : Tmp) (v : Value) (w : World), Q (.panic c) (a.put (some d) v) w → Q (.panic c) a w)
variable (hC : ∀ V, Below X.heap.size X V → V.cell? ⟨gM, 0, none⟩ = some nb ∧ V.cell? ⟨gM, 1, none⟩ = some nl ∧ V.cell? ⟨gT, 0, none⟩ = some tb)
variable (hFt : X.heap[gF]? = some (.cells #[.int .i64 p1, .int .i64 p2] 32 (0, 0)))
variable (hT : ∀ V, Calls Tryz.prog 23 #[.int .i64 more] V fun e w' => e = .returned (.agg #[.int .i64 1, .int .i64 more, .int .i64 0, .int .i64 0]) ∧ Below V.heap.size V w')
variable (hP : ∀ V g, Below X.heap.size X V → DRow V (some ⟨g, 0, none⟩) 1 1 (fun _ => tickD more) → Calls Tryz.prog 20 #[.agg #[nb, nl], .agg #[tb], .slice (some ⟨g, 0, none⟩) 1 1] V fun e w' => ∃ na nk nc la lk lc oa ol oc f1 f2, e = .returned (.tuple #[.agg #[.slice na nk nc, .slice la lk lc], .agg #[.slice oa ol oc], .agg #[.int .i64 f1, .int .i64 f2]]) ∧ Hid (Below V.heap.size V w' ∧ R V w' na nk nc la lk lc oa ol oc f1 f2))
variable (fin : ∀ (gt : Nat) (V : World) (na : Option Addr) (nk nc : Nat) (la : Option Addr) (lk lc : Nat) (oa : Option Addr) (ol oc : Nat) (f1 f2 : Int) (g7 g8 : Nat) (W0 W : World), R V W0 na nk nc la lk lc oa ol oc f1 f2 → Below W0.heap.size W0 W → Below X.heap.size X W → (W.heap[g7]? = some (.cells #[.slice none 0 0, .slice none 0 0] 25 (0, 0)) ∧ W.heap[g8]? = some (.cells #[.slice none 0 0] 29 (0, 0)) ∧ W.heap[gF]? = some (.cells #[.int .i64 p1, .int .i64 p2] 32 (0, 0))) → (X.heap.size ≤ g7 ∧ X.heap.size ≤ g8 ∧ gF < X.heap.size ∧ X.heap.size ≤ V.heap.size) → ((g7 < V.heap.size ∨ W0.heap.size ≤ g7) ∧ (g8 < V.heap.size ∨ W0.heap.size ≤ g8)) → Q .normal { tmps := #[x0, x1, x2, (.int .i64 more), x4, x5, x6, x7, x8, (.pointer (some ⟨gM, 0, none⟩)), (.pointer (some ⟨gT, 0, none⟩)), (.pointer (some ⟨gF, 0, none⟩)), (.pointer (some ⟨g7, 0, none⟩)), (.pointer (some ⟨g8, 0, none⟩)), x14, x15, x16, x17, x18, x19, x20, x21, x22, x23, x24, x25, x26, x27, x28, x29, x30, x31, x32, x33, x34, x35, x36, x37, x38, x39, x40, x41, x42, x43, x44, x45, x46, x47, (.tuple #[.agg #[.slice na nk nc, .slice la lk lc], .agg #[.slice oa ol oc], .agg #[.int .i64 f1, .int .i64 f2]]), (.agg #[nb, nl]), (.agg #[tb]), (.int .i64 more), (.agg #[.int .i64 1, .int .i64 more, .int .i64 0, .int .i64 0]), (.slice (some ⟨gt, 0, none⟩) 1 1), (.tuple #[.agg #[.slice na nk nc, .slice la lk lc], .agg #[.slice oa ol oc], .agg #[.int .i64 f1, .int .i64 f2]]), (.agg #[.slice na nk nc, .slice la lk lc]), (.agg #[.slice oa ol oc]), (.agg #[.int .i64 f1, .int .i64 f2]), x58, x59, x60, x61, x62, x63, x64, x65], defers := df } (((((W.setCell ⟨g7, 0, none⟩ (.slice na nk nc)).setCell ⟨g7, 1, none⟩ (.slice la lk lc)).setCell ⟨g8, 0, none⟩ (.slice oa ol oc)).setCell ⟨gF, 0, none⟩ (.int .i64 f1)).setCell ⟨gF, 1, none⟩ (.int .i64 f2)))
set_option maxRecDepth 100000
theorem rs10_rd0 (b7 b8 : Bool) : Region.ready .any rs10_ops #[true, true, true, false, false, false, false, false, false, false, b7, b8, false, false, false] = (3 :: ((if b7 then [] else [10]) ++ (if b8 then [] else [11])) : List Nat) := by
  cases b7 <;> cases b8 <;> kernel_rfl
theorem rs10_rd1 (b7 b8 : Bool) : Region.ready .any rs10_ops #[true, true, true, true, false, false, false, false, false, false, b7, b8, false, false, false] = (4 :: ((if b7 then [] else [10]) ++ (if b8 then [] else [11])) : List Nat) := by
  cases b7 <;> cases b8 <;> kernel_rfl
theorem rs10_rd2 (b7 b8 : Bool) : Region.ready .any rs10_ops #[true, true, true, true, true, false, false, false, false, false, b7, b8, false, false, false] = (5 :: ((if b7 then [] else [10]) ++ (if b8 then [] else [11])) : List Nat) := by
  cases b7 <;> cases b8 <;> kernel_rfl
theorem rs10_rd3 (b7 b8 : Bool) : Region.ready .any rs10_ops #[true, true, true, true, true, true, true, true, true, true, b7, b8, false, false, false] = (if (b7 && b8) = true then [12] else (if b7 then [] else [10]) ++ (if b8 then [] else [11]) : List Nat) := by
  cases b7 <;> cases b8 <;> kernel_rfl
include hC hFt fin in
set_option maxRecDepth 100000 in
set_option maxHeartbeats 1500000 in
theorem rs10_3 : ∀ (fuel : Nat) (b7 b8 : Bool), 3 + cnt3 b7 b8 true ≤ fuel → ∀ (s7 s8 : Value) (g7 g8 : Nat) (gt : Nat) (V : World) (na : Option Addr) (nk nc : Nat) (la : Option Addr) (lk lc : Nat) (oa : Option Addr) (ol oc : Nat) (f1 f2 : Int) (W0 W : World), R V W0 na nk nc la lk lc oa ol oc f1 f2 → Below W0.heap.size W0 W → Below X.heap.size X W → AlF W X.heap.size b7 s7 g7 #[.slice none 0 0, .slice none 0 0] 25 → AlF W X.heap.size b8 s8 g8 #[.slice none 0 0] 29 → X.heap.size ≤ V.heap.size → (b7 = true → g7 < V.heap.size ∨ W0.heap.size ≤ g7) → (b8 = true → g8 < V.heap.size ∨ W0.heap.size ≤ g8) → wpAnyZ Tryz.prog .any rs10_ops Q 12 (fun W => W.cell? ⟨gM, 0, none⟩ = some nb ∧ W.cell? ⟨gM, 1, none⟩ = some nl ∧ W.cell? ⟨gT, 0, none⟩ = some tb) fuel #[true, true, true, true, true, true, true, true, true, true, b7, b8, false, false, false] { tmps := #[x0, x1, x2, (.int .i64 more), x4, x5, x6, x7, x8, (.pointer (some ⟨gM, 0, none⟩)), (.pointer (some ⟨gT, 0, none⟩)), (.pointer (some ⟨gF, 0, none⟩)), s7, s8, x14, x15, x16, x17, x18, x19, x20, x21, x22, x23, x24, x25, x26, x27, x28, x29, x30, x31, x32, x33, x34, x35, x36, x37, x38, x39, x40, x41, x42, x43, x44, x45, x46, x47, (.tuple #[.agg #[.slice na nk nc, .slice la lk lc], .agg #[.slice oa ol oc], .agg #[.int .i64 f1, .int .i64 f2]]), (.agg #[nb, nl]), (.agg #[tb]), (.int .i64 more), (.agg #[.int .i64 1, .int .i64 more, .int .i64 0, .int .i64 0]), (.slice (some ⟨gt, 0, none⟩) 1 1), (.tuple #[.agg #[.slice na nk nc, .slice la lk lc], .agg #[.slice oa ol oc], .agg #[.int .i64 f1, .int .i64 f2]]), (.agg #[.slice na nk nc, .slice la lk lc]), (.agg #[.slice oa ol oc]), (.agg #[.int .i64 f1, .int .i64 f2]), x58, x59, x60, x61, x62, x63, x64, x65], defers := df } W := by
  intro fuel
  induction fuel with
  | zero => intro b7 b8 h; omega
  | succ fuel ih =>
    intro b7 b8 hf s7 s8 g7 g8 gt V na nk nc la lk lc oa ol oc f1 f2 W0 W hF hb hX h7 h8 hVX hz7 hz8
    have hHeld : (#[true, true, true, true, true, true, true, true, true, true, b7, b8, false, false, false] : Array Bool).getD 12 true = true ∨ (fun W => W.cell? ⟨gM, 0, none⟩ = some nb ∧ W.cell? ⟨gM, 1, none⟩ = some nl ∧ W.cell? ⟨gT, 0, none⟩ = some tb) W := Or.inr (hC W hX)
    by_cases hall : b7 = true ∧ b8 = true
    · obtain ⟨rfl, rfl⟩ := hall
      obtain ⟨rfl, k7, l7⟩ := h7 rfl
      obtain ⟨rfl, k8, l8⟩ := h8 rfl
      have k9 := keep hFt hX
      have l9 := lt_some hFt
      have hfin := fin gt V na nk nc la lk lc oa ol oc f1 f2 g7 g8 W0 W hF hb hX ⟨k7, k8, k9⟩ ⟨l7, l8, l9, hVX⟩ ⟨hz7 rfl, hz8 rfl⟩
      have n78 : g7 ≠ g8 := fun e => by subst e; exact absurd (cells_type k7 k8) (by decide)
      have n79 : g7 ≠ gF := by omega
      have n89 : g8 ≠ gF := by omega
      have n87 := n78.symm
      have n97 := n79.symm
      have n98 := n89.symm
      obtain ⟨u0, u1⟩ := two_cells2 k7
      have u2 := one_cell k8
      obtain ⟨u3, u4⟩ := two_cells2 k9
      have v0 : W.frozen? ⟨g7, 0, none⟩ = false := frozen_of_row _ _ _ _ _ k7
      have v1 : W.frozen? ⟨g7, 1, none⟩ = false := frozen_of_row _ _ _ _ _ k7
      have v2 : W.frozen? ⟨g8, 0, none⟩ = false := frozen_of_row _ _ _ _ _ k8
      have v3 : W.frozen? ⟨gF, 0, none⟩ = false := frozen_of_row _ _ _ _ _ k9
      have v4 : W.frozen? ⟨gF, 1, none⟩ = false := frozen_of_row _ _ _ _ _ k9
      obtain ⟨fuel, rfl⟩ : ∃ q, fuel = q + 1 + 1 := ⟨fuel - 2, by simp [cnt3] at hf; omega⟩
      clear k7 k8 k9 fin ih hz7 hz8 h7 h8
      refine z_one (i := 12) (o := { dst := none, op := Op.store 25 (Operand.tmp 12) (Operand.tmp 55), type := 0, pos := "law.go:87", after := #[{ on := 10, ground := Ground.data }, { on := 7, ground := Ground.data }, { on := 5, ground := Ground.chain }, { on := 0, ground := Ground.phase }, { on := 1, ground := Ground.phase }, { on := 2, ground := Ground.phase }, { on := 3, ground := Ground.phase }, { on := 4, ground := Ground.phase }, { on := 5, ground := Ground.phase }, { on := 6, ground := Ground.phase }, { on := 7, ground := Ground.phase }, { on := 8, ground := Ground.textOnly Departure.lateStores }, { on := 9, ground := Ground.textOnly Departure.lateStores }, { on := 10, ground := Ground.phase }, { on := 11, ground := Ground.phase }], guard := none }) (by kernel_rfl) rfl (fun K hK => ?_)
      go_simp
      refine hK.out _ _ (Or.inl (by kernel_rfl)) (fun hHeld => ?_)
      clear hK K
      (try simp only [List.setIfInBounds_toArray, List.set_cons_zero, List.set_cons_succ])
      refine z_one (i := 13) (o := { dst := none, op := Op.store 29 (Operand.tmp 13) (Operand.tmp 56), type := 0, pos := "law.go:87", after := #[{ on := 11, ground := Ground.data }, { on := 8, ground := Ground.data }, { on := 12, ground := Ground.chain }, { on := 0, ground := Ground.phase }, { on := 1, ground := Ground.phase }, { on := 2, ground := Ground.phase }, { on := 3, ground := Ground.phase }, { on := 4, ground := Ground.phase }, { on := 5, ground := Ground.phase }, { on := 6, ground := Ground.phase }, { on := 7, ground := Ground.phase }, { on := 8, ground := Ground.phase }, { on := 9, ground := Ground.textOnly Departure.lateStores }, { on := 10, ground := Ground.phase }, { on := 11, ground := Ground.phase }, { on := 12, ground := Ground.phase }], guard := none }) (by kernel_rfl) rfl (fun K hK => ?_)
      go_simp
      refine hK.out _ _ (Or.inl (by kernel_rfl)) (fun hHeld => ?_)
      clear hK K
      (try simp only [List.setIfInBounds_toArray, List.set_cons_zero, List.set_cons_succ])
      refine z_one (i := 14) (o := { dst := none, op := Op.store 32 (Operand.tmp 11) (Operand.tmp 57), type := 0, pos := "law.go:87", after := #[{ on := 9, ground := Ground.data }, { on := 13, ground := Ground.chain }, { on := 0, ground := Ground.phase }, { on := 1, ground := Ground.phase }, { on := 2, ground := Ground.phase }, { on := 3, ground := Ground.phase }, { on := 4, ground := Ground.phase }, { on := 5, ground := Ground.phase }, { on := 6, ground := Ground.phase }, { on := 7, ground := Ground.phase }, { on := 8, ground := Ground.phase }, { on := 9, ground := Ground.phase }, { on := 10, ground := Ground.phase }, { on := 11, ground := Ground.phase }, { on := 12, ground := Ground.phase }, { on := 13, ground := Ground.phase }], guard := none }) (by kernel_rfl) rfl (fun K hK => ?_)
      go_simp
      refine hK.out _ _ (Or.inl (by kernel_rfl)) (fun hHeld => ?_)
      clear hK K
      (try simp only [List.setIfInBounds_toArray, List.set_cons_zero, List.set_cons_succ])
      refine z_done (by kernel_rfl) ?_ _
      exact hfin
    · refine z_mem (rs10_rd3 b7 b8) (by revert hall; cases b7 <;> cases b8 <;> simp) (fun i hi => ?_)
      rw [if_neg (by revert hall; cases b7 <;> cases b8 <;> simp)] at hi
      simp only [List.mem_append] at hi
      rcases hi with hi | hi
      · cases b7 with
        | true => simp at hi
        | false =>
          obtain rfl : i = 10 := by simpa using hi
          refine z_op (o := { dst := some 12, op := Op.alloc 25, type := 0, pos := "law.go:87", after := #[], guard := none }) rfl (fun K hK => ?_)
          go_simp
          have hn : Below W.heap.size W (W.alloc (.cells #[.slice none 0 0, .slice none 0 0] 25)) := below_alloc1 _ _
          have hXn := hX.trans (hn.mono hX.size)
          refine hK.out _ _ (Or.inr (hC _ hXn)) ?_
          (try simp only [List.setIfInBounds_toArray, List.set_cons_zero, List.set_cons_succ])
          exact ih true b8 (by revert hf; cases b8 <;> simp [cnt3] <;> omega) _ s8 W.heap.size g8 gt V na nk nc la lk lc oa ol oc f1 f2 W0 _ hF (hb.trans (hn.mono hb.size)) hXn (AlF.new W hX.size _ _ _) (h8.below hn) hVX (fun _ => Or.inr hb.size) hz8
      · cases b8 with
        | true => simp at hi
        | false =>
          obtain rfl : i = 11 := by simpa using hi
          refine z_op (o := { dst := some 13, op := Op.alloc 29, type := 0, pos := "law.go:87", after := #[], guard := none }) rfl (fun K hK => ?_)
          go_simp
          have hn : Below W.heap.size W (W.alloc (.cells #[.slice none 0 0] 29)) := below_alloc1 _ _
          have hXn := hX.trans (hn.mono hX.size)
          refine hK.out _ _ (Or.inr (hC _ hXn)) ?_
          (try simp only [List.setIfInBounds_toArray, List.set_cons_zero, List.set_cons_succ])
          exact ih b7 true (by revert hf; cases b7 <;> simp [cnt3] <;> omega) s7 _ g7 W.heap.size gt V na nk nc la lk lc oa ol oc f1 f2 W0 _ hF (hb.trans (hn.mono hb.size)) hXn (h7.below hn) (AlF.new W hX.size _ _ _) hVX hz7 (fun _ => Or.inr hb.size)
include hQ hC hFt hP fin in
set_option maxRecDepth 100000 in
set_option maxHeartbeats 1500000 in
theorem rs10_2 : ∀ (fuel : Nat) (b7 b8 : Bool), 8 + cnt3 b7 b8 true ≤ fuel → ∀ (s7 s8 : Value) (g7 g8 : Nat) (gt : Nat) (W0 W : World), W0.heap[gt]? = some (.cells #[.int .i64 1, .int .i64 more, .int .i64 0, .int .i64 0] 45 (0, 0)) → Below W0.heap.size W0 W → Below X.heap.size X W → AlF W X.heap.size b7 s7 g7 #[.slice none 0 0, .slice none 0 0] 25 → AlF W X.heap.size b8 s8 g8 #[.slice none 0 0] 29 → wpAnyZ Tryz.prog .any rs10_ops Q 12 (fun W => W.cell? ⟨gM, 0, none⟩ = some nb ∧ W.cell? ⟨gM, 1, none⟩ = some nl ∧ W.cell? ⟨gT, 0, none⟩ = some tb) fuel #[true, true, true, true, true, false, false, false, false, false, b7, b8, false, false, false] { tmps := #[x0, x1, x2, (.int .i64 more), x4, x5, x6, x7, x8, (.pointer (some ⟨gM, 0, none⟩)), (.pointer (some ⟨gT, 0, none⟩)), (.pointer (some ⟨gF, 0, none⟩)), s7, s8, x14, x15, x16, x17, x18, x19, x20, x21, x22, x23, x24, x25, x26, x27, x28, x29, x30, x31, x32, x33, x34, x35, x36, x37, x38, x39, x40, x41, x42, x43, x44, x45, x46, x47, x48, (.agg #[nb, nl]), (.agg #[tb]), (.int .i64 more), (.agg #[.int .i64 1, .int .i64 more, .int .i64 0, .int .i64 0]), (.slice (some ⟨gt, 0, none⟩) 1 1), x54, x55, x56, x57, x58, x59, x60, x61, x62, x63, x64, x65], defers := df } W := by
  intro fuel
  induction fuel with
  | zero => intro b7 b8 h; omega
  | succ fuel ih =>
    intro b7 b8 hf s7 s8 g7 g8 gt W0 W hF hb hX h7 h8 
    refine z_mem (rs10_rd2 b7 b8) (by simp) (fun i hi => ?_)
    simp only [List.mem_cons, List.mem_append] at hi
    rcases hi with rfl | hi | hi
    · refine z_op (o := { dst := some 54, op := Op.call { callee := Callee.value (Operand.func 20), args := #[Operand.tmp 49, Operand.tmp 50, Operand.tmp 53], argTypes := #[25, 29, 26] }, type := 36, pos := "law.go:87", after := #[{ on := 0, ground := Ground.data }, { on := 1, ground := Ground.data }, { on := 4, ground := Ground.data }, { on := 3, ground := Ground.chain }], guard := none }) rfl (fun K hK => ?_)
      go_simp
      refine (hP W gt hX (one_do (d := tickD more) (keep hF hb))).mono ?_
      rintro e w2 ⟨na, nk, nc, la, lk, lc, oa, ol, oc, f1, f2, rfl, H⟩
      have hn := H.out.1
      have hXn := hX.trans (hn.mono hX.size)
      refine hK.out _ _ (Or.inr (hC _ hXn)) ?_
      (try simp only [List.setIfInBounds_toArray, List.set_cons_zero, List.set_cons_succ])
      obtain ⟨fuel, rfl⟩ : ∃ q, fuel = q + 1 + 1 + 1 + 1 := ⟨fuel - 4, by omega⟩
      refine z_take (i := 6) (oi := { dst := some 48, op := Op.move (Operand.tmp 54), type := 36, pos := "law.go:87", after := #[{ on := 5, ground := Ground.data }], guard := none }) (v := ?_) (some 48) rfl rfl (by cases b7 <;> cases b8 <;> kernel_rfl) (by cases b7 <;> cases b8 <;> kernel_rfl) (by cases b7 <;> cases b8 <;> kernel_rfl) (by decide) (fun c a w h => hQ c a _ _ w h) (by rfl) ?_ (Or.inr (hC _ hXn)) ?_
      rotate_left 1
      · (intro wq; go_simp; try with_reducible rfl)
      (try simp only [Act.put, List.setIfInBounds_toArray, List.set_cons_zero, List.set_cons_succ])
      refine z_take (i := 7) (oi := { dst := some 55, op := Op.extract (Operand.tmp 48) 0, type := 25, pos := "law.go:87", after := #[{ on := 6, ground := Ground.data }], guard := none }) (v := ?_) (some 55) rfl rfl (by cases b7 <;> cases b8 <;> kernel_rfl) (by cases b7 <;> cases b8 <;> kernel_rfl) (by cases b7 <;> cases b8 <;> kernel_rfl) (by decide) (fun c a w h => hQ c a _ _ w h) (by rfl) ?_ (Or.inr (hC _ hXn)) ?_
      rotate_left 1
      · (intro wq; go_simp; try with_reducible rfl)
      (try simp only [Act.put, List.setIfInBounds_toArray, List.set_cons_zero, List.set_cons_succ])
      refine z_take (i := 8) (oi := { dst := some 56, op := Op.extract (Operand.tmp 48) 1, type := 29, pos := "law.go:87", after := #[{ on := 6, ground := Ground.data }, { on := 12, ground := Ground.gcOnly Departure.lateStores }], guard := none }) (v := ?_) (some 56) rfl rfl (by cases b7 <;> cases b8 <;> kernel_rfl) (by cases b7 <;> cases b8 <;> kernel_rfl) (by cases b7 <;> cases b8 <;> kernel_rfl) (by decide) (fun c a w h => hQ c a _ _ w h) (by rfl) ?_ (Or.inr (hC _ hXn)) ?_
      rotate_left 1
      · (intro wq; go_simp; try with_reducible rfl)
      (try simp only [Act.put, List.setIfInBounds_toArray, List.set_cons_zero, List.set_cons_succ])
      refine z_take (i := 9) (oi := { dst := some 57, op := Op.extract (Operand.tmp 48) 2, type := 32, pos := "law.go:87", after := #[{ on := 6, ground := Ground.data }, { on := 13, ground := Ground.gcOnly Departure.lateStores }], guard := none }) (v := ?_) (some 57) rfl rfl (by cases b7 <;> cases b8 <;> kernel_rfl) (by cases b7 <;> cases b8 <;> kernel_rfl) (by cases b7 <;> cases b8 <;> kernel_rfl) (by decide) (fun c a w h => hQ c a _ _ w h) (by rfl) ?_ (Or.inr (hC _ hXn)) ?_
      rotate_left 1
      · (intro wq; go_simp; try with_reducible rfl)
      (try simp only [Act.put, List.setIfInBounds_toArray, List.set_cons_zero, List.set_cons_succ])
      exact rs10_3 df X gM gT gF nb nl tb p1 p2 more R x0 x1 x2 x4 x5 x6 x7 x8 x14 x15 x16 x17 x18 x19 x20 x21 x22 x23 x24 x25 x26 x27 x28 x29 x30 x31 x32 x33 x34 x35 x36 x37 x38 x39 x40 x41 x42 x43 x44 x45 x46 x47 x58 x59 x60 x61 x62 x63 x64 x65 hC hFt fin fuel b7 b8 (by omega) s7 s8 g7 g8 gt W na nk nc la lk lc oa ol oc f1 f2 w2 w2 H.out.2 (Below.refl _ _) hXn (h7.below hn) (h8.below hn) hX.size (fun e => Or.inl (lt_some (h7 e).2.1)) (fun e => Or.inl (lt_some (h8 e).2.1))
    · cases b7 with
      | true => simp at hi
      | false =>
        obtain rfl : i = 10 := by simpa using hi
        refine z_op (o := { dst := some 12, op := Op.alloc 25, type := 0, pos := "law.go:87", after := #[], guard := none }) rfl (fun K hK => ?_)
        go_simp
        have hn : Below W.heap.size W (W.alloc (.cells #[.slice none 0 0, .slice none 0 0] 25)) := below_alloc1 _ _
        have hXn := hX.trans (hn.mono hX.size)
        refine hK.out _ _ (Or.inr (hC _ hXn)) ?_
        (try simp only [List.setIfInBounds_toArray, List.set_cons_zero, List.set_cons_succ])
        exact ih true b8 (by revert hf; cases b8 <;> simp [cnt3] <;> omega) _ s8 W.heap.size g8 gt W0 _ hF (hb.trans (hn.mono hb.size)) hXn (AlF.new W hX.size _ _ _) (h8.below hn) 
    · cases b8 with
      | true => simp at hi
      | false =>
        obtain rfl : i = 11 := by simpa using hi
        refine z_op (o := { dst := some 13, op := Op.alloc 29, type := 0, pos := "law.go:87", after := #[], guard := none }) rfl (fun K hK => ?_)
        go_simp
        have hn : Below W.heap.size W (W.alloc (.cells #[.slice none 0 0] 29)) := below_alloc1 _ _
        have hXn := hX.trans (hn.mono hX.size)
        refine hK.out _ _ (Or.inr (hC _ hXn)) ?_
        (try simp only [List.setIfInBounds_toArray, List.set_cons_zero, List.set_cons_succ])
        exact ih b7 true (by revert hf; cases b7 <;> simp [cnt3] <;> omega) s7 _ g7 W.heap.size gt W0 _ hF (hb.trans (hn.mono hb.size)) hXn (h7.below hn) (AlF.new W hX.size _ _ _) 
include hQ hC hFt hP fin in
set_option maxRecDepth 100000 in
set_option maxHeartbeats 1500000 in
theorem rs10_1 : ∀ (fuel : Nat) (b7 b8 : Bool), 9 + cnt3 b7 b8 true ≤ fuel → ∀ (s7 s8 : Value) (g7 g8 : Nat) (W0 W : World), True → Below W0.heap.size W0 W → Below X.heap.size X W → AlF W X.heap.size b7 s7 g7 #[.slice none 0 0, .slice none 0 0] 25 → AlF W X.heap.size b8 s8 g8 #[.slice none 0 0] 29 → wpAnyZ Tryz.prog .any rs10_ops Q 12 (fun W => W.cell? ⟨gM, 0, none⟩ = some nb ∧ W.cell? ⟨gM, 1, none⟩ = some nl ∧ W.cell? ⟨gT, 0, none⟩ = some tb) fuel #[true, true, true, true, false, false, false, false, false, false, b7, b8, false, false, false] { tmps := #[x0, x1, x2, (.int .i64 more), x4, x5, x6, x7, x8, (.pointer (some ⟨gM, 0, none⟩)), (.pointer (some ⟨gT, 0, none⟩)), (.pointer (some ⟨gF, 0, none⟩)), s7, s8, x14, x15, x16, x17, x18, x19, x20, x21, x22, x23, x24, x25, x26, x27, x28, x29, x30, x31, x32, x33, x34, x35, x36, x37, x38, x39, x40, x41, x42, x43, x44, x45, x46, x47, x48, (.agg #[nb, nl]), (.agg #[tb]), (.int .i64 more), (.agg #[.int .i64 1, .int .i64 more, .int .i64 0, .int .i64 0]), x53, x54, x55, x56, x57, x58, x59, x60, x61, x62, x63, x64, x65], defers := df } W := by
  intro fuel
  induction fuel with
  | zero => intro b7 b8 h; omega
  | succ fuel ih =>
    intro b7 b8 hf s7 s8 g7 g8 W0 W hF hb hX h7 h8 
    refine z_mem (rs10_rd1 b7 b8) (by simp) (fun i hi => ?_)
    simp only [List.mem_cons, List.mem_append] at hi
    rcases hi with rfl | hi | hi
    · refine z_op (o := { dst := some 53, op := Op.buildSlice 26 1 #[(0, Operand.tmp 52)], type := 26, pos := "law.go:87", after := #[{ on := 3, ground := Ground.data }], guard := none }) rfl (fun K hK => ?_)
      go_simp
      have hn : Below W.heap.size W (W.alloc (.cells #[.int .i64 1, .int .i64 more, .int .i64 0, .int .i64 0] 45)) := below_alloc1 _ _
      have hXn := hX.trans (hn.mono hX.size)
      refine hK.out _ _ (Or.inr (hC _ hXn)) ?_
      (try simp only [List.setIfInBounds_toArray, List.set_cons_zero, List.set_cons_succ])
      exact rs10_2 df X gM gT gF nb nl tb p1 p2 more R x0 x1 x2 x4 x5 x6 x7 x8 x14 x15 x16 x17 x18 x19 x20 x21 x22 x23 x24 x25 x26 x27 x28 x29 x30 x31 x32 x33 x34 x35 x36 x37 x38 x39 x40 x41 x42 x43 x44 x45 x46 x47 x48 x54 x55 x56 x57 x58 x59 x60 x61 x62 x63 x64 x65 hQ hC hFt hP fin fuel b7 b8 (by omega) s7 s8 g7 g8 W.heap.size _ _ (heap_alloc_last _ _) (Below.refl _ _) hXn (h7.below hn) (h8.below hn)
    · cases b7 with
      | true => simp at hi
      | false =>
        obtain rfl : i = 10 := by simpa using hi
        refine z_op (o := { dst := some 12, op := Op.alloc 25, type := 0, pos := "law.go:87", after := #[], guard := none }) rfl (fun K hK => ?_)
        go_simp
        have hn : Below W.heap.size W (W.alloc (.cells #[.slice none 0 0, .slice none 0 0] 25)) := below_alloc1 _ _
        have hXn := hX.trans (hn.mono hX.size)
        refine hK.out _ _ (Or.inr (hC _ hXn)) ?_
        (try simp only [List.setIfInBounds_toArray, List.set_cons_zero, List.set_cons_succ])
        exact ih true b8 (by revert hf; cases b8 <;> simp [cnt3] <;> omega) _ s8 W.heap.size g8 W0 _ hF (hb.trans (hn.mono hb.size)) hXn (AlF.new W hX.size _ _ _) (h8.below hn) 
    · cases b8 with
      | true => simp at hi
      | false =>
        obtain rfl : i = 11 := by simpa using hi
        refine z_op (o := { dst := some 13, op := Op.alloc 29, type := 0, pos := "law.go:87", after := #[], guard := none }) rfl (fun K hK => ?_)
        go_simp
        have hn : Below W.heap.size W (W.alloc (.cells #[.slice none 0 0] 29)) := below_alloc1 _ _
        have hXn := hX.trans (hn.mono hX.size)
        refine hK.out _ _ (Or.inr (hC _ hXn)) ?_
        (try simp only [List.setIfInBounds_toArray, List.set_cons_zero, List.set_cons_succ])
        exact ih b7 true (by revert hf; cases b7 <;> simp [cnt3] <;> omega) s7 _ g7 W.heap.size W0 _ hF (hb.trans (hn.mono hb.size)) hXn (h7.below hn) (AlF.new W hX.size _ _ _) 
include hQ hC hFt hT hP fin in
set_option maxRecDepth 100000 in
set_option maxHeartbeats 1500000 in
theorem rs10_0 : ∀ (fuel : Nat) (b7 b8 : Bool), 10 + cnt3 b7 b8 true ≤ fuel → ∀ (s7 s8 : Value) (g7 g8 : Nat) (W0 W : World), True → Below W0.heap.size W0 W → Below X.heap.size X W → AlF W X.heap.size b7 s7 g7 #[.slice none 0 0, .slice none 0 0] 25 → AlF W X.heap.size b8 s8 g8 #[.slice none 0 0] 29 → wpAnyZ Tryz.prog .any rs10_ops Q 12 (fun W => W.cell? ⟨gM, 0, none⟩ = some nb ∧ W.cell? ⟨gM, 1, none⟩ = some nl ∧ W.cell? ⟨gT, 0, none⟩ = some tb) fuel #[true, true, true, false, false, false, false, false, false, false, b7, b8, false, false, false] { tmps := #[x0, x1, x2, (.int .i64 more), x4, x5, x6, x7, x8, (.pointer (some ⟨gM, 0, none⟩)), (.pointer (some ⟨gT, 0, none⟩)), (.pointer (some ⟨gF, 0, none⟩)), s7, s8, x14, x15, x16, x17, x18, x19, x20, x21, x22, x23, x24, x25, x26, x27, x28, x29, x30, x31, x32, x33, x34, x35, x36, x37, x38, x39, x40, x41, x42, x43, x44, x45, x46, x47, x48, (.agg #[nb, nl]), (.agg #[tb]), (.int .i64 more), x52, x53, x54, x55, x56, x57, x58, x59, x60, x61, x62, x63, x64, x65], defers := df } W := by
  intro fuel
  induction fuel with
  | zero => intro b7 b8 h; omega
  | succ fuel ih =>
    intro b7 b8 hf s7 s8 g7 g8 W0 W hF hb hX h7 h8 
    refine z_mem (rs10_rd0 b7 b8) (by simp) (fun i hi => ?_)
    simp only [List.mem_cons, List.mem_append] at hi
    rcases hi with rfl | hi | hi
    · refine z_op (o := { dst := some 52, op := Op.call { callee := Callee.value (Operand.func 23), args := #[Operand.tmp 51], argTypes := #[3] }, type := 45, pos := "law.go:87", after := #[{ on := 2, ground := Ground.data }], guard := none }) rfl (fun K hK => ?_)
      go_simp
      refine (hT W).mono ?_
      rintro e w2 ⟨rfl, hn⟩
      have hXn := hX.trans (hn.mono hX.size)
      refine hK.out _ _ (Or.inr (hC _ hXn)) ?_
      (try simp only [List.setIfInBounds_toArray, List.set_cons_zero, List.set_cons_succ])
      exact rs10_1 df X gM gT gF nb nl tb p1 p2 more R x0 x1 x2 x4 x5 x6 x7 x8 x14 x15 x16 x17 x18 x19 x20 x21 x22 x23 x24 x25 x26 x27 x28 x29 x30 x31 x32 x33 x34 x35 x36 x37 x38 x39 x40 x41 x42 x43 x44 x45 x46 x47 x48 x53 x54 x55 x56 x57 x58 x59 x60 x61 x62 x63 x64 x65 hQ hC hFt hP fin fuel b7 b8 (by omega) s7 s8 g7 g8 w2 w2 trivial (Below.refl _ _) hXn (h7.below hn) (h8.below hn)
    · cases b7 with
      | true => simp at hi
      | false =>
        obtain rfl : i = 10 := by simpa using hi
        refine z_op (o := { dst := some 12, op := Op.alloc 25, type := 0, pos := "law.go:87", after := #[], guard := none }) rfl (fun K hK => ?_)
        go_simp
        have hn : Below W.heap.size W (W.alloc (.cells #[.slice none 0 0, .slice none 0 0] 25)) := below_alloc1 _ _
        have hXn := hX.trans (hn.mono hX.size)
        refine hK.out _ _ (Or.inr (hC _ hXn)) ?_
        (try simp only [List.setIfInBounds_toArray, List.set_cons_zero, List.set_cons_succ])
        exact ih true b8 (by revert hf; cases b8 <;> simp [cnt3] <;> omega) _ s8 W.heap.size g8 W0 _ hF (hb.trans (hn.mono hb.size)) hXn (AlF.new W hX.size _ _ _) (h8.below hn) 
    · cases b8 with
      | true => simp at hi
      | false =>
        obtain rfl : i = 11 := by simpa using hi
        refine z_op (o := { dst := some 13, op := Op.alloc 29, type := 0, pos := "law.go:87", after := #[], guard := none }) rfl (fun K hK => ?_)
        go_simp
        have hn : Below W.heap.size W (W.alloc (.cells #[.slice none 0 0] 29)) := below_alloc1 _ _
        have hXn := hX.trans (hn.mono hX.size)
        refine hK.out _ _ (Or.inr (hC _ hXn)) ?_
        (try simp only [List.setIfInBounds_toArray, List.set_cons_zero, List.set_cons_succ])
        exact ih b7 true (by revert hf; cases b7 <;> simp [cnt3] <;> omega) s7 _ g7 W.heap.size W0 _ hF (hb.trans (hn.mono hb.size)) hXn (h7.below hn) (AlF.new W hX.size _ _ _) 
include hQ hC hFt hT hP fin in
set_option maxHeartbeats 1500000 in
theorem rs10 (x12 x13 x49 x50 x51 : Value) : (Code.region 10 rs10_ops true).wp Tryz.prog Q { tmps := #[x0, x1, x2, (.int .i64 more), x4, x5, x6, x7, x8, (.pointer (some ⟨gM, 0, none⟩)), (.pointer (some ⟨gT, 0, none⟩)), (.pointer (some ⟨gF, 0, none⟩)), x12, x13, x14, x15, x16, x17, x18, x19, x20, x21, x22, x23, x24, x25, x26, x27, x28, x29, x30, x31, x32, x33, x34, x35, x36, x37, x38, x39, x40, x41, x42, x43, x44, x45, x46, x47, x48, x49, x50, x51, x52, x53, x54, x55, x56, x57, x58, x59, x60, x61, x62, x63, x64, x65], defers := df } X := by
  have hXd : Below X.heap.size X X.drew := Below.drew (Below.refl _ _)
  refine wp_region_z (z := 12) (C := fun W => W.cell? ⟨gM, 0, none⟩ = some nb ∧ W.cell? ⟨gM, 1, none⟩ = some nl ∧ W.cell? ⟨gT, 0, none⟩ = some tb) (by kernel_rfl) (hC _ hXd) (fun hHeld => ?_)
  refine z_load (i := 0) (oi := { dst := some 49, op := Op.load 25 (Operand.tmp 9), type := 25, pos := "law.go:87", after := #[], guard := none }) (v := ?_) (some 49) rfl rfl (by kernel_rfl) (by kernel_rfl) (by kernel_rfl) (by kernel_rfl) (fun c a w h => hQ c a _ _ w h) (by rfl) ?_ hHeld ?_
  rotate_left 1
  · (intro wq hSw; go_simp; try with_reducible rfl)
  (try simp only [Act.put, List.setIfInBounds_toArray, List.set_cons_zero, List.set_cons_succ])
  refine z_load (i := 1) (oi := { dst := some 50, op := Op.load 29 (Operand.tmp 10), type := 29, pos := "law.go:87", after := #[], guard := none }) (v := ?_) (some 50) rfl rfl (by kernel_rfl) (by kernel_rfl) (by kernel_rfl) (by kernel_rfl) (fun c a w h => hQ c a _ _ w h) (by rfl) ?_ hHeld ?_
  rotate_left 1
  · (intro wq hSw; go_simp; try with_reducible rfl)
  (try simp only [Act.put, List.setIfInBounds_toArray, List.set_cons_zero, List.set_cons_succ])
  refine z_take (i := 2) (oi := { dst := some 51, op := Op.move (Operand.tmp 3), type := 3, pos := "law.go:87", after := #[], guard := none }) (v := ?_) (some 51) rfl rfl (by kernel_rfl) (by kernel_rfl) (by kernel_rfl) (by decide) (fun c a w h => hQ c a _ _ w h) (by rfl) ?_ hHeld ?_
  rotate_left 1
  · (intro wq; go_simp; try with_reducible rfl)
  (try simp only [Act.put, List.setIfInBounds_toArray, List.set_cons_zero, List.set_cons_succ])
  exact rs10_0 df X gM gT gF nb nl tb p1 p2 more R x0 x1 x2 x4 x5 x6 x7 x8 x14 x15 x16 x17 x18 x19 x20 x21 x22 x23 x24 x25 x26 x27 x28 x29 x30 x31 x32 x33 x34 x35 x36 x37 x38 x39 x40 x41 x42 x43 x44 x45 x46 x47 x48 x52 x53 x54 x55 x56 x57 x58 x59 x60 x61 x62 x63 x64 x65 hQ hC hFt hT hP fin _ false false (by simp [cnt3]) _ _ 0 0 X _ trivial hXd hXd (fun e => by cases e) (fun e => by cases e)
end
end Go.Proofs.YtaneiffnhphkhaaGreatDoor

namespace Go.Proofs.YtaneiffnhphkhaaGreatDoor
open Go.RowKit
open Vc (V Of)
open Pl (Br Net Pc Lk En St)
open Tk (Md Mnd Cn Sc Dn)

theorem sn_pts2 {W W2 : World} {n : Net} {T : Nat} {s : Sc} {x : Nat} {n' n2 : Net} {oa oa2 : Option Addr} {oc oc2 : Nat} {t' t2 : List Tr} (h : SnOut W n T s n' oa oc t') (h2 : SnOut W2 n' T (s.ticks n.cn x) n2 oa2 oc2 t2) (i : Nat) : n'.pts i = n2.pts i := by
  obtain ⟨_, _, e3, _⟩ := sn_net h
  obtain ⟨_, _, f3, _⟩ := sn_net h2
  unfold Pl.Net.pts
  rw [e3, f3, h.cn]
  rfl
set_option maxRecDepth 100000 in
set_option maxHeartbeats 6000000 in
theorem tsettles_any (n : Net) (trees : Int) (dao : Option Addr) (dn dcap : Nat) (ds : Nat → Dn) (more : Int) (w : World) (hwf : n.Wf) (hat : n.at' w) (hdx : dn ≤ 1000000000000000) (hds : DRow w dao dn dcap ds) (hnil : NilOk dao dn dcap) (htb : Tabs w) (hbt : 2 ≤ w.heap.size) :
    Calls Tryz.prog 5 #[n.val, .int .i64 trees, .slice dao dn dcap, .int .i64 more] w fun e w' => e = .returned (.bool true) ∧ Below w.heap.size w w' := by
  obtain ⟨X, HX⟩ : ∃ X, Hid (X = w.alloc (.cells #[.slice n.bao n.K n.bcap, .slice n.lao n.L n.lcap] 25)) := ⟨_, rfl⟩
  have hXB : Below w.heap.size w X := by rw [HX.out]; exact below_alloc1 _ _
  have hX0 : X.heap[w.heap.size]? = some (.cells #[.slice n.bao n.K n.bcap, .slice n.lao n.L n.lcap] 25 (0, 0)) := by rw [HX.out]; exact heap_alloc_last _ _
  have HTB : Hid (∀ V, Below X.heap.size X V → (Tabs V ∧ 2 ≤ V.heap.size) ∧ n.at' V ∧ DRow V dao dn dcap ds ∧ (V.cell? ⟨w.heap.size, 0, none⟩ = some (.slice n.bao n.K n.bcap) ∧ V.cell? ⟨w.heap.size, 1, none⟩ = some (.slice n.lao n.L n.lcap)) ∧ Below w.heap.size w V) := fun V hV => by
    have h := hXB.trans (hV.mono hXB.size)
    exact ⟨⟨htb.below h hbt, Nat.le_trans hbt h.size⟩, hat.below h, CRow.below hds h, two_cells2 (keep hX0 hV), h⟩
  have HWF : Hid n.Wf := hwf
  have HNL : Hid (NilOk dao dn dcap) := hnil
  clear hwf hat hds htb hbt hXB hX0 hnil
  simp only [Pl.Net.val]
  go_enter Tryz.func5, Tryz.ntmps5
  go_wp2_with fail
  rw [← HX.out]
  obtain ⟨⟨t1, t2⟩, _⟩ := HTB.out X (Below.refl _ _)
  refine (t7alive_any X t1 t2).mono ?_
  rintro e w1 ⟨rfl, HB1⟩
  have H1 : Hid (Below X.heap.size X w1) := HB1
  clear t1 t2 HB1
  have HBW : Hid (Below w.heap.size w w1) := (HTB.out w1 H1.out).2.2.2.2
  by_cases hm1 : more < 0
  · clear HTB HWF HNL
    go_wp2_with fail
    go_ret
    exact ⟨rfl, HBW.out⟩
  by_cases hm2 : 100 < more
  · have hm3 : more > 100 := hm2
    clear HTB HWF HNL
    go_wp2_with fail
    go_ret
    exact ⟨rfl, HBW.out⟩
  by_cases hbig : 30 < dn + 2
  · have hb1 : (30 : Int) < (dn : Int) + 2 := by omega
    clear HTB HWF HNL
    go_wp2_with fail
    go_ret
    exact ⟨rfl, HBW.out⟩
  · have hb1 : ¬ (30 : Int) < (dn : Int) + 2 := by omega
    have hm3 : ¬ more > 100 := hm2
    clear HBW
    go_wp2_with fail
    refine rs5 [] w1 w.heap.size (.slice n.bao n.K n.bcap) (.slice n.lao n.L n.lcap) trees dao dn dcap ds (fun V W0 na nk nc la lk lc oa ol oc f1 f2 => PlF V W0 n trees (dsT dn ds 40) (dn + 1) na nk nc la lk lc oa ol oc f1 f2) _ _ _ _ _ _ _ _ _ _ _ _ _ _ _ _ _ _ _ _ _ _ _ _ _ _ _ _ _ _ _ _ _ _ _ _ _ _ _ _ _ _ _ _ _ _ _ _ _ _ _ _ _ _ _ _ _ ?hQ ?hC ?hdn ?hnil ?hds ?hT ?hP ?fin _ _ _ _ _ _
    case hQ => exact fun _ _ _ _ _ h => h
    case hC => exact fun V hV => (HTB.out V (H1.out.trans (hV.mono H1.out.size))).2.2.2.1
    case hdn => omega
    case hnil => exact HNL.out
    case hds => exact fun V hV => (HTB.out V (H1.out.trans (hV.mono H1.out.size))).2.2.1
    case hT => exact fun V => t7ticks_any 40 V
    case hP =>
      intro V a2 c2 hV hrow
      obtain ⟨⟨t1, t2⟩, a1, _⟩ := HTB.out V (H1.out.trans (hV.mono H1.out.size))
      exact tplay_flat n trees a2 (dn + 1) c2 (dsT dn ds 40) V HWF.out a1 (by omega) hrow t1 t2
    case fin =>
      intro v27 a1 c1 gt a2 c2 V na nk nc la lk lc oa ol oc f1 f2 g7 g8 g9 W0 W hR hb hX ⟨k7, k8, k9⟩ ⟨l7, l8, l9⟩ ⟨z7, z8, z9⟩
      have n78 : g7 ≠ g8 := fun e => by subst e; exact absurd (cells_type k7 k8) (by decide)
      have n79 : g7 ≠ g9 := fun e => by subst e; exact absurd (cells_type k7 k9) (by decide)
      have n89 : g8 ≠ g9 := fun e => by subst e; exact absurd (cells_type k8 k9) (by decide)
      obtain ⟨Z, HZ⟩ : ∃ Z, Hid (Z = ((((W.setCell ⟨g7, 0, none⟩ (.slice na nk nc)).setCell ⟨g7, 1, none⟩ (.slice la lk lc)).setCell ⟨g8, 0, none⟩ (.slice oa ol oc)).setCell ⟨g9, 0, none⟩ (.int .i64 f1)).setCell ⟨g9, 1, none⟩ (.int .i64 f2)) := ⟨_, rfl⟩
      have zs : Z.heap.size = W.heap.size := by rw [HZ.out]; simp
      have y7 : Z.heap[g7]? = some (.cells #[.slice na nk nc, .slice la lk lc] 25 (0, 0)) := by rw [HZ.out]; exact set_keep (set_keep (set_keep (set2_same k7) n78) n79) n79
      have y8 : Z.heap[g8]? = some (.cells #[.slice oa ol oc] 29 (0, 0)) := by rw [HZ.out]; exact set_keep (set_keep (set1_same (set_keep (set_keep k8 n78.symm) n78.symm)) n89) n89
      have y9 : Z.heap[g9]? = some (.cells #[.int .i64 f1, .int .i64 f2] 32 (0, 0)) := by rw [HZ.out]; exact set2_same (set_keep (set_keep (set_keep k9 n79.symm) n79.symm) n89.symm)
      have hws : w1.heap.size ≤ W.heap.size := hX.size
      have hZX : Below w1.heap.size w1 Z := by rw [HZ.out]; exact ((((hX.setCell l7 _).setCell l7 _).setCell l8 _).setCell l9 _).setCell l9 _
      have hXZ : Below X.heap.size X Z := H1.out.trans (hZX.mono H1.out.size)
      have HBZ : Hid (Below w.heap.size w Z) := (HTB.out Z hXZ).2.2.2.2
      obtain ⟨c9, _⟩ := two_cells2 y9
      rcases hR with ⟨q, ⟨rfl, rfl⟩, _⟩ | ⟨q, ⟨rfl, rfl⟩, n', t', ⟨rfl, rfl, rfl⟩, ⟨rfl, rfl, rfl⟩, rfl, b, hVb, hK⟩
      · have q1 : ((plErr n trees (dsT dn ds 40) (dn + 1)).1 != 0) = true := by simpa using q
        clear HTB HWF HNL H1 hb hX k7 k8 k9 y7 y8 y9 hZX hXZ hws zs z7 z8 z9 l7 l8 l9 q
        rw [← HZ.out]
        go_wp2_with fail
        go_ret
        exact ⟨rfl, HBZ.out⟩
      · obtain ⟨⟨p1, p2⟩, p3, p4⟩ := plErr_zero q
        have hS : ∀ U, Below Z.heap.size Z U → SnOut U n trees.toNat ((n.sc (startMs n)).all n.cn (dsT dn ds 40) (dn + 1)) n' oa oc t' := fun U hU => boxes_kept hK hVb hb z7 z8 z9 (by rw [← HZ.out, ← zs]; exact hU)
        have hS0 := hS Z (Below.refl _ _)
        have HSS : Hid (∀ U, Below Z.heap.size Z U → SnOut U n trees.toNat ((n.sc (startMs n)).all n.cn (dsT dn ds 40) (dn + 1)) n' oa oc t') := hS
        have HTZ : Hid (∀ U, Below Z.heap.size Z U → (Tabs U ∧ 2 ≤ U.heap.size) ∧ Below w.heap.size w U) := fun U hU => ⟨(HTB.out U (hXZ.trans (hU.mono hXZ.size))).1, (HTB.out U (hXZ.trans (hU.mono hXZ.size))).2.2.2.2⟩
        have HCZ : Hid (∀ U, Below Z.heap.size Z U → (U.cell? ⟨g7, 0, none⟩ = some (.slice n'.bao n'.K n'.bcap) ∧ U.cell? ⟨g7, 1, none⟩ = some (.slice n'.lao n'.L n'.lcap)) ∧ U.cell? ⟨g8, 0, none⟩ = some (.slice oa t'.length oc)) := fun U hU => ⟨two_cells2 (keep y7 hU), one_cell (keep y8 hU)⟩
        have HY9 : Hid (Z.heap[g9]? = some (.cells #[.int .i64 0, .int .i64 0] 32 (0, 0))) := y9
        have HY8 : Hid (Z.heap[g8]? = some (.cells #[.slice oa t'.length oc] 29 (0, 0))) := y8
        have HPP : Hid ((n.wrong.1 = 0 ∧ 1 ≤ trees ∧ trees ≤ 4) ∧ ∀ k, k < dn + 1 → Tk.errOf n.cn (dsT dn ds 40 k) = 0) := ⟨⟨p1, p2⟩, p4⟩
        clear HTB HNL H1 hb hX k7 k8 k9 y7 y8 y9 hZX hXZ hws z7 z8 z9 l7 l8 l9 q hK hVb hS hS0 p1 p2 p3 p4 HBZ
        rw [← HZ.out]
        have hS0 := HSS.out Z (Below.refl _ _)
        have HOK0 : Hid (Tk.Ok n.cn ((n.sc (startMs n)).all n.cn ds dn) trees.toNat) := (start_ok HWF.out HPP.out.1.1 _).all ds dn (dsT_err HPP.out.2)
        have HAS : Hid (AsT n' t') := by
          have hS1 := hS0
          rw [all_ticks] at hS1
          exact sn_as hS1 (by have := HPP.out.1.2; omega) HOK0.out (by decide) (sn_pts hS0 HWF.out HPP.out.1.1 HPP.out.2) rfl
        have HAC : Hid (Calls Tryz.prog 24 #[.agg #[.slice n'.bao n'.K n'.bcap, .slice n'.lao n'.L n'.lcap], .agg #[.slice oa t'.length oc]] Z fun e w' => e = .returned (.bool true) ∧ Hid (Below Z.heap.size Z w')) := (tas_any n' oa oc t' Z hS0.net hS0.wf hS0.right hS0.row HAS.out (HTZ.out Z (Below.refl _ _)).1.1 (HTZ.out Z (Below.refl _ _)).1.2).mono (fun e w' h => ⟨h.1, h.2⟩)
        obtain ⟨⟨c70, c71⟩, c80⟩ := HCZ.out Z (Below.refl _ _)
        clear hS0
        go_wp2_with fail
        refine HAC.out.mono ?_
        rintro e w4 ⟨rfl, H4⟩
        clear HAC c70 c71 c80 c9
        go_wp2_with fail
        refine rs10 [] w4 g7 g8 g9 (.slice n'.bao n'.K n'.bcap) (.slice n'.lao n'.L n'.lcap) (.slice oa t'.length oc) 0 0 more (fun V W0 na nk nc la lk lc oa ol oc f1 f2 => OnF V W0 n' trees.toNat (((n.sc (startMs n)).all n.cn (dsT dn ds 40) (dn + 1)).ticks n.cn more.toNat) na nk nc la lk lc oa ol oc f1 f2) _ _ _ _ _ _ _ _ _ _ _ _ _ _ _ _ _ _ _ _ _ _ _ _ _ _ _ _ _ _ _ _ _ _ _ _ _ _ _ _ _ _ _ _ _ _ _ _ _ _ _ _ _ _ _ _ _ ?hQ ?hC ?hFt ?hT ?hP ?fin _ _ _ _ _
        case hQ => exact fun _ _ _ _ _ h => h
        case hC =>
          intro V hV
          have hV := H4.out.trans (hV.mono H4.out.size)
          exact ⟨(HCZ.out V hV).1.1, (HCZ.out V hV).1.2, (HCZ.out V hV).2⟩
        case hFt => exact keep HY9.out H4.out
        case hT => exact fun V => t7ticks_any more V
        case hP =>
          intro V g hV hrow
          have hV := H4.out.trans (hV.mono H4.out.size)
          exact on_more (HSS.out V hV) HWF.out HPP.out.1.1 HPP.out.2 (by have := HPP.out.1.2; omega) (x := more) (by omega) hrow (HTZ.out V hV).1.1 (HTZ.out V hV).1.2
        case fin =>
          intro gt V na nk nc la lk lc oa2 ol oc2 f1 f2 g10 g11 W0 W hR hb hX ⟨k7, k8, k9⟩ ⟨l7, l8, l9, lV⟩ ⟨z7, z8⟩
          obtain ⟨⟨rfl, rfl⟩, n2, t2, ⟨rfl, rfl, rfl⟩, ⟨rfl, rfl, rfl⟩, rfl, b, hVb, hK⟩ := hR
          have m78 : g10 ≠ g11 := fun e => by subst e; exact absurd (cells_type k7 k8) (by decide)
          have m79 : g9 ≠ g10 := fun e => by subst e; exact absurd l9 (Nat.not_lt.2 l7)
          have m89 : g9 ≠ g11 := fun e => by subst e; exact absurd l9 (Nat.not_lt.2 l8)
          obtain ⟨Z2, HZ2⟩ : ∃ Z2, Hid (Z2 = ((((W.setCell ⟨g10, 0, none⟩ (.slice n2.bao n2.K n2.bcap)).setCell ⟨g10, 1, none⟩ (.slice n2.lao n2.L n2.lcap)).setCell ⟨g11, 0, none⟩ (.slice oa2 t2.length oc2)).setCell ⟨g9, 0, none⟩ (.int .i64 0)).setCell ⟨g9, 1, none⟩ (.int .i64 0)) := ⟨_, rfl⟩
          have hZZ : Below w4.heap.size w4 Z2 := by rw [HZ2.out]; exact boxes_same hX l7 l8 m79 m89 k9
          have zs2 : Z2.heap.size = W.heap.size := by rw [HZ2.out]; simp
          have y11 : Z2.heap[g11]? = some (.cells #[.slice oa2 t2.length oc2] 29 (0, 0)) := by rw [HZ2.out]; exact set_keep (set_keep (set1_same (set_keep (set_keep k8 m78.symm) m78.symm)) m89.symm) m89.symm
          have y9 := keep (keep HY9.out H4.out) hZZ
          have hS2 : ∀ U, Below Z2.heap.size Z2 U → SnOut U n' trees.toNat (((n.sc (startMs n)).all n.cn (dsT dn ds 40) (dn + 1)).ticks n.cn more.toNat) n2 oa2 oc2 t2 := fun U hU => boxes_kept hK hVb hb z7 z8 (Or.inl (Nat.lt_of_lt_of_le l9 lV)) (by rw [← HZ2.out, ← zs2]; exact hU)
          have y10 : Z2.heap[g10]? = some (.cells #[.slice n2.bao n2.K n2.bcap, .slice n2.lao n2.L n2.lcap] 25 (0, 0)) := by rw [HZ2.out]; exact set_keep (set_keep (set_keep (set2_same k7) m78) m79.symm) m79.symm
          have hS20 := hS2 Z2 (Below.refl _ _)
          have hZ2 : Below Z.heap.size Z Z2 := H4.out.trans (hZZ.mono H4.out.size)
          have hS0 := HSS.out Z2 hZ2
          have hcn : n'.cn = n.cn := hS0.cn
          have HA2 : Hid (AsT n2 t2) := by
            have hS3 := hS20
            rw [all_ticks, Tk.Sc.ticks_add, ← hcn] at hS3
            exact sn_as hS3 (by have := HPP.out.1.2; omega) (by rw [hcn]; exact HOK0.out) (by show 33 ≤ 40 + _; omega) (sn_pts2 hS0 hS20) rfl
          have HAC : Hid (Calls Tryz.prog 24 #[.agg #[.slice n2.bao n2.K n2.bcap, .slice n2.lao n2.L n2.lcap], .agg #[.slice oa2 t2.length oc2]] Z2 fun e w' => e = .returned (.bool true) ∧ Hid (Below w.heap.size w w')) := (tas_any n2 oa2 oc2 t2 Z2 hS20.net hS20.wf hS20.right hS20.row HA2.out (HTZ.out Z2 hZ2).1.1 (HTZ.out Z2 hZ2).1.2).mono (fun e w' h => ⟨h.1, (HTZ.out _ (hZ2.trans (h.2.mono hZ2.size))).2⟩)
          obtain ⟨c100, c101⟩ := two_cells2 y10
          have c110 := one_cell y11
          obtain ⟨c90, c91⟩ := two_cells2 y9
          clear hb hX k7 k8 k9 l7 l8 l9 lV z7 z8 hVb hK m78 m79 m89 hZZ zs2 y10 y11 y9 hS2 hS20 hS0 HSS HTZ HCZ HY9 HY8 HPP HWF hZ2 hcn HA2 HAS HOK0 H4
          rw [← HZ2.out]
          go_wp2_with fail
          refine HAC.out.mono ?_
          rintro e w6 ⟨rfl, H6⟩
          go_wp2_with fail
          go_ret
          exact ⟨rfl, H6.out⟩
end Go.Proofs.YtaneiffnhphkhaaGreatDoor

namespace Go.Proofs.YtaneiffnhphkhaaGreatDoor.talkSettles
open Go.ChangeShapes Go.WideShapes Go.ChangeAt Go.RowKit

set_option maxRecDepth 100000 in
theorem contract (H : Type) (enc : TypeId × Value → H) (W : World) (base : Nat) (args : Array Value) (ds gs : List (DataW H)) (before : List MemPlace)
    (hval : ∀ (j : Nat) t v, Tryz.f5.params[j]? = some t → args[j]? = some v → Value.okWide Tryz.prog W .any base t v)
    (hW : DataW.Whole enc Tryz.prog Tryz.f5.params.toList Rows.talkSettlesSpec.vars false W args.toList ds gs before)
    (hsz : (DataW.weightsEach Tryz.prog (Tryz.f5.params.toList ++ (OpenSpec.ofChange Rows.talkSettlesSpec).bare.plain.varTypes Tryz.prog) (ds ++ gs)).all (· ≤ reachBytes) = true)
    (hL : laidMetH Tryz.prog Rows.talkSettlesRow.laid W) :
    Calls Tryz.prog 5 args W fun e W' => ∃ v, e = .returned v ∧ Rows.talkSettlesSpec.post enc Tryz.prog Tryz.f5 false true false false W args v W' := by
  have hW' := hW
  obtain ⟨p, q, hA0, hV, rfl, hfz, hnd⟩ := hW
  have hA : DataW.TrodAll enc Tryz.prog W 0 (fun _ => true) true Tryz.f5.params.toList args.toList ds p := hA0
  rw [Tryz.params5] at hA hval hsz
  obtain ⟨v0, vs0, d0, ds0, p0, q0, hargs, rfl, rfl, h0, r0⟩ := trodAll_cons hA
  obtain ⟨v1, vs1, d1, ds1, p1, q1, rfl, rfl, rfl, h1, r1⟩ := trodAll_cons r0
  obtain ⟨v2, vs2, d2, ds2, p2, q2, rfl, rfl, rfl, h2, r2⟩ := trodAll_cons r1
  obtain ⟨v3, vs3, d3, ds3, p3, q3, rfl, rfl, rfl, h3, r3⟩ := trodAll_cons r2
  obtain ⟨rfl, rfl, rfl⟩ := trodAll_nil r3
  obtain rfl : args = #[v0, v1, v2, v3] := by cases args; simp_all
  obtain ⟨rfl, rfl⟩ := trodVars_none hV
  have lt0 : ∀ x ∈ p0, x.block < W.heap.size := by obtain ⟨m, hm⟩ := h0; exact DataW.trod_lt m _ _ _ hm
  obtain ⟨n0, rfl, hat0, hwf0, hz0⟩ := net_in (hval 0 25 v0 rfl rfl) h0
  have lt1 : ∀ x ∈ p1, x.block < W.heap.size := by obtain ⟨m, hm⟩ := h1; exact DataW.trod_lt m _ _ _ hm
  obtain ⟨z1, rfl⟩ := okWide_int Tryz.underlying3 (hval 1 3 v1 rfl rfl)
  have lt2 : ∀ x ∈ p2, x.block < W.heap.size := by obtain ⟨m, hm⟩ := h2; exact DataW.trod_lt m _ _ _ hm
  obtain ⟨da2, dn2, dc2, dd2, rfl, hd2, hnl2, hdn2, hdz2⟩ := dos_in (hval 2 26 v2 rfl rfl) h2
  have lt3 : ∀ x ∈ p3, x.block < W.heap.size := by obtain ⟨m, hm⟩ := h3; exact DataW.trod_lt m _ _ _ hm
  obtain ⟨z3, rfl⟩ := okWide_int Tryz.underlying3 (hval 3 3 v3 rfl rfl)
  have hall := hsz
  simp only [List.cons_append, DataW.weightsEach, List.all_append, Bool.and_eq_true] at hall
  have hm2 := hdz2 hall.2.2.1
  unfold reachBytes at hm2
  have hT := tabs_of hL
  have hG : 2 ≤ W.heap.size := hT.lt
  clear hA0 hall hsz
  refine (tsettles_any n0 z1 da2 dn2 dc2 dd2 z3 W hwf0 hat0 (by omega) hd2 hnl2 hT hG).mono fun e W' ⟨he, bel⟩ => ?_
  subst he
  exact ⟨_, rfl, _, _, _, [], _, [], hW', trodAll_mk1 (shut_bool Tryz.underlying4 _), (trodAll_cons_mk (Below.trod laidOut (by kernel_rfl) (of_decide_eq_true (by kernel_rfl)) h0 bel lt0) (trodAll_cons_mk (Below.trod laidOut (by kernel_rfl) (of_decide_eq_true (by kernel_rfl)) h1 bel lt1) (trodAll_cons_mk (Below.trod laidOut (by kernel_rfl) (of_decide_eq_true (by kernel_rfl)) h2 bel lt2) (trodAll_cons_mk (Below.trod laidOut (by kernel_rfl) (of_decide_eq_true (by kernel_rfl)) h3 bel lt3) trodAll_mk0)))), rfl, bel.frame _, fun h => by cases h⟩

theorem laid_met (os : Os) : laidMet Tryz.prog Rows.talkSettlesRow.laid ((laidW (World.holding Tryz.prog os ⟨#[], #[], []⟩)).forCall (fun _ _ => 0) ⟨#[], #[.agg #[.slice none 0 0, .slice none 0 0], .int .i64 0, .slice none 0 0, .int .i64 0], []⟩).memory :=
  laidMet_of_run' 8 (by kernel_rfl) (by kernel_rfl)
theorem reads (os : Os) {H : Type} (enc : TypeId × Value → H) : ∃ places, DataW.whole enc Tryz.prog ((laidW (World.holding Tryz.prog os ⟨#[], #[], []⟩)).forCall (fun _ _ => 0) ⟨#[], #[.agg #[.slice none 0 0, .slice none 0 0], .int .i64 0, .slice none 0 0, .int .i64 0], []⟩).memory Tryz.f5.params.toList Rows.talkSettlesSpec.vars false #[Value.agg #[.slice none 0 0, .slice none 0 0], .int .i64 0, .slice none 0 0, .int .i64 0].toList 8 = some ([.agg [.nil, .nil], .lit (.int .i64 0), .nil, .lit (.int .i64 0)], [], places) :=
  ⟨[], by kernel_rfl⟩

set_option maxRecDepth 100000 in
theorem lifted (os : Os) (started : os.Started) (H : Type) (enc : TypeId × Value → H) (F : Stop.Interp) :
    ReturnsInHanded {} Tryz.checked os 5 .any ((OpenSpec.ofChange Rows.talkSettlesSpec).preRow enc Tryz.prog Tryz.f5 Rows.talkSettlesRow.domain false Rows.talkSettlesRow.laid) (((OpenSpec.ofChange Rows.talkSettlesSpec).at F).post enc Tryz.prog Tryz.f5 false true false false) := by
  obtain ⟨places, hx⟩ := reads os enc
  refine returnsInHanded_of_row (C := Tryz.checked) (s := OpenSpec.ofChange Rows.talkSettlesSpec) own started (by kernel_rfl) Tryz.func5
    (witness_row_at (enc := enc) (C := Tryz.checked) false (laidW (World.holding Tryz.prog os ⟨#[], #[], []⟩)) #[.agg #[.slice none 0 0, .slice none 0 0], .int .i64 0, .slice none 0 0, .int .i64 0] rfl (by kernel_rfl) (by kernel_rfl) (by kernel_rfl)
      (OpenSpec.preRow_of_cond 8 hx (by kernel_rfl) (fun k hk => by cases hk) (by kernel_rfl) (laid_met os))) ?_
  intro W base args ds gs before hval hW _ _ hsz hL _ _
  exact contract H enc W base args ds gs before hval hW hsz hL

theorem said : Rows.TalkSettlesSaid :=
  OpenClaim.holds_of_cond 5 Tryz.f5 rfl rfl rfl rfl rfl rfl rfl ⟨rfl, rfl, rfl, rfl, rfl⟩ rfl rfl rfl rfl rfl (by kernel_rfl) Tryz.func5 (by kernel_rfl)
    (of_decide_eq_true (by kernel_rfl)) (by unfold Func.isWrapper; first | (rw [if_pos (by decide +kernel)]; kernel_rfl) | (rw [if_neg (by decide +kernel)]; exact ⟨rfl, rfl⟩))
    (fun os started H enc _ F => by rw [OpenClaim.pre_eq_preRow]; exact lifted os started H enc F)

theorem plain (f : FuncId) (fn : Func) (hf : Tryz.pinned.checked.prog.funcNamed "hedgerow/hedgelaw7.TalkSettles" = some f) (hfn : Tryz.pinned.checked.prog.funcs[f]? = some fn) :
    false = Tryz.pinned.checked.prog.looks [] ∧ ∀ (j : Nat) t, fn.params[j]? = some t → Tryz.pinned.checked.prog.wantsStandIn t = false := by
  obtain rfl : f = 5 := Option.some.inj ((show Tryz.prog.funcNamed "hedgerow/hedgelaw7.TalkSettles" = some 5 by kernel_rfl).symm.trans hf) |>.symm
  obtain rfl : fn = Tryz.f5 := (Option.some.inj (Tryz.func5.symm.trans hfn)).symm
  refine ⟨by kernel_rfl, fun j t ht => ?_⟩
  rw [Tryz.params5] at ht
  have h1 : Tryz.prog.wantsStandIn 25 = false := by kernel_rfl
  have h2 : Tryz.prog.wantsStandIn 3 = false := by kernel_rfl
  have h3 : Tryz.prog.wantsStandIn 26 = false := by kernel_rfl
  have ht2 : t = 25 ∨ t = 3 ∨ t = 26 ∨ t = 3 := by simpa using Array.mem_of_getElem? ht
  rcases ht2 with rfl | rfl | rfl | rfl
  · exact h1
  · exact h2
  · exact h3
  · exact h2

/-- ████ THE CARD ████ -/
theorem card : Rows.TalkSettlesCardSaid :=
  Claim7.holds_tied_plain_at .later [] _ _ _ _ said (fun _ h => by cases h) (by kernel_rfl) (fun _ h => by cases h) talkSettles_row_tie rfl ⟨rfl, rfl⟩ (by kernel_rfl) rfl plain (by kernel_rfl)
end Go.Proofs.YtaneiffnhphkhaaGreatDoor.talkSettles
namespace Go.Proofs.YtaneiffnhphkhaaGreatDoor
/-- THEY COME TO AGREE: the statement, as it was given. -/
theorem talkSettles_card : Rows.TalkSettlesCardSaid := talkSettles.card
#print axioms talkSettles_card
end Go.Proofs.YtaneiffnhphkhaaGreatDoor
