/- 'hedgelaw7.TalkOn' returns true for every net, every number of trees and whatever is done, in two parts, and leaves it as it was: the row and its tied card. Conditions: none beyond the form's own (the tables lie as the program's text lays them: the card's tie). -/
import Derived.Test.YtaneiffnhphkhaaGreatDoorK36
import Derived.Test.YtaneiffnhphkhaaGreatDoorK28
import Derived.Test.YtaneiffnhphkhaaGreatDoorK12
import Derived.Test.YtaneiffnhphkhaaGreatDoorK37
import Derived.Test.YtaneiffnhphkhaaGreatDoorK32
import Derived.Test.YtaneiffnhphkhaaGreatDoorCards
import Derived.Test.YtaneiffnhphkhaaGreatDoorTie
import Derived.BigQuiet
import Derived.Deep.QuietTactic
namespace Go.Proofs.YtaneiffnhphkhaaGreatDoor
open Go.RowKit
open Tk (Dn)

section
variable {P : Program} {ops : Array Oper} {Q : Exit → Act → World → Prop} {md : Region.Mode} {z : Nat} {C : World → Prop}
theorem z_mem {fuel : Nat} {listed : Array Bool} {a : Act} {w : World} {rs : List Nat} (hr : Region.ready md ops listed = rs) (hne : rs ≠ [])
    (h : ∀ i, i ∈ rs → wpOp P ops Q i (fun a' w' => ((listed.setIfInBounds i true).getD z true = true ∨ C w') ∧ wpAnyZ P md ops Q z C fuel (listed.setIfInBounds i true) a' w') a w) : wpAnyZ P md ops Q z C (fuel + 1) listed a w :=
  ⟨fun h0 => absurd (hr.symm.trans h0) hne, fun i hi => h i (by rw [← hr]; exact hi)⟩
theorem z_op {i : Nat} {o : Oper} {fuel : Nat} {listed : Array Bool} {a : Act} {w : World} (ho : ops[i]? = some o)
    (h : ∀ K' : Act → World → Prop, Shut (∀ a w, ((listed.setIfInBounds i true).getD z true = true ∨ C w) → wpAnyZ P md ops Q z C fuel (listed.setIfInBounds i true) a w → K' a w) → if Region.wanted o (yielded ops a.tmps) = true then Oper.wp P o a w K' Q else K' (a.put o.dst undef) w) :
    wpOp P ops Q i (fun a' w' => ((listed.setIfInBounds i true).getD z true = true ∨ C w') ∧ wpAnyZ P md ops Q z C fuel (listed.setIfInBounds i true) a' w') a w :=
  wpOp_step ho (fun K' hK => h K' (fun a w hS hW => hK a w ⟨hS, hW⟩))
end
def cnt3 (a b c : Bool) : Nat := (if a then 0 else 1) + (if b then 0 else 1) + (if c then 0 else 1)
/-- A variable's box, if it is there. -/
def AlF (W : World) (lo : Nat) (b : Bool) (s : Value) (g : Nat) (z : Array Value) (ty : TypeId) : Prop := b = true → s = .pointer (some ⟨g, 0, none⟩) ∧ W.heap[g]? = some (.cells z ty (0, 0)) ∧ lo ≤ g
theorem AlF.below {W W' : World} {lo : Nat} {b : Bool} {s : Value} {g : Nat} {z : Array Value} {ty : TypeId} (h : AlF W lo b s g z ty) (hb : Below W.heap.size W W') : AlF W' lo b s g z ty := fun e => ⟨(h e).1, keep (h e).2.1 hb, (h e).2.2⟩
theorem AlF.new (W : World) {lo : Nat} (hl : lo ≤ W.heap.size) (b : Bool) (z : Array Value) (ty : TypeId) : AlF (W.alloc (.cells z ty)) lo b (.pointer (some ⟨W.heap.size, 0, none⟩)) W.heap.size z ty := fun _ => ⟨rfl, heap_alloc_last _ _, hl⟩
theorem AlF.app {W W' : World} {lo lo2 n k e : Nat} {v : Value} {xs : List Value} {b : Bool} {s : Value} {g : Nat} {z : Array Value} {ty : TypeId} (h : AlF W lo b s g z ty) (ho : W.ownsRow lo2 e k v n xs) (hq : ∀ q, q < W.heap.size → some q ≠ v.ownBlock → W'.heap[q]? = W.heap[q]?) (hne : ty ≠ e) : AlF W' lo b s g z ty := fun eb => by
  obtain ⟨h1, h2, h3⟩ := h eb
  refine ⟨h1, (hq g (lt_some h2) (fun hv => ?_)).trans h2, h3⟩
  obtain ⟨c2, h4⟩ := owns_type ho hv.symm
  exact hne (cells_type h2 h4)
/-- What is done, and so many ticks more. -/
def dsT (dn : Nat) (ds : Nat → Dn) (tk : Int) (i : Nat) : Dn := if i < dn then ds i else tickD tk
theorem infoDo : (Tryz.prog.info? 45).map (fun i => (i.zero, i.size, i.bytes)) = some (some (.agg #[.int .i64 0, .int .i64 0, .int .i64 0, .int .i64 0]), 4, 32) := by kernel_rfl
theorem dnC_one (d : Dn) (j : Nat) : (dnC d j).oneCell' = true := by
  unfold dnC
  repeat' split
  all_goals rfl
abbrev runAppD (v x : Value) (w : World) (v' : Value) (w' : World) : Prop := (Builtin.append_ #[26, 26] 26 #[v, x]).run Tryz.prog w = .ok v' w'
theorem own_empty (W : World) {lo : Nat} (hl : lo ≤ W.heap.size) : (W.alloc (.cells #[] 45)).ownsRow lo 45 4 (.slice (some ⟨W.heap.size, 0, none⟩) 0 0) 0 (cellsL 0 4 (fun _ _ => .int .i64 0)) :=
  ⟨cellsL_length _ _ _, Or.inr ⟨W.heap.size, 0, #[], rfl, hl, heap_alloc_last _ _, Nat.le_refl _, by unfold maxLen; omega, rfl, by simp [cellsL]⟩⟩
/-- 'append([]api.Do{}, l...)'. -/
theorem do_copy {W : World} {lo : Nat} {v : Value} {dao : Option Addr} {dn dcap : Nat} {ds : Nat → Dn} (ho : W.ownsRow lo 45 4 v 0 (cellsL 0 4 (fun _ _ => .int .i64 0))) (hr : DRow W dao dn dcap ds) (hnil : NilOk dao dn dcap) (hn : dn * 32 ≤ 140737488355328) (hl : lo ≤ W.heap.size) :
    ∃ a1 c1 w', runAppD v (.slice dao dn dcap) W (.slice a1 dn c1) w' ∧ w'.ownsRow lo 45 4 (.slice a1 dn c1) dn (cellsL dn 4 (fun i => dnC (ds i))) ∧ Below lo W w' ∧ (∀ q, q < W.heap.size → some q ≠ v.ownBlock → w'.heap[q]? = W.heap[q]?) := by
  obtain ⟨a1, c1, w', r, o, b, q⟩ := append_c W 26 45 _ 4 32 Tryz.underlying26 infoDo rfl (by omega) lo v 0 _ ho dao dn dcap (fun i => dnC (ds i)) (fun _ _ => dnC_one _ _) hr hnil (by unfold maxLen; omega) (by omega) hl
  rw [Nat.zero_add] at r o
  rw [cellsL_congr dn 4 _ (fun i => dnC (ds i)) (fun i hi => by unfold catC; rw [if_neg (by omega), Nat.sub_zero])] at o
  exact ⟨a1, c1, w', r, o, b, q⟩
/-- 'append(.., ticks(t))'. -/
theorem do_more {W : World} {lo : Nat} {a1 : Option Addr} {c1 dn g : Nat} {ds : Nat → Dn} {tk : Int} (ho : W.ownsRow lo 45 4 (.slice a1 dn c1) dn (cellsL dn 4 (fun i => dnC (ds i)))) (hg : W.heap[g]? = some (.cells #[.int .i64 1, .int .i64 tk, .int .i64 0, .int .i64 0] 45 (0, 0))) (hn : dn ≤ 100000) (hl : lo ≤ W.heap.size) :
    ∃ a2 c2 w', runAppD (.slice a1 dn c1) (.slice (some ⟨g, 0, none⟩) 1 1) W (.slice a2 (dn + 1) c2) w' ∧ w'.ownsRow lo 45 4 (.slice a2 (dn + 1) c2) (dn + 1) (cellsL (dn + 1) 4 (fun i => dnC (dsT dn ds tk i))) ∧ Below lo W w' ∧ (∀ q, q < W.heap.size → some q ≠ (Value.slice a1 dn c1).ownBlock → w'.heap[q]? = W.heap[q]?) := by
  obtain ⟨a2, c2, w', r, o, b, q⟩ := append_c W 26 45 _ 4 32 Tryz.underlying26 infoDo rfl (by omega) lo (.slice a1 dn c1) dn _ ho (some ⟨g, 0, none⟩) 1 1 (fun _ => dnC (tickD tk)) (fun _ _ => dnC_one _ _) (one_do (d := tickD tk) hg) (fun h => by cases h) (by unfold maxLen; omega) (by omega) hl
  rw [cellsL_congr (dn + 1) 4 _ (fun i => dnC (dsT dn ds tk i)) (fun i hi => by
    unfold catC dsT
    by_cases h : i < dn
    · rw [if_pos h, if_pos h]
    · rw [if_neg h, if_neg h])] at o
  exact ⟨a2, c2, w', r, o, b, q⟩
theorem own_do {W : World} {lo dn c : Nat} {a : Option Addr} {ds : Nat → Dn} (h : W.ownsRow lo 45 4 (.slice a dn c) dn (cellsL dn 4 (fun i => dnC (ds i)))) : DRow W a dn c ds := (owns_cs (by omega) h).2
end Go.Proofs.YtaneiffnhphkhaaGreatDoor

namespace Go.Proofs.YtaneiffnhphkhaaGreatDoor
open Go.RowKit
open Vc (V Of)
open Pl (Br Net Pc Lk En St)
open Tk (Md Mnd Cn Sc Dn)

theorem start_ok {n : Net} (hw : n.Wf) (h : n.wrong.1 = 0) (T : Nat) : Tk.Ok n.cn (n.sc (startMs n)) T := by
  refine ⟨net_fine hw h _, fun k hk i hi => ?_, fun k hk i hi j => ?_⟩
  · rw [Pl.Net.sc_E]
    have e : (n.pts i).length = (n.ends i).length := by unfold Pl.Net.pts; simp
    show (zer (n.pts i).length).length = _ ∧ (zer (n.pts i).length).length = _
    rw [zer_len]
    exact ⟨e, e⟩
  · show 0 ≤ (zer (n.pts i).length).getD j 0 ∧ (0 < (zer (n.pts i).length).getD j 0 → _)
    rw [zer_get]
    exact ⟨Int.le_refl _, fun h => absurd h (Int.lt_irrefl _)⟩
theorem all_ticks (s : Sc) (c : Cn) (ds : Nat → Dn) (dn : Nat) (tk : Int) : s.all c (dsT dn ds tk) (dn + 1) = (s.all c ds dn).ticks c tk.toNat := by
  have e : dsT dn ds tk = fun k => if k < dn then ds k else tickD tk := rfl
  rw [e, Tk.all_last, Tk.Sc.one_tick rfl]
  rfl
theorem dsT_err {c : Cn} {ds : Nat → Dn} {dn : Nat} {tk : Int} (h : ∀ k, k < dn + 1 → Tk.errOf c (dsT dn ds tk k) = 0) : ∀ k, k < dn → Tk.errOf c (ds k) = 0 := fun k hk => by
  have := h k (by omega)
  unfold dsT at this
  rw [if_pos hk] at this
  exact this
theorem sn_net {W : World} {n : Net} {T : Nat} {s : Sc} {n' : Net} {oa : Option Addr} {oc : Nat} {t' : List Tr} (h : SnOut W n T s n' oa oc t') : n'.K = n.K ∧ n'.L = n.L ∧ n'.ends = s.E n.cn ∧ ∀ k : Int, n'.ids k = s.ids n.cn k := by
  have e1 : n'.K = n.K := congrArg Cn.K h.cn
  have e2 : n'.L = n.L := congrArg Cn.L h.cn
  refine ⟨e1, e2, ?_, fun k => ?_⟩
  · have := Pl.Net.sc_E n' s.ms
    rw [h.sc, h.cn] at this
    exact this.symm
  · funext i
    have := net_ids (n := n') s.ms k i
    rw [h.sc, h.cn] at this
    exact this.symm
theorem idx_at {l : List Int} {j : Nat} (hj : j < l.length) (h : ∀ a, a < j → l.getD a 0 ≠ l.getD j 0) : Bk.idx l (l.getD j 0) l.length = (j : Int) := by
  have H : ∀ k, k ≤ l.length → Bk.idx l (l.getD j 0) k = if j < k then (j : Int) else -1 := by
    intro k
    induction k with
    | zero => intro _; rfl
    | succ k ih =>
      intro hk
      have ih := ih (by omega)
      show (if 0 ≤ Bk.idx l (l.getD j 0) k then Bk.idx l (l.getD j 0) k else if l.getD j 0 = l.getD k 0 then (k : Int) else -1) = _
      rw [ih]
      by_cases q : j < k
      · rw [if_pos q, if_pos (by omega), if_pos (by omega)]
      · rw [if_neg q, if_neg (by omega)]
        by_cases q2 : j = k
        · subst q2
          rw [if_pos rfl, if_pos (by omega)]
        · rw [if_neg (fun e => h k (by omega) e.symm), if_neg (by omega)]
  rw [H _ (Nat.le_refl _), if_pos hj]
theorem EL_get {es : List En} {j : Nat} (hj : j < es.length) : es[j]? = some (EL es j) := by
  simp [EL, hj]
theorem pts_get {es : List En} {j : Nat} (hj : j < es.length) : (es.map (fun e : En => e.port)).getD j 0 = (EL es j).port := by
  simp [EL, hj]
/-- THE TREE OPENS, as it lies. -/
theorem sn_opens {W : World} {n : Net} {T : Nat} {ds : Nat → Dn} {dn : Nat} {tk : Int} {n' : Net} {oa : Option Addr} {oc : Nat} {t' : List Tr} (h : SnOut W n T ((n.sc (startMs n)).all n.cn (dsT dn ds tk) (dn + 1)) n' oa oc t') (hw : n.Wf) (h0 : n.wrong.1 = 0) (he : ∀ k, k < dn → Tk.errOf n.cn (ds k) = 0) (ht : 83 ≤ tk.toNat)
    {k i j : Nat} (hk : k < T) (hi : i < n.K) (hj : j < (n'.ends i).length) :
    opT t' k i (EL (n'.ends i) j).port = decide (Pl.roleAt (Pl.rounds (n'.ids k) n'.ends n'.K n'.K i) (Pl.offs (n'.ends i) (Pl.rounds (n'.ids k) n'.ends n'.K n'.K)) (EL (n'.ends i) j) = 1 ∨ Pl.roleAt (Pl.rounds (n'.ids k) n'.ends n'.K n'.K i) (Pl.offs (n'.ends i) (Pl.rounds (n'.ids k) n'.ends n'.K n'.K)) (EL (n'.ends i) j) = 2) := by
  obtain ⟨e1, _, e3, e4⟩ := sn_net h
  have hE := h.each k hk
  have hlen := h.len
  rw [all_ticks] at hE e3 e4
  obtain ⟨s0, hs0⟩ : ∃ s0, s0 = (n.sc (startMs n)).all n.cn ds dn := ⟨_, rfl⟩
  rw [← hs0] at hE e3 e4
  have e3 : n'.ends = s0.E n.cn := e3
  have e4 : n'.ids k = s0.ids n.cn k := e4 k
  have hok : Tk.Ok n.cn s0 T := by rw [hs0]; exact (start_ok hw h0 T).all ds dn he
  have hsame := ((net_fine hw h0 (startMs n)).all ds dn he)
  rw [← hs0] at hsame
  have hpts : n.pts i = (n'.ends i).map (fun e : En => e.port) := by
    have := (hsame.2.len (net_fine hw h0 (startMs n)) hsame.1 i).1
    rw [Pl.Net.sc_E] at this
    rw [e3]
    exact this.symm
  obtain ⟨hl, hm⟩ := hE
  obtain ⟨hm1, hm2⟩ := hm i hi
  have hcalm : (mat (tat t' k).l i).calm = ((s0.ticks n.cn tk.toNat).ms k i).calm := congrArg Mnd.calm hm1
  have hfit := ((ok_ticks hok tk.toNat).fit k hk i hi).2
  have hfit : ((s0.ticks n.cn tk.toNat).ms k i).calm.length = (n'.ends i).length := by rw [e3]; exact hfit
  rw [e3] at hj hpts hfit ⊢
  have hop := hok.opens ht hk hi (EL_get hj)
  have hrole : (s0.roles n.cn k i).getD j 0 = Pl.roleAt (s0.says n.cn k i) (Pl.offs (s0.E n.cn i) (s0.says n.cn k)) (EL (s0.E n.cn i) j) := by
    unfold Tk.Sc.roles
    exact Tk.map_getD _ _ (EL_get hj)
  have hsays : Pl.rounds (n'.ids k) (s0.E n.cn) n'.K n'.K = s0.says n.cn k := by
    rw [e4, e1]
    rfl
  rw [hsays, ← hrole]
  have hidx : Bk.idx (mat (tat t' k).l i).ports (EL (s0.E n.cn i) j).port (mat (tat t' k).l i).ports.length = (j : Int) := by
    rw [hm2, hpts, ← pts_get hj]
    refine idx_at (by simpa using hj) (fun a ha => ?_)
    rw [pts_get (by omega), pts_get hj]
    have hs := Pl.ends_sorted hok.fine.links (s0.lv n.cn) i
    have := List.pairwise_iff_getElem.1 hs a j (by have := hj; unfold Tk.Sc.E at this; omega) (by have := hj; unfold Tk.Sc.E at this; exact this) ha
    have g1 : EL (s0.E n.cn i) a = (s0.E n.cn i)[a]'(by omega) := by simp [EL, show a < (s0.E n.cn i).length by omega]
    have g2 : EL (s0.E n.cn i) j = (s0.E n.cn i)[j] := by simp [EL, hj]
    rw [g1, g2]
    exact Int.ne_of_lt this
  unfold opT
  rw [Int.toNat_natCast, Int.toNat_natCast, if_pos ⟨⟨by omega, by omega⟩, ⟨by omega, by omega⟩⟩]
  unfold opM
  rw [hidx, hcalm, if_pos ⟨by omega, by omega⟩, Int.toNat_natCast]
  exact decide_eq_decide.2 hop
/-- Three variables' boxes, written behind a call: what the call left is as it was. -/
theorem boxes_kept {V W0 W U : World} {b g7 g8 g9 : Nat} {v0 v1 v2 v3 v4 : Value} {P : World → Prop} (hK : Kept W0 b P) (hVb : V.heap.size ≤ b) (hb : Below W0.heap.size W0 W) (z7 : g7 < V.heap.size ∨ W0.heap.size ≤ g7) (z8 : g8 < V.heap.size ∨ W0.heap.size ≤ g8) (z9 : g9 < V.heap.size ∨ W0.heap.size ≤ g9)
    (hU : Below W.heap.size (((((W.setCell ⟨g7, 0, none⟩ v0).setCell ⟨g7, 1, none⟩ v1).setCell ⟨g8, 0, none⟩ v2).setCell ⟨g9, 0, none⟩ v3).setCell ⟨g9, 1, none⟩ v4) U) : P U := hK U (fun q h1 h2 => by
  have hs := hb.size
  rw [hU.block q (by omega), heap_setCell_other _ _ _ _ (by show q ≠ g9; omega), heap_setCell_other _ _ _ _ (by show q ≠ g9; omega), heap_setCell_other _ _ _ _ (by show q ≠ g8; omega), heap_setCell_other _ _ _ _ (by show q ≠ g7; omega), heap_setCell_other _ _ _ _ (by show q ≠ g7; omega)]
  exact hb.block q h2)
end Go.Proofs.YtaneiffnhphkhaaGreatDoor

namespace Go.Proofs.YtaneiffnhphkhaaGreatDoor
open Go.RowKit
open Vc (V Of)
open Pl (Br Net Pc Lk En St)
open Tk (Md Mnd Cn Sc Dn)

theorem sn_pts {W : World} {n : Net} {T : Nat} {ds : Nat → Dn} {dn : Nat} {n' : Net} {oa : Option Addr} {oc : Nat} {t' : List Tr} (h : SnOut W n T ((n.sc (startMs n)).all n.cn ds dn) n' oa oc t') (hw : n.Wf) (h0 : n.wrong.1 = 0) (he : ∀ k, k < dn → Tk.errOf n.cn (ds k) = 0) (i : Nat) : n.pts i = n'.pts i := by
  obtain ⟨_, _, e3, _⟩ := sn_net h
  have hsame := ((net_fine hw h0 (startMs n)).all ds dn he)
  have := (hsame.2.len (net_fine hw h0 (startMs n)) hsame.1 i).1
  rw [Pl.Net.sc_E, ← e3] at this
  exact this.symm
theorem sn_fit {W : World} {n : Net} {T : Nat} {s : Sc} {n' : Net} {oa : Option Addr} {oc : Nat} {t' : List Tr} (h : SnOut W n T s n' oa oc t') (hT : 1 ≤ T ∧ T ≤ 4) (hp : ∀ i, n.pts i = n'.pts i) : fitT n' t' = true ∧ CalmT t' ∧ ∀ k, k < t'.length → ∀ i, i < n'.K → s.ms k i = msT t' k i := by
  obtain ⟨e1, _, e3, _⟩ := sn_net h
  have hl := h.len
  refine ⟨fit_iff.2 ⟨by omega, fun k hk => ?_⟩, fun k hk i hi j => ?_, fun k hk i hi => ?_⟩
  · rw [hl] at hk
    obtain ⟨a1, a2⟩ := h.each k hk
    refine ⟨a1.trans e1.symm, fun i hi => ?_⟩
    rw [e1] at hi
    obtain ⟨b1, b2⟩ := a2 i hi
    have hf := h.ok.fit k hk i hi
    have hpl : (n'.pts i).length = (s.E n.cn i).length := by unfold Pl.Net.pts; rw [e3]; simp
    rw [← b1] at hf
    exact ⟨b2.trans (hp i), hf.1.trans hpl.symm, hf.2.trans hpl.symm⟩
  · rw [hl] at hk
    obtain ⟨a1, a2⟩ := h.each k hk
    rw [a1] at hi
    obtain ⟨b1, _⟩ := a2 i hi
    have := h.ok.calm k hk i hi j
    rw [← b1] at this
    exact this
  · rw [hl] at hk
    rw [e1] at hi
    exact ((h.each k hk).2 i hi).1.symm
/-- What On leaves of what Play left, taken apart. -/
def OnF (V w' : World) (n' : Net) (T : Nat) (s : Sc) (na : Option Addr) (nk nc : Nat) (la : Option Addr) (lk lc : Nat) (oa : Option Addr) (ol oc : Nat) (f1 f2 : Int) : Prop :=
  (f1 = 0 ∧ f2 = 0) ∧ ∃ (n2 : Net) (t2 : List Tr), (na = n2.bao ∧ nk = n2.K ∧ nc = n2.bcap) ∧ (la = n2.lao ∧ lk = n2.L ∧ lc = n2.lcap) ∧ ol = t2.length ∧ ∃ b, V.heap.size ≤ b ∧ Kept w' b (fun U => SnOut U n' T s n2 oa oc t2)
theorem on_more {V : World} {n : Net} {T : Nat} {ds : Nat → Dn} {dn : Nat} {n' : Net} {oa : Option Addr} {oc : Nat} {t' : List Tr} (h : SnOut V n T ((n.sc (startMs n)).all n.cn ds dn) n' oa oc t') (hw : n.Wf) (h0 : n.wrong.1 = 0) (he : ∀ k, k < dn → Tk.errOf n.cn (ds k) = 0) (hT : 1 ≤ T ∧ T ≤ 4) {x : Int} (hx : 0 ≤ x ∧ x ≤ 200) {g : Nat} (hg : DRow V (some ⟨g, 0, none⟩) 1 1 (fun _ => tickD x)) (htb : Tabs V) (hbt : 2 ≤ V.heap.size) :
    Calls Tryz.prog 20 #[.agg #[.slice n'.bao n'.K n'.bcap, .slice n'.lao n'.L n'.lcap], .agg #[.slice oa t'.length oc], .slice (some ⟨g, 0, none⟩) 1 1] V fun e w' => ∃ na nk nc la lk lc oa ol oc f1 f2, e = .returned (.tuple #[.agg #[.slice na nk nc, .slice la lk lc], .agg #[.slice oa ol oc], .agg #[.int .i64 f1, .int .i64 f2]]) ∧ Hid (Below V.heap.size V w' ∧ OnF V w' n' T (((n.sc (startMs n)).all n.cn ds dn).ticks n.cn x.toNat) na nk nc la lk lc oa ol oc f1 f2) := by
  obtain ⟨hf, hc, hm⟩ := sn_fit h hT (sn_pts h hw h0 he)
  have herr : (onErr n' t' (fun _ => tickD x) 1).1 = 0 := by
    rw [on_start h.right hf, if_neg (by omega)]
    have : Tk.errOf n'.cn (tickD x) = 0 := by
      unfold Tk.errOf tickD
      simp only [if_pos]
      rw [if_pos hx]
    show (Pl.firstTo (fun _ => Tk.errOf n'.cn (tickD x)) 1).1 = 0
    rw [Pl.firstTo_all _ _ (fun _ _ => this)]
  refine (ton_any n' oa oc t' ((n.sc (startMs n)).all n.cn ds dn).ms (some ⟨g, 0, none⟩) 1 1 (fun _ => tickD x) V h.wf h.net h.row (by omega) hg hc hm htb hbt).mono ?_
  rintro e w' ⟨h1, ⟨h2, _⟩ | ⟨_, n2, oao, ocap, t2, rfl, b, hb, h3⟩⟩
  · exact absurd herr h2
  · refine ⟨n2.bao, n2.K, n2.bcap, n2.lao, n2.L, n2.lcap, oao, t2.length, ocap, 0, 0, rfl, h1, ⟨rfl, rfl⟩, n2, t2, ⟨rfl, rfl, rfl⟩, ⟨rfl, rfl, rfl⟩, rfl, b, hb, ?_⟩
    have e1 : (n'.sc ((n.sc (startMs n)).all n.cn ds dn).ms).all n'.cn (fun _ => tickD x) 1 = ((n.sc (startMs n)).all n.cn ds dn).ticks n.cn x.toNat := by
      rw [h.sc, h.cn]
      show ((n.sc (startMs n)).all n.cn ds dn).one n.cn (tickD x) = _
      rw [Tk.Sc.one_tick rfl]
      rfl
    rw [← h.len, ← e1]
    exact h3
/-- Two variables' boxes and an older one, written behind a call: what the call left is as it was. -/
theorem boxes_kept2 {V W0 W U : World} {b g7 g8 g9 : Nat} {v0 v1 v2 v3 v4 : Value} {P : World → Prop} (hK : Kept W0 b P) (hVb : V.heap.size ≤ b) (hb : Below W0.heap.size W0 W) (z7 : g7 < V.heap.size ∨ W0.heap.size ≤ g7) (z8 : g8 < V.heap.size ∨ W0.heap.size ≤ g8) (z9 : g9 < V.heap.size)
    (hU : Below W.heap.size (((((W.setCell ⟨g7, 0, none⟩ v0).setCell ⟨g7, 1, none⟩ v1).setCell ⟨g8, 0, none⟩ v2).setCell ⟨g9, 0, none⟩ v3).setCell ⟨g9, 1, none⟩ v4) U) : P U := boxes_kept hK hVb hb z7 z8 (Or.inl z9) hU
/-- The older box keeps what it had: nothing that was there has changed. -/
theorem boxes_same {X W : World} {g7 g8 g9 : Nat} {v0 v1 v2 : Value} (hX : Below X.heap.size X W) (l7 : X.heap.size ≤ g7) (l8 : X.heap.size ≤ g8) (n79 : g9 ≠ g7) (n89 : g9 ≠ g8) (k9 : W.heap[g9]? = some (.cells #[.int .i64 0, .int .i64 0] 32 (0, 0))) :
    Below X.heap.size X (((((W.setCell ⟨g7, 0, none⟩ v0).setCell ⟨g7, 1, none⟩ v1).setCell ⟨g8, 0, none⟩ v2).setCell ⟨g9, 0, none⟩ (.int .i64 0)).setCell ⟨g9, 1, none⟩ (.int .i64 0)) := by
  have h1 : Below X.heap.size X (((W.setCell ⟨g7, 0, none⟩ v0).setCell ⟨g7, 1, none⟩ v1).setCell ⟨g8, 0, none⟩ v2) := ((hX.setCell l7 _).setCell l7 _).setCell l8 _
  have h2 := below_same (set_keep (set_keep (set_keep k9 n79) n79) n89 : (((W.setCell ⟨g7, 0, none⟩ v0).setCell ⟨g7, 1, none⟩ v1).setCell ⟨g8, 0, none⟩ v2).heap[g9]? = _)
  exact h1.trans (h2.mono h1.size)
/-- One tick more, plain: nobody says anything else; roles stay, ports are calm for one tick more. -/
structure QuM (a b : Mi) : Prop where
  md : b.md = a.md
  roles : b.roles = a.roles
  len : b.calm.length = a.calm.length
  rlen : a.roles.length = a.calm.length
  calm : ∀ j, j < a.calm.length → (0 ≤ a.calm.getD j 0 ∧ a.calm.getD j 0 ≤ 50) ∧ b.calm.getD j 0 = Tk.calmOf (a.roles.getD j 0) (a.calm.getD j 0)
theorem calmOf_top {r c : Int} : Tk.calmOf r c ≤ 50 := by
  unfold Tk.calmOf
  split
  · split <;> omega
  · omega
theorem sn_quiet {W W2 : World} {n : Net} {T : Nat} {ds : Nat → Dn} {dn : Nat} {n' n2 : Net} {oa oa2 : Option Addr} {oc oc2 : Nat} {t' t2 : List Tr} (h : SnOut W n T ((n.sc (startMs n)).all n.cn (dsT dn ds 40) (dn + 1)) n' oa oc t') (h2 : SnOut W2 n' T (((n.sc (startMs n)).all n.cn (dsT dn ds 40) (dn + 1)).ticks n.cn 1) n2 oa2 oc2 t2) (hw : n.Wf) (h0 : n.wrong.1 = 0) (he : ∀ k, k < dn → Tk.errOf n.cn (ds k) = 0)
    {k i : Nat} (hk : k < T) (hi : i < n.K) : QuM (mat (tat t' k).l i) (mat (tat t2 k).l i) := by
  obtain ⟨e1, _, _, _⟩ := sn_net h
  obtain ⟨m1, _⟩ := (h.each k hk).2 i hi
  obtain ⟨m2, _⟩ := (h2.each k hk).2 i (by rw [e1]; exact hi)
  rw [all_ticks] at m1 m2
  obtain ⟨s0, hs0⟩ : ∃ s0, s0 = (n.sc (startMs n)).all n.cn ds dn := ⟨_, rfl⟩
  rw [← hs0] at m1 m2
  have hok : Tk.Ok n.cn s0 T := by rw [hs0]; exact (start_ok hw h0 T).all ds dn he
  rw [Tk.Sc.ticks_add] at m2
  have hok40 := ok_ticks hok 40
  have m1 : msT t' k i = Tk.ticksF (s0.ids n.cn k) (s0.E n.cn) (s0.ms k) 40 i := m1
  have m2 : msT t2 k i = Tk.ticksF (s0.ids n.cn k) (s0.E n.cn) (s0.ms k) 41 i := m2
  have q1 := Tk.quietF (hok.fine.good (s0.ids n.cn k)) hok.fine.ports (s0.ms k) (t := 41) (s := 40) (by omega) (by omega) hi
  have r40 := (Tk.settledF (hok.fine.good (s0.ids n.cn k)) hok.fine.ports (s0.ms k) (t := 40) (by omega) hi).2.2
  have r41 := (Tk.settledF (hok.fine.good (s0.ids n.cn k)) hok.fine.ports (s0.ms k) (t := 41) (by omega) hi).2.2
  have f39 := Tk.ticksF_fit (ids := s0.ids n.cn k) (hok.fit k hk) 39
  have f40 := Tk.ticksF_fit (ids := s0.ids n.cn k) (hok.fit k hk) 40
  have f41 := Tk.ticksF_fit (ids := s0.ids n.cn k) (hok.fit k hk) 41
  have c40 := Tk.ticksF_Calm (ids := s0.ids n.cn k) (hok.fit k hk) (hok.calm k hk) 40
  have a1 : (mat (tat t' k).l i).md = (Tk.ticksF (s0.ids n.cn k) (s0.E n.cn) (s0.ms k) 40 i).md := congrArg Mnd.md m1
  have a2 : (mat (tat t' k).l i).roles = (Tk.ticksF (s0.ids n.cn k) (s0.E n.cn) (s0.ms k) 40 i).roles := congrArg Mnd.roles m1
  have a3 : (mat (tat t' k).l i).calm = (Tk.ticksF (s0.ids n.cn k) (s0.E n.cn) (s0.ms k) 40 i).calm := congrArg Mnd.calm m1
  have b1 : (mat (tat t2 k).l i).md = (Tk.ticksF (s0.ids n.cn k) (s0.E n.cn) (s0.ms k) 41 i).md := congrArg Mnd.md m2
  have b2 : (mat (tat t2 k).l i).roles = (Tk.ticksF (s0.ids n.cn k) (s0.E n.cn) (s0.ms k) 41 i).roles := congrArg Mnd.roles m2
  have b3 : (mat (tat t2 k).l i).calm = (Tk.ticksF (s0.ids n.cn k) (s0.E n.cn) (s0.ms k) 41 i).calm := congrArg Mnd.calm m2
  have hf40 := f40 i hi
  have hf41 := f41 i hi
  refine ⟨b1.trans (q1.trans a1.symm), ?_, ?_, ?_, fun j hj => ⟨⟨?_, ?_⟩, ?_⟩⟩
  · rw [b2, a2]; exact r41.trans r40.symm
  · rw [b3, a3]; omega
  · rw [a2, a3]; omega
  · rw [a3]; exact (c40 i hi j).1
  · rw [a3] at hj ⊢
    have := Tk.tickF_calm (ids := s0.ids n.cn k) f39 hi (j := j) (by omega)
    rw [show Tk.ticksF (s0.ids n.cn k) (s0.E n.cn) (s0.ms k) 40 i = Tk.tickF (s0.ids n.cn k) (s0.E n.cn) (Tk.ticksF (s0.ids n.cn k) (s0.E n.cn) (s0.ms k) 39) i from rfl, this]
    exact calmOf_top
  · rw [a3] at hj
    have := Tk.tickF_calm (ids := s0.ids n.cn k) f40 hi (j := j) (by omega)
    rw [b3, a2, a3, show Tk.ticksF (s0.ids n.cn k) (s0.E n.cn) (s0.ms k) 41 i = Tk.tickF (s0.ids n.cn k) (s0.E n.cn) (Tk.ticksF (s0.ids n.cn k) (s0.E n.cn) (s0.ms k) 40) i from rfl, this]
    rw [show (Tk.tickF (s0.ids n.cn k) (s0.E n.cn) (Tk.ticksF (s0.ids n.cn k) (s0.E n.cn) (s0.ms k) 40) i).roles = (Tk.ticksF (s0.ids n.cn k) (s0.E n.cn) (s0.ms k) 41 i).roles from rfl, r41, r40]
end Go.Proofs.YtaneiffnhphkhaaGreatDoor

namespace Go.Proofs.YtaneiffnhphkhaaGreatDoor
open Go.RowKit
open Vc (V Of)
open Pl (Br Net Pc Lk En St)

set_option maxRecDepth 100000 in
set_option maxHeartbeats 1000000 in
theorem t7ints_any (ao bo : Option Addr) (n c1 c2 : Nat) (f : Nat → Int) (w : World) (hn : n ≤ 1000) (h1 : IRow w ao n c1 f) (h2 : IRow w bo n c2 f) :
    Calls Tryz.prog 37 #[.slice ao n c1, .slice bo n c2] w fun e w' => e = .returned (.bool true) ∧ ∃ m, w' = w.drewN m := by
  have HA : Hid (∀ m, IRow (w.drewN m) ao n c1 f ∧ IRow (w.drewN m) bo n c2 f) := fun m => ⟨CRow.below h1 (below_drewN (Below.refl _ _) m), CRow.below h2 (below_drewN (Below.refl _ _) m)⟩
  have k1 := h1.1
  have k2 := h2.1
  clear h1 h2
  go_enter Tryz.func37, Tryz.ntmps37
  go_wp2_with fail
  go_loopw [13] (fun i wr => ∃ k m : Nat, k ≤ n ∧ i = .int .i64 k ∧ wr = w.drewN m) (fun i _ => n - (intOf i).toNat)
  case atStart => exact ⟨0, 0, by omega, rfl, rfl⟩
  case round =>
    obtain ⟨k, m, hk, rfl, HW⟩ := hrel
    by_cases hlt : k < n
    · obtain ⟨r1, r2⟩ := HA.out m
      rw [← HW] at r1 r2
      obtain ⟨b1, o1, rfl, _⟩ := CRow.some r1 (by omega)
      obtain ⟨b2, o2, rfl, _⟩ := CRow.some r2 (by omega)
      have x1 := IRow.cells r1 hlt
      have x2 := IRow.cells r2 hlt
      have HE : Hid (wr = w.drewN m) := HW
      have i0 : (0 : Int) ≤ (k : Int) := by omega
      have i1 : (k : Int) < (n : Int) := by omega
      clear r1 r2 HA HW
      generalize f k = z at *
      go_wp2_with fail
      go_quiet (fail)
      go_wp2_with fail
      exact ⟨⟨k + 1, _, by omega, by go_num, by rw [HE.out, World.drewN_drewN]⟩, by simp [intOf]; omega⟩
    · have hnk : ¬ (k : Int) < (n : Int) := by omega
      have HE : Hid (wr = w.drewN m) := HW
      clear HA HW
      go_wp2_with fail
      go_ret
      exact ⟨rfl, m, HE.out⟩
/-- Two bridges that say the same. -/
structure SameB (a b : Br) : Prop where
  addr : b.addr = a.addr
  pn : b.pn = a.pn
  pv : ∀ j, j < a.pn → b.pv j = a.pv j
  s : b.reg.s = a.reg.s
  rev : b.reg.rev = a.reg.rev
  n : b.reg.n = a.reg.n
  ways : ∀ j, j < a.reg.n → b.reg.vs j = a.reg.vs j ∧ b.reg.ts j = a.reg.ts j
/-- Two nets that say the same. -/
structure SameN (a b : Net) : Prop where
  K : b.K = a.K
  L : b.L = a.L
  few : a.K ≤ 12 ∧ a.L ≤ 40
  bs : ∀ i, i < a.K → SameB (a.bs i) (b.bs i)
  small : ∀ i, i < a.K → (a.bs i).pn ≤ 1000 ∧ (a.bs i).reg.n ≤ 100000
  ls : ∀ k, k < a.L → b.ls k = a.ls k
theorem way_neq (a b : Int) (W : World) : (binOp .neq 81 (.agg #[.int .i64 a, .int .i64 b]) (.agg #[.int .i64 a, .int .i64 b])).run Tryz.prog W = .ok (.bool false) W := by go_simp
theorem link_neq (a b c d e : Int) (f : Bool) (W : World) : (binOp .neq 83 (.agg #[.int .i64 a, .int .i64 b, .int .i64 c, .int .i64 d, .int .i64 e, .bool f]) (.agg #[.int .i64 a, .int .i64 b, .int .i64 c, .int .i64 d, .int .i64 e, .bool f])).run Tryz.prog W = .ok (.bool false) W := by go_simp
set_option maxRecDepth 100000 in
set_option maxHeartbeats 3000000 in
theorem tsamenet_any (n m : Net) (w : World) (hn : n.at' w) (hm : m.at' w) (hs : SameN n m) :
    Calls Tryz.prog 17 #[.agg #[.slice n.bao n.K n.bcap, .slice n.lao n.L n.lcap], .agg #[.slice m.bao m.K m.bcap, .slice m.lao m.L m.lcap]] w fun e w' => e = .returned (.bool true) ∧ Below w.heap.size w w' := by
  obtain ⟨Z, HZ⟩ : ∃ Z, Hid (Z = (w.alloc (.cells #[.slice n.bao n.K n.bcap, .slice n.lao n.L n.lcap] 25)).alloc (.cells #[.slice m.bao n.K m.bcap, .slice m.lao n.L m.lcap] 25)) := ⟨_, rfl⟩
  have hZB : Below w.heap.size w Z := by rw [HZ.out]; exact below_alloc2 _ _ _
  have y7 : Z.heap[w.heap.size]? = some (.cells #[.slice n.bao n.K n.bcap, .slice n.lao n.L n.lcap] 25 (0, 0)) := by rw [HZ.out]; exact heap_alloc2_old _ _ _
  have y8 : Z.heap[w.heap.size + 1]? = some (.cells #[.slice m.bao n.K m.bcap, .slice m.lao n.L m.lcap] 25 (0, 0)) := by rw [HZ.out]; exact heap_alloc2_new _ _ _
  have HG : Hid (∀ V, Below Z.heap.size Z V → ((V.cell? ⟨w.heap.size, 0, none⟩ = some (.slice n.bao n.K n.bcap) ∧ V.cell? ⟨w.heap.size, 1, none⟩ = some (.slice n.lao n.L n.lcap)) ∧ (V.cell? ⟨w.heap.size + 1, 0, none⟩ = some (.slice m.bao n.K m.bcap) ∧ V.cell? ⟨w.heap.size + 1, 1, none⟩ = some (.slice m.lao n.L m.lcap))) ∧ (n.at' V ∧ m.at' V) ∧ Below w.heap.size w V) := fun V hV => by
    have h := hZB.trans (hV.mono hZB.size)
    exact ⟨⟨two_cells2 (keep y7 hV), two_cells2 (keep y8 hV)⟩, ⟨hn.below h, hm.below h⟩, h⟩
  have HS : Hid (SameN n m) := hs
  have hfewK : n.K ≤ 12 := hs.few.1
  have hfewL : n.L ≤ 40 := hs.few.2
  have hbc := hn.brs.1
  have hlc := hn.lks.1
  have hbc2 : n.K ≤ m.bcap := by have := hm.brs.1; rw [hs.K] at this; exact this
  have hlc2 : n.L ≤ m.lcap := by have := hm.lks.1; rw [hs.L] at this; exact this
  rw [hs.K, hs.L]
  obtain ⟨⟨⟨c70, c71⟩, c80, c81⟩, _⟩ := HG.out Z (Below.refl _ _)
  rw [HZ.out] at c70 c71 c80 c81
  clear hn hm hs hZB y7 y8
  obtain ⟨bao, hbao⟩ : ∃ x, x = n.bao := ⟨_, rfl⟩
  obtain ⟨mao, hmao⟩ : ∃ x, x = m.bao := ⟨_, rfl⟩
  obtain ⟨lao, hlao⟩ : ∃ x, x = n.lao := ⟨_, rfl⟩
  obtain ⟨kao, hkao⟩ : ∃ x, x = m.lao := ⟨_, rfl⟩
  rw [← hbao, ← hmao, ← hlao, ← hkao]
  rw [← hbao, ← hlao] at HZ HG
  rw [← hmao, ← hkao] at HZ HG
  rw [← hbao] at c70
  rw [← hlao] at c71
  rw [← hmao] at c80
  rw [← hkao] at c81
  have HBA : Hid (bao = n.bao ∧ mao = m.bao ∧ lao = n.lao ∧ kao = m.lao) := ⟨hbao, hmao, hlao, hkao⟩
  clear hbao hmao hlao hkao
  go_enter Tryz.func17, Tryz.ntmps17
  have q1 : ((n.K : Int) != (n.K : Int)) = false := by simp
  have q2 : ((n.L : Int) != (n.L : Int)) = false := by simp
  go_wp2_with fail
  rw [← HZ.out]
  clear c70 c71 c80 c81 q1 q2
  go_loopw [29] (fun i wr => ∃ k : Nat, k ≤ n.K ∧ i = .int .i64 k ∧ Hid (Below Z.heap.size Z wr)) (fun i _ => n.K - (intOf i).toNat)
  case atStart => exact ⟨0, by omega, rfl, Below.refl _ _⟩
  case round =>
    obtain ⟨k, hk, rfl, hB⟩ := hrel
    by_cases hlt : k < n.K
    · obtain ⟨⟨⟨c70, _⟩, c80, _⟩, ⟨an, am⟩, _⟩ := HG.out wr hB.out
      have r1 := an.brs
      have r2 := am.brs
      rw [← HBA.out.1] at r1
      rw [← HBA.out.2.1] at r2
      obtain ⟨b1, o1, rfl, lb1⟩ := CRow.some r1 (by omega)
      obtain ⟨b2, o2, rfl, lb2⟩ := CRow.some r2 (by rw [HS.out.K]; omega)
      have lz1 : w.heap.size + 1 < wr.heap.size := by
        have h1 : Z.heap.size = w.heap.size + 1 + 1 := by rw [HZ.out]; simp
        have h2 := hB.out.size
        omega
      have lz0 : w.heap.size < wr.heap.size := by omega
      have lz3 : w.heap.size + 1 < wr.heap.size + 1 := by omega
      have lz2 : w.heap.size < wr.heap.size + 1 := by omega
      have lb3 : b1 < wr.heap.size + 1 := by omega
      have lb4 : b2 < wr.heap.size + 1 := by omega
      obtain ⟨a0, a1, a2, a3, a4⟩ := BRow.cells r1 hlt
      obtain ⟨d0, d1, d2, d3, d4⟩ := BRow.cells r2 (i := k) (by rw [HS.out.K]; exact hlt)
      have sb := HS.out.bs k hlt
      rw [sb.addr] at d0
      rw [sb.pn] at d1
      rw [sb.s] at d2
      rw [sb.rev] at d3
      rw [sb.n] at d4
      have e1 := an.each k hlt
      have e2 := am.each k (by rw [HS.out.K]; exact hlt)
      have sm := HS.out.small k hlt
      have HRO : Hid (∀ V, Below wr.heap.size wr V → (IRow V (n.bs k).pao (n.bs k).pn (n.bs k).pcap (n.bs k).pv ∧ IRow V (m.bs k).pao (n.bs k).pn (m.bs k).pcap (n.bs k).pv) ∧ (WayRow V (n.bs k).reg.ao (n.bs k).reg.n (n.bs k).reg.cap (n.bs k).reg.vs (n.bs k).reg.ts ∧ WayRow V (m.bs k).reg.ao (n.bs k).reg.n (m.bs k).reg.cap (m.bs k).reg.vs (m.bs k).reg.ts) ∧ Below Z.heap.size Z V) := fun V hV => by
        obtain ⟨x1, x2, _, _⟩ := e1.below hV
        obtain ⟨y1, y2, _, _⟩ := e2.below hV
        rw [sb.pn] at y1
        have y2 : WayRow V (m.bs k).reg.ao (m.bs k).reg.n (m.bs k).reg.cap (m.bs k).reg.vs (m.bs k).reg.ts := y2
        rw [sb.n] at y2
        exact ⟨⟨x1, CRow.congr y1 (fun j hj => by funext _; rw [sb.pv j hj])⟩, ⟨x2, y2⟩, hB.out.trans (hV.mono hB.out.size)⟩
      have HWY : Hid (∀ j, j < (n.bs k).reg.n → (m.bs k).reg.vs j = (n.bs k).reg.vs j ∧ (m.bs k).reg.ts j = (n.bs k).reg.ts j) := sb.ways
      have ik : (0 : Int) ≤ (k : Int) := by omega
      have nk : (k : Int) < (n.K : Int) := by omega
      have HKK : Hid (k + 1 ≤ n.K) := hlt
      have hn1 := sm.2
      have hp1 := sm.1
      clear an am r1 r2 sb e1 e2 sm hB HBA HS
      generalize m.bs k = mb at *
      generalize n.bs k = nb at *
      obtain ⟨ad, pa, pn, pc, pv, ⟨s, rv, wa, wn, wc', vs, ts⟩⟩ := nb
      obtain ⟨ad2, pa2, pn2, pc2, pv2, ⟨s2, rv2, wa2, wn2, wc2, vs2, ts2⟩⟩ := mb
      simp only at *
      go_wp2_with fail
      go_cut [6, 7] (fun s6 s7 wx => ∃ g1 g2, s6 = .pointer (some ⟨g1, 0, none⟩) ∧ s7 = .pointer (some ⟨g2, 0, none⟩) ∧ Hid (wx.heap[g1]? = some (.cells #[.int .u64 ad, .slice pa pn pc, .string s, .int .i64 rv, .slice wa wn wc'] 74 (0, 0)) ∧ wx.heap[g2]? = some (.cells #[.int .u64 ad, .slice pa2 pn pc2, .string s, .int .i64 rv, .slice wa2 wn wc2] 74 (0, 0)) ∧ Below wr.heap.size wr wx))
      case first =>
        go_region
        all_goals go_wp2_with fail
        all_goals go_meet
        all_goals first | (exact ⟨_, _, rfl, rfl, drew_keep (heap_alloc2_old _ _ _), drew_keep (heap_alloc2_new _ _ _), Below.drew (below_alloc2 _ _ _)⟩) | (exact ⟨_, _, rfl, rfl, drew_keep (heap_alloc2_new _ _ _), drew_keep (heap_alloc2_old _ _ _), Below.drew (below_alloc2 _ _ _)⟩)
      case rest =>
      obtain ⟨g1, g2, rfl, rfl, HC⟩ := hcut
      clear c70 c80 a0 a1 a2 a3 a4 d0 d1 d2 d3 d4 lz0 lz1 lz2 lz3 lb1 lb2 lb3 lb4
      have HCC : Hid (∀ V, Below wc.heap.size wc V → ((V.cell? ⟨g1, 0, none⟩ = some (.int .u64 ad) ∧ V.cell? ⟨g1, 1, none⟩ = some (.slice pa pn pc) ∧ V.cell? ⟨g1, 2, none⟩ = some (.string s) ∧ V.cell? ⟨g1, 3, none⟩ = some (.int .i64 rv) ∧ V.cell? ⟨g1, 4, none⟩ = some (.slice wa wn wc')) ∧ (V.cell? ⟨g2, 0, none⟩ = some (.int .u64 ad) ∧ V.cell? ⟨g2, 1, none⟩ = some (.slice pa2 pn pc2) ∧ V.cell? ⟨g2, 2, none⟩ = some (.string s) ∧ V.cell? ⟨g2, 3, none⟩ = some (.int .i64 rv) ∧ V.cell? ⟨g2, 4, none⟩ = some (.slice wa2 wn wc2))) ∧ Below wr.heap.size wr V) := fun V hV => by
        obtain ⟨h1, h2, h3⟩ := HC.out
        have h1 := keep h1 hV
        have h2 := keep h2 hV
        exact ⟨⟨⟨cell_of_row V g1 0 _ _ _ h1, cell_of_row V g1 1 _ _ _ h1, cell_of_row V g1 2 _ _ _ h1, cell_of_row V g1 3 _ _ _ h1, cell_of_row V g1 4 _ _ _ h1⟩, ⟨cell_of_row V g2 0 _ _ _ h2, cell_of_row V g2 1 _ _ _ h2, cell_of_row V g2 2 _ _ _ h2, cell_of_row V g2 3 _ _ _ h2, cell_of_row V g2 4 _ _ _ h2⟩⟩, h3.trans (hV.mono h3.size)⟩
      obtain ⟨⟨⟨x0, x1, x2, x3, x4⟩, y0, y1, y2, y3, y4⟩, hwc⟩ := HCC.out wc (Below.refl _ _)
      have HIN : Hid (Calls Tryz.prog 37 #[.slice pa pn pc, .slice pa2 pn pc2] wc fun e w' => e = .returned (.bool true) ∧ Hid (Below wc.heap.size wc w')) := by
        refine (t7ints_any pa pa2 pn pc pc2 pv wc hp1 (HRO.out wc hwc).1.1 (HRO.out wc hwc).1.2).mono ?_
        rintro e w' ⟨rfl, mm, rfl⟩
        exact ⟨rfl, below_drewN (Below.refl _ _) mm⟩
      clear hwc HC
      go_wp2_with fail
      refine HIN.out.mono ?_
      rintro e w4 ⟨rfl, H4⟩
      clear HIN x0 x1 x2 x3 x4 y0 y1 y2 y3 y4
      obtain ⟨⟨⟨x0, x1, x2, x3, x4⟩, y0, y1, y2, y3, y4⟩, _⟩ := HCC.out w4 H4.out
      have q1 : ((wn : Int) != (wn : Int)) = false := by simp
      go_wp2_with fail
      clear x0 x1 x2 x3 x4 y0 y1 y2 y3 y4 q1
      go_loopw [88] (fun i wr => ∃ j : Nat, j ≤ wn ∧ i = .int .i64 j ∧ Hid (Below wc.heap.size wc wr)) (fun i _ => wn - (intOf i).toNat)
      case atStart => exact ⟨0, by omega, rfl, H4⟩
      case round =>
        obtain ⟨j, hj, rfl, hB3⟩ := hrel
        by_cases hlt3 : j < wn
        · obtain ⟨⟨⟨_, _, _, _, x4⟩, _, _, _, _, y4⟩, hB4⟩ := HCC.out wr hB3.out
          obtain ⟨_, ⟨v1, v2⟩, _⟩ := HRO.out wr hB4
          obtain ⟨u1, f1, rfl, _, t1⟩ := v1.2 (by omega)
          obtain ⟨u2, f2, rfl, _, t2⟩ := v2.2 (by omega)
          obtain ⟨p1, p2⟩ := t1 j hlt3
          obtain ⟨p3, p4⟩ := t2 j hlt3
          rw [(HWY.out j hlt3).1] at p3
          rw [(HWY.out j hlt3).2] at p4
          have cp1 := v1.1
          have cp2 := v2.1
          have ij : (0 : Int) ≤ (j : Int) := by omega
          have nj : (j : Int) < (wn : Int) := by omega
          have HN : Hid (∀ mm, Below wc.heap.size wc (wr.drewN mm)) := fun mm => below_drewN hB3.out mm
          have HJJ : Hid (j + 1 ≤ wn) := hlt3
          clear v1 v2 t1 t2 HCC HRO HWY hB4
          go_wp2_with fail
          go_quiet (fail)
          go_wp2_with fail
          exact ⟨⟨j + 1, by omega, by go_num, HN.out _⟩, by simp [intOf]; omega⟩
        · have hjK : j = wn := by omega
          have hnj : ¬ (j : Int) < (wn : Int) := by omega
          have HN : Hid (Below Z.heap.size Z wr) := (HRO.out wr (HCC.out wr hB3.out).2).2.2
          have h3 := HKK.out
          clear HCC HRO HWY
          go_wp2_with fail
          exact ⟨⟨k + 1, h3, by go_num, HN⟩, by simp [intOf]; omega⟩
    · have hkK : k = n.K := by omega
      have hnk : ¬ (k : Int) < (n.K : Int) := by omega
      obtain ⟨⟨⟨_, c71⟩, _, c81⟩, _⟩ := HG.out wr hB.out
      go_wp2_with fail
      clear c71 c81
      go_loopw [109] (fun i wr => ∃ j : Nat, j ≤ n.L ∧ i = .int .i64 j ∧ Hid (Below Z.heap.size Z wr)) (fun i _ => n.L - (intOf i).toNat)
      case atStart => exact ⟨0, by omega, rfl, hB⟩
      case round =>
        obtain ⟨j, hj, rfl, hB3⟩ := hrel
        by_cases hlt3 : j < n.L
        · obtain ⟨⟨⟨_, c71⟩, _, c81⟩, ⟨an, am⟩, _⟩ := HG.out wr hB3.out
          have r1 := an.lks
          have r2 := am.lks
          rw [← HBA.out.2.2.1] at r1
          rw [← HBA.out.2.2.2] at r2
          obtain ⟨b1, o1, rfl, _⟩ := CRow.some r1 (by omega)
          obtain ⟨b2, o2, rfl, _⟩ := CRow.some r2 (by rw [HS.out.L]; omega)
          obtain ⟨a0, a1, a2, a3, a4, a5⟩ := LRow.cells r1 hlt3
          obtain ⟨d0, d1, d2, d3, d4, d5⟩ := LRow.cells r2 (i := j) (by rw [HS.out.L]; exact hlt3)
          rw [HS.out.ls j hlt3] at d0 d1 d2 d3 d4 d5
          have ij : (0 : Int) ≤ (j : Int) := by omega
          have nj : (j : Int) < (n.L : Int) := by omega
          have HN : Hid (∀ mm, Below Z.heap.size Z (wr.drewN mm)) := fun mm => below_drewN hB3.out mm
          clear an am r1 r2 HBA HS HG
          generalize n.ls j = lk at *
          go_wp2_with fail
          go_quiet (fail)
          go_wp2_with fail
          exact ⟨⟨j + 1, by omega, by go_num, HN.out _⟩, by simp [intOf]; omega⟩
        · have hjK : j = n.L := by omega
          have hnj : ¬ (j : Int) < (n.L : Int) := by omega
          have HF : Hid (Below w.heap.size w wr) := (HG.out wr hB3.out).2.2
          clear HBA HS HG
          go_wp2_with fail
          go_ret
          exact ⟨rfl, HF.out⟩
end Go.Proofs.YtaneiffnhphkhaaGreatDoor

namespace Go.Proofs.YtaneiffnhphkhaaGreatDoor
open Go.RowKit
open Vc (V Of)
open Tk (Md)

/-- Two minds that say the same. -/
structure SameM (a b : Mi) : Prop where
  md : b.md = a.md
  ports : b.ports = a.ports
  roles : b.roles = a.roles
  calm : b.calm = a.calm
  small : a.ports.length ≤ 1000 ∧ a.roles.length ≤ 1000 ∧ a.calm.length ≤ 1000
/-- Two talks that say the same. -/
structure SameT (t u : List Tr) : Prop where
  len : u.length = t.length
  few : t.length ≤ 1000
  rows : ∀ k, k < t.length → (tat u k).l.length = (tat t k).l.length ∧ (tat t k).l.length ≤ 1000
  minds : ∀ k i, k < t.length → i < (tat t k).l.length → SameM (mat (tat t k).l i) (mat (tat u k).l i)
theorem heap_alloc1_new (w : World) (c : Array Value) (t : TypeId) : (w.alloc (.cells c t)).heap[w.heap.size]? = some (.cells c t (0, 0)) := heap_alloc_last _ _
set_option maxRecDepth 100000 in
set_option maxHeartbeats 3000000 in
theorem tsame7_any (ao bo : Option Addr) (cap bcap : Nat) (t u : List Tr) (w : World) (ht : TrRow w ao cap t) (hu : TrRow w bo bcap u) (hs : SameT t u) :
    Calls Tryz.prog 14 #[.agg #[.slice ao t.length cap], .agg #[.slice bo u.length bcap]] w fun e w' => e = .returned (.bool true) ∧ Below w.heap.size w w' := by
  rw [hs.len]
  obtain ⟨Z, HZ⟩ : ∃ Z, Hid (Z = (w.alloc (.cells #[.slice ao t.length cap] 29)).alloc (.cells #[.slice bo t.length bcap] 29)) := ⟨_, rfl⟩
  have hZB : Below w.heap.size w Z := by rw [HZ.out]; exact below_alloc2 _ _ _
  have y7 : Z.heap[w.heap.size]? = some (.cells #[.slice ao t.length cap] 29 (0, 0)) := by rw [HZ.out]; exact heap_alloc2_old _ _ _
  have y8 : Z.heap[w.heap.size + 1]? = some (.cells #[.slice bo t.length bcap] 29 (0, 0)) := by rw [HZ.out]; exact heap_alloc2_new _ _ _
  have HG : Hid (∀ V, Below Z.heap.size Z V → (V.cell? ⟨w.heap.size, 0, none⟩ = some (.slice ao t.length cap) ∧ V.cell? ⟨w.heap.size + 1, 0, none⟩ = some (.slice bo t.length bcap)) ∧ (TrRow V ao cap t ∧ TrRow V bo bcap u) ∧ Below w.heap.size w V) := fun V hV => by
    have h := hZB.trans (hV.mono hZB.size)
    exact ⟨⟨one_cell (keep y7 hV), one_cell (keep y8 hV)⟩, ⟨ht.below h, hu.below h⟩, h⟩
  have HS : Hid (SameT t u) := hs
  have hfew : t.length ≤ 1000 := hs.few
  have hcp : t.length ≤ cap := ht.row.1
  have hcp2 : t.length ≤ bcap := by have := hu.row.1; rw [hs.len] at this; exact this
  obtain ⟨⟨c70, c80⟩, _⟩ := HG.out Z (Below.refl _ _)
  rw [HZ.out] at c70 c80
  have HSZ : Hid (Z.heap.size = w.heap.size + 1 + 1) := by
    have h : Z.heap.size = w.heap.size + 1 + 1 := by rw [HZ.out]; simp
    exact h
  clear ht hu hs hZB y7 y8
  go_enter Tryz.func14, Tryz.ntmps14
  have q1 : ((t.length : Int) != (t.length : Int)) = false := by simp
  go_wp2_with fail
  rw [← HZ.out]
  clear c70 c80 q1
  go_loopw [19] (fun i wr => ∃ k : Nat, k ≤ t.length ∧ i = .int .i64 k ∧ Hid (Below Z.heap.size Z wr)) (fun i _ => t.length - (intOf i).toNat)
  case atStart => exact ⟨0, by omega, rfl, Below.refl _ _⟩
  case round =>
    obtain ⟨k, hk, rfl, hB⟩ := hrel
    by_cases hlt : k < t.length
    · obtain ⟨⟨c70, c80⟩, ⟨r1, r2⟩, _⟩ := HG.out wr hB.out
      obtain ⟨b1, o1, hao, lb1⟩ := r1.place (by omega)
      obtain ⟨b2, o2, hbo, lb2⟩ := r2.place (by rw [HS.out.len]; omega)
      subst hao hbo
      have x1 := r1.cell hlt
      have x2 := r2.cell (i := k) (by rw [HS.out.len]; exact hlt)
      obtain ⟨s1, s2⟩ := HS.out.rows k hlt
      rw [s1] at x2
      have HR : Hid (∀ V, Below Z.heap.size Z V → (V.cell? ⟨w.heap.size, 0, none⟩ = some (.slice (some ⟨b1, o1, none⟩) t.length cap) ∧ V.cell? ⟨w.heap.size + 1, 0, none⟩ = some (.slice (some ⟨b2, o2, none⟩) t.length bcap)) ∧ (V.cell? ⟨b1, o1 + k, none⟩ = some (.slice (tat t k).ao (tat t k).l.length (tat t k).cap) ∧ V.cell? ⟨b2, o2 + k, none⟩ = some (.slice (tat u k).ao (tat t k).l.length (tat u k).cap)) ∧ (MiRow V (tat t k).ao (tat t k).cap (tat t k).l ∧ MiRow V (tat u k).ao (tat u k).cap (tat u k).l)) := fun V hV => by
        obtain ⟨c1, ⟨h1, h2⟩, _⟩ := HG.out V hV
        have e2 := h2.cell (i := k) (by rw [HS.out.len]; exact hlt)
        rw [s1] at e2
        exact ⟨c1, ⟨h1.cell hlt, e2⟩, h1.each k hlt, h2.each k (by rw [HS.out.len]; exact hlt)⟩
      have HM : Hid (∀ i, i < (tat t k).l.length → SameM (mat (tat t k).l i) (mat (tat u k).l i)) := fun i hi => HS.out.minds k i hlt hi
      have HLE : Hid ((tat u k).l.length = (tat t k).l.length) := s1
      have hm1 : (tat t k).l.length ≤ (tat t k).cap := (r1.each k hlt).row.1
      have hm2 : (tat t k).l.length ≤ (tat u k).cap := by
        have := (r2.each k (by rw [HS.out.len]; exact hlt)).row.1
        rw [s1] at this
        exact this
      have ik : (0 : Int) ≤ (k : Int) := by omega
      have nk : (k : Int) < (t.length : Int) := by omega
      have HKK : Hid (k + 1 ≤ t.length) := hlt
      have HLB : Hid (b1 < wr.heap.size ∧ b2 < wr.heap.size) := ⟨lb1, lb2⟩
      clear r1 r2 s1 HS HG lb1 lb2
      generalize tat t k = tk at *
      generalize tat u k = uk at *
      obtain ⟨ta, tc, tl⟩ := tk
      obtain ⟨ua, uc, ul⟩ := uk
      simp only at *
      have q1 : ((tl.length : Int) != (tl.length : Int)) = false := by simp
      go_wp2_with fail
      go_quiet (fail)
      go_wp2_with fail
      clear x1 x2 c70 c80 q1
      have HBD : Hid (∀ m, Below Z.heap.size Z (wr.drewN m)) := fun m => below_drewN hB.out m
      obtain ⟨S0, HS0⟩ : ∃ S0, Hid (S0 = wr.heap.size) := ⟨_, rfl⟩
      have HLB2 : Hid (b1 < S0 ∧ b2 < S0) := by rw [HS0.out]; exact HLB.out
      go_loopw [41] (fun i wq => ∃ j : Nat, j ≤ tl.length ∧ i = .int .i64 j ∧ Hid (Below Z.heap.size Z wq ∧ S0 ≤ wq.heap.size)) (fun i _ => tl.length - (intOf i).toNat)
      case atStart => exact ⟨0, by omega, rfl, HBD.out _, by rw [HS0.out]; simp⟩
      case round =>
        obtain ⟨j, hj, rfl, hB2⟩ := hrel
        by_cases hlt2 : j < tl.length
        · obtain ⟨⟨c70, c80⟩, ⟨x1, x2⟩, r1, r2⟩ := HR.out wr hB2.out.1
          obtain ⟨d1, p1, rfl, ld1⟩ := r1.place (by omega)
          obtain ⟨d2, p2, rfl, ld2⟩ := r2.place (by rw [HLE.out]; omega)
          obtain ⟨a0, a1, a2, a3, a4, a5, a6, a7, a8⟩ := r1.cells hlt2
          obtain ⟨e0, e1, e2, e3, e4, e5, e6, e7, e8⟩ := r2.cells (i := j) (by rw [HLE.out]; exact hlt2)
          have i1 := r1.each j hlt2
          have i2 := r2.each j (by rw [HLE.out]; exact hlt2)
          have sm := HM.out j hlt2
          have lz1 : w.heap.size + 1 < wr.heap.size := by
            have h1 := HSZ.out
            have h2 := hB2.out.1.size
            omega
          have lb1 : b1 < wr.heap.size := Nat.lt_of_lt_of_le HLB2.out.1 hB2.out.2
          have lb2 : b2 < wr.heap.size := Nat.lt_of_lt_of_le HLB2.out.2 hB2.out.2
          have lz0 : w.heap.size < wr.heap.size := by omega
          have lz3 : w.heap.size + 1 < wr.heap.size + 1 := by omega
          have lz2 : w.heap.size < wr.heap.size + 1 := by omega
          have lb3 : b1 < wr.heap.size + 1 := by omega
          have lb4 : b2 < wr.heap.size + 1 := by omega
          have ld3 : d1 < wr.heap.size + 1 := by omega
          have ld4 : d2 < wr.heap.size + 1 := by omega
          rw [sm.md] at e0 e1 e2 e3 e4 e5
          rw [sm.ports] at e6
          rw [sm.roles] at e7
          rw [sm.calm] at e8
          obtain ⟨n1, n2, n3⟩ := sm.small
          have HIN : Hid (∀ V, Below wr.heap.size wr V → (Calls Tryz.prog 37 #[.slice (mat tl j).po (mat tl j).ports.length (mat tl j).pc, .slice (mat ul j).po (mat tl j).ports.length (mat ul j).pc] V fun e w' => e = .returned (.bool true) ∧ Hid (Below wr.heap.size wr w' ∧ Below V.heap.size V w')) ∧ (Calls Tryz.prog 37 #[.slice (mat tl j).ro (mat tl j).roles.length (mat tl j).rc, .slice (mat ul j).ro (mat tl j).roles.length (mat ul j).rc] V fun e w' => e = .returned (.bool true) ∧ Hid (Below wr.heap.size wr w' ∧ Below V.heap.size V w')) ∧ (Calls Tryz.prog 37 #[.slice (mat tl j).co (mat tl j).calm.length (mat tl j).cc, .slice (mat ul j).co (mat tl j).calm.length (mat ul j).cc] V fun e w' => e = .returned (.bool true) ∧ Hid (Below wr.heap.size wr w' ∧ Below V.heap.size V w'))) := fun V hV => by
            have j1 := i1.below hV
            have j2 := i2.below hV
            have y1 := j2.ports
            have y2 := j2.roles
            have y3 := j2.calm
            rw [sm.ports] at y1
            rw [sm.roles] at y2
            rw [sm.calm] at y3
            refine ⟨(t7ints_any _ _ _ _ _ _ V n1 j1.ports y1).mono ?_, (t7ints_any _ _ _ _ _ _ V n2 j1.roles y2).mono ?_, (t7ints_any _ _ _ _ _ _ V n3 j1.calm y3).mono ?_⟩ <;>
            · rintro e w' ⟨rfl, m, rfl⟩
              exact ⟨rfl, below_drewN hV m, below_drewN (Below.refl _ _) m⟩
          have ij : (0 : Int) ≤ (j : Int) := by omega
          have nj : (j : Int) < (tl.length : Int) := by omega
          have HJJ : Hid (j + 1 ≤ tl.length) := hlt2
          have HBB : Hid (∀ V, Below wr.heap.size wr V → Below Z.heap.size Z V) := fun V hV => hB2.out.1.trans (hV.mono hB2.out.1.size)
          have HWS : Hid (S0 ≤ wr.heap.size) := hB2.out.2
          clear i1 i2 sm r1 r2 hB2 HM HR HLE n1 n2 n3
          generalize mat tl j = A at *
          generalize mat ul j = B at *
          obtain ⟨⟨⟨vr, vc, vb, vp⟩, ag, rp⟩, po, pc, ports, ro, rc, roles, co, cc, calm⟩ := A
          obtain ⟨bmd, po2, pc2, ports2, ro2, rc2, roles2, co2, cc2, calm2⟩ := B
          simp only at *
          generalize ports.length = pn at *
          generalize roles.length = rn at *
          generalize calm.length = cn at *
          go_wp2_with fail
          go_cut [7, 8] (fun s6 s7 wx => ∃ g1 g2, s6 = .pointer (some ⟨g1, 0, none⟩) ∧ s7 = .pointer (some ⟨g2, 0, none⟩) ∧ Hid (wx.heap[g1]? = some (.cells #[.int .u64 vr, .int .i64 vc, .int .u64 vb, .int .i64 vp, .int .i64 ag, .int .i64 rp, .slice po pn pc, .slice ro rn rc, .slice co cn cc] 66 (0, 0)) ∧ wx.heap[g2]? = some (.cells #[.int .u64 vr, .int .i64 vc, .int .u64 vb, .int .i64 vp, .int .i64 ag, .int .i64 rp, .slice po2 pn pc2, .slice ro2 rn rc2, .slice co2 cn cc2] 66 (0, 0)) ∧ Below wr.heap.size wr wx))
          case first =>
            go_region
            all_goals go_wp2_with fail
            all_goals go_meet
            all_goals first | (exact ⟨_, _, rfl, rfl, drew_keep (heap_alloc2_old _ _ _), drew_keep (heap_alloc2_new _ _ _), Below.drew (below_alloc2 _ _ _)⟩) | (exact ⟨_, _, rfl, rfl, drew_keep (heap_alloc2_new _ _ _), drew_keep (heap_alloc2_old _ _ _), Below.drew (below_alloc2 _ _ _)⟩)
          case rest =>
          obtain ⟨g1, g2, rfl, rfl, HC⟩ := hcut
          clear c70 c80 x1 x2 a0 a1 a2 a3 a4 a5 a6 a7 a8 e0 e1 e2 e3 e4 e5 e6 e7 e8 lz0 lz1 lz2 lz3 lb1 lb2 lb3 lb4 ld1 ld2 ld3 ld4
          have HCC : Hid (∀ V, Below wc.heap.size wc V → ((V.cell? ⟨g1, 0, none⟩ = some (.int .u64 vr) ∧ V.cell? ⟨g1, 1, none⟩ = some (.int .i64 vc) ∧ V.cell? ⟨g1, 2, none⟩ = some (.int .u64 vb) ∧ V.cell? ⟨g1, 3, none⟩ = some (.int .i64 vp) ∧ V.cell? ⟨g1, 4, none⟩ = some (.int .i64 ag) ∧ V.cell? ⟨g1, 5, none⟩ = some (.int .i64 rp) ∧ V.cell? ⟨g1, 6, none⟩ = some (.slice po pn pc) ∧ V.cell? ⟨g1, 7, none⟩ = some (.slice ro rn rc) ∧ V.cell? ⟨g1, 8, none⟩ = some (.slice co cn cc)) ∧ (V.cell? ⟨g2, 0, none⟩ = some (.int .u64 vr) ∧ V.cell? ⟨g2, 1, none⟩ = some (.int .i64 vc) ∧ V.cell? ⟨g2, 2, none⟩ = some (.int .u64 vb) ∧ V.cell? ⟨g2, 3, none⟩ = some (.int .i64 vp) ∧ V.cell? ⟨g2, 4, none⟩ = some (.int .i64 ag) ∧ V.cell? ⟨g2, 5, none⟩ = some (.int .i64 rp) ∧ V.cell? ⟨g2, 6, none⟩ = some (.slice po2 pn pc2) ∧ V.cell? ⟨g2, 7, none⟩ = some (.slice ro2 rn rc2) ∧ V.cell? ⟨g2, 8, none⟩ = some (.slice co2 cn cc2))) ∧ Below wr.heap.size wr V) := fun V hV => by
            obtain ⟨h1, h2, h3⟩ := HC.out
            have h1 := keep h1 hV
            have h2 := keep h2 hV
            exact ⟨⟨⟨cell_of_row V g1 0 _ _ _ h1, cell_of_row V g1 1 _ _ _ h1, cell_of_row V g1 2 _ _ _ h1, cell_of_row V g1 3 _ _ _ h1, cell_of_row V g1 4 _ _ _ h1, cell_of_row V g1 5 _ _ _ h1, cell_of_row V g1 6 _ _ _ h1, cell_of_row V g1 7 _ _ _ h1, cell_of_row V g1 8 _ _ _ h1⟩, ⟨cell_of_row V g2 0 _ _ _ h2, cell_of_row V g2 1 _ _ _ h2, cell_of_row V g2 2 _ _ _ h2, cell_of_row V g2 3 _ _ _ h2, cell_of_row V g2 4 _ _ _ h2, cell_of_row V g2 5 _ _ _ h2, cell_of_row V g2 6 _ _ _ h2, cell_of_row V g2 7 _ _ _ h2, cell_of_row V g2 8 _ _ _ h2⟩⟩, h3.trans (hV.mono h3.size)⟩
          obtain ⟨⟨⟨x0, x1, x2, x3, x4, x5, x6, x7, x8⟩, y0, y1, y2, y3, y4, y5, y6, y7, y8⟩, hwc⟩ := HCC.out wc (Below.refl _ _)
          have HI := HIN.out wc hwc
          have HI1 : Hid (Calls Tryz.prog 37 #[.slice po pn pc, .slice po2 pn pc2] wc fun e w' => e = .returned (.bool true) ∧ Hid (Below wr.heap.size wr w' ∧ Below wc.heap.size wc w')) := HI.1
          clear HC hwc HI
          go_wp2_with fail
          refine HI1.out.mono ?_
          rintro e w4 ⟨rfl, H4⟩
          clear HI1 x0 x1 x2 x3 x4 x5 x6 x7 x8 y0 y1 y2 y3 y4 y5 y6 y7 y8
          obtain ⟨⟨⟨x0, x1, x2, x3, x4, x5, x6, x7, x8⟩, y0, y1, y2, y3, y4, y5, y6, y7, y8⟩, hw4⟩ := HCC.out w4 H4.out.2
          have HI1 : Hid (Calls Tryz.prog 37 #[.slice ro rn rc, .slice ro2 rn rc2] w4 fun e w' => e = .returned (.bool true) ∧ Hid (Below wr.heap.size wr w' ∧ Below w4.heap.size w4 w')) := (HIN.out w4 hw4).2.1
          clear hw4
          go_wp2_with fail
          refine HI1.out.mono ?_
          rintro e w5 ⟨rfl, H5⟩
          clear HI1 x0 x1 x2 x3 x4 x5 x6 x7 x8 y0 y1 y2 y3 y4 y5 y6 y7 y8
          obtain ⟨⟨⟨x0, x1, x2, x3, x4, x5, x6, x7, x8⟩, y0, y1, y2, y3, y4, y5, y6, y7, y8⟩, hw5⟩ := HCC.out w5 (H4.out.2.trans (H5.out.2.mono H4.out.2.size))
          have HI1 : Hid (Calls Tryz.prog 37 #[.slice co cn cc, .slice co2 cn cc2] w5 fun e w' => e = .returned (.bool true) ∧ Hid (Below wr.heap.size wr w' ∧ Below w5.heap.size w5 w')) := (HIN.out w5 hw5).2.2
          clear hw5
          go_wp2_with fail
          refine HI1.out.mono ?_
          rintro e w6 ⟨rfl, H6⟩
          clear HI1 x0 x1 x2 x3 x4 x5 x6 x7 x8 y0 y1 y2 y3 y4 y5 y6 y7 y8 HCC HIN H4 H5
          go_wp2_with fail
          exact ⟨⟨j + 1, HJJ.out, by go_num, HBB.out _ H6.out.1, Nat.le_trans HWS.out H6.out.1.size⟩, by simp [intOf]; omega⟩
        · have hnj : ¬ (j : Int) < (tl.length : Int) := by omega
          have h3 := HKK.out
          have HF : Hid (Below Z.heap.size Z wr) := hB2.out.1
          clear HM HR hB2
          go_wp2_with fail
          exact ⟨⟨k + 1, h3, by go_num, HF⟩, by simp [intOf]; omega⟩
    · have hnk : ¬ (k : Int) < (t.length : Int) := by omega
      have HF : Hid (Below w.heap.size w wr) := (HG.out wr hB.out).2.2
      clear HS HG
      go_wp2_with fail
      go_ret
      exact ⟨rfl, HF.out⟩
end Go.Proofs.YtaneiffnhphkhaaGreatDoor

namespace Go.Proofs.YtaneiffnhphkhaaGreatDoor
open Go.RowKit
open Vc (V Of)
open Pl (Br Net Pc Lk En St)
open Tk (Md Mnd Cn Sc Dn)

theorem right_small {n : Net} (h : n.wrong.1 = 0) {i : Nat} (hi : i < n.K) : (n.bs i).pn ≤ 1000 ∧ (n.bs i).reg.n ≤ 100000 := by
  have h0 := bErr_zero (((wrong_iff n).1 h).2.1 i hi)
  unfold Pl.brErr at h0
  by_cases c1 : 281474976710655 < (n.bs i).addr
  · rw [if_pos c1] at h0; cases h0
  rw [if_neg c1] at h0
  by_cases c2 : 16 < (n.bs i).pn
  · rw [if_pos c2] at h0; cases h0
  rw [if_neg c2] at h0
  by_cases c3 : Vc.someTo (fun j => Pl.oddP ((n.bs i).pv j)) (n.bs i).pn = true
  · rw [if_pos c3] at h0; cases h0
  rw [if_neg c3] at h0
  have := (Rg.wrong_zero h0).2.2.many
  omega
/-- Two nets with the same bridges, priorities, regions and links. -/
theorem net_same {a b : Net} (hr : a.wrong.1 = 0) (hc : b.cn = a.cn) (hp : ∀ i, lsF (b.bs i).pv (b.bs i).pn = lsF (a.bs i).pv (a.bs i).pn) (hl : b.ls = a.ls)
    (hg : ∀ i, (b.bs i).reg.s = (a.bs i).reg.s ∧ (b.bs i).reg.rev = (a.bs i).reg.rev ∧ (b.bs i).reg.n = (a.bs i).reg.n ∧ (b.bs i).reg.vs = (a.bs i).reg.vs ∧ (b.bs i).reg.ts = (a.bs i).reg.ts) : SameN a b := by
  have hw := (wrong_iff a).1 hr
  refine ⟨congrArg Cn.K hc, congrArg Cn.L hc, ⟨by omega, by omega⟩, fun i hi => ?_, fun i hi => right_small hr hi, fun k _ => by rw [hl]⟩
  obtain ⟨g1, g2, g3, g4, g5⟩ := hg i
  have e : (b.bs i).pn = (a.bs i).pn := by
    have := congrArg List.length (hp i)
    rwa [lsF_len, lsF_len] at this
  refine ⟨congrFun (congrArg Cn.addr hc) i, e, fun j hj => ?_, g1, g2, g3, fun j _ => ⟨by rw [g4], by rw [g5]⟩⟩
  have h1 := lsF_get (b.bs i).pv (n := (b.bs i).pn) (j := j) (by omega)
  rw [← h1, hp i]
  exact lsF_get (a.bs i).pv hj
theorem sn_same {W W2 : World} {n m : Net} {T T2 : Nat} {s s2 : Sc} {a b : Net} {oa oa2 : Option Addr} {oc oc2 : Nat} {t t2 : List Tr} (h : SnOut W n T s a oa oc t) (h2 : SnOut W2 m T2 s2 b oa2 oc2 t2) (hc : m.cn = n.cn) (hp : s2.pr = s.pr) (hl : s2.ls = s.ls)
    (hg : ∀ i, (m.bs i).reg.s = (n.bs i).reg.s ∧ (m.bs i).reg.rev = (n.bs i).reg.rev ∧ (m.bs i).reg.n = (n.bs i).reg.n ∧ (m.bs i).reg.vs = (n.bs i).reg.vs ∧ (m.bs i).reg.ts = (n.bs i).reg.ts) : SameN a b := by
  refine net_same h.right (h2.cn.trans (hc.trans h.cn.symm)) (fun i => ?_) ?_ (fun i => ?_)
  · have e1 := congrFun (congrArg Sc.pr h.sc) i
    have e2 := congrFun (congrArg Sc.pr h2.sc) i
    refine Eq.trans e2 ?_
    rw [hp]
    exact e1.symm
  · have e1 := congrArg Sc.ls h.sc
    have e2 := congrArg Sc.ls h2.sc
    refine Eq.trans e2 ?_
    rw [hl]
    exact e1.symm
  · obtain ⟨a1, a2, a3, a4, a5⟩ := h.regs i
    obtain ⟨b1, b2, b3, b4, b5⟩ := h2.regs i
    obtain ⟨g1, g2, g3, g4, g5⟩ := hg i
    exact ⟨by rw [b1, g1, a1], by rw [b2, g2, a2], by rw [b3, g3, a3], by rw [b4, g4, a4], by rw [b5, g5, a5]⟩
/-- The first trees of two talks. -/
theorem sn_sameT {W W2 : World} {n m : Net} {T T2 : Nat} {s s2 : Sc} {a b : Net} {oa oa2 : Option Addr} {oc oc2 : Nat} {t t2 : List Tr} (h : SnOut W n T s a oa oc t) (h2 : SnOut W2 m T2 s2 b oa2 oc2 t2) (hT : T ≤ T2) (hT4 : T ≤ 1000) (hK : m.K = n.K) (hm : ∀ k, k < T → s2.ms k = s.ms k) (hp : ∀ i, m.pts i = n.pts i) : SameT t (t2.take T) := by
  have hR := right_of h.wf h.right
  obtain ⟨e1, e2, e3, _⟩ := sn_net h
  have hat : ∀ k, k < T → tat (t2.take T) k = tat t2 k := fun k hk => by
    unfold tat
    rw [List.getD_eq_getElem?_getD, List.getD_eq_getElem?_getD, List.getElem?_take_of_lt hk]
  have hlen : (t2.take T).length = T := by rw [List.length_take, h2.len]; omega
  refine ⟨by rw [hlen, h.len], by rw [h.len]; exact hT4, fun k hk => ?_, fun k i hk hi => ?_⟩
  · rw [h.len] at hk
    rw [hat k hk, (h.each k hk).1, (h2.each k (by omega)).1, hK]
    exact ⟨rfl, by rw [← e1]; have := hR.few; omega⟩
  · rw [h.len] at hk
    rw [(h.each k hk).1] at hi
    rw [hat k hk]
    obtain ⟨m1, m2⟩ := (h.each k hk).2 i hi
    obtain ⟨o1, o2⟩ := (h2.each k (by omega)).2 i (by rw [hK]; exact hi)
    have em : msT t2 k i = msT t k i := by rw [o1, m1, hm k hk]
    have hf := h.ok.fit k hk i hi
    refine ⟨congrArg Mnd.md em, by rw [o2, m2, hp i], congrArg Mnd.roles em, congrArg Mnd.calm em, ?_⟩
    have hen := ends_few a i hR.fewL
    rw [e3] at hen
    have z1 : (mat (tat t k).l i).roles = (s.ms k i).roles := congrArg Mnd.roles m1
    have z2 : (mat (tat t k).l i).calm = (s.ms k i).calm := congrArg Mnd.calm m1
    rw [z1, z2, m2]
    have hn := ends_few n i (by rw [← e2]; exact hR.fewL)
    exact ⟨by unfold Pl.Net.pts; rw [List.length_map]; exact hn, by rw [hf.1]; exact hen, by rw [hf.2]; exact hen⟩
theorem tat_take {t : List Tr} {T k : Nat} (hk : k < T) : tat (t.take T) k = tat t k := by
  unfold tat
  rw [List.getD_eq_getElem?_getD, List.getD_eq_getElem?_getD, List.getElem?_take_of_lt hk]
theorem TrRow.take {w : World} {b off cap : Nat} {t : List Tr} (h : TrRow w (some ⟨b, off, none⟩) cap t) {T : Nat} (hT : T ≤ t.length) : TrRow w (some ⟨b, off, none⟩) cap (t.take T) := by
  have hlen : (t.take T).length = T := by rw [List.length_take]; omega
  have hc := h.row.1
  refine ⟨?_, fun k hk => ?_, by rw [hlen]; have := h.many; omega⟩
  · rw [hlen]
    refine ⟨by omega, fun h0 => ?_⟩
    obtain ⟨b', off', e, hb, hcell⟩ := h.row.2 (by omega)
    refine ⟨b', off', e, hb, fun i hi j hj => ?_⟩
    have e2 := tat_take (t := t) hi
    show _ = some (Value.slice (tat (List.take T t) i).ao (tat (List.take T t) i).l.length (tat (List.take T t) i).cap)
    rw [e2]
    exact hcell i (by omega) j hj
  · rw [hlen] at hk
    rw [tat_take hk]
    exact h.each k (by omega)
/-- What is done, and more. -/
def dsA (dn : Nat) (ds ms : Nat → Dn) (i : Nat) : Dn := if i < dn then ds i else ms (i - dn)
theorem do_app {W : World} {lo : Nat} {a1 : Option Addr} {c1 dn : Nat} {ds : Nat → Dn} {mao : Option Addr} {mn mcap : Nat} {ms : Nat → Dn} (ho : W.ownsRow lo 45 4 (.slice a1 dn c1) dn (cellsL dn 4 (fun i => dnC (ds i)))) (hr : DRow W mao mn mcap ms) (hnil : NilOk mao mn mcap) (hn : dn ≤ 100000) (hm : mn ≤ 100000) (hl : lo ≤ W.heap.size) :
    ∃ a2 c2 w', runAppD (.slice a1 dn c1) (.slice mao mn mcap) W (.slice a2 (dn + mn) c2) w' ∧ w'.ownsRow lo 45 4 (.slice a2 (dn + mn) c2) (dn + mn) (cellsL (dn + mn) 4 (fun i => dnC (dsA dn ds ms i))) ∧ Below lo W w' ∧ (∀ q, q < W.heap.size → some q ≠ (Value.slice a1 dn c1).ownBlock → w'.heap[q]? = W.heap[q]?) := by
  obtain ⟨a2, c2, w', r, o, b, q⟩ := append_c W 26 45 _ 4 32 Tryz.underlying26 infoDo rfl (by omega) lo (.slice a1 dn c1) dn _ ho mao mn mcap (fun i => dnC (ms i)) (fun _ _ => dnC_one _ _) hr hnil (by unfold maxLen; omega) (by omega) hl
  rw [cellsL_congr (dn + mn) 4 _ (fun i => dnC (dsA dn ds ms i)) (fun i hi => by
    unfold catC dsA
    by_cases h : i < dn
    · rw [if_pos h, if_pos h]
    · rw [if_neg h, if_neg h])] at o
  exact ⟨a2, c2, w', r, o, b, q⟩
theorem all_more (s : Sc) (c : Cn) (ds ms : Nat → Dn) (dn mn : Nat) : s.all c (dsA dn ds ms) (dn + mn) = (s.all c ds dn).all c ms mn := (Tk.all_add s c ds ms dn mn).symm
end Go.Proofs.YtaneiffnhphkhaaGreatDoor

namespace Go.Proofs.YtaneiffnhphkhaaGreatDoor
open Go.RowKit
open Vc (V Of)
open Pl (Br Net Pc Lk En St)
open Tk (Md Mnd Cn Sc Dn)

theorem first_least (f : Nat → Int) : ∀ n, (∀ i, i < n → f i = 0) ∨ ∃ k, k < n ∧ f k ≠ 0 ∧ ∀ i, i < k → f i = 0
  | 0 => Or.inl (fun i hi => by omega)
  | n + 1 => by
    rcases first_least f n with h | ⟨k, h1, h2, h3⟩
    · by_cases e : f n = 0
      · exact Or.inl (fun i hi => by
          by_cases c : i < n
          · exact h i c
          · obtain rfl : i = n := by omega
            exact e)
      · exact Or.inr ⟨n, by omega, e, h⟩
    · exact Or.inr ⟨k, by omega, h2, h3⟩
theorem err_more {c : Cn} {ds ms : Nat → Dn} {dn mn : Nat} (h : ∀ k, k < dn → Tk.errOf c (ds k) = 0) : (Tk.errTo c (dsA dn ds ms) (dn + mn)).1 = (Tk.errTo c ms mn).1 := by
  unfold Tk.errTo
  rcases first_least (fun k => Tk.errOf c (ms k)) mn with e | ⟨k, h1, h2, h3⟩
  · rw [Pl.firstTo_all _ mn e, Pl.firstTo_all _ (dn + mn) (fun i hi => ?_)]
    by_cases q : i < dn
    · unfold dsA; rw [if_pos q]; exact h i q
    · unfold dsA; rw [if_neg q]; exact e (i - dn) (by omega)
  · rw [Pl.firstTo_here _ k h3 h2 mn h1, Pl.firstTo_here (fun j => Tk.errOf c (dsA dn ds ms j)) (dn + k) (fun i hi => ?_) ?_ (dn + mn) (by omega)]
    · show Tk.errOf c (dsA dn ds ms (dn + k)) = Tk.errOf c (ms k)
      unfold dsA
      rw [if_neg (by omega), Nat.add_sub_cancel_left]
    · show Tk.errOf c (dsA dn ds ms (dn + k)) ≠ 0
      unfold dsA
      rw [if_neg (by omega), Nat.add_sub_cancel_left]
      exact h2
    · by_cases q : i < dn
      · unfold dsA; rw [if_pos q]; exact h i q
      · unfold dsA; rw [if_neg q]; exact h3 (i - dn) (by omega)
/-- What On leaves, whatever is done. -/
def OnG (V w' : World) (n n' : Net) (T : Nat) (s : Sc) (ms : Nat → Dn) (mn : Nat) (na : Option Addr) (nk nc : Nat) (la : Option Addr) (lk lc : Nat) (oa : Option Addr) (ol oc : Nat) (f1 f2 : Int) : Prop :=
  ((Tk.errTo n.cn ms mn).1 ≠ 0 ∧ f1 = (Tk.errTo n.cn ms mn).1 ∧ (na = none ∧ nk = 0 ∧ nc = 0) ∧ (la = none ∧ lk = 0 ∧ lc = 0) ∧ oa = none ∧ ol = 0 ∧ oc = 0) ∨
    ((Tk.errTo n.cn ms mn).1 = 0 ∧ (f1 = 0 ∧ f2 = 0) ∧ ∃ (n2 : Net) (t2 : List Tr), (na = n2.bao ∧ nk = n2.K ∧ nc = n2.bcap) ∧ (la = n2.lao ∧ lk = n2.L ∧ lc = n2.lcap) ∧ ol = t2.length ∧ ∃ b, V.heap.size ≤ b ∧ Kept w' b (fun U => SnOut U n' T (s.all n.cn ms mn) n2 oa oc t2))
theorem on_gen {V : World} {n : Net} {T : Nat} {s : Sc} {n' : Net} {oa : Option Addr} {oc : Nat} {t' : List Tr} (h : SnOut V n T s n' oa oc t') (hT : 1 ≤ T ∧ T ≤ 4) (hp : ∀ i, n.pts i = n'.pts i) {mao : Option Addr} {mn mcap : Nat} {ms : Nat → Dn} (hmn : mn ≤ 30) (hrow : DRow V mao mn mcap ms) (htb : Tabs V) (hbt : 2 ≤ V.heap.size) :
    Calls Tryz.prog 20 #[.agg #[.slice n'.bao n'.K n'.bcap, .slice n'.lao n'.L n'.lcap], .agg #[.slice oa t'.length oc], .slice mao mn mcap] V fun e w' => ∃ na nk nc la lk lc oa ol oc f1 f2, e = .returned (.tuple #[.agg #[.slice na nk nc, .slice la lk lc], .agg #[.slice oa ol oc], .agg #[.int .i64 f1, .int .i64 f2]]) ∧ Hid (Below V.heap.size V w' ∧ OnG V w' n n' T s ms mn na nk nc la lk lc oa ol oc f1 f2) := by
  obtain ⟨hf, hc, hm⟩ := sn_fit h hT hp
  have herr : onErr n' t' ms mn = Tk.errTo n.cn ms mn := by
    rw [on_start h.right hf, if_neg (by omega), h.cn]
  refine (ton_any n' oa oc t' s.ms mao mn mcap ms V h.wf h.net h.row (by omega) hrow hc hm htb hbt).mono ?_
  rintro e w' ⟨h1, ⟨h2, rfl⟩ | ⟨h2, n2, oao, ocap, t2, rfl, b, hb, h3⟩⟩
  · rw [herr] at h2
    exact ⟨none, 0, 0, none, 0, 0, none, 0, 0, _, _, rfl, h1, Or.inl ⟨h2, by rw [herr], ⟨rfl, rfl, rfl⟩, ⟨rfl, rfl, rfl⟩, rfl, rfl, rfl⟩⟩
  · rw [herr] at h2
    refine ⟨n2.bao, n2.K, n2.bcap, n2.lao, n2.L, n2.lcap, oao, t2.length, ocap, 0, 0, rfl, h1, Or.inr ⟨h2, ⟨rfl, rfl⟩, n2, t2, ⟨rfl, rfl, rfl⟩, ⟨rfl, rfl, rfl⟩, rfl, b, hb, ?_⟩⟩
    rw [h.sc, h.cn, h.len] at h3
    exact h3
/-- A net of nothing. -/
def Pl.Net.none0 (n : Net) : Net := ⟨none, 0, 0, n.bs, none, 0, 0, n.ls⟩
theorem none_same (n : Net) (w : World) : Calls Tryz.prog 17 #[.agg #[.slice none 0 0, .slice none 0 0], .agg #[.slice none 0 0, .slice none 0 0]] w fun e w' => e = .returned (.bool true) ∧ Below w.heap.size w w' := by
  have h : (Pl.Net.none0 n).at' w := ⟨⟨Nat.le_refl _, fun h => absurd h (Nat.lt_irrefl _)⟩, fun i hi => absurd hi (Nat.not_lt_zero _), ⟨Nat.le_refl _, fun h => absurd h (Nat.lt_irrefl _)⟩, Nat.zero_le _, Nat.zero_le _⟩
  exact tsamenet_any (Pl.Net.none0 n) (Pl.Net.none0 n) w h h ⟨rfl, rfl, ⟨Nat.zero_le _, Nat.zero_le _⟩, fun i hi => absurd hi (Nat.not_lt_zero _), fun i hi => absurd hi (Nat.not_lt_zero _), fun _ _ => rfl⟩
theorem none_sameT (w : World) : Calls Tryz.prog 14 #[.agg #[.slice none 0 0], .agg #[.slice none 0 0]] w fun e w' => e = .returned (.bool true) ∧ Below w.heap.size w w' := by
  have h : TrRow w none 0 [] := ⟨⟨Nat.le_refl _, fun h => absurd h (Nat.lt_irrefl _)⟩, fun i hi => absurd hi (Nat.not_lt_zero _), Nat.zero_le _⟩
  exact tsame7_any none none 0 0 [] [] w h h ⟨rfl, Nat.zero_le _, fun k hk => absurd hk (Nat.not_lt_zero _), fun k i hk => absurd hk (Nat.not_lt_zero _)⟩
end Go.Proofs.YtaneiffnhphkhaaGreatDoor

namespace Go.Proofs.YtaneiffnhphkhaaGreatDoor
open Go.RowKit
open Tk (Dn)

section
variable {Q : Exit → Act → World → Prop} (df : List Deferred) (X : World) (BN : Nat) (nb nl : Value) (trees : Int) (dao : Option Addr) (dn dcap : Nat) (ds : Nat → Dn) (mao : Option Addr) (mn mcap : Nat) (ms : Nat → Dn)
variable (R : World → World → Option Addr → Nat → Nat → Option Addr → Nat → Nat → Option Addr → Nat → Nat → Int → Int → Prop)
variable (x0 x5 x6 x7 x8 x9 x10 x11 x12 x13 x17 x18 x19 x20 x21 x22 x23 x24 x25 x26 x27 x28 x29 x30 x31 x32 x33 x34 x35 x36 x37 x38 x39 x40 x41 x42 x43 x44 x45 x46 x49 x51 x53 x54 x55 x56 x57 x58 x59 x60 x61 x62 x63 x64 x65 x66 x67 x68 x69 x70 x71 x72 : Value)
def rn7_ops : Array Oper := #[{ dst := some 47, op := Op.load 25 (Operand.tmp 4), type := 25, pos := "law.go:52", after := #[], guard := none }, { dst := some 48, op := Op.move (Operand.tmp 1), type := 3, pos := "law.go:52", after := #[], guard := none }, { dst := some 49, op := Op.buildSlice 26 0 #[], type := 26, pos := "law.go:52", after := #[], guard := none }, { dst := some 50, op := Op.move (Operand.tmp 2), type := 26, pos := "law.go:52", after := #[], guard := none }, { dst := some 51, op := Op.call { callee := Callee.builtin Builtin.append, args := #[Operand.tmp 49, Operand.tmp 50], argTypes := #[26, 26] }, type := 26, pos := "law.go:52", after := #[{ on := 2, ground := Ground.data }, { on := 3, ground := Ground.data }], guard := none }, { dst := some 52, op := Op.move (Operand.tmp 3), type := 26, pos := "law.go:52", after := #[], guard := none }, { dst := some 53, op := Op.call { callee := Callee.builtin Builtin.append, args := #[Operand.tmp 51, Operand.tmp 52], argTypes := #[26, 26] }, type := 26, pos := "law.go:52", after := #[{ on := 4, ground := Ground.data }, { on := 5, ground := Ground.data }, { on := 4, ground := Ground.chain }], guard := none }, { dst := some 54, op := Op.call { callee := Callee.value (Operand.func 15), args := #[Operand.tmp 47, Operand.tmp 48, Operand.tmp 53], argTypes := #[25, 3, 26] }, type := 36, pos := "law.go:52", after := #[{ on := 0, ground := Ground.data }, { on := 1, ground := Ground.data }, { on := 6, ground := Ground.data }, { on := 6, ground := Ground.chain }], guard := none }, { dst := some 46, op := Op.move (Operand.tmp 54), type := 36, pos := "law.go:52", after := #[{ on := 7, ground := Ground.data }], guard := none }, { dst := some 55, op := Op.extract (Operand.tmp 46) 0, type := 25, pos := "law.go:52", after := #[{ on := 8, ground := Ground.data }], guard := none }, { dst := some 56, op := Op.extract (Operand.tmp 46) 1, type := 29, pos := "law.go:52", after := #[{ on := 8, ground := Ground.data }, { on := 15, ground := Ground.gcOnly Departure.lateStores }], guard := none }, { dst := some 57, op := Op.extract (Operand.tmp 46) 2, type := 32, pos := "law.go:52", after := #[{ on := 8, ground := Ground.data }, { on := 16, ground := Ground.gcOnly Departure.lateStores }], guard := none }, { dst := some 14, op := Op.alloc 25, type := 0, pos := "law.go:52", after := #[], guard := none }, { dst := some 15, op := Op.alloc 29, type := 0, pos := "law.go:52", after := #[], guard := none }, { dst := some 16, op := Op.alloc 32, type := 0, pos := "law.go:52", after := #[], guard := none }, { dst := none, op := Op.store 25 (Operand.tmp 14) (Operand.tmp 55), type := 0, pos := "law.go:52", after := #[{ on := 12, ground := Ground.data }, { on := 9, ground := Ground.data }, { on := 7, ground := Ground.chain }, { on := 0, ground := Ground.phase }, { on := 1, ground := Ground.phase }, { on := 2, ground := Ground.phase }, { on := 3, ground := Ground.phase }, { on := 4, ground := Ground.phase }, { on := 5, ground := Ground.phase }, { on := 6, ground := Ground.phase }, { on := 7, ground := Ground.phase }, { on := 8, ground := Ground.phase }, { on := 9, ground := Ground.phase }, { on := 10, ground := Ground.textOnly Departure.lateStores }, { on := 11, ground := Ground.textOnly Departure.lateStores }, { on := 12, ground := Ground.phase }, { on := 13, ground := Ground.phase }, { on := 14, ground := Ground.phase }], guard := none }, { dst := none, op := Op.store 29 (Operand.tmp 15) (Operand.tmp 56), type := 0, pos := "law.go:52", after := #[{ on := 13, ground := Ground.data }, { on := 10, ground := Ground.data }, { on := 15, ground := Ground.chain }, { on := 0, ground := Ground.phase }, { on := 1, ground := Ground.phase }, { on := 2, ground := Ground.phase }, { on := 3, ground := Ground.phase }, { on := 4, ground := Ground.phase }, { on := 5, ground := Ground.phase }, { on := 6, ground := Ground.phase }, { on := 7, ground := Ground.phase }, { on := 8, ground := Ground.phase }, { on := 9, ground := Ground.phase }, { on := 10, ground := Ground.phase }, { on := 11, ground := Ground.textOnly Departure.lateStores }, { on := 12, ground := Ground.phase }, { on := 13, ground := Ground.phase }, { on := 14, ground := Ground.phase }, { on := 15, ground := Ground.phase }], guard := none }, { dst := none, op := Op.store 32 (Operand.tmp 16) (Operand.tmp 57), type := 0, pos := "law.go:52", after := #[{ on := 14, ground := Ground.data }, { on := 11, ground := Ground.data }, { on := 16, ground := Ground.chain }, { on := 0, ground := Ground.phase }, { on := 1, ground := Ground.phase }, { on := 2, ground := Ground.phase }, { on := 3, ground := Ground.phase }, { on := 4, ground := Ground.phase }, { on := 5, ground := Ground.phase }, { on := 6, ground := Ground.phase }, { on := 7, ground := Ground.phase }, { on := 8, ground := Ground.phase }, { on := 9, ground := Ground.phase }, { on := 10, ground := Ground.phase }, { on := 11, ground := Ground.phase }, { on := 12, ground := Ground.phase }, { on := 13, ground := Ground.phase }, { on := 14, ground := Ground.phase }, { on := 15, ground := Ground.phase }, { on := 16, ground := Ground.phase }], guard := none }]
variable (hQ : ∀ c (a : Act) (d : Tmp) (v : Value) (w : World), Q (.panic c) (a.put (some d) v) w → Q (.panic c) a w)
variable (hC : ∀ V, Below X.heap.size X V → V.cell? ⟨BN, 0, none⟩ = some nb ∧ V.cell? ⟨BN, 1, none⟩ = some nl)
variable (hdn : dn ≤ 1000) (hnil : NilOk dao dn dcap) (hds : ∀ V, Below X.heap.size X V → DRow V dao dn dcap ds)
variable (hmn : mn ≤ 1000) (hmnil : NilOk mao mn mcap) (hms : ∀ V, Below X.heap.size X V → DRow V mao mn mcap ms)
variable (hP : ∀ V a2 c2, Below X.heap.size X V → DRow V a2 (dn + mn) c2 (dsA dn ds ms) → Calls Tryz.prog 15 #[.agg #[nb, nl], .int .i64 trees, .slice a2 (dn + mn) c2] V fun e w' => ∃ na nk nc la lk lc oa ol oc f1 f2, e = .returned (.tuple #[.agg #[.slice na nk nc, .slice la lk lc], .agg #[.slice oa ol oc], .agg #[.int .i64 f1, .int .i64 f2]]) ∧ Hid (Below V.heap.size V w' ∧ R V w' na nk nc la lk lc oa ol oc f1 f2))
variable (fin : ∀ (v27 : Value) (a1 : Option Addr) (c1 : Nat) (a2 : Option Addr) (c2 : Nat) (V : World) (na : Option Addr) (nk nc : Nat) (la : Option Addr) (lk lc : Nat) (oa : Option Addr) (ol oc : Nat) (f1 f2 : Int) (g7 g8 g9 : Nat) (W0 W : World), R V W0 na nk nc la lk lc oa ol oc f1 f2 → Below W0.heap.size W0 W → Below X.heap.size X W → (W.heap[g7]? = some (.cells #[.slice none 0 0, .slice none 0 0] 25 (0, 0)) ∧ W.heap[g8]? = some (.cells #[.slice none 0 0] 29 (0, 0)) ∧ W.heap[g9]? = some (.cells #[.int .i64 0, .int .i64 0] 32 (0, 0))) → (X.heap.size ≤ g7 ∧ X.heap.size ≤ g8 ∧ X.heap.size ≤ g9) → ((g7 < V.heap.size ∨ W0.heap.size ≤ g7) ∧ (g8 < V.heap.size ∨ W0.heap.size ≤ g8) ∧ (g9 < V.heap.size ∨ W0.heap.size ≤ g9)) → Q .normal { tmps := #[x0, (.int .i64 trees), (.slice dao dn dcap), (.slice mao mn mcap), (.pointer (some ⟨BN, 0, none⟩)), x5, x6, x7, x8, x9, x10, x11, x12, x13, (.pointer (some ⟨g7, 0, none⟩)), (.pointer (some ⟨g8, 0, none⟩)), (.pointer (some ⟨g9, 0, none⟩)), x17, x18, x19, x20, x21, x22, x23, x24, x25, x26, x27, x28, x29, x30, x31, x32, x33, x34, x35, x36, x37, x38, x39, x40, x41, x42, x43, x44, x45, (.tuple #[.agg #[.slice na nk nc, .slice la lk lc], .agg #[.slice oa ol oc], .agg #[.int .i64 f1, .int .i64 f2]]), (.agg #[nb, nl]), (.int .i64 trees), v27, (.slice dao dn dcap), (.slice a1 dn c1), (.slice mao mn mcap), (.slice a2 (dn + mn) c2), (.tuple #[.agg #[.slice na nk nc, .slice la lk lc], .agg #[.slice oa ol oc], .agg #[.int .i64 f1, .int .i64 f2]]), (.agg #[.slice na nk nc, .slice la lk lc]), (.agg #[.slice oa ol oc]), (.agg #[.int .i64 f1, .int .i64 f2]), x58, x59, x60, x61, x62, x63, x64, x65, x66, x67, x68, x69, x70, x71, x72], defers := df } (((((W.setCell ⟨g7, 0, none⟩ (.slice na nk nc)).setCell ⟨g7, 1, none⟩ (.slice la lk lc)).setCell ⟨g8, 0, none⟩ (.slice oa ol oc)).setCell ⟨g9, 0, none⟩ (.int .i64 f1)).setCell ⟨g9, 1, none⟩ (.int .i64 f2)))
set_option maxRecDepth 100000
theorem rn7_rd0 (b7 b8 b9 : Bool) : Region.ready .any rn7_ops #[true, true, false, true, false, true, false, false, false, false, false, false, b7, b8, b9, false, false, false] = (2 :: ((if b7 then [] else [12]) ++ ((if b8 then [] else [13]) ++ (if b9 then [] else [14]))) : List Nat) := by
  cases b7 <;> cases b8 <;> cases b9 <;> kernel_rfl
theorem rn7_rd1 (b7 b8 b9 : Bool) : Region.ready .any rn7_ops #[true, true, true, true, false, true, false, false, false, false, false, false, b7, b8, b9, false, false, false] = (4 :: ((if b7 then [] else [12]) ++ ((if b8 then [] else [13]) ++ (if b9 then [] else [14]))) : List Nat) := by
  cases b7 <;> cases b8 <;> cases b9 <;> kernel_rfl
theorem rn7_rd2 (b7 b8 b9 : Bool) : Region.ready .any rn7_ops #[true, true, true, true, true, true, false, false, false, false, false, false, b7, b8, b9, false, false, false] = (6 :: ((if b7 then [] else [12]) ++ ((if b8 then [] else [13]) ++ (if b9 then [] else [14]))) : List Nat) := by
  cases b7 <;> cases b8 <;> cases b9 <;> kernel_rfl
theorem rn7_rd3 (b7 b8 b9 : Bool) : Region.ready .any rn7_ops #[true, true, true, true, true, true, true, false, false, false, false, false, b7, b8, b9, false, false, false] = (7 :: ((if b7 then [] else [12]) ++ ((if b8 then [] else [13]) ++ (if b9 then [] else [14]))) : List Nat) := by
  cases b7 <;> cases b8 <;> cases b9 <;> kernel_rfl
theorem rn7_rd4 (b7 b8 b9 : Bool) : Region.ready .any rn7_ops #[true, true, true, true, true, true, true, true, true, true, true, true, b7, b8, b9, false, false, false] = (if (b7 && (b8 && b9)) = true then [15] else (if b7 then [] else [12]) ++ ((if b8 then [] else [13]) ++ (if b9 then [] else [14])) : List Nat) := by
  cases b7 <;> cases b8 <;> cases b9 <;> kernel_rfl
include hC fin in
set_option maxRecDepth 100000 in
set_option maxHeartbeats 1500000 in
theorem rn7_4 : ∀ (fuel : Nat) (b7 b8 b9 : Bool), 3 + cnt3 b7 b8 b9 ≤ fuel → ∀ (s7 s8 s9 : Value) (g7 g8 g9 : Nat) (v27 : Value) (a1 : Option Addr) (c1 : Nat) (a2 : Option Addr) (c2 : Nat) (V : World) (na : Option Addr) (nk nc : Nat) (la : Option Addr) (lk lc : Nat) (oa : Option Addr) (ol oc : Nat) (f1 f2 : Int) (W0 W : World), R V W0 na nk nc la lk lc oa ol oc f1 f2 → Below W0.heap.size W0 W → Below X.heap.size X W → AlF W X.heap.size b7 s7 g7 #[.slice none 0 0, .slice none 0 0] 25 → AlF W X.heap.size b8 s8 g8 #[.slice none 0 0] 29 → AlF W X.heap.size b9 s9 g9 #[.int .i64 0, .int .i64 0] 32 → (b7 = true → g7 < V.heap.size ∨ W0.heap.size ≤ g7) → (b8 = true → g8 < V.heap.size ∨ W0.heap.size ≤ g8) → (b9 = true → g9 < V.heap.size ∨ W0.heap.size ≤ g9) → wpAnyZ Tryz.prog .any rn7_ops Q 15 (fun W => W.cell? ⟨BN, 0, none⟩ = some nb ∧ W.cell? ⟨BN, 1, none⟩ = some nl) fuel #[true, true, true, true, true, true, true, true, true, true, true, true, b7, b8, b9, false, false, false] { tmps := #[x0, (.int .i64 trees), (.slice dao dn dcap), (.slice mao mn mcap), (.pointer (some ⟨BN, 0, none⟩)), x5, x6, x7, x8, x9, x10, x11, x12, x13, s7, s8, s9, x17, x18, x19, x20, x21, x22, x23, x24, x25, x26, x27, x28, x29, x30, x31, x32, x33, x34, x35, x36, x37, x38, x39, x40, x41, x42, x43, x44, x45, (.tuple #[.agg #[.slice na nk nc, .slice la lk lc], .agg #[.slice oa ol oc], .agg #[.int .i64 f1, .int .i64 f2]]), (.agg #[nb, nl]), (.int .i64 trees), v27, (.slice dao dn dcap), (.slice a1 dn c1), (.slice mao mn mcap), (.slice a2 (dn + mn) c2), (.tuple #[.agg #[.slice na nk nc, .slice la lk lc], .agg #[.slice oa ol oc], .agg #[.int .i64 f1, .int .i64 f2]]), (.agg #[.slice na nk nc, .slice la lk lc]), (.agg #[.slice oa ol oc]), (.agg #[.int .i64 f1, .int .i64 f2]), x58, x59, x60, x61, x62, x63, x64, x65, x66, x67, x68, x69, x70, x71, x72], defers := df } W := by
  intro fuel
  induction fuel with
  | zero => intro b7 b8 b9 h; omega
  | succ fuel ih =>
    intro b7 b8 b9 hf s7 s8 s9 g7 g8 g9 v27 a1 c1 a2 c2 V na nk nc la lk lc oa ol oc f1 f2 W0 W hF hb hX h7 h8 h9 hz7 hz8 hz9 
    have hHeld : (#[true, true, true, true, true, true, true, true, true, true, true, true, b7, b8, b9, false, false, false] : Array Bool).getD 15 true = true ∨ (fun W => W.cell? ⟨BN, 0, none⟩ = some nb ∧ W.cell? ⟨BN, 1, none⟩ = some nl) W := Or.inr (hC W hX)
    by_cases hall : b7 = true ∧ b8 = true ∧ b9 = true
    · obtain ⟨rfl, rfl, rfl⟩ := hall
      obtain ⟨rfl, k7, l7⟩ := h7 rfl
      obtain ⟨rfl, k8, l8⟩ := h8 rfl
      obtain ⟨rfl, k9, l9⟩ := h9 rfl
      have hfin := fin v27 a1 c1 a2 c2 V na nk nc la lk lc oa ol oc f1 f2 g7 g8 g9 W0 W hF hb hX ⟨k7, k8, k9⟩ ⟨l7, l8, l9⟩ ⟨hz7 rfl, hz8 rfl, hz9 rfl⟩
      have n78 : g7 ≠ g8 := fun e => by subst e; exact absurd (cells_type k7 k8) (by decide)
      have n79 : g7 ≠ g9 := fun e => by subst e; exact absurd (cells_type k7 k9) (by decide)
      have n89 : g8 ≠ g9 := fun e => by subst e; exact absurd (cells_type k8 k9) (by decide)
      have n87 := n78.symm
      have n97 := n79.symm
      have n98 := n89.symm
      obtain ⟨u0, u1⟩ := two_cells2 k7
      have u2 := one_cell k8
      obtain ⟨u3, u4⟩ := two_cells2 k9
      have v0 : W.frozen? ⟨g7, 0, none⟩ = false := frozen_of_row _ _ _ _ _ k7
      have v1 : W.frozen? ⟨g7, 1, none⟩ = false := frozen_of_row _ _ _ _ _ k7
      have v2 : W.frozen? ⟨g8, 0, none⟩ = false := frozen_of_row _ _ _ _ _ k8
      have v3 : W.frozen? ⟨g9, 0, none⟩ = false := frozen_of_row _ _ _ _ _ k9
      have v4 : W.frozen? ⟨g9, 1, none⟩ = false := frozen_of_row _ _ _ _ _ k9
      obtain ⟨fuel, rfl⟩ : ∃ q, fuel = q + 1 + 1 := ⟨fuel - 2, by simp [cnt3] at hf; omega⟩
      clear k7 k8 k9 fin ih hz7 hz8 hz9 h7 h8 h9
      refine z_one (i := 15) (o := { dst := none, op := Op.store 25 (Operand.tmp 14) (Operand.tmp 55), type := 0, pos := "law.go:52", after := #[{ on := 12, ground := Ground.data }, { on := 9, ground := Ground.data }, { on := 7, ground := Ground.chain }, { on := 0, ground := Ground.phase }, { on := 1, ground := Ground.phase }, { on := 2, ground := Ground.phase }, { on := 3, ground := Ground.phase }, { on := 4, ground := Ground.phase }, { on := 5, ground := Ground.phase }, { on := 6, ground := Ground.phase }, { on := 7, ground := Ground.phase }, { on := 8, ground := Ground.phase }, { on := 9, ground := Ground.phase }, { on := 10, ground := Ground.textOnly Departure.lateStores }, { on := 11, ground := Ground.textOnly Departure.lateStores }, { on := 12, ground := Ground.phase }, { on := 13, ground := Ground.phase }, { on := 14, ground := Ground.phase }], guard := none }) (by kernel_rfl) rfl (fun K hK => ?_)
      go_simp
      refine hK.out _ _ (Or.inl (by kernel_rfl)) (fun hHeld => ?_)
      clear hK K
      (try simp only [List.setIfInBounds_toArray, List.set_cons_zero, List.set_cons_succ])
      refine z_one (i := 16) (o := { dst := none, op := Op.store 29 (Operand.tmp 15) (Operand.tmp 56), type := 0, pos := "law.go:52", after := #[{ on := 13, ground := Ground.data }, { on := 10, ground := Ground.data }, { on := 15, ground := Ground.chain }, { on := 0, ground := Ground.phase }, { on := 1, ground := Ground.phase }, { on := 2, ground := Ground.phase }, { on := 3, ground := Ground.phase }, { on := 4, ground := Ground.phase }, { on := 5, ground := Ground.phase }, { on := 6, ground := Ground.phase }, { on := 7, ground := Ground.phase }, { on := 8, ground := Ground.phase }, { on := 9, ground := Ground.phase }, { on := 10, ground := Ground.phase }, { on := 11, ground := Ground.textOnly Departure.lateStores }, { on := 12, ground := Ground.phase }, { on := 13, ground := Ground.phase }, { on := 14, ground := Ground.phase }, { on := 15, ground := Ground.phase }], guard := none }) (by kernel_rfl) rfl (fun K hK => ?_)
      go_simp
      refine hK.out _ _ (Or.inl (by kernel_rfl)) (fun hHeld => ?_)
      clear hK K
      (try simp only [List.setIfInBounds_toArray, List.set_cons_zero, List.set_cons_succ])
      refine z_one (i := 17) (o := { dst := none, op := Op.store 32 (Operand.tmp 16) (Operand.tmp 57), type := 0, pos := "law.go:52", after := #[{ on := 14, ground := Ground.data }, { on := 11, ground := Ground.data }, { on := 16, ground := Ground.chain }, { on := 0, ground := Ground.phase }, { on := 1, ground := Ground.phase }, { on := 2, ground := Ground.phase }, { on := 3, ground := Ground.phase }, { on := 4, ground := Ground.phase }, { on := 5, ground := Ground.phase }, { on := 6, ground := Ground.phase }, { on := 7, ground := Ground.phase }, { on := 8, ground := Ground.phase }, { on := 9, ground := Ground.phase }, { on := 10, ground := Ground.phase }, { on := 11, ground := Ground.phase }, { on := 12, ground := Ground.phase }, { on := 13, ground := Ground.phase }, { on := 14, ground := Ground.phase }, { on := 15, ground := Ground.phase }, { on := 16, ground := Ground.phase }], guard := none }) (by kernel_rfl) rfl (fun K hK => ?_)
      go_simp
      refine hK.out _ _ (Or.inl (by kernel_rfl)) (fun hHeld => ?_)
      clear hK K
      (try simp only [List.setIfInBounds_toArray, List.set_cons_zero, List.set_cons_succ])
      refine z_done (by kernel_rfl) ?_ _
      exact hfin
    · refine z_mem (rn7_rd4 b7 b8 b9) (by revert hall; cases b7 <;> cases b8 <;> cases b9 <;> simp) (fun i hi => ?_)
      rw [if_neg (by revert hall; cases b7 <;> cases b8 <;> cases b9 <;> simp)] at hi
      simp only [List.mem_append] at hi
      rcases hi with hi | hi | hi
      · cases b7 with
        | true => simp at hi
        | false =>
          obtain rfl : i = 12 := by simpa using hi
          refine z_op (o := { dst := some 14, op := Op.alloc 25, type := 0, pos := "law.go:52", after := #[], guard := none }) rfl (fun K hK => ?_)
          go_simp
          have hn : Below W.heap.size W (W.alloc (.cells #[.slice none 0 0, .slice none 0 0] 25)) := below_alloc1 _ _
          have hXn := hX.trans (hn.mono hX.size)
          refine hK.out _ _ (Or.inr (hC _ hXn)) ?_
          (try simp only [List.setIfInBounds_toArray, List.set_cons_zero, List.set_cons_succ])
          exact ih true b8 b9 (by revert hf; cases b8 <;> cases b9 <;> simp [cnt3] <;> omega) _ s8 s9 W.heap.size g8 g9 v27 a1 c1 a2 c2 V na nk nc la lk lc oa ol oc f1 f2 W0 _ hF (hb.trans (hn.mono hb.size)) hXn (AlF.new W hX.size _ _ _) (h8.below hn) (h9.below hn) (fun _ => Or.inr hb.size) hz8 hz9
      · cases b8 with
        | true => simp at hi
        | false =>
          obtain rfl : i = 13 := by simpa using hi
          refine z_op (o := { dst := some 15, op := Op.alloc 29, type := 0, pos := "law.go:52", after := #[], guard := none }) rfl (fun K hK => ?_)
          go_simp
          have hn : Below W.heap.size W (W.alloc (.cells #[.slice none 0 0] 29)) := below_alloc1 _ _
          have hXn := hX.trans (hn.mono hX.size)
          refine hK.out _ _ (Or.inr (hC _ hXn)) ?_
          (try simp only [List.setIfInBounds_toArray, List.set_cons_zero, List.set_cons_succ])
          exact ih b7 true b9 (by revert hf; cases b7 <;> cases b9 <;> simp [cnt3] <;> omega) s7 _ s9 g7 W.heap.size g9 v27 a1 c1 a2 c2 V na nk nc la lk lc oa ol oc f1 f2 W0 _ hF (hb.trans (hn.mono hb.size)) hXn (h7.below hn) (AlF.new W hX.size _ _ _) (h9.below hn) hz7 (fun _ => Or.inr hb.size) hz9
      · cases b9 with
        | true => simp at hi
        | false =>
          obtain rfl : i = 14 := by simpa using hi
          refine z_op (o := { dst := some 16, op := Op.alloc 32, type := 0, pos := "law.go:52", after := #[], guard := none }) rfl (fun K hK => ?_)
          go_simp
          have hn : Below W.heap.size W (W.alloc (.cells #[.int .i64 0, .int .i64 0] 32)) := below_alloc1 _ _
          have hXn := hX.trans (hn.mono hX.size)
          refine hK.out _ _ (Or.inr (hC _ hXn)) ?_
          (try simp only [List.setIfInBounds_toArray, List.set_cons_zero, List.set_cons_succ])
          exact ih b7 b8 true (by revert hf; cases b7 <;> cases b8 <;> simp [cnt3] <;> omega) s7 s8 _ g7 g8 W.heap.size v27 a1 c1 a2 c2 V na nk nc la lk lc oa ol oc f1 f2 W0 _ hF (hb.trans (hn.mono hb.size)) hXn (h7.below hn) (h8.below hn) (AlF.new W hX.size _ _ _) hz7 hz8 (fun _ => Or.inr hb.size)
include hQ hC hP fin in
set_option maxRecDepth 100000 in
set_option maxHeartbeats 1500000 in
theorem rn7_3 : ∀ (fuel : Nat) (b7 b8 b9 : Bool), 8 + cnt3 b7 b8 b9 ≤ fuel → ∀ (s7 s8 s9 : Value) (g7 g8 g9 : Nat) (v27 : Value) (a1 : Option Addr) (c1 : Nat) (a2 : Option Addr) (c2 : Nat) (W0 W : World), DRow W0 a2 (dn + mn) c2 (dsA dn ds ms) → Below W0.heap.size W0 W → Below X.heap.size X W → AlF W X.heap.size b7 s7 g7 #[.slice none 0 0, .slice none 0 0] 25 → AlF W X.heap.size b8 s8 g8 #[.slice none 0 0] 29 → AlF W X.heap.size b9 s9 g9 #[.int .i64 0, .int .i64 0] 32 → wpAnyZ Tryz.prog .any rn7_ops Q 15 (fun W => W.cell? ⟨BN, 0, none⟩ = some nb ∧ W.cell? ⟨BN, 1, none⟩ = some nl) fuel #[true, true, true, true, true, true, true, false, false, false, false, false, b7, b8, b9, false, false, false] { tmps := #[x0, (.int .i64 trees), (.slice dao dn dcap), (.slice mao mn mcap), (.pointer (some ⟨BN, 0, none⟩)), x5, x6, x7, x8, x9, x10, x11, x12, x13, s7, s8, s9, x17, x18, x19, x20, x21, x22, x23, x24, x25, x26, x27, x28, x29, x30, x31, x32, x33, x34, x35, x36, x37, x38, x39, x40, x41, x42, x43, x44, x45, x46, (.agg #[nb, nl]), (.int .i64 trees), v27, (.slice dao dn dcap), (.slice a1 dn c1), (.slice mao mn mcap), (.slice a2 (dn + mn) c2), x54, x55, x56, x57, x58, x59, x60, x61, x62, x63, x64, x65, x66, x67, x68, x69, x70, x71, x72], defers := df } W := by
  intro fuel
  induction fuel with
  | zero => intro b7 b8 b9 h; omega
  | succ fuel ih =>
    intro b7 b8 b9 hf s7 s8 s9 g7 g8 g9 v27 a1 c1 a2 c2 W0 W hF hb hX h7 h8 h9 
    have hHeld : (#[true, true, true, true, true, true, true, false, false, false, false, false, b7, b8, b9, false, false, false] : Array Bool).getD 15 true = true ∨ (fun W => W.cell? ⟨BN, 0, none⟩ = some nb ∧ W.cell? ⟨BN, 1, none⟩ = some nl) W := Or.inr (hC W hX)
    refine z_mem (rn7_rd3 b7 b8 b9) (by simp) (fun i hi => ?_)
    simp only [List.mem_cons, List.mem_append] at hi
    rcases hi with rfl | hi | hi | hi
    · refine z_op (o := { dst := some 54, op := Op.call { callee := Callee.value (Operand.func 15), args := #[Operand.tmp 47, Operand.tmp 48, Operand.tmp 53], argTypes := #[25, 3, 26] }, type := 36, pos := "law.go:52", after := #[{ on := 0, ground := Ground.data }, { on := 1, ground := Ground.data }, { on := 6, ground := Ground.data }, { on := 6, ground := Ground.chain }], guard := none }) rfl (fun K hK => ?_)
      go_simp
      refine (hP W a2 c2 hX (CRow.below hF hb)).mono ?_
      rintro e w2 ⟨na, nk, nc, la, lk, lc, oa, ol, oc, f1, f2, rfl, H⟩
      have hn := H.out.1
      have hXn := hX.trans (hn.mono hX.size)
      refine hK.out _ _ (Or.inr (hC _ hXn)) ?_
      (try simp only [List.setIfInBounds_toArray, List.set_cons_zero, List.set_cons_succ])
      obtain ⟨fuel, rfl⟩ : ∃ q, fuel = q + 1 + 1 + 1 + 1 := ⟨fuel - 4, by omega⟩
      refine z_take (i := 8) (oi := { dst := some 46, op := Op.move (Operand.tmp 54), type := 36, pos := "law.go:52", after := #[{ on := 7, ground := Ground.data }], guard := none }) (v := ?_) (some 46) rfl rfl (by cases b7 <;> cases b8 <;> cases b9 <;> kernel_rfl) (by cases b7 <;> cases b8 <;> cases b9 <;> kernel_rfl) (by cases b7 <;> cases b8 <;> cases b9 <;> kernel_rfl) (by decide) (fun c a w h => hQ c a _ _ w h) (by rfl) ?_ (Or.inr (hC _ hXn)) ?_
      rotate_left 1
      · (intro wq; go_simp; try with_reducible rfl)
      (try simp only [Act.put, List.setIfInBounds_toArray, List.set_cons_zero, List.set_cons_succ])
      refine z_take (i := 9) (oi := { dst := some 55, op := Op.extract (Operand.tmp 46) 0, type := 25, pos := "law.go:52", after := #[{ on := 8, ground := Ground.data }], guard := none }) (v := ?_) (some 55) rfl rfl (by cases b7 <;> cases b8 <;> cases b9 <;> kernel_rfl) (by cases b7 <;> cases b8 <;> cases b9 <;> kernel_rfl) (by cases b7 <;> cases b8 <;> cases b9 <;> kernel_rfl) (by decide) (fun c a w h => hQ c a _ _ w h) (by rfl) ?_ (Or.inr (hC _ hXn)) ?_
      rotate_left 1
      · (intro wq; go_simp; try with_reducible rfl)
      (try simp only [Act.put, List.setIfInBounds_toArray, List.set_cons_zero, List.set_cons_succ])
      refine z_take (i := 10) (oi := { dst := some 56, op := Op.extract (Operand.tmp 46) 1, type := 29, pos := "law.go:52", after := #[{ on := 8, ground := Ground.data }, { on := 15, ground := Ground.gcOnly Departure.lateStores }], guard := none }) (v := ?_) (some 56) rfl rfl (by cases b7 <;> cases b8 <;> cases b9 <;> kernel_rfl) (by cases b7 <;> cases b8 <;> cases b9 <;> kernel_rfl) (by cases b7 <;> cases b8 <;> cases b9 <;> kernel_rfl) (by decide) (fun c a w h => hQ c a _ _ w h) (by rfl) ?_ (Or.inr (hC _ hXn)) ?_
      rotate_left 1
      · (intro wq; go_simp; try with_reducible rfl)
      (try simp only [Act.put, List.setIfInBounds_toArray, List.set_cons_zero, List.set_cons_succ])
      refine z_take (i := 11) (oi := { dst := some 57, op := Op.extract (Operand.tmp 46) 2, type := 32, pos := "law.go:52", after := #[{ on := 8, ground := Ground.data }, { on := 16, ground := Ground.gcOnly Departure.lateStores }], guard := none }) (v := ?_) (some 57) rfl rfl (by cases b7 <;> cases b8 <;> cases b9 <;> kernel_rfl) (by cases b7 <;> cases b8 <;> cases b9 <;> kernel_rfl) (by cases b7 <;> cases b8 <;> cases b9 <;> kernel_rfl) (by decide) (fun c a w h => hQ c a _ _ w h) (by rfl) ?_ (Or.inr (hC _ hXn)) ?_
      rotate_left 1
      · (intro wq; go_simp; try with_reducible rfl)
      (try simp only [Act.put, List.setIfInBounds_toArray, List.set_cons_zero, List.set_cons_succ])
      exact rn7_4 df X BN nb nl trees dao dn dcap mao mn mcap R x0 x5 x6 x7 x8 x9 x10 x11 x12 x13 x17 x18 x19 x20 x21 x22 x23 x24 x25 x26 x27 x28 x29 x30 x31 x32 x33 x34 x35 x36 x37 x38 x39 x40 x41 x42 x43 x44 x45 x58 x59 x60 x61 x62 x63 x64 x65 x66 x67 x68 x69 x70 x71 x72 hC fin fuel b7 b8 b9 (by omega) s7 s8 s9 g7 g8 g9 v27 a1 c1 a2 c2 W na nk nc la lk lc oa ol oc f1 f2 w2 w2 H.out.2 (Below.refl _ _) hXn (h7.below hn) (h8.below hn) (h9.below hn) (fun e => Or.inl (lt_some (h7 e).2.1)) (fun e => Or.inl (lt_some (h8 e).2.1)) (fun e => Or.inl (lt_some (h9 e).2.1))
    · cases b7 with
      | true => simp at hi
      | false =>
        obtain rfl : i = 12 := by simpa using hi
        refine z_op (o := { dst := some 14, op := Op.alloc 25, type := 0, pos := "law.go:52", after := #[], guard := none }) rfl (fun K hK => ?_)
        go_simp
        have hn : Below W.heap.size W (W.alloc (.cells #[.slice none 0 0, .slice none 0 0] 25)) := below_alloc1 _ _
        have hXn := hX.trans (hn.mono hX.size)
        refine hK.out _ _ (Or.inr (hC _ hXn)) ?_
        (try simp only [List.setIfInBounds_toArray, List.set_cons_zero, List.set_cons_succ])
        exact ih true b8 b9 (by revert hf; cases b8 <;> cases b9 <;> simp [cnt3] <;> omega) _ s8 s9 W.heap.size g8 g9 v27 a1 c1 a2 c2 W0 _ hF (hb.trans (hn.mono hb.size)) hXn (AlF.new W hX.size _ _ _) (h8.below hn) (h9.below hn) 
    · cases b8 with
      | true => simp at hi
      | false =>
        obtain rfl : i = 13 := by simpa using hi
        refine z_op (o := { dst := some 15, op := Op.alloc 29, type := 0, pos := "law.go:52", after := #[], guard := none }) rfl (fun K hK => ?_)
        go_simp
        have hn : Below W.heap.size W (W.alloc (.cells #[.slice none 0 0] 29)) := below_alloc1 _ _
        have hXn := hX.trans (hn.mono hX.size)
        refine hK.out _ _ (Or.inr (hC _ hXn)) ?_
        (try simp only [List.setIfInBounds_toArray, List.set_cons_zero, List.set_cons_succ])
        exact ih b7 true b9 (by revert hf; cases b7 <;> cases b9 <;> simp [cnt3] <;> omega) s7 _ s9 g7 W.heap.size g9 v27 a1 c1 a2 c2 W0 _ hF (hb.trans (hn.mono hb.size)) hXn (h7.below hn) (AlF.new W hX.size _ _ _) (h9.below hn) 
    · cases b9 with
      | true => simp at hi
      | false =>
        obtain rfl : i = 14 := by simpa using hi
        refine z_op (o := { dst := some 16, op := Op.alloc 32, type := 0, pos := "law.go:52", after := #[], guard := none }) rfl (fun K hK => ?_)
        go_simp
        have hn : Below W.heap.size W (W.alloc (.cells #[.int .i64 0, .int .i64 0] 32)) := below_alloc1 _ _
        have hXn := hX.trans (hn.mono hX.size)
        refine hK.out _ _ (Or.inr (hC _ hXn)) ?_
        (try simp only [List.setIfInBounds_toArray, List.set_cons_zero, List.set_cons_succ])
        exact ih b7 b8 true (by revert hf; cases b7 <;> cases b8 <;> simp [cnt3] <;> omega) s7 s8 _ g7 g8 W.heap.size v27 a1 c1 a2 c2 W0 _ hF (hb.trans (hn.mono hb.size)) hXn (h7.below hn) (h8.below hn) (AlF.new W hX.size _ _ _) 
include hQ hC hdn hmn hmnil hms hP fin in
set_option maxRecDepth 100000 in
set_option maxHeartbeats 1500000 in
theorem rn7_2 : ∀ (fuel : Nat) (b7 b8 b9 : Bool), 9 + cnt3 b7 b8 b9 ≤ fuel → ∀ (s7 s8 s9 : Value) (g7 g8 g9 : Nat) (v27 : Value) (a1 : Option Addr) (c1 : Nat) (W0 W : World), W0.ownsRow X.heap.size 45 4 (.slice a1 dn c1) dn (cellsL dn 4 (fun i => dnC (ds i))) → Below W0.heap.size W0 W → Below X.heap.size X W → AlF W X.heap.size b7 s7 g7 #[.slice none 0 0, .slice none 0 0] 25 → AlF W X.heap.size b8 s8 g8 #[.slice none 0 0] 29 → AlF W X.heap.size b9 s9 g9 #[.int .i64 0, .int .i64 0] 32 → wpAnyZ Tryz.prog .any rn7_ops Q 15 (fun W => W.cell? ⟨BN, 0, none⟩ = some nb ∧ W.cell? ⟨BN, 1, none⟩ = some nl) fuel #[true, true, true, true, true, true, false, false, false, false, false, false, b7, b8, b9, false, false, false] { tmps := #[x0, (.int .i64 trees), (.slice dao dn dcap), (.slice mao mn mcap), (.pointer (some ⟨BN, 0, none⟩)), x5, x6, x7, x8, x9, x10, x11, x12, x13, s7, s8, s9, x17, x18, x19, x20, x21, x22, x23, x24, x25, x26, x27, x28, x29, x30, x31, x32, x33, x34, x35, x36, x37, x38, x39, x40, x41, x42, x43, x44, x45, x46, (.agg #[nb, nl]), (.int .i64 trees), v27, (.slice dao dn dcap), (.slice a1 dn c1), (.slice mao mn mcap), x53, x54, x55, x56, x57, x58, x59, x60, x61, x62, x63, x64, x65, x66, x67, x68, x69, x70, x71, x72], defers := df } W := by
  intro fuel
  induction fuel with
  | zero => intro b7 b8 b9 h; omega
  | succ fuel ih =>
    intro b7 b8 b9 hf s7 s8 s9 g7 g8 g9 v27 a1 c1 W0 W hF hb hX h7 h8 h9 
    have hHeld : (#[true, true, true, true, true, true, false, false, false, false, false, false, b7, b8, b9, false, false, false] : Array Bool).getD 15 true = true ∨ (fun W => W.cell? ⟨BN, 0, none⟩ = some nb ∧ W.cell? ⟨BN, 1, none⟩ = some nl) W := Or.inr (hC W hX)
    refine z_mem (rn7_rd2 b7 b8 b9) (by simp) (fun i hi => ?_)
    simp only [List.mem_cons, List.mem_append] at hi
    rcases hi with rfl | hi | hi | hi
    · refine z_op (o := { dst := some 53, op := Op.call { callee := Callee.builtin Builtin.append, args := #[Operand.tmp 51, Operand.tmp 52], argTypes := #[26, 26] }, type := 26, pos := "law.go:52", after := #[{ on := 4, ground := Ground.data }, { on := 5, ground := Ground.data }, { on := 4, ground := Ground.chain }], guard := none }) rfl (fun K hK => ?_)
      obtain ⟨a2, c2, w2, r, ho, hl, hq⟩ := do_app (ownsC_below hF hb) (hms W hX) hmnil (by omega) (by omega) hX.size
      have hXn : Below X.heap.size X w2 := hX.trans hl
      refine step_append_d (some 53) rfl rfl (.tmp 51) (.tmp 52) 26 rfl _ _ _ rfl rfl r ?_
      refine hK.out _ _ (Or.inr (hC _ hXn)) ?_
      (try simp only [Act.put, List.setIfInBounds_toArray, List.set_cons_zero, List.set_cons_succ])
      exact rn7_3 df X BN nb nl trees dao dn dcap ds mao mn mcap ms R x0 x5 x6 x7 x8 x9 x10 x11 x12 x13 x17 x18 x19 x20 x21 x22 x23 x24 x25 x26 x27 x28 x29 x30 x31 x32 x33 x34 x35 x36 x37 x38 x39 x40 x41 x42 x43 x44 x45 x46 x54 x55 x56 x57 x58 x59 x60 x61 x62 x63 x64 x65 x66 x67 x68 x69 x70 x71 x72 hQ hC hP fin fuel b7 b8 b9 (by omega) s7 s8 s9 g7 g8 g9 v27 a1 c1 a2 c2 w2 w2 (own_do ho) (Below.refl _ _) hXn (h7.app (ownsC_below hF hb) hq (by decide)) (h8.app (ownsC_below hF hb) hq (by decide)) (h9.app (ownsC_below hF hb) hq (by decide))
    · cases b7 with
      | true => simp at hi
      | false =>
        obtain rfl : i = 12 := by simpa using hi
        refine z_op (o := { dst := some 14, op := Op.alloc 25, type := 0, pos := "law.go:52", after := #[], guard := none }) rfl (fun K hK => ?_)
        go_simp
        have hn : Below W.heap.size W (W.alloc (.cells #[.slice none 0 0, .slice none 0 0] 25)) := below_alloc1 _ _
        have hXn := hX.trans (hn.mono hX.size)
        refine hK.out _ _ (Or.inr (hC _ hXn)) ?_
        (try simp only [List.setIfInBounds_toArray, List.set_cons_zero, List.set_cons_succ])
        exact ih true b8 b9 (by revert hf; cases b8 <;> cases b9 <;> simp [cnt3] <;> omega) _ s8 s9 W.heap.size g8 g9 v27 a1 c1 W0 _ hF (hb.trans (hn.mono hb.size)) hXn (AlF.new W hX.size _ _ _) (h8.below hn) (h9.below hn) 
    · cases b8 with
      | true => simp at hi
      | false =>
        obtain rfl : i = 13 := by simpa using hi
        refine z_op (o := { dst := some 15, op := Op.alloc 29, type := 0, pos := "law.go:52", after := #[], guard := none }) rfl (fun K hK => ?_)
        go_simp
        have hn : Below W.heap.size W (W.alloc (.cells #[.slice none 0 0] 29)) := below_alloc1 _ _
        have hXn := hX.trans (hn.mono hX.size)
        refine hK.out _ _ (Or.inr (hC _ hXn)) ?_
        (try simp only [List.setIfInBounds_toArray, List.set_cons_zero, List.set_cons_succ])
        exact ih b7 true b9 (by revert hf; cases b7 <;> cases b9 <;> simp [cnt3] <;> omega) s7 _ s9 g7 W.heap.size g9 v27 a1 c1 W0 _ hF (hb.trans (hn.mono hb.size)) hXn (h7.below hn) (AlF.new W hX.size _ _ _) (h9.below hn) 
    · cases b9 with
      | true => simp at hi
      | false =>
        obtain rfl : i = 14 := by simpa using hi
        refine z_op (o := { dst := some 16, op := Op.alloc 32, type := 0, pos := "law.go:52", after := #[], guard := none }) rfl (fun K hK => ?_)
        go_simp
        have hn : Below W.heap.size W (W.alloc (.cells #[.int .i64 0, .int .i64 0] 32)) := below_alloc1 _ _
        have hXn := hX.trans (hn.mono hX.size)
        refine hK.out _ _ (Or.inr (hC _ hXn)) ?_
        (try simp only [List.setIfInBounds_toArray, List.set_cons_zero, List.set_cons_succ])
        exact ih b7 b8 true (by revert hf; cases b7 <;> cases b8 <;> simp [cnt3] <;> omega) s7 s8 _ g7 g8 W.heap.size v27 a1 c1 W0 _ hF (hb.trans (hn.mono hb.size)) hXn (h7.below hn) (h8.below hn) (AlF.new W hX.size _ _ _) 
include hQ hC hdn hnil hds hmn hmnil hms hP fin in
set_option maxRecDepth 100000 in
set_option maxHeartbeats 1500000 in
theorem rn7_1 : ∀ (fuel : Nat) (b7 b8 b9 : Bool), 10 + cnt3 b7 b8 b9 ≤ fuel → ∀ (s7 s8 s9 : Value) (g7 g8 g9 : Nat) (v27 : Value) (W0 W : World), W0.ownsRow X.heap.size 45 4 v27 0 (cellsL 0 4 (fun _ _ => .int .i64 0)) → Below W0.heap.size W0 W → Below X.heap.size X W → AlF W X.heap.size b7 s7 g7 #[.slice none 0 0, .slice none 0 0] 25 → AlF W X.heap.size b8 s8 g8 #[.slice none 0 0] 29 → AlF W X.heap.size b9 s9 g9 #[.int .i64 0, .int .i64 0] 32 → wpAnyZ Tryz.prog .any rn7_ops Q 15 (fun W => W.cell? ⟨BN, 0, none⟩ = some nb ∧ W.cell? ⟨BN, 1, none⟩ = some nl) fuel #[true, true, true, true, false, true, false, false, false, false, false, false, b7, b8, b9, false, false, false] { tmps := #[x0, (.int .i64 trees), (.slice dao dn dcap), (.slice mao mn mcap), (.pointer (some ⟨BN, 0, none⟩)), x5, x6, x7, x8, x9, x10, x11, x12, x13, s7, s8, s9, x17, x18, x19, x20, x21, x22, x23, x24, x25, x26, x27, x28, x29, x30, x31, x32, x33, x34, x35, x36, x37, x38, x39, x40, x41, x42, x43, x44, x45, x46, (.agg #[nb, nl]), (.int .i64 trees), v27, (.slice dao dn dcap), x51, (.slice mao mn mcap), x53, x54, x55, x56, x57, x58, x59, x60, x61, x62, x63, x64, x65, x66, x67, x68, x69, x70, x71, x72], defers := df } W := by
  intro fuel
  induction fuel with
  | zero => intro b7 b8 b9 h; omega
  | succ fuel ih =>
    intro b7 b8 b9 hf s7 s8 s9 g7 g8 g9 v27 W0 W hF hb hX h7 h8 h9 
    have hHeld : (#[true, true, true, true, false, true, false, false, false, false, false, false, b7, b8, b9, false, false, false] : Array Bool).getD 15 true = true ∨ (fun W => W.cell? ⟨BN, 0, none⟩ = some nb ∧ W.cell? ⟨BN, 1, none⟩ = some nl) W := Or.inr (hC W hX)
    refine z_mem (rn7_rd1 b7 b8 b9) (by simp) (fun i hi => ?_)
    simp only [List.mem_cons, List.mem_append] at hi
    rcases hi with rfl | hi | hi | hi
    · refine z_op (o := { dst := some 51, op := Op.call { callee := Callee.builtin Builtin.append, args := #[Operand.tmp 49, Operand.tmp 50], argTypes := #[26, 26] }, type := 26, pos := "law.go:52", after := #[{ on := 2, ground := Ground.data }, { on := 3, ground := Ground.data }], guard := none }) rfl (fun K hK => ?_)
      obtain ⟨a1, c1, w2, r, ho, hl, hq⟩ := do_copy (ownsC_below hF hb) (hds W hX) hnil (by omega) hX.size
      have hXn : Below X.heap.size X w2 := hX.trans hl
      refine step_append_d (some 51) rfl rfl (.tmp 49) (.tmp 50) 26 rfl _ _ _ rfl rfl r ?_
      refine hK.out _ _ (Or.inr (hC _ hXn)) ?_
      (try simp only [Act.put, List.setIfInBounds_toArray, List.set_cons_zero, List.set_cons_succ])
      exact rn7_2 df X BN nb nl trees dao dn dcap ds mao mn mcap ms R x0 x5 x6 x7 x8 x9 x10 x11 x12 x13 x17 x18 x19 x20 x21 x22 x23 x24 x25 x26 x27 x28 x29 x30 x31 x32 x33 x34 x35 x36 x37 x38 x39 x40 x41 x42 x43 x44 x45 x46 x53 x54 x55 x56 x57 x58 x59 x60 x61 x62 x63 x64 x65 x66 x67 x68 x69 x70 x71 x72 hQ hC hdn hmn hmnil hms hP fin fuel b7 b8 b9 (by omega) s7 s8 s9 g7 g8 g9 v27 a1 c1 w2 w2 ho (Below.refl _ _) hXn (h7.app (ownsC_below hF hb) hq (by decide)) (h8.app (ownsC_below hF hb) hq (by decide)) (h9.app (ownsC_below hF hb) hq (by decide))
    · cases b7 with
      | true => simp at hi
      | false =>
        obtain rfl : i = 12 := by simpa using hi
        refine z_op (o := { dst := some 14, op := Op.alloc 25, type := 0, pos := "law.go:52", after := #[], guard := none }) rfl (fun K hK => ?_)
        go_simp
        have hn : Below W.heap.size W (W.alloc (.cells #[.slice none 0 0, .slice none 0 0] 25)) := below_alloc1 _ _
        have hXn := hX.trans (hn.mono hX.size)
        refine hK.out _ _ (Or.inr (hC _ hXn)) ?_
        (try simp only [List.setIfInBounds_toArray, List.set_cons_zero, List.set_cons_succ])
        exact ih true b8 b9 (by revert hf; cases b8 <;> cases b9 <;> simp [cnt3] <;> omega) _ s8 s9 W.heap.size g8 g9 v27 W0 _ hF (hb.trans (hn.mono hb.size)) hXn (AlF.new W hX.size _ _ _) (h8.below hn) (h9.below hn) 
    · cases b8 with
      | true => simp at hi
      | false =>
        obtain rfl : i = 13 := by simpa using hi
        refine z_op (o := { dst := some 15, op := Op.alloc 29, type := 0, pos := "law.go:52", after := #[], guard := none }) rfl (fun K hK => ?_)
        go_simp
        have hn : Below W.heap.size W (W.alloc (.cells #[.slice none 0 0] 29)) := below_alloc1 _ _
        have hXn := hX.trans (hn.mono hX.size)
        refine hK.out _ _ (Or.inr (hC _ hXn)) ?_
        (try simp only [List.setIfInBounds_toArray, List.set_cons_zero, List.set_cons_succ])
        exact ih b7 true b9 (by revert hf; cases b7 <;> cases b9 <;> simp [cnt3] <;> omega) s7 _ s9 g7 W.heap.size g9 v27 W0 _ hF (hb.trans (hn.mono hb.size)) hXn (h7.below hn) (AlF.new W hX.size _ _ _) (h9.below hn) 
    · cases b9 with
      | true => simp at hi
      | false =>
        obtain rfl : i = 14 := by simpa using hi
        refine z_op (o := { dst := some 16, op := Op.alloc 32, type := 0, pos := "law.go:52", after := #[], guard := none }) rfl (fun K hK => ?_)
        go_simp
        have hn : Below W.heap.size W (W.alloc (.cells #[.int .i64 0, .int .i64 0] 32)) := below_alloc1 _ _
        have hXn := hX.trans (hn.mono hX.size)
        refine hK.out _ _ (Or.inr (hC _ hXn)) ?_
        (try simp only [List.setIfInBounds_toArray, List.set_cons_zero, List.set_cons_succ])
        exact ih b7 b8 true (by revert hf; cases b7 <;> cases b8 <;> simp [cnt3] <;> omega) s7 s8 _ g7 g8 W.heap.size v27 W0 _ hF (hb.trans (hn.mono hb.size)) hXn (h7.below hn) (h8.below hn) (AlF.new W hX.size _ _ _) 
include hQ hC hdn hnil hds hmn hmnil hms hP fin in
set_option maxRecDepth 100000 in
set_option maxHeartbeats 1500000 in
theorem rn7_0 : ∀ (fuel : Nat) (b7 b8 b9 : Bool), 11 + cnt3 b7 b8 b9 ≤ fuel → ∀ (s7 s8 s9 : Value) (g7 g8 g9 : Nat) (W0 W : World), True → Below W0.heap.size W0 W → Below X.heap.size X W → AlF W X.heap.size b7 s7 g7 #[.slice none 0 0, .slice none 0 0] 25 → AlF W X.heap.size b8 s8 g8 #[.slice none 0 0] 29 → AlF W X.heap.size b9 s9 g9 #[.int .i64 0, .int .i64 0] 32 → wpAnyZ Tryz.prog .any rn7_ops Q 15 (fun W => W.cell? ⟨BN, 0, none⟩ = some nb ∧ W.cell? ⟨BN, 1, none⟩ = some nl) fuel #[true, true, false, true, false, true, false, false, false, false, false, false, b7, b8, b9, false, false, false] { tmps := #[x0, (.int .i64 trees), (.slice dao dn dcap), (.slice mao mn mcap), (.pointer (some ⟨BN, 0, none⟩)), x5, x6, x7, x8, x9, x10, x11, x12, x13, s7, s8, s9, x17, x18, x19, x20, x21, x22, x23, x24, x25, x26, x27, x28, x29, x30, x31, x32, x33, x34, x35, x36, x37, x38, x39, x40, x41, x42, x43, x44, x45, x46, (.agg #[nb, nl]), (.int .i64 trees), x49, (.slice dao dn dcap), x51, (.slice mao mn mcap), x53, x54, x55, x56, x57, x58, x59, x60, x61, x62, x63, x64, x65, x66, x67, x68, x69, x70, x71, x72], defers := df } W := by
  intro fuel
  induction fuel with
  | zero => intro b7 b8 b9 h; omega
  | succ fuel ih =>
    intro b7 b8 b9 hf s7 s8 s9 g7 g8 g9 W0 W hF hb hX h7 h8 h9 
    have hHeld : (#[true, true, false, true, false, true, false, false, false, false, false, false, b7, b8, b9, false, false, false] : Array Bool).getD 15 true = true ∨ (fun W => W.cell? ⟨BN, 0, none⟩ = some nb ∧ W.cell? ⟨BN, 1, none⟩ = some nl) W := Or.inr (hC W hX)
    refine z_mem (rn7_rd0 b7 b8 b9) (by simp) (fun i hi => ?_)
    simp only [List.mem_cons, List.mem_append] at hi
    rcases hi with rfl | hi | hi | hi
    · refine z_op (o := { dst := some 49, op := Op.buildSlice 26 0 #[], type := 26, pos := "law.go:52", after := #[], guard := none }) rfl (fun K hK => ?_)
      go_simp
      have hn : Below W.heap.size W (W.alloc (.cells #[] 45)) := below_alloc1 _ _
      have hXn := hX.trans (hn.mono hX.size)
      refine hK.out _ _ (Or.inr (hC _ hXn)) ?_
      (try simp only [List.setIfInBounds_toArray, List.set_cons_zero, List.set_cons_succ])
      exact rn7_1 df X BN nb nl trees dao dn dcap ds mao mn mcap ms R x0 x5 x6 x7 x8 x9 x10 x11 x12 x13 x17 x18 x19 x20 x21 x22 x23 x24 x25 x26 x27 x28 x29 x30 x31 x32 x33 x34 x35 x36 x37 x38 x39 x40 x41 x42 x43 x44 x45 x46 x51 x53 x54 x55 x56 x57 x58 x59 x60 x61 x62 x63 x64 x65 x66 x67 x68 x69 x70 x71 x72 hQ hC hdn hnil hds hmn hmnil hms hP fin fuel b7 b8 b9 (by omega) s7 s8 s9 g7 g8 g9 _ _ _ (own_empty W hX.size) (Below.refl _ _) hXn (h7.below hn) (h8.below hn) (h9.below hn)
    · cases b7 with
      | true => simp at hi
      | false =>
        obtain rfl : i = 12 := by simpa using hi
        refine z_op (o := { dst := some 14, op := Op.alloc 25, type := 0, pos := "law.go:52", after := #[], guard := none }) rfl (fun K hK => ?_)
        go_simp
        have hn : Below W.heap.size W (W.alloc (.cells #[.slice none 0 0, .slice none 0 0] 25)) := below_alloc1 _ _
        have hXn := hX.trans (hn.mono hX.size)
        refine hK.out _ _ (Or.inr (hC _ hXn)) ?_
        (try simp only [List.setIfInBounds_toArray, List.set_cons_zero, List.set_cons_succ])
        exact ih true b8 b9 (by revert hf; cases b8 <;> cases b9 <;> simp [cnt3] <;> omega) _ s8 s9 W.heap.size g8 g9 W0 _ hF (hb.trans (hn.mono hb.size)) hXn (AlF.new W hX.size _ _ _) (h8.below hn) (h9.below hn) 
    · cases b8 with
      | true => simp at hi
      | false =>
        obtain rfl : i = 13 := by simpa using hi
        refine z_op (o := { dst := some 15, op := Op.alloc 29, type := 0, pos := "law.go:52", after := #[], guard := none }) rfl (fun K hK => ?_)
        go_simp
        have hn : Below W.heap.size W (W.alloc (.cells #[.slice none 0 0] 29)) := below_alloc1 _ _
        have hXn := hX.trans (hn.mono hX.size)
        refine hK.out _ _ (Or.inr (hC _ hXn)) ?_
        (try simp only [List.setIfInBounds_toArray, List.set_cons_zero, List.set_cons_succ])
        exact ih b7 true b9 (by revert hf; cases b7 <;> cases b9 <;> simp [cnt3] <;> omega) s7 _ s9 g7 W.heap.size g9 W0 _ hF (hb.trans (hn.mono hb.size)) hXn (h7.below hn) (AlF.new W hX.size _ _ _) (h9.below hn) 
    · cases b9 with
      | true => simp at hi
      | false =>
        obtain rfl : i = 14 := by simpa using hi
        refine z_op (o := { dst := some 16, op := Op.alloc 32, type := 0, pos := "law.go:52", after := #[], guard := none }) rfl (fun K hK => ?_)
        go_simp
        have hn : Below W.heap.size W (W.alloc (.cells #[.int .i64 0, .int .i64 0] 32)) := below_alloc1 _ _
        have hXn := hX.trans (hn.mono hX.size)
        refine hK.out _ _ (Or.inr (hC _ hXn)) ?_
        (try simp only [List.setIfInBounds_toArray, List.set_cons_zero, List.set_cons_succ])
        exact ih b7 b8 true (by revert hf; cases b7 <;> cases b8 <;> simp [cnt3] <;> omega) s7 s8 _ g7 g8 W.heap.size W0 _ hF (hb.trans (hn.mono hb.size)) hXn (h7.below hn) (h8.below hn) (AlF.new W hX.size _ _ _) 
include hQ hC hdn hnil hds hP hmn hmnil hms fin in
set_option maxHeartbeats 1500000 in
theorem rn7 (x14 x15 x16 x47 x48 x50 x52 : Value) : (Code.region 7 rn7_ops true).wp Tryz.prog Q { tmps := #[x0, (.int .i64 trees), (.slice dao dn dcap), (.slice mao mn mcap), (.pointer (some ⟨BN, 0, none⟩)), x5, x6, x7, x8, x9, x10, x11, x12, x13, x14, x15, x16, x17, x18, x19, x20, x21, x22, x23, x24, x25, x26, x27, x28, x29, x30, x31, x32, x33, x34, x35, x36, x37, x38, x39, x40, x41, x42, x43, x44, x45, x46, x47, x48, x49, x50, x51, x52, x53, x54, x55, x56, x57, x58, x59, x60, x61, x62, x63, x64, x65, x66, x67, x68, x69, x70, x71, x72], defers := df } X := by
  have hXd : Below X.heap.size X X.drew := Below.drew (Below.refl _ _)
  have hc := hC X (Below.refl _ _)
  refine wp_region_z (z := 15) (C := fun W => W.cell? ⟨BN, 0, none⟩ = some nb ∧ W.cell? ⟨BN, 1, none⟩ = some nl) (by kernel_rfl) (hC _ hXd) (fun hHeld => ?_)
  refine z_load (i := 0) (oi := { dst := some 47, op := Op.load 25 (Operand.tmp 4), type := 25, pos := "law.go:52", after := #[], guard := none }) (v := ?_) (some 47) rfl rfl (by kernel_rfl) (by kernel_rfl) (by kernel_rfl) (by kernel_rfl) (fun c a w h => hQ c a _ _ w h) (by rfl) ?_ hHeld ?_
  rotate_left 1
  · (intro wq hSw; go_simp; try with_reducible rfl)
  (try simp only [Act.put, List.setIfInBounds_toArray, List.set_cons_zero, List.set_cons_succ])
  refine z_take (i := 1) (oi := { dst := some 48, op := Op.move (Operand.tmp 1), type := 3, pos := "law.go:52", after := #[], guard := none }) (v := ?_) (some 48) rfl rfl (by kernel_rfl) (by kernel_rfl) (by kernel_rfl) (by decide) (fun c a w h => hQ c a _ _ w h) (by rfl) ?_ hHeld ?_
  rotate_left 1
  · (intro wq; go_simp; try with_reducible rfl)
  (try simp only [Act.put, List.setIfInBounds_toArray, List.set_cons_zero, List.set_cons_succ])
  refine z_take (i := 3) (oi := { dst := some 50, op := Op.move (Operand.tmp 2), type := 26, pos := "law.go:52", after := #[], guard := none }) (v := ?_) (some 50) rfl rfl (by kernel_rfl) (by kernel_rfl) (by kernel_rfl) (by decide) (fun c a w h => hQ c a _ _ w h) (by rfl) ?_ hHeld ?_
  rotate_left 1
  · (intro wq; go_simp; try with_reducible rfl)
  (try simp only [Act.put, List.setIfInBounds_toArray, List.set_cons_zero, List.set_cons_succ])
  refine z_take (i := 5) (oi := { dst := some 52, op := Op.move (Operand.tmp 3), type := 26, pos := "law.go:52", after := #[], guard := none }) (v := ?_) (some 52) rfl rfl (by kernel_rfl) (by kernel_rfl) (by kernel_rfl) (by decide) (fun c a w h => hQ c a _ _ w h) (by rfl) ?_ hHeld ?_
  rotate_left 1
  · (intro wq; go_simp; try with_reducible rfl)
  (try simp only [Act.put, List.setIfInBounds_toArray, List.set_cons_zero, List.set_cons_succ])
  exact rn7_0 df X BN nb nl trees dao dn dcap ds mao mn mcap ms R x0 x5 x6 x7 x8 x9 x10 x11 x12 x13 x17 x18 x19 x20 x21 x22 x23 x24 x25 x26 x27 x28 x29 x30 x31 x32 x33 x34 x35 x36 x37 x38 x39 x40 x41 x42 x43 x44 x45 x46 x49 x51 x53 x54 x55 x56 x57 x58 x59 x60 x61 x62 x63 x64 x65 x66 x67 x68 x69 x70 x71 x72 hQ hC hdn hnil hds hmn hmnil hms hP fin _ false false false (by simp [cnt3]) _ _ _ 0 0 0 X _ trivial hXd hXd (fun e => by cases e) (fun e => by cases e) (fun e => by cases e)
end
end Go.Proofs.YtaneiffnhphkhaaGreatDoor

namespace Go.Proofs.YtaneiffnhphkhaaGreatDoor
open Go.RowKit
open Vc (V Of)
open Pl (Br Net Pc Lk En St)
open Tk (Md Mnd Cn Sc Dn)

theorem plErr_more {n : Net} {trees : Int} {ds ms : Nat → Dn} {dn mn : Nat} (h : (plErr n trees ds dn).1 = 0) (hm : dn + mn ≤ 30) : (plErr n trees (dsA dn ds ms) (dn + mn)).1 = (Tk.errTo n.cn ms mn).1 := by
  obtain ⟨⟨h1, h2⟩, _, h4⟩ := plErr_zero h
  have e : stErr n trees = (0, 0) := by
    unfold stErr
    rw [if_neg (fun q => q h1), if_neg (fun q => q h2)]
  unfold plErr
  rw [e, if_neg (fun q => q rfl), if_neg (by omega)]
  exact err_more h4
/-- A variable's box that is written once more. -/
theorem kept_store {V W0 U : World} {b g : Nat} {A B : Obj} {v0 v1 : Value} {P : World → Prop} (hK : Kept W0 b P) (hVb : V.heap.size ≤ b) (hg : g < V.heap.size) (hU : Below ((W0.alloc A).alloc B).heap.size ((((W0.alloc A).alloc B).setCell ⟨g, 0, none⟩ v0).setCell ⟨g, 1, none⟩ v1) U) : P U := by
  have h1 := ((hK.below (below_alloc2 W0 A B)).low (g := g) (o := 0) (v := v0) (by omega)).low (g := g) (o := 1) (v := v1) (by omega)
  exact (h1.below (by simpa using hU)).here
set_option maxRecDepth 100000 in
set_option maxHeartbeats 6000000 in
theorem tonLaw_any (n : Net) (trees : Int) (dao : Option Addr) (dn dcap : Nat) (ds : Nat → Dn) (mao : Option Addr) (mn mcap : Nat) (ms : Nat → Dn) (w : World) (hwf : n.Wf) (hat : n.at' w) (hdx : dn ≤ 1000000000000000) (hds : DRow w dao dn dcap ds) (hnil : NilOk dao dn dcap) (hmx : mn ≤ 1000000000000000) (hms : DRow w mao mn mcap ms) (hmnil : NilOk mao mn mcap) (htb : Tabs w) (hbt : 2 ≤ w.heap.size) :
    Calls Tryz.prog 4 #[n.val, .int .i64 trees, .slice dao dn dcap, .slice mao mn mcap] w fun e w' => e = .returned (.bool true) ∧ Below w.heap.size w w' := by
  obtain ⟨X, HX⟩ : ∃ X, Hid (X = w.alloc (.cells #[.slice n.bao n.K n.bcap, .slice n.lao n.L n.lcap] 25)) := ⟨_, rfl⟩
  have hXB : Below w.heap.size w X := by rw [HX.out]; exact below_alloc1 _ _
  have hX0 : X.heap[w.heap.size]? = some (.cells #[.slice n.bao n.K n.bcap, .slice n.lao n.L n.lcap] 25 (0, 0)) := by rw [HX.out]; exact heap_alloc_last _ _
  have HTB : Hid (∀ V, Below X.heap.size X V → (Tabs V ∧ 2 ≤ V.heap.size) ∧ n.at' V ∧ (DRow V dao dn dcap ds ∧ DRow V mao mn mcap ms) ∧ (V.cell? ⟨w.heap.size, 0, none⟩ = some (.slice n.bao n.K n.bcap) ∧ V.cell? ⟨w.heap.size, 1, none⟩ = some (.slice n.lao n.L n.lcap)) ∧ Below w.heap.size w V) := fun V hV => by
    have h := hXB.trans (hV.mono hXB.size)
    exact ⟨⟨htb.below h hbt, Nat.le_trans hbt h.size⟩, hat.below h, ⟨CRow.below hds h, CRow.below hms h⟩, two_cells2 (keep hX0 hV), h⟩
  have HWF : Hid n.Wf := hwf
  have HNL : Hid (NilOk dao dn dcap ∧ NilOk mao mn mcap) := ⟨hnil, hmnil⟩
  clear hwf hat hds htb hbt hXB hX0 hnil hmnil hms
  simp only [Pl.Net.val]
  go_enter Tryz.func4, Tryz.ntmps4
  go_wp2_with fail
  rw [← HX.out]
  obtain ⟨⟨t1, t2⟩, _⟩ := HTB.out X (Below.refl _ _)
  refine (t7alive_any X t1 t2).mono ?_
  rintro e w1 ⟨rfl, HB1⟩
  have H1 : Hid (Below X.heap.size X w1) := HB1
  clear t1 t2 HB1
  obtain ⟨⟨t1, t2⟩, a1, ⟨a2, _⟩, ⟨c0, c1⟩, _⟩ := HTB.out w1 H1.out
  have HP : Hid (Calls Tryz.prog 15 #[.agg #[.slice n.bao n.K n.bcap, .slice n.lao n.L n.lcap], .int .i64 trees, .slice dao dn dcap] w1 fun e w' => ∃ na nk nc la lk lc oa ol oc f1 f2, e = .returned (.tuple #[.agg #[.slice na nk nc, .slice la lk lc], .agg #[.slice oa ol oc], .agg #[.int .i64 f1, .int .i64 f2]]) ∧ Hid (Below w1.heap.size w1 w' ∧ PlF w1 w' n trees ds dn na nk nc la lk lc oa ol oc f1 f2)) := tplay_flat n trees dao dn dcap ds w1 HWF.out a1 (by omega) a2 t1 t2
  clear t1 t2 a1 a2
  go_wp2_with fail
  refine HP.out.mono ?_
  rintro e w2 ⟨na, nk, nc, la, lk, lc, oa, ol, oc, f1, f2, rfl, H2⟩
  clear HP c0 c1
  obtain ⟨Z, HZ⟩ : ∃ Z, Hid (Z = ((w2.alloc (.cells #[.slice na nk nc, .slice la lk lc] 25)).alloc (.cells #[.slice oa ol oc] 29)).alloc (.cells #[.int .i64 f1, .int .i64 f2] 32)) := ⟨_, rfl⟩
  have hZ2 : Below w2.heap.size w2 Z := by rw [HZ.out]; exact (below_alloc2 _ _ _).alloc (by simp; omega) _
  have hX2 : Below X.heap.size X w2 := H1.out.trans (H2.out.1.mono H1.out.size)
  have hXZ : Below X.heap.size X Z := hX2.trans (hZ2.mono hX2.size)
  have HBZ : Hid (Below w.heap.size w Z) := (HTB.out Z hXZ).2.2.2.2
  obtain ⟨p1, HP1⟩ : ∃ p, Hid (p = w2.heap.size) := ⟨_, rfl⟩
  obtain ⟨y1, y2, y3, _⟩ := alloc3 w2 (.cells #[.slice na nk nc, .slice la lk lc] 25) (.cells #[.slice oa ol oc] 29) (.cells #[.int .i64 f1, .int .i64 f2] 32)
  rw [← HZ.out, ← HP1.out] at y1 y2 y3
  have HY : Hid (Z.heap[p1]? = some (.cells #[.slice na nk nc, .slice la lk lc] 25 (0, 0)) ∧ Z.heap[p1 + 1]? = some (.cells #[.slice oa ol oc] 29 (0, 0)) ∧ Z.heap[p1 + 1 + 1]? = some (.cells #[.int .i64 f1, .int .i64 f2] 32 (0, 0))) := ⟨y1, y2, y3⟩
  have HXZ : Hid (Below X.heap.size X Z) := hXZ
  have HPX : Hid (X.heap.size ≤ p1) := by rw [HP1.out]; exact hX2.size
  clear y1 y2 y3 hXZ
  rcases H2.out.2 with ⟨q, ⟨q2, q3⟩, q4⟩ | ⟨q, ⟨rfl, rfl⟩, n', t', ⟨rfl, rfl, rfl⟩, ⟨rfl, rfl, rfl⟩, rfl, b, hVb, hK⟩
  · have q1 : (f1 != 0) = true := by rw [q2]; simpa using q
    clear HTB HWF HNL H2 hZ2 hX2 HY HXZ HPX H1 q q2 q3 q4
    go_wp2_with fail
    rw [← HZ.out]
    go_ret
    exact ⟨rfl, HBZ.out⟩
  · have q1 : ((0 : Int) != 0) = false := rfl
    have HSS : Hid (∀ U, Below Z.heap.size Z U → SnOut U n trees.toNat ((n.sc (startMs n)).all n.cn ds dn) n' oa oc t') := fun U hU => ((hK.below hZ2).below hU).here
    have HPZ : Hid ((plErr n trees ds dn).1 = 0) := q
    clear H2 hK hVb hZ2 hX2 q
    by_cases hbig : 30 < dn + mn
    · have hb1 : (30 : Int) < (dn : Int) + (mn : Int) := by omega
      clear HTB HWF HNL HY HXZ HPX H1 HSS HPZ
      go_wp2_with fail
      rw [← HZ.out]
      go_ret
      exact ⟨rfl, HBZ.out⟩
    · have hb1 : ¬ (30 : Int) < (dn : Int) + (mn : Int) := by omega
      have HON : Hid (Calls Tryz.prog 20 #[.agg #[.slice n'.bao n'.K n'.bcap, .slice n'.lao n'.L n'.lcap], .agg #[.slice oa t'.length oc], .slice mao mn mcap] Z fun e w' => ∃ na nk nc la lk lc oa ol oc f1 f2, e = .returned (.tuple #[.agg #[.slice na nk nc, .slice la lk lc], .agg #[.slice oa ol oc], .agg #[.int .i64 f1, .int .i64 f2]]) ∧ Hid (Below Z.heap.size Z w' ∧ OnG Z w' n n' trees.toNat ((n.sc (startMs n)).all n.cn ds dn) ms mn na nk nc la lk lc oa ol oc f1 f2)) := by
        obtain ⟨⟨e1, e2⟩, _, e4⟩ := plErr_zero HPZ.out
        have hS := HSS.out Z (Below.refl _ _)
        obtain ⟨⟨t1, t2⟩, _, ⟨_, a3⟩, _⟩ := HTB.out Z HXZ.out
        exact on_gen hS (by omega) (sn_pts hS HWF.out e1 e4) (by omega) a3 t1 t2
      obtain ⟨c70, c71⟩ := two_cells2 HY.out.1
      have c80 := one_cell HY.out.2.1
      obtain ⟨c90, c91⟩ := two_cells2 HY.out.2.2
      rw [HZ.out, HP1.out] at c70 c71 c80 c90 c91
      clear HBZ
      go_wp2_with fail
      rw [← HZ.out, ← HP1.out]
      refine HON.out.mono ?_
      rintro e w4 ⟨na2, nk2, nc2, la2, lk2, lc2, oa2, ol2, oc2, h1, h2, rfl, H4⟩
      clear HON c70 c71 c80 c90 c91
      obtain ⟨p2, HP2⟩ : ∃ p, Hid (p = w4.heap.size) := ⟨_, rfl⟩
      obtain ⟨Y, HYY⟩ : ∃ Y, Hid (Y = (w4.alloc (.cells #[.slice na2 nk2 nc2, .slice la2 lk2 lc2] 25)).alloc (.cells #[.slice oa2 ol2 oc2] 29)) := ⟨_, rfl⟩
      have hY4 : Below w4.heap.size w4 Y := by rw [HYY.out]; exact below_alloc2 _ _ _
      have hZY : Below Z.heap.size Z Y := H4.out.1.trans (hY4.mono H4.out.1.size)
      have kF := keep HY.out.2.2 hZY
      have lF : p1 + 1 + 1 < Z.heap.size := lt_some HY.out.2.2
      have lZ4 := H4.out.1.size
      have yA : Y.heap[p2]? = some (.cells #[.slice na2 nk2 nc2, .slice la2 lk2 lc2] 25 (0, 0)) := by rw [HYY.out, HP2.out]; exact heap_alloc2_old _ _ _
      have yB : Y.heap[p2 + 1]? = some (.cells #[.slice oa2 ol2 oc2] 29 (0, 0)) := by rw [HYY.out, HP2.out]; exact heap_alloc2_new _ _ _
      obtain ⟨u3, u4⟩ := two_cells2 kF
      have v3 : Y.frozen? ⟨p1 + 1 + 1, 0, none⟩ = false := frozen_of_row _ _ _ _ _ kF
      have v4 : Y.frozen? ⟨p1 + 1 + 1, 1, none⟩ = false := frozen_of_row _ _ _ _ _ kF
      obtain ⟨U, HU⟩ : ∃ U, Hid (U = (Y.setCell ⟨p1 + 1 + 1, 0, none⟩ (.int .i64 h1)).setCell ⟨p1 + 1 + 1, 1, none⟩ (.int .i64 h2)) := ⟨_, rfl⟩
      have us : U.heap.size = Y.heap.size := by rw [HU.out]; simp
      have nA : p2 ≠ p1 + 1 + 1 := by rw [HP2.out]; omega
      have nB : p2 + 1 ≠ p1 + 1 + 1 := by rw [HP2.out]; omega
      have uA : U.heap[p2]? = some (.cells #[.slice na2 nk2 nc2, .slice la2 lk2 lc2] 25 (0, 0)) := by rw [HU.out]; exact set_keep (set_keep yA nA) nA
      have uB : U.heap[p2 + 1]? = some (.cells #[.slice oa2 ol2 oc2] 29 (0, 0)) := by rw [HU.out]; exact set_keep (set_keep yB nB) nB
      have uF : U.heap[p1 + 1 + 1]? = some (.cells #[.int .i64 h1, .int .i64 h2] 32 (0, 0)) := by rw [HU.out]; exact set2_same kF
      have hXY : Below X.heap.size X Y := HXZ.out.trans (hZY.mono HXZ.out.size)
      have HXU : Hid (Below X.heap.size X U) := by
        rw [HU.out]
        have hp := HPX.out
        exact (hXY.setCell (by show X.heap.size ≤ p1 + 1 + 1; omega) _).setCell (by show X.heap.size ≤ p1 + 1 + 1; omega) _
      have HON : Hid (((Tk.errTo n.cn ms mn).1 ≠ 0 ∧ h1 = (Tk.errTo n.cn ms mn).1 ∧ (na2 = none ∧ nk2 = 0 ∧ nc2 = 0) ∧ (la2 = none ∧ lk2 = 0 ∧ lc2 = 0) ∧ oa2 = none ∧ ol2 = 0 ∧ oc2 = 0) ∨ ((Tk.errTo n.cn ms mn).1 = 0 ∧ h1 = 0 ∧ ∃ (n2 : Net) (t2 : List Tr), (na2 = n2.bao ∧ nk2 = n2.K ∧ nc2 = n2.bcap) ∧ (la2 = n2.lao ∧ lk2 = n2.L ∧ lc2 = n2.lcap) ∧ ol2 = t2.length ∧ ∀ V, Below U.heap.size U V → SnOut V n' trees.toNat (((n.sc (startMs n)).all n.cn ds dn).all n.cn ms mn) n2 oa2 oc2 t2)) := by
        rcases H4.out.2 with ⟨z1, z2, z3, z4, z5⟩ | ⟨z1, ⟨z2, _⟩, n2, t2, z3, z4, z5, b, hVb, hK⟩
        · exact Or.inl ⟨z1, z2, z3, z4, z5⟩
        · refine Or.inr ⟨z1, z2, n2, t2, z3, z4, z5, fun V hV => ?_⟩
          rw [us, HU.out, HYY.out] at hV
          exact kept_store hK hVb lF hV
      have HUB : Hid (U.heap[p2]? = some (.cells #[.slice na2 nk2 nc2, .slice la2 lk2 lc2] 25 (0, 0)) ∧ U.heap[p2 + 1]? = some (.cells #[.slice oa2 ol2 oc2] 29 (0, 0)) ∧ U.heap[p1 + 1 + 1]? = some (.cells #[.int .i64 h1, .int .i64 h2] 32 (0, 0))) := ⟨uA, uB, uF⟩
      have HSQ : Hid (n'.cn = n.cn ∧ (∀ i, n.pts i = n'.pts i) ∧ (∀ i, (n'.bs i).reg.s = (n.bs i).reg.s ∧ (n'.bs i).reg.rev = (n.bs i).reg.rev ∧ (n'.bs i).reg.n = (n.bs i).reg.n ∧ (n'.bs i).reg.vs = (n.bs i).reg.vs ∧ (n'.bs i).reg.ts = (n.bs i).reg.ts)) := by
        obtain ⟨⟨e1, e2⟩, _, e4⟩ := plErr_zero HPZ.out
        have hS := HSS.out Z (Below.refl _ _)
        exact ⟨hS.cn, sn_pts hS HWF.out e1 e4, hS.regs⟩
      rw [HYY.out] at u3 u4 v3 v4
      clear H4 hY4 hZY kF lF lZ4 yA yB nA nB uA uB uF hXY us HSS HY HXZ H1
      go_wp2_with fail
      rw [← HP2.out, ← HYY.out, ← HU.out]
      clear u3 u4 v3 v4 HYY HU HZ HP1
      refine rn7 [] U w.heap.size (.slice n.bao n.K n.bcap) (.slice n.lao n.L n.lcap) trees dao dn dcap ds mao mn mcap ms (fun V W0 na nk nc la lk lc oa ol oc f1 f2 => PlF V W0 n trees (dsA dn ds ms) (dn + mn) na nk nc la lk lc oa ol oc f1 f2) _ _ _ _ _ _ _ _ _ _ _ _ _ _ _ _ _ _ _ _ _ _ _ _ _ _ _ _ _ _ _ _ _ _ _ _ _ _ _ _ _ _ _ _ _ _ _ _ _ _ _ _ _ _ _ _ _ _ _ _ _ _ ?hQ ?hC ?hdn ?hnil ?hds ?hmn ?hmnil ?hms ?hP ?fin _ _ _ _ _ _ _
      case hQ => exact fun _ _ _ _ _ h => h
      case hC => exact fun V hV => (HTB.out V (HXU.out.trans (hV.mono HXU.out.size))).2.2.2.1
      case hdn => omega
      case hnil => exact HNL.out.1
      case hds => exact fun V hV => (HTB.out V (HXU.out.trans (hV.mono HXU.out.size))).2.2.1.1
      case hmn => omega
      case hmnil => exact HNL.out.2
      case hms => exact fun V hV => (HTB.out V (HXU.out.trans (hV.mono HXU.out.size))).2.2.1.2
      case hP =>
        intro V a2 c2 hV hrow
        obtain ⟨⟨t1, t2⟩, a1, _⟩ := HTB.out V (HXU.out.trans (hV.mono HXU.out.size))
        exact tplay_flat n trees a2 (dn + mn) c2 (dsA dn ds ms) V HWF.out a1 (by omega) hrow t1 t2
      case fin =>
        intro v27 a1 c1 a2 c2 V na nk nc la lk lc oa3 ol oc3 f1 f2 g7 g8 g9 W0 W hR hb hX ⟨k7, k8, k9⟩ ⟨l7, l8, l9⟩ ⟨z7, z8, z9⟩
        have n78 : g7 ≠ g8 := fun e => by subst e; exact absurd (cells_type k7 k8) (by decide)
        have n79 : g7 ≠ g9 := fun e => by subst e; exact absurd (cells_type k7 k9) (by decide)
        have n89 : g8 ≠ g9 := fun e => by subst e; exact absurd (cells_type k8 k9) (by decide)
        obtain ⟨Z3, HZ3⟩ : ∃ Z3, Hid (Z3 = ((((W.setCell ⟨g7, 0, none⟩ (.slice na nk nc)).setCell ⟨g7, 1, none⟩ (.slice la lk lc)).setCell ⟨g8, 0, none⟩ (.slice oa3 ol oc3)).setCell ⟨g9, 0, none⟩ (.int .i64 f1)).setCell ⟨g9, 1, none⟩ (.int .i64 f2)) := ⟨_, rfl⟩
        have zs : Z3.heap.size = W.heap.size := by rw [HZ3.out]; simp
        have y7 : Z3.heap[g7]? = some (.cells #[.slice na nk nc, .slice la lk lc] 25 (0, 0)) := by rw [HZ3.out]; exact set_keep (set_keep (set_keep (set2_same k7) n78) n79) n79
        have y8 : Z3.heap[g8]? = some (.cells #[.slice oa3 ol oc3] 29 (0, 0)) := by rw [HZ3.out]; exact set_keep (set_keep (set1_same (set_keep (set_keep k8 n78.symm) n78.symm)) n89) n89
        have y9 : Z3.heap[g9]? = some (.cells #[.int .i64 f1, .int .i64 f2] 32 (0, 0)) := by rw [HZ3.out]; exact set2_same (set_keep (set_keep (set_keep k9 n79.symm) n79.symm) n89.symm)
        have hUZ : Below U.heap.size U Z3 := by rw [HZ3.out]; exact ((((hX.setCell l7 _).setCell l7 _).setCell l8 _).setCell l9 _).setCell l9 _
        have HXW : Hid (∀ V, Below Z3.heap.size Z3 V → Below w.heap.size w V) := fun V hV => by
          have h1 := hUZ.trans (hV.mono hUZ.size)
          exact (HTB.out V (HXU.out.trans (h1.mono HXU.out.size))).2.2.2.2
        have HCB : Hid (∀ V, Below Z3.heap.size Z3 V → (V.cell? ⟨p2, 0, none⟩ = some (.slice na2 nk2 nc2) ∧ V.cell? ⟨p2, 1, none⟩ = some (.slice la2 lk2 lc2)) ∧ V.cell? ⟨g7, 0, none⟩ = some (.slice na nk nc) ∧ V.cell? ⟨g7, 1, none⟩ = some (.slice la lk lc)) := fun V hV => ⟨two_cells2 (keep HUB.out.1 (hUZ.trans (hV.mono hUZ.size))), two_cells2 (keep y7 hV)⟩
        obtain ⟨c90, _⟩ := two_cells2 y9
        obtain ⟨c110, _⟩ := two_cells2 (keep HUB.out.2.2 hUZ)
        have c80 := one_cell y8
        have c13 := one_cell (keep HUB.out.2.1 hUZ)
        have hpe := plErr_more (ms := ms) (mn := mn) HPZ.out (by omega)
        rcases HON.out with ⟨r1, r2, ⟨rfl, rfl, rfl⟩, ⟨rfl, rfl, rfl⟩, rfl, rfl, rfl⟩ | ⟨r1, r2, n2, t2, ⟨rfl, rfl, rfl⟩, ⟨rfl, rfl, rfl⟩, rfl, hS2⟩
        · rcases hR with ⟨q, ⟨q2, q3⟩, ⟨rfl, rfl, rfl⟩, ⟨rfl, rfl, rfl⟩, rfl, rfl, rfl⟩ | ⟨q, _⟩
          · have hff : f1 = h1 := by rw [q2, hpe, r2]
            clear q q2 q3 r1 r2
            subst hff
            have HSM : Hid (Calls Tryz.prog 14 #[.agg #[.slice none 0 0], .agg #[.slice none 0 0]] Z3 fun e w' => e = .returned (.bool true) ∧ Hid (Below Z3.heap.size Z3 w')) := (none_sameT Z3).mono (fun e w' h => ⟨h.1, h.2⟩)
            have HSN : Hid (∀ V, Below Z3.heap.size Z3 V → Calls Tryz.prog 17 #[.agg #[.slice none 0 0, .slice none 0 0], .agg #[.slice none 0 0, .slice none 0 0]] V fun e w' => e = .returned (.bool true) ∧ Hid (Below w.heap.size w w')) := fun V hV => (none_same n V).mono (fun e w' h => ⟨h.1, HXW.out _ (hV.trans (h.2.mono hV.size))⟩)
            clear HON HTB HWF HNL HXU HUB HSQ HPZ HPX hb hX k7 k8 k9 l7 l8 l9 z7 z8 z9 y7 y8 y9 hUZ zs hpe
            rw [← HZ3.out]
            have kk : (f1 == f1) = true := by simp
            go_wp2_with fail
            refine HSM.out.mono ?_
            rintro e w6 ⟨rfl, H6⟩
            clear HSM c90 c110 c80 c13
            obtain ⟨⟨c10, c12⟩, c14, c15⟩ := HCB.out w6 H6.out
            have HSO : Hid (Calls Tryz.prog 17 #[.agg #[.slice none 0 0, .slice none 0 0], .agg #[.slice none 0 0, .slice none 0 0]] w6 fun e w' => e = .returned (.bool true) ∧ Hid (Below w.heap.size w w')) := HSN.out w6 H6.out
            clear HSN HCB
            go_wp2_with fail
            refine HSO.out.mono ?_
            rintro e w7 ⟨rfl, H7⟩
            go_wp2_with fail
            go_ret
            exact ⟨rfl, H7.out⟩
          · rw [hpe] at q
            exact absurd q r1
        · rcases hR with ⟨q, _⟩ | ⟨q, ⟨rfl, rfl⟩, n3, t3, ⟨rfl, rfl, rfl⟩, ⟨rfl, rfl, rfl⟩, rfl, b, hVb, hK⟩
          · rw [hpe] at q
            exact absurd r1 q
          · subst r2
            have hS3 : ∀ V, Below Z3.heap.size Z3 V → SnOut V n trees.toNat ((n.sc (startMs n)).all n.cn (dsA dn ds ms) (dn + mn)) n3 oa3 oc3 t3 := fun V hV => boxes_kept hK hVb hb z7 z8 z9 (by rw [← HZ3.out, ← zs]; exact hV)
            have hSA : ∀ V, Below Z3.heap.size Z3 V → SnOut V n' trees.toNat (((n.sc (startMs n)).all n.cn ds dn).all n.cn ms mn) n2 oa2 oc2 t2 := fun V hV => hS2 V (hUZ.trans (hV.mono hUZ.size))
            have hS30 := hS3 Z3 (Below.refl _ _)
            have hSA0 := hSA Z3 (Below.refl _ _)
            rw [all_more] at hS30
            obtain ⟨e1, e2, e3⟩ := HSQ.out
            have sN : SameN n2 n3 := sn_same hSA0 hS30 e1.symm rfl rfl (fun i => by obtain ⟨g1, g2, g3, g4, g5⟩ := e3 i; exact ⟨g1.symm, g2.symm, g3.symm, g4.symm, g5.symm⟩)
            have hT4 : trees.toNat ≤ 1000 := by have := (plErr_zero HPZ.out).1.2; omega
            have sT := sn_sameT hSA0 hS30 (Nat.le_refl _) hT4 (congrArg Cn.K e1).symm (fun _ _ => rfl) e2
            rw [← hS30.len, List.take_length] at sT
            have HSM : Hid (Calls Tryz.prog 14 #[.agg #[.slice oa2 t2.length oc2], .agg #[.slice oa3 t3.length oc3]] Z3 fun e w' => e = .returned (.bool true) ∧ Hid (Below Z3.heap.size Z3 w')) := (tsame7_any oa2 oa3 oc2 oc3 t2 t3 Z3 hSA0.row hS30.row sT).mono (fun e w' h => ⟨h.1, h.2⟩)
            have HSN : Hid (∀ V, Below Z3.heap.size Z3 V → Calls Tryz.prog 17 #[.agg #[.slice n2.bao n2.K n2.bcap, .slice n2.lao n2.L n2.lcap], .agg #[.slice n3.bao n3.K n3.bcap, .slice n3.lao n3.L n3.lcap]] V fun e w' => e = .returned (.bool true) ∧ Hid (Below w.heap.size w w')) := fun V hV => (tsamenet_any n2 n3 V (hSA0.net.below hV) (hS30.net.below hV) sN).mono (fun e w' h => ⟨h.1, HXW.out _ (hV.trans (h.2.mono hV.size))⟩)
            clear hS3 hSA hS30 hSA0 sN sT hT4 e1 e2 e3 hK hVb hS2
            clear HON HTB HWF HNL HXU HUB HSQ HPZ HPX hb hX k7 k8 k9 l7 l8 l9 z7 z8 z9 y7 y8 y9 hUZ zs hpe
            rw [← HZ3.out]
            have kk : ((0 : Int) == (0 : Int)) = true := by simp
            go_wp2_with fail
            refine HSM.out.mono ?_
            rintro e w6 ⟨rfl, H6⟩
            clear HSM c90 c110 c80 c13
            obtain ⟨⟨c10, c12⟩, c14, c15⟩ := HCB.out w6 H6.out
            have HSO : Hid (Calls Tryz.prog 17 #[.agg #[.slice n2.bao n2.K n2.bcap, .slice n2.lao n2.L n2.lcap], .agg #[.slice n3.bao n3.K n3.bcap, .slice n3.lao n3.L n3.lcap]] w6 fun e w' => e = .returned (.bool true) ∧ Hid (Below w.heap.size w w')) := HSN.out w6 H6.out
            clear HSN HCB
            go_wp2_with fail
            refine HSO.out.mono ?_
            rintro e w7 ⟨rfl, H7⟩
            go_wp2_with fail
            go_ret
            exact ⟨rfl, H7.out⟩
end Go.Proofs.YtaneiffnhphkhaaGreatDoor

namespace Go.Proofs.YtaneiffnhphkhaaGreatDoor.talkOn
open Go.ChangeShapes Go.WideShapes Go.ChangeAt Go.RowKit

set_option maxRecDepth 100000 in
theorem contract (H : Type) (enc : TypeId × Value → H) (W : World) (base : Nat) (args : Array Value) (ds gs : List (DataW H)) (before : List MemPlace)
    (hval : ∀ (j : Nat) t v, Tryz.f4.params[j]? = some t → args[j]? = some v → Value.okWide Tryz.prog W .any base t v)
    (hW : DataW.Whole enc Tryz.prog Tryz.f4.params.toList Rows.talkOnSpec.vars false W args.toList ds gs before)
    (hsz : (DataW.weightsEach Tryz.prog (Tryz.f4.params.toList ++ (OpenSpec.ofChange Rows.talkOnSpec).bare.plain.varTypes Tryz.prog) (ds ++ gs)).all (· ≤ reachBytes) = true)
    (hL : laidMetH Tryz.prog Rows.talkOnRow.laid W) :
    Calls Tryz.prog 4 args W fun e W' => ∃ v, e = .returned v ∧ Rows.talkOnSpec.post enc Tryz.prog Tryz.f4 false true false false W args v W' := by
  have hW' := hW
  obtain ⟨p, q, hA0, hV, rfl, hfz, hnd⟩ := hW
  have hA : DataW.TrodAll enc Tryz.prog W 0 (fun _ => true) true Tryz.f4.params.toList args.toList ds p := hA0
  rw [Tryz.params4] at hA hval hsz
  obtain ⟨v0, vs0, d0, ds0, p0, q0, hargs, rfl, rfl, h0, r0⟩ := trodAll_cons hA
  obtain ⟨v1, vs1, d1, ds1, p1, q1, rfl, rfl, rfl, h1, r1⟩ := trodAll_cons r0
  obtain ⟨v2, vs2, d2, ds2, p2, q2, rfl, rfl, rfl, h2, r2⟩ := trodAll_cons r1
  obtain ⟨v3, vs3, d3, ds3, p3, q3, rfl, rfl, rfl, h3, r3⟩ := trodAll_cons r2
  obtain ⟨rfl, rfl, rfl⟩ := trodAll_nil r3
  obtain rfl : args = #[v0, v1, v2, v3] := by cases args; simp_all
  obtain ⟨rfl, rfl⟩ := trodVars_none hV
  have lt0 : ∀ x ∈ p0, x.block < W.heap.size := by obtain ⟨m, hm⟩ := h0; exact DataW.trod_lt m _ _ _ hm
  obtain ⟨n0, rfl, hat0, hwf0, hz0⟩ := net_in (hval 0 25 v0 rfl rfl) h0
  have lt1 : ∀ x ∈ p1, x.block < W.heap.size := by obtain ⟨m, hm⟩ := h1; exact DataW.trod_lt m _ _ _ hm
  obtain ⟨z1, rfl⟩ := okWide_int Tryz.underlying3 (hval 1 3 v1 rfl rfl)
  have lt2 : ∀ x ∈ p2, x.block < W.heap.size := by obtain ⟨m, hm⟩ := h2; exact DataW.trod_lt m _ _ _ hm
  obtain ⟨da2, dn2, dc2, dd2, rfl, hd2, hnl2, hdn2, hdz2⟩ := dos_in (hval 2 26 v2 rfl rfl) h2
  have lt3 : ∀ x ∈ p3, x.block < W.heap.size := by obtain ⟨m, hm⟩ := h3; exact DataW.trod_lt m _ _ _ hm
  obtain ⟨da3, dn3, dc3, dd3, rfl, hd3, hnl3, hdn3, hdz3⟩ := dos_in (hval 3 26 v3 rfl rfl) h3
  have hall := hsz
  simp only [List.cons_append, DataW.weightsEach, List.all_append, Bool.and_eq_true] at hall
  have hm2 := hdz2 hall.2.2.1
  unfold reachBytes at hm2
  have hm3 := hdz3 hall.2.2.2.1
  unfold reachBytes at hm3
  have hT := tabs_of hL
  have hG : 2 ≤ W.heap.size := hT.lt
  clear hA0 hall hsz
  refine (tonLaw_any n0 z1 da2 dn2 dc2 dd2 da3 dn3 dc3 dd3 W hwf0 hat0 (by omega) hd2 hnl2 (by omega) hd3 hnl3 hT hG).mono fun e W' ⟨he, bel⟩ => ?_
  subst he
  exact ⟨_, rfl, _, _, _, [], _, [], hW', trodAll_mk1 (shut_bool Tryz.underlying4 _), (trodAll_cons_mk (Below.trod laidOut (by kernel_rfl) (of_decide_eq_true (by kernel_rfl)) h0 bel lt0) (trodAll_cons_mk (Below.trod laidOut (by kernel_rfl) (of_decide_eq_true (by kernel_rfl)) h1 bel lt1) (trodAll_cons_mk (Below.trod laidOut (by kernel_rfl) (of_decide_eq_true (by kernel_rfl)) h2 bel lt2) (trodAll_cons_mk (Below.trod laidOut (by kernel_rfl) (of_decide_eq_true (by kernel_rfl)) h3 bel lt3) trodAll_mk0)))), rfl, bel.frame _, fun h => by cases h⟩

theorem laid_met (os : Os) : laidMet Tryz.prog Rows.talkOnRow.laid ((laidW (World.holding Tryz.prog os ⟨#[], #[], []⟩)).forCall (fun _ _ => 0) ⟨#[], #[.agg #[.slice none 0 0, .slice none 0 0], .int .i64 0, .slice none 0 0, .slice none 0 0], []⟩).memory :=
  laidMet_of_run' 8 (by kernel_rfl) (by kernel_rfl)
theorem reads (os : Os) {H : Type} (enc : TypeId × Value → H) : ∃ places, DataW.whole enc Tryz.prog ((laidW (World.holding Tryz.prog os ⟨#[], #[], []⟩)).forCall (fun _ _ => 0) ⟨#[], #[.agg #[.slice none 0 0, .slice none 0 0], .int .i64 0, .slice none 0 0, .slice none 0 0], []⟩).memory Tryz.f4.params.toList Rows.talkOnSpec.vars false #[Value.agg #[.slice none 0 0, .slice none 0 0], .int .i64 0, .slice none 0 0, .slice none 0 0].toList 8 = some ([.agg [.nil, .nil], .lit (.int .i64 0), .nil, .nil], [], places) :=
  ⟨[], by kernel_rfl⟩

set_option maxRecDepth 100000 in
theorem lifted (os : Os) (started : os.Started) (H : Type) (enc : TypeId × Value → H) (F : Stop.Interp) :
    ReturnsInHanded {} Tryz.checked os 4 .any ((OpenSpec.ofChange Rows.talkOnSpec).preRow enc Tryz.prog Tryz.f4 Rows.talkOnRow.domain false Rows.talkOnRow.laid) (((OpenSpec.ofChange Rows.talkOnSpec).at F).post enc Tryz.prog Tryz.f4 false true false false) := by
  obtain ⟨places, hx⟩ := reads os enc
  refine returnsInHanded_of_row (C := Tryz.checked) (s := OpenSpec.ofChange Rows.talkOnSpec) own started (by kernel_rfl) Tryz.func4
    (witness_row_at (enc := enc) (C := Tryz.checked) false (laidW (World.holding Tryz.prog os ⟨#[], #[], []⟩)) #[.agg #[.slice none 0 0, .slice none 0 0], .int .i64 0, .slice none 0 0, .slice none 0 0] rfl (by kernel_rfl) (by kernel_rfl) (by kernel_rfl)
      (OpenSpec.preRow_of_cond 8 hx (by kernel_rfl) (fun k hk => by cases hk) (by kernel_rfl) (laid_met os))) ?_
  intro W base args ds gs before hval hW _ _ hsz hL _ _
  exact contract H enc W base args ds gs before hval hW hsz hL

theorem said : Rows.TalkOnSaid :=
  OpenClaim.holds_of_cond 4 Tryz.f4 rfl rfl rfl rfl rfl rfl rfl ⟨rfl, rfl, rfl, rfl, rfl⟩ rfl rfl rfl rfl rfl (by kernel_rfl) Tryz.func4 (by kernel_rfl)
    (of_decide_eq_true (by kernel_rfl)) (by unfold Func.isWrapper; first | (rw [if_pos (by decide +kernel)]; kernel_rfl) | (rw [if_neg (by decide +kernel)]; exact ⟨rfl, rfl⟩))
    (fun os started H enc _ F => by rw [OpenClaim.pre_eq_preRow]; exact lifted os started H enc F)

theorem plain (f : FuncId) (fn : Func) (hf : Tryz.pinned.checked.prog.funcNamed "hedgerow/hedgelaw7.TalkOn" = some f) (hfn : Tryz.pinned.checked.prog.funcs[f]? = some fn) :
    false = Tryz.pinned.checked.prog.looks [] ∧ ∀ (j : Nat) t, fn.params[j]? = some t → Tryz.pinned.checked.prog.wantsStandIn t = false := by
  obtain rfl : f = 4 := Option.some.inj ((show Tryz.prog.funcNamed "hedgerow/hedgelaw7.TalkOn" = some 4 by kernel_rfl).symm.trans hf) |>.symm
  obtain rfl : fn = Tryz.f4 := (Option.some.inj (Tryz.func4.symm.trans hfn)).symm
  refine ⟨by kernel_rfl, fun j t ht => ?_⟩
  rw [Tryz.params4] at ht
  have h1 : Tryz.prog.wantsStandIn 25 = false := by kernel_rfl
  have h2 : Tryz.prog.wantsStandIn 3 = false := by kernel_rfl
  have h3 : Tryz.prog.wantsStandIn 26 = false := by kernel_rfl
  have ht2 : t = 25 ∨ t = 3 ∨ t = 26 ∨ t = 26 := by simpa using Array.mem_of_getElem? ht
  rcases ht2 with rfl | rfl | rfl | rfl
  · exact h1
  · exact h2
  · exact h3
  · exact h3

/-- ████ THE CARD ████ -/
theorem card : Rows.TalkOnCardSaid :=
  Claim7.holds_tied_plain_at .later [] _ _ _ _ said (fun _ h => by cases h) (by kernel_rfl) (fun _ h => by cases h) talkOn_row_tie rfl ⟨rfl, rfl⟩ (by kernel_rfl) rfl plain (by kernel_rfl)
end Go.Proofs.YtaneiffnhphkhaaGreatDoor.talkOn
namespace Go.Proofs.YtaneiffnhphkhaaGreatDoor
/-- ONE THING AFTER THE OTHER: the statement, as it was given. -/
theorem talkOn_card : Rows.TalkOnCardSaid := talkOn.card
#print axioms talkOn_card
end Go.Proofs.YtaneiffnhphkhaaGreatDoor
