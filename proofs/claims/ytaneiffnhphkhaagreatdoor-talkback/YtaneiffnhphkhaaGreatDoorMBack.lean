/- 'hedgelaw7.TalkBack' returns true for every net, every number of trees, whatever is done and every two numbers, and leaves it as it was: the row and its tied card. Conditions: none beyond the form's own (the tables lie as the program's text lays them: the card's tie). -/
import Derived.Test.YtaneiffnhphkhaaGreatDoorK36
import Derived.Test.YtaneiffnhphkhaaGreatDoorK28
import Derived.Test.YtaneiffnhphkhaaGreatDoorK12
import Derived.Test.YtaneiffnhphkhaaGreatDoorK37
import Derived.Test.YtaneiffnhphkhaaGreatDoorK35
import Derived.Test.YtaneiffnhphkhaaGreatDoorK32
import Derived.Test.YtaneiffnhphkhaaGreatDoorCards
import Derived.Test.YtaneiffnhphkhaaGreatDoorTie
import Derived.BigQuiet
import Derived.Deep.RegionHeld3
import Derived.Deep.QuietTactic
namespace Go.Proofs.YtaneiffnhphkhaaGreatDoor
open Go.RowKit
open Tk (Dn)

section
variable {P : Program} {ops : Array Oper} {Q : Exit → Act → World → Prop} {md : Region.Mode} {z : Nat} {C : World → Prop}
theorem z_mem {fuel : Nat} {listed : Array Bool} {a : Act} {w : World} {rs : List Nat} (hr : Region.ready md ops listed = rs) (hne : rs ≠ [])
    (h : ∀ i, i ∈ rs → wpOp P ops Q i (fun a' w' => ((listed.setIfInBounds i true).getD z true = true ∨ C w') ∧ wpAnyZ P md ops Q z C fuel (listed.setIfInBounds i true) a' w') a w) : wpAnyZ P md ops Q z C (fuel + 1) listed a w :=
  ⟨fun h0 => absurd (hr.symm.trans h0) hne, fun i hi => h i (by rw [← hr]; exact hi)⟩
theorem z_op {i : Nat} {o : Oper} {fuel : Nat} {listed : Array Bool} {a : Act} {w : World} (ho : ops[i]? = some o)
    (h : ∀ K' : Act → World → Prop, Shut (∀ a w, ((listed.setIfInBounds i true).getD z true = true ∨ C w) → wpAnyZ P md ops Q z C fuel (listed.setIfInBounds i true) a w → K' a w) → if Region.wanted o (yielded ops a.tmps) = true then Oper.wp P o a w K' Q else K' (a.put o.dst undef) w) :
    wpOp P ops Q i (fun a' w' => ((listed.setIfInBounds i true).getD z true = true ∨ C w') ∧ wpAnyZ P md ops Q z C fuel (listed.setIfInBounds i true) a' w') a w :=
  wpOp_step ho (fun K' hK => h K' (fun a w hS hW => hK a w ⟨hS, hW⟩))
end
def cnt3 (a b c : Bool) : Nat := (if a then 0 else 1) + (if b then 0 else 1) + (if c then 0 else 1)
/-- A variable's box, if it is there. -/
def AlF (W : World) (lo : Nat) (b : Bool) (s : Value) (g : Nat) (z : Array Value) (ty : TypeId) : Prop := b = true → s = .pointer (some ⟨g, 0, none⟩) ∧ W.heap[g]? = some (.cells z ty (0, 0)) ∧ lo ≤ g
theorem AlF.below {W W' : World} {lo : Nat} {b : Bool} {s : Value} {g : Nat} {z : Array Value} {ty : TypeId} (h : AlF W lo b s g z ty) (hb : Below W.heap.size W W') : AlF W' lo b s g z ty := fun e => ⟨(h e).1, keep (h e).2.1 hb, (h e).2.2⟩
theorem AlF.new (W : World) {lo : Nat} (hl : lo ≤ W.heap.size) (b : Bool) (z : Array Value) (ty : TypeId) : AlF (W.alloc (.cells z ty)) lo b (.pointer (some ⟨W.heap.size, 0, none⟩)) W.heap.size z ty := fun _ => ⟨rfl, heap_alloc_last _ _, hl⟩
theorem AlF.app {W W' : World} {lo lo2 n k e : Nat} {v : Value} {xs : List Value} {b : Bool} {s : Value} {g : Nat} {z : Array Value} {ty : TypeId} (h : AlF W lo b s g z ty) (ho : W.ownsRow lo2 e k v n xs) (hq : ∀ q, q < W.heap.size → some q ≠ v.ownBlock → W'.heap[q]? = W.heap[q]?) (hne : ty ≠ e) : AlF W' lo b s g z ty := fun eb => by
  obtain ⟨h1, h2, h3⟩ := h eb
  refine ⟨h1, (hq g (lt_some h2) (fun hv => ?_)).trans h2, h3⟩
  obtain ⟨c2, h4⟩ := owns_type ho hv.symm
  exact hne (cells_type h2 h4)
/-- What is done, and so many ticks more. -/
def dsT (dn : Nat) (ds : Nat → Dn) (tk : Int) (i : Nat) : Dn := if i < dn then ds i else tickD tk
theorem infoDo : (Tryz.prog.info? 45).map (fun i => (i.zero, i.size, i.bytes)) = some (some (.agg #[.int .i64 0, .int .i64 0, .int .i64 0, .int .i64 0]), 4, 32) := by kernel_rfl
theorem dnC_one (d : Dn) (j : Nat) : (dnC d j).oneCell' = true := by
  unfold dnC
  repeat' split
  all_goals rfl
abbrev runAppD (v x : Value) (w : World) (v' : Value) (w' : World) : Prop := (Builtin.append_ #[26, 26] 26 #[v, x]).run Tryz.prog w = .ok v' w'
theorem own_empty (W : World) {lo : Nat} (hl : lo ≤ W.heap.size) : (W.alloc (.cells #[] 45)).ownsRow lo 45 4 (.slice (some ⟨W.heap.size, 0, none⟩) 0 0) 0 (cellsL 0 4 (fun _ _ => .int .i64 0)) :=
  ⟨cellsL_length _ _ _, Or.inr ⟨W.heap.size, 0, #[], rfl, hl, heap_alloc_last _ _, Nat.le_refl _, by unfold maxLen; omega, rfl, by simp [cellsL]⟩⟩
/-- 'append([]api.Do{}, l...)'. -/
theorem do_copy {W : World} {lo : Nat} {v : Value} {dao : Option Addr} {dn dcap : Nat} {ds : Nat → Dn} (ho : W.ownsRow lo 45 4 v 0 (cellsL 0 4 (fun _ _ => .int .i64 0))) (hr : DRow W dao dn dcap ds) (hnil : NilOk dao dn dcap) (hn : dn * 32 ≤ 140737488355328) (hl : lo ≤ W.heap.size) :
    ∃ a1 c1 w', runAppD v (.slice dao dn dcap) W (.slice a1 dn c1) w' ∧ w'.ownsRow lo 45 4 (.slice a1 dn c1) dn (cellsL dn 4 (fun i => dnC (ds i))) ∧ Below lo W w' ∧ (∀ q, q < W.heap.size → some q ≠ v.ownBlock → w'.heap[q]? = W.heap[q]?) := by
  obtain ⟨a1, c1, w', r, o, b, q⟩ := append_c W 26 45 _ 4 32 Tryz.underlying26 infoDo rfl (by omega) lo v 0 _ ho dao dn dcap (fun i => dnC (ds i)) (fun _ _ => dnC_one _ _) hr hnil (by unfold maxLen; omega) (by omega) hl
  rw [Nat.zero_add] at r o
  rw [cellsL_congr dn 4 _ (fun i => dnC (ds i)) (fun i hi => by unfold catC; rw [if_neg (by omega), Nat.sub_zero])] at o
  exact ⟨a1, c1, w', r, o, b, q⟩
/-- 'append(.., ticks(t))'. -/
theorem do_more {W : World} {lo : Nat} {a1 : Option Addr} {c1 dn g : Nat} {ds : Nat → Dn} {tk : Int} (ho : W.ownsRow lo 45 4 (.slice a1 dn c1) dn (cellsL dn 4 (fun i => dnC (ds i)))) (hg : W.heap[g]? = some (.cells #[.int .i64 1, .int .i64 tk, .int .i64 0, .int .i64 0] 45 (0, 0))) (hn : dn ≤ 100000) (hl : lo ≤ W.heap.size) :
    ∃ a2 c2 w', runAppD (.slice a1 dn c1) (.slice (some ⟨g, 0, none⟩) 1 1) W (.slice a2 (dn + 1) c2) w' ∧ w'.ownsRow lo 45 4 (.slice a2 (dn + 1) c2) (dn + 1) (cellsL (dn + 1) 4 (fun i => dnC (dsT dn ds tk i))) ∧ Below lo W w' ∧ (∀ q, q < W.heap.size → some q ≠ (Value.slice a1 dn c1).ownBlock → w'.heap[q]? = W.heap[q]?) := by
  obtain ⟨a2, c2, w', r, o, b, q⟩ := append_c W 26 45 _ 4 32 Tryz.underlying26 infoDo rfl (by omega) lo (.slice a1 dn c1) dn _ ho (some ⟨g, 0, none⟩) 1 1 (fun _ => dnC (tickD tk)) (fun _ _ => dnC_one _ _) (one_do (d := tickD tk) hg) (fun h => by cases h) (by unfold maxLen; omega) (by omega) hl
  rw [cellsL_congr (dn + 1) 4 _ (fun i => dnC (dsT dn ds tk i)) (fun i hi => by
    unfold catC dsT
    by_cases h : i < dn
    · rw [if_pos h, if_pos h]
    · rw [if_neg h, if_neg h])] at o
  exact ⟨a2, c2, w', r, o, b, q⟩
theorem own_do {W : World} {lo dn c : Nat} {a : Option Addr} {ds : Nat → Dn} (h : W.ownsRow lo 45 4 (.slice a dn c) dn (cellsL dn 4 (fun i => dnC (ds i)))) : DRow W a dn c ds := (owns_cs (by omega) h).2
end Go.Proofs.YtaneiffnhphkhaaGreatDoor

namespace Go.Proofs.YtaneiffnhphkhaaGreatDoor
open Go.RowKit
open Vc (V Of)
open Pl (Br Net Pc Lk En St)
open Tk (Md Mnd Cn Sc Dn)

theorem start_ok {n : Net} (hw : n.Wf) (h : n.wrong.1 = 0) (T : Nat) : Tk.Ok n.cn (n.sc (startMs n)) T := by
  refine ⟨net_fine hw h _, fun k hk i hi => ?_, fun k hk i hi j => ?_⟩
  · rw [Pl.Net.sc_E]
    have e : (n.pts i).length = (n.ends i).length := by unfold Pl.Net.pts; simp
    show (zer (n.pts i).length).length = _ ∧ (zer (n.pts i).length).length = _
    rw [zer_len]
    exact ⟨e, e⟩
  · show 0 ≤ (zer (n.pts i).length).getD j 0 ∧ (0 < (zer (n.pts i).length).getD j 0 → _)
    rw [zer_get]
    exact ⟨Int.le_refl _, fun h => absurd h (Int.lt_irrefl _)⟩
theorem all_ticks (s : Sc) (c : Cn) (ds : Nat → Dn) (dn : Nat) (tk : Int) : s.all c (dsT dn ds tk) (dn + 1) = (s.all c ds dn).ticks c tk.toNat := by
  have e : dsT dn ds tk = fun k => if k < dn then ds k else tickD tk := rfl
  rw [e, Tk.all_last, Tk.Sc.one_tick rfl]
  rfl
theorem dsT_err {c : Cn} {ds : Nat → Dn} {dn : Nat} {tk : Int} (h : ∀ k, k < dn + 1 → Tk.errOf c (dsT dn ds tk k) = 0) : ∀ k, k < dn → Tk.errOf c (ds k) = 0 := fun k hk => by
  have := h k (by omega)
  unfold dsT at this
  rw [if_pos hk] at this
  exact this
theorem sn_net {W : World} {n : Net} {T : Nat} {s : Sc} {n' : Net} {oa : Option Addr} {oc : Nat} {t' : List Tr} (h : SnOut W n T s n' oa oc t') : n'.K = n.K ∧ n'.L = n.L ∧ n'.ends = s.E n.cn ∧ ∀ k : Int, n'.ids k = s.ids n.cn k := by
  have e1 : n'.K = n.K := congrArg Cn.K h.cn
  have e2 : n'.L = n.L := congrArg Cn.L h.cn
  refine ⟨e1, e2, ?_, fun k => ?_⟩
  · have := Pl.Net.sc_E n' s.ms
    rw [h.sc, h.cn] at this
    exact this.symm
  · funext i
    have := net_ids (n := n') s.ms k i
    rw [h.sc, h.cn] at this
    exact this.symm
theorem idx_at {l : List Int} {j : Nat} (hj : j < l.length) (h : ∀ a, a < j → l.getD a 0 ≠ l.getD j 0) : Bk.idx l (l.getD j 0) l.length = (j : Int) := by
  have H : ∀ k, k ≤ l.length → Bk.idx l (l.getD j 0) k = if j < k then (j : Int) else -1 := by
    intro k
    induction k with
    | zero => intro _; rfl
    | succ k ih =>
      intro hk
      have ih := ih (by omega)
      show (if 0 ≤ Bk.idx l (l.getD j 0) k then Bk.idx l (l.getD j 0) k else if l.getD j 0 = l.getD k 0 then (k : Int) else -1) = _
      rw [ih]
      by_cases q : j < k
      · rw [if_pos q, if_pos (by omega), if_pos (by omega)]
      · rw [if_neg q, if_neg (by omega)]
        by_cases q2 : j = k
        · subst q2
          rw [if_pos rfl, if_pos (by omega)]
        · rw [if_neg (fun e => h k (by omega) e.symm), if_neg (by omega)]
  rw [H _ (Nat.le_refl _), if_pos hj]
theorem EL_get {es : List En} {j : Nat} (hj : j < es.length) : es[j]? = some (EL es j) := by
  simp [EL, hj]
theorem pts_get {es : List En} {j : Nat} (hj : j < es.length) : (es.map (fun e : En => e.port)).getD j 0 = (EL es j).port := by
  simp [EL, hj]
/-- THE TREE OPENS, as it lies. -/
theorem sn_opens {W : World} {n : Net} {T : Nat} {ds : Nat → Dn} {dn : Nat} {tk : Int} {n' : Net} {oa : Option Addr} {oc : Nat} {t' : List Tr} (h : SnOut W n T ((n.sc (startMs n)).all n.cn (dsT dn ds tk) (dn + 1)) n' oa oc t') (hw : n.Wf) (h0 : n.wrong.1 = 0) (he : ∀ k, k < dn → Tk.errOf n.cn (ds k) = 0) (ht : 83 ≤ tk.toNat)
    {k i j : Nat} (hk : k < T) (hi : i < n.K) (hj : j < (n'.ends i).length) :
    opT t' k i (EL (n'.ends i) j).port = decide (Pl.roleAt (Pl.rounds (n'.ids k) n'.ends n'.K n'.K i) (Pl.offs (n'.ends i) (Pl.rounds (n'.ids k) n'.ends n'.K n'.K)) (EL (n'.ends i) j) = 1 ∨ Pl.roleAt (Pl.rounds (n'.ids k) n'.ends n'.K n'.K i) (Pl.offs (n'.ends i) (Pl.rounds (n'.ids k) n'.ends n'.K n'.K)) (EL (n'.ends i) j) = 2) := by
  obtain ⟨e1, _, e3, e4⟩ := sn_net h
  have hE := h.each k hk
  have hlen := h.len
  rw [all_ticks] at hE e3 e4
  obtain ⟨s0, hs0⟩ : ∃ s0, s0 = (n.sc (startMs n)).all n.cn ds dn := ⟨_, rfl⟩
  rw [← hs0] at hE e3 e4
  have e3 : n'.ends = s0.E n.cn := e3
  have e4 : n'.ids k = s0.ids n.cn k := e4 k
  have hok : Tk.Ok n.cn s0 T := by rw [hs0]; exact (start_ok hw h0 T).all ds dn he
  have hsame := ((net_fine hw h0 (startMs n)).all ds dn he)
  rw [← hs0] at hsame
  have hpts : n.pts i = (n'.ends i).map (fun e : En => e.port) := by
    have := (hsame.2.len (net_fine hw h0 (startMs n)) hsame.1 i).1
    rw [Pl.Net.sc_E] at this
    rw [e3]
    exact this.symm
  obtain ⟨hl, hm⟩ := hE
  obtain ⟨hm1, hm2⟩ := hm i hi
  have hcalm : (mat (tat t' k).l i).calm = ((s0.ticks n.cn tk.toNat).ms k i).calm := congrArg Mnd.calm hm1
  have hfit := ((ok_ticks hok tk.toNat).fit k hk i hi).2
  have hfit : ((s0.ticks n.cn tk.toNat).ms k i).calm.length = (n'.ends i).length := by rw [e3]; exact hfit
  rw [e3] at hj hpts hfit ⊢
  have hop := hok.opens ht hk hi (EL_get hj)
  have hrole : (s0.roles n.cn k i).getD j 0 = Pl.roleAt (s0.says n.cn k i) (Pl.offs (s0.E n.cn i) (s0.says n.cn k)) (EL (s0.E n.cn i) j) := by
    unfold Tk.Sc.roles
    exact Tk.map_getD _ _ (EL_get hj)
  have hsays : Pl.rounds (n'.ids k) (s0.E n.cn) n'.K n'.K = s0.says n.cn k := by
    rw [e4, e1]
    rfl
  rw [hsays, ← hrole]
  have hidx : Bk.idx (mat (tat t' k).l i).ports (EL (s0.E n.cn i) j).port (mat (tat t' k).l i).ports.length = (j : Int) := by
    rw [hm2, hpts, ← pts_get hj]
    refine idx_at (by simpa using hj) (fun a ha => ?_)
    rw [pts_get (by omega), pts_get hj]
    have hs := Pl.ends_sorted hok.fine.links (s0.lv n.cn) i
    have := List.pairwise_iff_getElem.1 hs a j (by have := hj; unfold Tk.Sc.E at this; omega) (by have := hj; unfold Tk.Sc.E at this; exact this) ha
    have g1 : EL (s0.E n.cn i) a = (s0.E n.cn i)[a]'(by omega) := by simp [EL, show a < (s0.E n.cn i).length by omega]
    have g2 : EL (s0.E n.cn i) j = (s0.E n.cn i)[j] := by simp [EL, hj]
    rw [g1, g2]
    exact Int.ne_of_lt this
  unfold opT
  rw [Int.toNat_natCast, Int.toNat_natCast, if_pos ⟨⟨by omega, by omega⟩, ⟨by omega, by omega⟩⟩]
  unfold opM
  rw [hidx, hcalm, if_pos ⟨by omega, by omega⟩, Int.toNat_natCast]
  exact decide_eq_decide.2 hop
/-- Three variables' boxes, written behind a call: what the call left is as it was. -/
theorem boxes_kept {V W0 W U : World} {b g7 g8 g9 : Nat} {v0 v1 v2 v3 v4 : Value} {P : World → Prop} (hK : Kept W0 b P) (hVb : V.heap.size ≤ b) (hb : Below W0.heap.size W0 W) (z7 : g7 < V.heap.size ∨ W0.heap.size ≤ g7) (z8 : g8 < V.heap.size ∨ W0.heap.size ≤ g8) (z9 : g9 < V.heap.size ∨ W0.heap.size ≤ g9)
    (hU : Below W.heap.size (((((W.setCell ⟨g7, 0, none⟩ v0).setCell ⟨g7, 1, none⟩ v1).setCell ⟨g8, 0, none⟩ v2).setCell ⟨g9, 0, none⟩ v3).setCell ⟨g9, 1, none⟩ v4) U) : P U := hK U (fun q h1 h2 => by
  have hs := hb.size
  rw [hU.block q (by omega), heap_setCell_other _ _ _ _ (by show q ≠ g9; omega), heap_setCell_other _ _ _ _ (by show q ≠ g9; omega), heap_setCell_other _ _ _ _ (by show q ≠ g8; omega), heap_setCell_other _ _ _ _ (by show q ≠ g7; omega), heap_setCell_other _ _ _ _ (by show q ≠ g7; omega)]
  exact hb.block q h2)
end Go.Proofs.YtaneiffnhphkhaaGreatDoor

namespace Go.Proofs.YtaneiffnhphkhaaGreatDoor
open Go.RowKit
open Vc (V Of)
open Pl (Br Net Pc Lk En St)
open Tk (Md Mnd Cn Sc Dn)

theorem sn_pts {W : World} {n : Net} {T : Nat} {ds : Nat → Dn} {dn : Nat} {n' : Net} {oa : Option Addr} {oc : Nat} {t' : List Tr} (h : SnOut W n T ((n.sc (startMs n)).all n.cn ds dn) n' oa oc t') (hw : n.Wf) (h0 : n.wrong.1 = 0) (he : ∀ k, k < dn → Tk.errOf n.cn (ds k) = 0) (i : Nat) : n.pts i = n'.pts i := by
  obtain ⟨_, _, e3, _⟩ := sn_net h
  have hsame := ((net_fine hw h0 (startMs n)).all ds dn he)
  have := (hsame.2.len (net_fine hw h0 (startMs n)) hsame.1 i).1
  rw [Pl.Net.sc_E, ← e3] at this
  exact this.symm
theorem sn_fit {W : World} {n : Net} {T : Nat} {s : Sc} {n' : Net} {oa : Option Addr} {oc : Nat} {t' : List Tr} (h : SnOut W n T s n' oa oc t') (hT : 1 ≤ T ∧ T ≤ 4) (hp : ∀ i, n.pts i = n'.pts i) : fitT n' t' = true ∧ CalmT t' ∧ ∀ k, k < t'.length → ∀ i, i < n'.K → s.ms k i = msT t' k i := by
  obtain ⟨e1, _, e3, _⟩ := sn_net h
  have hl := h.len
  refine ⟨fit_iff.2 ⟨by omega, fun k hk => ?_⟩, fun k hk i hi j => ?_, fun k hk i hi => ?_⟩
  · rw [hl] at hk
    obtain ⟨a1, a2⟩ := h.each k hk
    refine ⟨a1.trans e1.symm, fun i hi => ?_⟩
    rw [e1] at hi
    obtain ⟨b1, b2⟩ := a2 i hi
    have hf := h.ok.fit k hk i hi
    have hpl : (n'.pts i).length = (s.E n.cn i).length := by unfold Pl.Net.pts; rw [e3]; simp
    rw [← b1] at hf
    exact ⟨b2.trans (hp i), hf.1.trans hpl.symm, hf.2.trans hpl.symm⟩
  · rw [hl] at hk
    obtain ⟨a1, a2⟩ := h.each k hk
    rw [a1] at hi
    obtain ⟨b1, _⟩ := a2 i hi
    have := h.ok.calm k hk i hi j
    rw [← b1] at this
    exact this
  · rw [hl] at hk
    rw [e1] at hi
    exact ((h.each k hk).2 i hi).1.symm
/-- What On leaves of what Play left, taken apart. -/
def OnF (V w' : World) (n' : Net) (T : Nat) (s : Sc) (na : Option Addr) (nk nc : Nat) (la : Option Addr) (lk lc : Nat) (oa : Option Addr) (ol oc : Nat) (f1 f2 : Int) : Prop :=
  (f1 = 0 ∧ f2 = 0) ∧ ∃ (n2 : Net) (t2 : List Tr), (na = n2.bao ∧ nk = n2.K ∧ nc = n2.bcap) ∧ (la = n2.lao ∧ lk = n2.L ∧ lc = n2.lcap) ∧ ol = t2.length ∧ ∃ b, V.heap.size ≤ b ∧ Kept w' b (fun U => SnOut U n' T s n2 oa oc t2)
theorem on_more {V : World} {n : Net} {T : Nat} {ds : Nat → Dn} {dn : Nat} {n' : Net} {oa : Option Addr} {oc : Nat} {t' : List Tr} (h : SnOut V n T ((n.sc (startMs n)).all n.cn ds dn) n' oa oc t') (hw : n.Wf) (h0 : n.wrong.1 = 0) (he : ∀ k, k < dn → Tk.errOf n.cn (ds k) = 0) (hT : 1 ≤ T ∧ T ≤ 4) {x : Int} (hx : 0 ≤ x ∧ x ≤ 200) {g : Nat} (hg : DRow V (some ⟨g, 0, none⟩) 1 1 (fun _ => tickD x)) (htb : Tabs V) (hbt : 2 ≤ V.heap.size) :
    Calls Tryz.prog 20 #[.agg #[.slice n'.bao n'.K n'.bcap, .slice n'.lao n'.L n'.lcap], .agg #[.slice oa t'.length oc], .slice (some ⟨g, 0, none⟩) 1 1] V fun e w' => ∃ na nk nc la lk lc oa ol oc f1 f2, e = .returned (.tuple #[.agg #[.slice na nk nc, .slice la lk lc], .agg #[.slice oa ol oc], .agg #[.int .i64 f1, .int .i64 f2]]) ∧ Hid (Below V.heap.size V w' ∧ OnF V w' n' T (((n.sc (startMs n)).all n.cn ds dn).ticks n.cn x.toNat) na nk nc la lk lc oa ol oc f1 f2) := by
  obtain ⟨hf, hc, hm⟩ := sn_fit h hT (sn_pts h hw h0 he)
  have herr : (onErr n' t' (fun _ => tickD x) 1).1 = 0 := by
    rw [on_start h.right hf, if_neg (by omega)]
    have : Tk.errOf n'.cn (tickD x) = 0 := by
      unfold Tk.errOf tickD
      simp only [if_pos]
      rw [if_pos hx]
    show (Pl.firstTo (fun _ => Tk.errOf n'.cn (tickD x)) 1).1 = 0
    rw [Pl.firstTo_all _ _ (fun _ _ => this)]
  refine (ton_any n' oa oc t' ((n.sc (startMs n)).all n.cn ds dn).ms (some ⟨g, 0, none⟩) 1 1 (fun _ => tickD x) V h.wf h.net h.row (by omega) hg hc hm htb hbt).mono ?_
  rintro e w' ⟨h1, ⟨h2, _⟩ | ⟨_, n2, oao, ocap, t2, rfl, b, hb, h3⟩⟩
  · exact absurd herr h2
  · refine ⟨n2.bao, n2.K, n2.bcap, n2.lao, n2.L, n2.lcap, oao, t2.length, ocap, 0, 0, rfl, h1, ⟨rfl, rfl⟩, n2, t2, ⟨rfl, rfl, rfl⟩, ⟨rfl, rfl, rfl⟩, rfl, b, hb, ?_⟩
    have e1 : (n'.sc ((n.sc (startMs n)).all n.cn ds dn).ms).all n'.cn (fun _ => tickD x) 1 = ((n.sc (startMs n)).all n.cn ds dn).ticks n.cn x.toNat := by
      rw [h.sc, h.cn]
      show ((n.sc (startMs n)).all n.cn ds dn).one n.cn (tickD x) = _
      rw [Tk.Sc.one_tick rfl]
      rfl
    rw [← h.len, ← e1]
    exact h3
/-- Two variables' boxes and an older one, written behind a call: what the call left is as it was. -/
theorem boxes_kept2 {V W0 W U : World} {b g7 g8 g9 : Nat} {v0 v1 v2 v3 v4 : Value} {P : World → Prop} (hK : Kept W0 b P) (hVb : V.heap.size ≤ b) (hb : Below W0.heap.size W0 W) (z7 : g7 < V.heap.size ∨ W0.heap.size ≤ g7) (z8 : g8 < V.heap.size ∨ W0.heap.size ≤ g8) (z9 : g9 < V.heap.size)
    (hU : Below W.heap.size (((((W.setCell ⟨g7, 0, none⟩ v0).setCell ⟨g7, 1, none⟩ v1).setCell ⟨g8, 0, none⟩ v2).setCell ⟨g9, 0, none⟩ v3).setCell ⟨g9, 1, none⟩ v4) U) : P U := boxes_kept hK hVb hb z7 z8 (Or.inl z9) hU
/-- The older box keeps what it had: nothing that was there has changed. -/
theorem boxes_same {X W : World} {g7 g8 g9 : Nat} {v0 v1 v2 : Value} (hX : Below X.heap.size X W) (l7 : X.heap.size ≤ g7) (l8 : X.heap.size ≤ g8) (n79 : g9 ≠ g7) (n89 : g9 ≠ g8) (k9 : W.heap[g9]? = some (.cells #[.int .i64 0, .int .i64 0] 32 (0, 0))) :
    Below X.heap.size X (((((W.setCell ⟨g7, 0, none⟩ v0).setCell ⟨g7, 1, none⟩ v1).setCell ⟨g8, 0, none⟩ v2).setCell ⟨g9, 0, none⟩ (.int .i64 0)).setCell ⟨g9, 1, none⟩ (.int .i64 0)) := by
  have h1 : Below X.heap.size X (((W.setCell ⟨g7, 0, none⟩ v0).setCell ⟨g7, 1, none⟩ v1).setCell ⟨g8, 0, none⟩ v2) := ((hX.setCell l7 _).setCell l7 _).setCell l8 _
  have h2 := below_same (set_keep (set_keep (set_keep k9 n79) n79) n89 : (((W.setCell ⟨g7, 0, none⟩ v0).setCell ⟨g7, 1, none⟩ v1).setCell ⟨g8, 0, none⟩ v2).heap[g9]? = _)
  exact h1.trans (h2.mono h1.size)
/-- One tick more, plain: nobody says anything else; roles stay, ports are calm for one tick more. -/
structure QuM (a b : Mi) : Prop where
  md : b.md = a.md
  roles : b.roles = a.roles
  len : b.calm.length = a.calm.length
  rlen : a.roles.length = a.calm.length
  calm : ∀ j, j < a.calm.length → (0 ≤ a.calm.getD j 0 ∧ a.calm.getD j 0 ≤ 50) ∧ b.calm.getD j 0 = Tk.calmOf (a.roles.getD j 0) (a.calm.getD j 0)
theorem calmOf_top {r c : Int} : Tk.calmOf r c ≤ 50 := by
  unfold Tk.calmOf
  split
  · split <;> omega
  · omega
theorem sn_quiet {W W2 : World} {n : Net} {T : Nat} {ds : Nat → Dn} {dn : Nat} {n' n2 : Net} {oa oa2 : Option Addr} {oc oc2 : Nat} {t' t2 : List Tr} (h : SnOut W n T ((n.sc (startMs n)).all n.cn (dsT dn ds 40) (dn + 1)) n' oa oc t') (h2 : SnOut W2 n' T (((n.sc (startMs n)).all n.cn (dsT dn ds 40) (dn + 1)).ticks n.cn 1) n2 oa2 oc2 t2) (hw : n.Wf) (h0 : n.wrong.1 = 0) (he : ∀ k, k < dn → Tk.errOf n.cn (ds k) = 0)
    {k i : Nat} (hk : k < T) (hi : i < n.K) : QuM (mat (tat t' k).l i) (mat (tat t2 k).l i) := by
  obtain ⟨e1, _, _, _⟩ := sn_net h
  obtain ⟨m1, _⟩ := (h.each k hk).2 i hi
  obtain ⟨m2, _⟩ := (h2.each k hk).2 i (by rw [e1]; exact hi)
  rw [all_ticks] at m1 m2
  obtain ⟨s0, hs0⟩ : ∃ s0, s0 = (n.sc (startMs n)).all n.cn ds dn := ⟨_, rfl⟩
  rw [← hs0] at m1 m2
  have hok : Tk.Ok n.cn s0 T := by rw [hs0]; exact (start_ok hw h0 T).all ds dn he
  rw [Tk.Sc.ticks_add] at m2
  have hok40 := ok_ticks hok 40
  have m1 : msT t' k i = Tk.ticksF (s0.ids n.cn k) (s0.E n.cn) (s0.ms k) 40 i := m1
  have m2 : msT t2 k i = Tk.ticksF (s0.ids n.cn k) (s0.E n.cn) (s0.ms k) 41 i := m2
  have q1 := Tk.quietF (hok.fine.good (s0.ids n.cn k)) hok.fine.ports (s0.ms k) (t := 41) (s := 40) (by omega) (by omega) hi
  have r40 := (Tk.settledF (hok.fine.good (s0.ids n.cn k)) hok.fine.ports (s0.ms k) (t := 40) (by omega) hi).2.2
  have r41 := (Tk.settledF (hok.fine.good (s0.ids n.cn k)) hok.fine.ports (s0.ms k) (t := 41) (by omega) hi).2.2
  have f39 := Tk.ticksF_fit (ids := s0.ids n.cn k) (hok.fit k hk) 39
  have f40 := Tk.ticksF_fit (ids := s0.ids n.cn k) (hok.fit k hk) 40
  have f41 := Tk.ticksF_fit (ids := s0.ids n.cn k) (hok.fit k hk) 41
  have c40 := Tk.ticksF_Calm (ids := s0.ids n.cn k) (hok.fit k hk) (hok.calm k hk) 40
  have a1 : (mat (tat t' k).l i).md = (Tk.ticksF (s0.ids n.cn k) (s0.E n.cn) (s0.ms k) 40 i).md := congrArg Mnd.md m1
  have a2 : (mat (tat t' k).l i).roles = (Tk.ticksF (s0.ids n.cn k) (s0.E n.cn) (s0.ms k) 40 i).roles := congrArg Mnd.roles m1
  have a3 : (mat (tat t' k).l i).calm = (Tk.ticksF (s0.ids n.cn k) (s0.E n.cn) (s0.ms k) 40 i).calm := congrArg Mnd.calm m1
  have b1 : (mat (tat t2 k).l i).md = (Tk.ticksF (s0.ids n.cn k) (s0.E n.cn) (s0.ms k) 41 i).md := congrArg Mnd.md m2
  have b2 : (mat (tat t2 k).l i).roles = (Tk.ticksF (s0.ids n.cn k) (s0.E n.cn) (s0.ms k) 41 i).roles := congrArg Mnd.roles m2
  have b3 : (mat (tat t2 k).l i).calm = (Tk.ticksF (s0.ids n.cn k) (s0.E n.cn) (s0.ms k) 41 i).calm := congrArg Mnd.calm m2
  have hf40 := f40 i hi
  have hf41 := f41 i hi
  refine ⟨b1.trans (q1.trans a1.symm), ?_, ?_, ?_, fun j hj => ⟨⟨?_, ?_⟩, ?_⟩⟩
  · rw [b2, a2]; exact r41.trans r40.symm
  · rw [b3, a3]; omega
  · rw [a2, a3]; omega
  · rw [a3]; exact (c40 i hi j).1
  · rw [a3] at hj ⊢
    have := Tk.tickF_calm (ids := s0.ids n.cn k) f39 hi (j := j) (by omega)
    rw [show Tk.ticksF (s0.ids n.cn k) (s0.E n.cn) (s0.ms k) 40 i = Tk.tickF (s0.ids n.cn k) (s0.E n.cn) (Tk.ticksF (s0.ids n.cn k) (s0.E n.cn) (s0.ms k) 39) i from rfl, this]
    exact calmOf_top
  · rw [a3] at hj
    have := Tk.tickF_calm (ids := s0.ids n.cn k) f40 hi (j := j) (by omega)
    rw [b3, a2, a3, show Tk.ticksF (s0.ids n.cn k) (s0.E n.cn) (s0.ms k) 41 i = Tk.tickF (s0.ids n.cn k) (s0.E n.cn) (Tk.ticksF (s0.ids n.cn k) (s0.E n.cn) (s0.ms k) 40) i from rfl, this]
    rw [show (Tk.tickF (s0.ids n.cn k) (s0.E n.cn) (Tk.ticksF (s0.ids n.cn k) (s0.E n.cn) (s0.ms k) 40) i).roles = (Tk.ticksF (s0.ids n.cn k) (s0.E n.cn) (s0.ms k) 41 i).roles from rfl, r41, r40]
end Go.Proofs.YtaneiffnhphkhaaGreatDoor

namespace Go.Proofs.YtaneiffnhphkhaaGreatDoor
open Go.RowKit
open Vc (V Of)
open Pl (Br Net Pc Lk En St)
namespace Pl
def LN (l : List Nat) (j : Nat) : Nat := l.getD j 0
/-- The live links among the first k. -/
def Net.lvsTo (n : Net) (k : Nat) : List Nat := (List.range k).filter n.live
def Net.lvs (n : Net) : List Nat := n.lvsTo n.L
theorem Net.lvsTo_next (n : Net) (k : Nat) : n.lvsTo (k + 1) = n.lvsTo k ++ if n.live k = true then [k] else [] := by
  unfold Net.lvsTo
  rw [List.range_succ, List.filter_append]
  congr 1
  cases h : n.live k <;> simp [h]
theorem Net.lvsTo_few (n : Net) (k : Nat) : (n.lvsTo k).length ≤ k := by
  have := List.length_filter_le n.live (List.range k)
  rw [List.length_range] at this
  exact this
theorem LN_get {l : List Nat} {j : Nat} (h : j < l.length) : LN l j = l[j] := by
  unfold LN
  rw [List.getD_eq_getElem?_getD, List.getElem?_eq_getElem h]
  rfl
theorem Net.lvs_mem {n : Net} {j : Nat} (h : j < n.lvs.length) : LN n.lvs j < n.L ∧ n.live (LN n.lvs j) = true := by
  have hm : LN n.lvs j ∈ n.lvs := by rw [LN_get h]; exact List.getElem_mem h
  unfold Net.lvs Net.lvsTo at hm
  obtain ⟨h1, h2⟩ := List.mem_filter.1 hm
  exact ⟨List.mem_range.1 h1, h2⟩
theorem Net.lvs_rise {n : Net} {i j : Nat} (hij : i < j) (h : j < n.lvs.length) : LN n.lvs i < LN n.lvs j := by
  have hp : n.lvs.Pairwise (· < ·) := by
    unfold Net.lvs Net.lvsTo
    exact List.Pairwise.filter _ List.pairwise_lt_range
  rw [LN_get (by omega), LN_get h]
  exact List.pairwise_iff_getElem.1 hp i j (by omega) h hij
theorem Net.lvs_all {n : Net} {k : Nat} (hk : k < n.L) (h : n.live k = true) : ∃ j, j < n.lvs.length ∧ LN n.lvs j = k := by
  have hm : k ∈ n.lvs := List.mem_filter.2 ⟨List.mem_range.2 hk, h⟩
  obtain ⟨j, hj, e⟩ := List.getElem_of_mem hm
  exact ⟨j, hj, by rw [LN_get hj]; exact e⟩
end Pl
open Pl (LN)
abbrev lkCells (ls : Nat → Lk) (l : List Nat) : List Value := cellsL l.length 6 (fun j => lkC (ls (LN l j)))
theorem ln_snoc (ls : Nat → Lk) (l : List Nat) (k : Nat) : cellsL (l.length + 1) 6 (catC l.length (fun j => lkC (ls (LN l j))) (fun _ => lkC (ls k))) = lkCells ls (l ++ [k]) := by
  unfold lkCells
  rw [List.length_append]
  apply cellsL_congr
  intro i hi
  simp only [catC]
  by_cases q : i < l.length
  · rw [if_pos q]
    simp [LN, List.getD, List.getElem?_append_left q]
  · rw [if_neg q]
    obtain rfl : i = l.length := by omega
    simp [LN, List.getD]
theorem one_lk_row {w : World} {g : Nat} {l : Lk} {ty : TypeId} (h : w.heap[g]? = some (.cells (lkA l) ty (0, 0))) : LRow w (some ⟨g, 0, none⟩) 1 1 (fun _ => l) := by
  refine ⟨Nat.le_refl _, fun _ => ⟨g, 0, rfl, (Array.getElem?_eq_some_iff.1 h).1, fun i hi j hj => ?_⟩⟩
  obtain rfl : i = 0 := by omega
  rcases (by omega : j = 0 ∨ j = 1 ∨ j = 2 ∨ j = 3 ∨ j = 4 ∨ j = 5) with e | e | e | e | e | e <;> subst e <;> exact cell_of_row w g _ _ _ _ h
/-- Identities are apart, and within 64 bits. -/
theorem ids_range {n : Net} (R : n.Right) (tree : Int) {i : Nat} (hi : i < n.K) : 0 ≤ n.ids tree i ∧ n.ids tree i < 18446744073709551616 := by
  obtain ⟨h1, h2, h3, _⟩ := R.fine i hi
  have hp : 0 ≤ (n.bs i).prio tree ∧ (n.bs i).prio tree ≤ 61440 := by
    unfold Pl.Br.prio
    by_cases h : 0 ≤ tree ∧ tree ≤ ((n.bs i).pn : Int) - 1
    · rw [if_pos h]; exact h3 _ (by omega)
    · rw [if_neg h]; exact ⟨by decide, by decide⟩
  unfold Pl.Net.ids Pl.Br.id
  generalize (n.bs i).prio tree = p at *
  omega
theorem ids_apart {n : Net} (R : n.Right) (tree : Int) : ∀ i j, i < n.K → j < n.K → n.ids tree i = n.ids tree j → i = j := by
  intro i j hi hj e
  have h1 := (R.fine i hi).addr
  have h2 := (R.fine j hj).addr
  refine R.apart i j hi hj ?_
  unfold Pl.Net.ids Pl.Br.id at e
  generalize (n.bs i).prio tree = p at *
  generalize (n.bs j).prio tree = q at *
  omega
end Go.Proofs.YtaneiffnhphkhaaGreatDoor

namespace Go.Proofs.YtaneiffnhphkhaaGreatDoor
open Go.RowKit
open Vc (V Of)
open Pl (Br Net Pc Lk En St)

set_option maxRecDepth 100000 in
set_option maxHeartbeats 1000000 in
theorem rints_any (ao bo : Option Addr) (n c1 c2 : Nat) (f : Nat → Int) (w : World) (hn : n ≤ 1000) (h1 : IRow w ao n c1 f) (h2 : IRow w bo n c2 f) :
    Calls Tryz.prog 71 #[.slice ao n c1, .slice bo n c2] w fun e w' => e = .returned (.bool true) ∧ ∃ m, w' = w.drewN m := by
  have HA : Hid (∀ m, IRow (w.drewN m) ao n c1 f ∧ IRow (w.drewN m) bo n c2 f) := fun m => ⟨CRow.below h1 (below_drewN (Below.refl _ _) m), CRow.below h2 (below_drewN (Below.refl _ _) m)⟩
  have k1 := h1.1
  have k2 := h2.1
  clear h1 h2
  go_enter Tryz.func71, Tryz.ntmps71
  go_wp2_with fail
  go_loopw [13] (fun i wr => ∃ k m : Nat, k ≤ n ∧ i = .int .i64 k ∧ wr = w.drewN m) (fun i _ => n - (intOf i).toNat)
  case atStart => exact ⟨0, 0, by omega, rfl, rfl⟩
  case round =>
    obtain ⟨k, m, hk, rfl, HW⟩ := hrel
    by_cases hlt : k < n
    · obtain ⟨r1, r2⟩ := HA.out m
      rw [← HW] at r1 r2
      obtain ⟨b1, o1, rfl, _⟩ := CRow.some r1 (by omega)
      obtain ⟨b2, o2, rfl, _⟩ := CRow.some r2 (by omega)
      have x1 := IRow.cells r1 hlt
      have x2 := IRow.cells r2 hlt
      have HE : Hid (wr = w.drewN m) := HW
      have i0 : (0 : Int) ≤ (k : Int) := by omega
      have i1 : (k : Int) < (n : Int) := by omega
      clear r1 r2 HA HW
      generalize f k = z at *
      go_wp2_with fail
      go_quiet (fail)
      go_wp2_with fail
      exact ⟨⟨k + 1, _, by omega, by go_num, by rw [HE.out, World.drewN_drewN]⟩, by simp [intOf]; omega⟩
    · have hnk : ¬ (k : Int) < (n : Int) := by omega
      have HE : Hid (wr = w.drewN m) := HW
      clear HA HW
      go_wp2_with fail
      go_ret
      exact ⟨rfl, m, HE.out⟩
theorem vec_neq (a b c d : Int) (W : World) : (binOp .neq 58 (.agg #[.int .u64 a, .int .i64 b, .int .u64 c, .int .i64 d]) (.agg #[.int .u64 a, .int .i64 b, .int .u64 c, .int .i64 d])).run Tryz.prog W = .ok (.bool false) W := by go_simp
/-- Two places that say the same. -/
def OneSame (w : World) (P a Q b : Nat) : Prop :=
  ∃ (s : St) (len : Nat) (p q : Option Addr) (pc qc : Nat) (r t : Option Addr) (rc tc : Nat) (f g : Nat → Int), len ≤ 1000 ∧
    (w.cell? ⟨P, a, none⟩ = some (.int .u64 s.v.root) ∧ w.cell? ⟨P, a + 1, none⟩ = some (.int .i64 s.v.cost) ∧ w.cell? ⟨P, a + 2, none⟩ = some (.int .u64 s.v.bridge) ∧ w.cell? ⟨P, a + 3, none⟩ = some (.int .i64 s.v.port) ∧ w.cell? ⟨P, a + 4, none⟩ = some (.int .i64 s.rp) ∧ w.cell? ⟨P, a + 5, none⟩ = some (.slice p len pc) ∧ w.cell? ⟨P, a + 6, none⟩ = some (.slice r len rc)) ∧
    (w.cell? ⟨Q, b, none⟩ = some (.int .u64 s.v.root) ∧ w.cell? ⟨Q, b + 1, none⟩ = some (.int .i64 s.v.cost) ∧ w.cell? ⟨Q, b + 2, none⟩ = some (.int .u64 s.v.bridge) ∧ w.cell? ⟨Q, b + 3, none⟩ = some (.int .i64 s.v.port) ∧ w.cell? ⟨Q, b + 4, none⟩ = some (.int .i64 s.rp) ∧ w.cell? ⟨Q, b + 5, none⟩ = some (.slice q len qc) ∧ w.cell? ⟨Q, b + 6, none⟩ = some (.slice t len tc)) ∧
    (IRow w p len pc f ∧ IRow w q len qc f) ∧ (IRow w r len rc g ∧ IRow w t len tc g)
theorem OneSame.drewN {w : World} {P a Q b : Nat} (h : OneSame w P a Q b) (m : Nat) : OneSame (w.drewN m) P a Q b := by
  obtain ⟨s, len, p, q, pc, qc, r, t, rc, tc, f, g, h0, h1, h2, ⟨h3, h4⟩, h5, h6⟩ := h
  have hb := below_drewN (Below.refl w.heap.size w) m
  exact ⟨s, len, p, q, pc, qc, r, t, rc, tc, f, g, h0, h1, h2, ⟨CRow.below h3 hb, CRow.below h4 hb⟩, CRow.below h5 hb, CRow.below h6 hb⟩
set_option maxRecDepth 100000 in
set_option maxHeartbeats 4000000 in
theorem rsame6_any (n P oP cP Q oQ cQ : Nat) (w : World) (hn : n ≤ 1000) (h : ∀ i, i < n → OneSame w P (oP + i * 7) Q (oQ + i * 7)) :
    Calls Tryz.prog 47 #[.slice (some ⟨P, oP, none⟩) n cP, .slice (some ⟨Q, oQ, none⟩) n cQ] w fun e w' => e = .returned (.bool true) ∧ ∃ m, w' = w.drewN m := by
  have HA : Hid (∀ i, i < n → ∀ m, OneSame (w.drewN m) P (oP + i * 7) Q (oQ + i * 7)) := fun i hi m => (h i hi).drewN m
  clear h
  go_enter Tryz.func47, Tryz.ntmps47
  go_wp2_with fail
  go_loopw [13] (fun i wr => ∃ k m : Nat, k ≤ n ∧ i = .int .i64 k ∧ wr = w.drewN m) (fun i _ => n - (intOf i).toNat)
  case atStart => exact ⟨0, 0, by omega, rfl, rfl⟩
  case round =>
    obtain ⟨k, m, hk, rfl, HW⟩ := hrel
    by_cases hlt : k < n
    · have hs := HA.out k hlt m
      rw [← HW] at hs
      obtain ⟨⟨⟨v0, v1, v2, v3⟩, rp⟩, len, p, q, pc, qc, r, t, rc, tc, f, g, h0, ⟨x0, x1, x2, x3, x4, x5, x6⟩, ⟨y0, y1, y2, y3, y4, y5, y6⟩, ⟨r1, r2⟩, r3, r4⟩ := hs
      simp only at x0 x1 x2 x3 x4 y0 y1 y2 y3 y4
      have HI1 : Hid (∀ q', Calls Tryz.prog 71 #[.slice p len pc, .slice q len qc] (wr.drewN q') fun e w' => e = .returned (.bool true) ∧ ∃ m, w' = (wr.drewN q').drewN m) := fun q' => rints_any p q len pc qc f (wr.drewN q') h0 (CRow.below r1 (below_drewN (Below.refl _ _) q')) (CRow.below r2 (below_drewN (Below.refl _ _) q'))
      have HI2 : Hid (∀ q', Calls Tryz.prog 71 #[.slice r len rc, .slice t len tc] (wr.drewN q') fun e w' => e = .returned (.bool true) ∧ ∃ m, w' = (wr.drewN q').drewN m) := fun q' => rints_any r t len rc tc g (wr.drewN q') h0 (CRow.below r3 (below_drewN (Below.refl _ _) q')) (CRow.below r4 (below_drewN (Below.refl _ _) q'))
      have hne := vec_neq v0 v1 v2 v3
      have HE : Hid (wr = w.drewN m) := HW
      have i0 : (0 : Int) ≤ (k : Int) := by omega
      have i1 : (k : Int) < (n : Int) := by omega
      clear r1 r2 r3 r4 HA HW h0
      go_wp2_with fail
      go_quiet (first | (go_at_call 71; (with_reducible exact Calls.quiet_of (HI1.out _))) | (go_at_call 71; (with_reducible exact Calls.quiet_of (HI2.out _))))
      all_goals go_wp2_with fail
      all_goals exact ⟨⟨k + 1, _, by omega, by go_num, by rw [HE.out, World.drewN_drewN]⟩, by simp [intOf]; omega⟩
    · have hnk : ¬ (k : Int) < (n : Int) := by omega
      have HE : Hid (wr = w.drewN m) := HW
      clear HA HW
      go_wp2_with fail
      go_ret
      exact ⟨rfl, m, HE.out⟩
/-- Two rows of places that say the same, one by one. -/
theorem same_of_places {w : World} {P Q K K' : Nat} {x y : Nat → St} {E F : Nat → List En} (h1 : PlacesAt w P K x E K) (h2 : PlacesAt w Q K' y F K') {i j : Nat} (hi : i < K) (hj : j < K') (hl : (E i).length ≤ 1000) (e1 : x i = y j) (e2 : (F j).length = (E i).length) (e3 : ∀ q, q < (E i).length → (EL (F j) q).port = (EL (E i) q).port)
    (e4 : ∀ q, q < (E i).length → Pl.roleAt (y j) (Pl.offs (F j) y) (EL (F j) q) = Pl.roleAt (x i) (Pl.offs (E i) x) (EL (E i) q)) : OneSame w P (i * 7) Q (j * 7) := by
  obtain ⟨c, a1, a2, _, a4⟩ := h1
  obtain ⟨d, b1, b2, _, b4⟩ := h2
  obtain ⟨p, r, pc, rc, p5, p6, hp, hr, _, _⟩ := a4 i hi
  obtain ⟨q, t, qc, tc, q5, q6, hq, ht, _, _⟩ := b4 j hj
  rw [e2] at q5 q6 hq ht
  have A : ∀ s, s < 7 → w.cell? ⟨P, i * 7 + s, none⟩ = some (c i s) := fun s hs => rowC_cell a1 hi hs
  have B : ∀ s, s < 7 → w.cell? ⟨Q, j * 7 + s, none⟩ = some (d j s) := fun s hs => rowC_cell b1 hj hs
  have a2' := a2 i hi
  have b2' := b2 j hj
  rw [← e1] at b2'
  refine ⟨x i, (E i).length, p, q, pc, qc, r, t, rc, tc, _, _, hl, ⟨?_, ?_, ?_, ?_, ?_, ?_, ?_⟩, ⟨?_, ?_, ?_, ?_, ?_, ?_, ?_⟩, ⟨hp, CRow.congr hq (fun s hs => by funext _; exact congrArg (Value.int .i64) (e3 s hs))⟩, hr, CRow.congr ht (fun s hs => by funext _; exact congrArg (Value.int .i64) (e4 s hs))⟩
  · have := A 0 (by omega); rw [a2' 0 (by omega)] at this; exact this
  · have := A 1 (by omega); rw [a2' 1 (by omega)] at this; exact this
  · have := A 2 (by omega); rw [a2' 2 (by omega)] at this; exact this
  · have := A 3 (by omega); rw [a2' 3 (by omega)] at this; exact this
  · have := A 4 (by omega); rw [a2' 4 (by omega)] at this; exact this
  · have := A 5 (by omega); rw [p5] at this; exact this
  · have := A 6 (by omega); rw [p6] at this; exact this
  · have := B 0 (by omega); rw [b2' 0 (by omega)] at this; exact this
  · have := B 1 (by omega); rw [b2' 1 (by omega)] at this; exact this
  · have := B 2 (by omega); rw [b2' 2 (by omega)] at this; exact this
  · have := B 3 (by omega); rw [b2' 3 (by omega)] at this; exact this
  · have := B 4 (by omega); rw [b2' 4 (by omega)] at this; exact this
  · have := B 5 (by omega); rw [q5] at this; exact this
  · have := B 6 (by omega); rw [q6] at this; exact this
end Go.Proofs.YtaneiffnhphkhaaGreatDoor

namespace Go.Proofs.YtaneiffnhphkhaaGreatDoor
open Go.RowKit
open Vc (V Of)
open Pl (Br Net Pc Lk En St)
open Tk (Md Mnd Cn Sc Dn)

/-- A mind stands as it must. -/
structure AsM (m : Mi) (x : St) (es : List En) (os : List Of) : Prop where
  v : m.md.v = x.v
  rp : m.md.rp = x.rp
  ports : m.ports = es.map (fun e : En => e.port)
  roles : m.roles = es.map (Pl.roleAt x os)
/-- A talk stands as it must. -/
structure AsT (n' : Net) (t' : List Tr) : Prop where
  few : n'.K ≤ 12 ∧ t'.length ≤ 4
  short : ∀ i, (n'.ends i).length ≤ 1000
  lens : ∀ k, k < t'.length → (tat t' k).l.length = n'.K
  minds : ∀ k i, k < t'.length → i < n'.K → AsM (mat (tat t' k).l i) (Pl.rounds (n'.ids k) n'.ends n'.K n'.K i) (n'.ends i) (Pl.offs (n'.ends i) (Pl.rounds (n'.ids k) n'.ends n'.K n'.K))
theorem sn_as {W : World} {n0 n : Net} {T : Nat} {s0 : Sc} {t : Nat} {n' : Net} {oa : Option Addr} {oc : Nat} {t' : List Tr} (h : SnOut W n T (s0.ticks n.cn t) n' oa oc t') (hT : T ≤ 4) (hok : Tk.Ok n.cn s0 T) (ht : 33 ≤ t) (hp : ∀ i, n.pts i = n'.pts i) (hn0 : n0 = n) : AsT n' t' := by
  subst hn0
  obtain ⟨e1, _, e3, e4⟩ := sn_net h
  have R := right_of h.wf h.right
  refine ⟨⟨R.few, by rw [h.len]; exact hT⟩, fun i => by have := ends_few n' i R.fewL; omega, fun k hk => ((h.each k (by rw [← h.len]; exact hk)).1).trans e1.symm, fun k i hk hi => ?_⟩
  have hk' : k < T := by rw [← h.len]; exact hk
  have hi' : i < n0.K := by rw [← e1]; exact hi
  obtain ⟨m1, m2⟩ := (h.each k hk').2 i hi'
  obtain ⟨a1, a2, a3⟩ := hok.fine.settles ht k i hi'
  have e3' : n'.ends = s0.E n0.cn := e3
  have e4' : n'.ids k = s0.ids n0.cn k := e4 k
  have hs : Pl.rounds (n'.ids k) n'.ends n'.K n'.K = (s0.ticks n0.cn t).says n0.cn k := by
    rw [e4', e3', e1]
    rfl
  rw [hs]
  refine ⟨?_, ?_, ?_, ?_⟩
  · have := congrArg (fun x : Mnd => x.md.v) m1
    exact this.trans a1
  · have := congrArg (fun x : Mnd => x.md.rp) m1
    exact this.trans a2
  · exact m2.trans (hp i)
  · have := congrArg Mnd.roles m1
    refine Eq.trans this (a3.trans ?_)
    rw [e3]
    rfl
theorem map_IL {es : List En} (f : En → Int) {j : Nat} (hj : j < es.length) : (es.map f).getD j 0 = f (EL es j) := by
  simp [EL, hj]
/-- One place, built of a mind, is the place that Plan tells. -/
theorem as_one {U : World} {P Q K : Nat} {x : Nat → St} {E : Nat → List En} {i : Nat} {m : Mi} (hP : PlacesAt U P K x E K) (hi : i < K) (hl : (E i).length ≤ 1000) (ha : AsM m (x i) (E i) (Pl.offs (E i) x)) (hm : MiIn U m)
    (hQ : U.heap[Q]? = some (.cells #[.int .u64 m.md.v.root, .int .i64 m.md.v.cost, .int .u64 m.md.v.bridge, .int .i64 m.md.v.port, .int .i64 m.md.rp, .slice m.po m.ports.length m.pc, .slice m.ro m.roles.length m.rc] 61 (0, 0))) : OneSame U P (i * 7) Q 0 := by
  obtain ⟨c, a1, a2, _, a4⟩ := hP
  obtain ⟨p, r, pc, rc, p5, p6, hp, hr, _, _⟩ := a4 i hi
  have A : ∀ s, s < 7 → U.cell? ⟨P, i * 7 + s, none⟩ = some (c i s) := fun s hs => rowC_cell a1 hi hs
  have a2' := a2 i hi
  have lp : m.ports.length = (E i).length := by rw [ha.ports]; simp
  have lr : m.roles.length = (E i).length := by rw [ha.roles]; simp
  rw [ha.v, ha.rp, lp, lr] at hQ
  have hp2 : IRow U m.po (E i).length m.pc (fun j => (EL (E i) j).port) := by
    have := hm.ports
    unfold ILs at this
    rw [lp] at this
    refine this.congr (fun j hj => ?_)
    funext _
    rw [ha.ports, map_IL _ hj]
  have hr2 : IRow U m.ro (E i).length m.rc (fun j => Pl.roleAt (x i) (Pl.offs (E i) x) (EL (E i) j)) := by
    have := hm.roles
    unfold ILs at this
    rw [lr] at this
    refine this.congr (fun j hj => ?_)
    funext _
    rw [ha.roles, map_IL _ hj]
  refine ⟨x i, (E i).length, p, m.po, pc, m.pc, r, m.ro, rc, m.rc, _, _, hl, ⟨?_, ?_, ?_, ?_, ?_, ?_, ?_⟩, ⟨?_, ?_, ?_, ?_, ?_, ?_, ?_⟩, ⟨hp, hp2⟩, hr, hr2⟩
  · have := A 0 (by omega); rw [a2' 0 (by omega)] at this; exact this
  · have := A 1 (by omega); rw [a2' 1 (by omega)] at this; exact this
  · have := A 2 (by omega); rw [a2' 2 (by omega)] at this; exact this
  · have := A 3 (by omega); rw [a2' 3 (by omega)] at this; exact this
  · have := A 4 (by omega); rw [a2' 4 (by omega)] at this; exact this
  · have := A 5 (by omega); rw [p5] at this; exact this
  · have := A 6 (by omega); rw [p6] at this; exact this
  · exact cell_of_row U Q 0 _ _ _ hQ
  · exact cell_of_row U Q 1 _ _ _ hQ
  · exact cell_of_row U Q 2 _ _ _ hQ
  · exact cell_of_row U Q 3 _ _ _ hQ
  · exact cell_of_row U Q 4 _ _ _ hQ
  · exact cell_of_row U Q 5 _ _ _ hQ
  · exact cell_of_row U Q 6 _ _ _ hQ
set_option maxRecDepth 100000 in
set_option maxHeartbeats 4000000 in
theorem tas_any (n' : Net) (oa : Option Addr) (oc : Nat) (t' : List Tr) (w : World) (hat : n'.at' w) (hwf : n'.Wf) (hR : n'.wrong.1 = 0) (hr : TrRow w oa oc t') (ha : AsT n' t') (htb : Tabs w) (hbt : 2 ≤ w.heap.size) :
    Calls Tryz.prog 24 #[.agg #[.slice n'.bao n'.K n'.bcap, .slice n'.lao n'.L n'.lcap], .agg #[.slice oa t'.length oc]] w fun e w' => e = .returned (.bool true) ∧ Below w.heap.size w w' := by
  obtain ⟨Z, HZ⟩ : ∃ Z, Hid (Z = (w.alloc (.cells #[.slice n'.bao n'.K n'.bcap, .slice n'.lao n'.L n'.lcap] 25)).alloc (.cells #[.slice oa t'.length oc] 29)) := ⟨_, rfl⟩
  have hZB : Below w.heap.size w Z := by rw [HZ.out]; exact below_alloc2 _ _ _
  have y7 : Z.heap[w.heap.size]? = some (.cells #[.slice n'.bao n'.K n'.bcap, .slice n'.lao n'.L n'.lcap] 25 (0, 0)) := by rw [HZ.out]; exact heap_alloc2_old _ _ _
  have y8 : Z.heap[w.heap.size + 1]? = some (.cells #[.slice oa t'.length oc] 29 (0, 0)) := by rw [HZ.out]; exact heap_alloc2_new _ _ _
  have HG : Hid (∀ V, Below Z.heap.size Z V → ((V.cell? ⟨w.heap.size, 0, none⟩ = some (.slice n'.bao n'.K n'.bcap) ∧ V.cell? ⟨w.heap.size, 1, none⟩ = some (.slice n'.lao n'.L n'.lcap)) ∧ V.cell? ⟨w.heap.size + 1, 0, none⟩ = some (.slice oa t'.length oc)) ∧ (n'.at' V ∧ TrRow V oa oc t' ∧ Tabs V ∧ 2 ≤ V.heap.size) ∧ Below w.heap.size w V) := fun V hV => by
    have h := hZB.trans (hV.mono hZB.size)
    exact ⟨⟨two_cells2 (keep y7 hV), one_cell (keep y8 hV)⟩, ⟨hat.below h, hr.below h, htb.below h hbt, Nat.le_trans hbt h.size⟩, h⟩
  have HA : Hid (AsT n' t') := ha
  have HWF : Hid n'.Wf := hwf
  have HRR : Hid (n'.wrong.1 = 0) := hR
  have hfewT : t'.length ≤ 4 := ha.few.2
  have hfewK : n'.K ≤ 12 := ha.few.1
  have hcap := hr.row.1
  obtain ⟨⟨⟨c70, c71⟩, c80⟩, _⟩ := HG.out Z (Below.refl _ _)
  rw [HZ.out] at c70 c71 c80
  clear hat hwf hR hr ha htb hbt hZB y7 y8
  go_enter Tryz.func24, Tryz.ntmps24
  go_wp2_with fail
  rw [← HZ.out]
  clear c70 c71 c80
  go_loopw [14] (fun i wr => ∃ k : Nat, k ≤ t'.length ∧ i = .int .i64 k ∧ Hid (Below Z.heap.size Z wr)) (fun i _ => t'.length - (intOf i).toNat)
  case atStart => exact ⟨0, by omega, rfl, Below.refl _ _⟩
  case round =>
    obtain ⟨k, hk, rfl, hB⟩ := hrel
    by_cases hlt : k < t'.length
    · obtain ⟨⟨⟨c70, c71⟩, c80⟩, ⟨a1', a2', a3', a4'⟩, _⟩ := HG.out wr hB.out
      obtain ⟨b, off, rfl, _⟩ := a2'.place (by omega)
      have c0 := a2'.cell hlt
      have ik : (0 : Int) ≤ (k : Int) := by omega
      have nk : (k : Int) < (t'.length : Int) := by omega
      have elen := HA.out.lens k hlt
      rw [elen] at c0
      have HPL : Hid (Calls Tryz.prog 28 #[.agg #[.slice n'.bao n'.K n'.bcap, .slice n'.lao n'.L n'.lcap], .int .i64 (k : Int)] wr fun e w' => ∃ P, e = .returned (.tuple #[.slice (some ⟨P, 0, none⟩) n'.K n'.K, .agg #[.int .i64 0, .int .i64 0]]) ∧ Hid (Below Z.heap.size Z w' ∧ PlacesAt w' P n'.K (Pl.rounds (n'.ids k) n'.ends n'.K n'.K) n'.ends n'.K)) := by
        refine (pplan_any n' (k : Int) wr a1' HWF.out a3' a4').mono ?_
        rintro e w' ⟨z1, ⟨y, _⟩ | ⟨_, y, _⟩ | ⟨_, _, P, rfl, y, _⟩⟩
        · exact absurd HRR.out y
        · exact absurd ⟨by omega, by omega⟩ y
        · exact ⟨P, rfl, hB.out.trans (z1.mono hB.out.size), y⟩
      have HMK : Hid (∀ i, i < n'.K → AsM (mat (tat t' k).l i) (Pl.rounds (n'.ids k) n'.ends n'.K n'.K i) (n'.ends i) (Pl.offs (n'.ends i) (Pl.rounds (n'.ids k) n'.ends n'.K n'.K))) := fun i hi => HA.out.minds k i hlt hi
      have HRK : Hid (∀ V, Below Z.heap.size Z V → MiRow V (tat t' k).ao (tat t' k).cap (tat t' k).l) := fun V hV => (HG.out V hV).2.1.2.1.each k hlt
      have hmc := (HRK.out wr hB.out).row.1
      rw [elen] at hmc
      have HKT : Hid (k + 1 ≤ t'.length) := hlt
      clear a1' a2' a3' a4'
      generalize tat t' k = x at *
      obtain ⟨xa, xc, xl⟩ := x
      simp only at *
      go_wp2_with fail
      refine HPL.out.mono ?_
      rintro e w3 ⟨P, rfl, H3⟩
      clear HPL c70 c71 c80 c0
      obtain ⟨Y, HY⟩ : ∃ Y, Hid (Y = w3.alloc (.cells #[.int .i64 0, .int .i64 0] 32)) := ⟨_, rfl⟩
      have hY3 : Below w3.heap.size w3 Y := by rw [HY.out]; exact below_alloc1 _ _
      have HYZ : Hid (Below Z.heap.size Z Y) := H3.out.1.trans (hY3.mono H3.out.1.size)
      have HPA : Hid (∀ U, Below Y.heap.size Y U → PlacesAt U P n'.K (Pl.rounds (n'.ids k) n'.ends n'.K n'.K) n'.ends n'.K) := fun U hU => (H3.out.2.below hY3).below hU
      generalize Pl.rounds (n'.ids k) n'.ends n'.K n'.K = rs at *
      clear H3 hY3 hB
      have q1 : ((n'.K : Int) != (n'.K : Int)) = false := by simp
      go_wp2_with fail
      rw [← HY.out]
      go_loopw [37] (fun i wr => ∃ i' : Nat, i' ≤ n'.K ∧ i = .int .i64 i' ∧ Hid (Below Y.heap.size Y wr)) (fun i _ => n'.K - (intOf i).toNat)
      case atStart => exact ⟨0, by omega, rfl, Below.refl _ _⟩
      case round =>
        obtain ⟨i, hi, rfl, hB2⟩ := hrel
        by_cases hlt2 : i < n'.K
        · have hZr : Below Z.heap.size Z wr := HYZ.out.trans (hB2.out.mono HYZ.out.size)
          have h1 := HRK.out wr hZr
          obtain ⟨mb, moff, rfl, _⟩ := h1.place (by omega)
          obtain ⟨d0, d1, d2, d3, d4, d5, d6, d7, d8⟩ := h1.cells (i := i) (by omega)
          have hmi := h1.each i (by omega)
          have ii : (0 : Int) ≤ (i : Int) := by omega
          have ni : (i : Int) < (n'.K : Int) := by omega
          have hmk := HMK.out i hlt2
          have hpl := HPA.out wr hB2.out
          obtain ⟨M, HM⟩ : ∃ M, Hid (M = wr.alloc (.cells #[.int .u64 (mat xl i).md.v.root, .int .i64 (mat xl i).md.v.cost, .int .u64 (mat xl i).md.v.bridge, .int .i64 (mat xl i).md.v.port, .int .i64 (mat xl i).md.age, .int .i64 (mat xl i).md.rp, .slice (mat xl i).po (mat xl i).ports.length (mat xl i).pc, .slice (mat xl i).ro (mat xl i).roles.length (mat xl i).rc, .slice (mat xl i).co (mat xl i).calm.length (mat xl i).cc] 66)) := ⟨_, rfl⟩
          obtain ⟨g, Hg⟩ : ∃ g, Hid (g = wr.heap.size) := ⟨_, rfl⟩
          have hMr : Below wr.heap.size wr M := by rw [HM.out]; exact below_alloc1 _ _
          have hMg : M.heap[g]? = some (.cells #[.int .u64 (mat xl i).md.v.root, .int .i64 (mat xl i).md.v.cost, .int .u64 (mat xl i).md.v.bridge, .int .i64 (mat xl i).md.v.port, .int .i64 (mat xl i).md.age, .int .i64 (mat xl i).md.rp, .slice (mat xl i).po (mat xl i).ports.length (mat xl i).pc, .slice (mat xl i).ro (mat xl i).roles.length (mat xl i).rc, .slice (mat xl i).co (mat xl i).calm.length (mat xl i).cc] 66 (0, 0)) := by rw [HM.out, Hg.out]; exact heap_alloc_last _ _
          have HSM : Hid (∀ V, Below M.heap.size M V → ∀ Q, V.heap[Q]? = some (.cells #[.int .u64 (mat xl i).md.v.root, .int .i64 (mat xl i).md.v.cost, .int .u64 (mat xl i).md.v.bridge, .int .i64 (mat xl i).md.v.port, .int .i64 (mat xl i).md.rp, .slice (mat xl i).po (mat xl i).ports.length (mat xl i).pc, .slice (mat xl i).ro (mat xl i).roles.length (mat xl i).rc] 61 (0, 0)) → Calls Tryz.prog 47 #[.slice (some ⟨P, i * 7, none⟩) 1 (n'.K - i), .slice (some ⟨Q, 0, none⟩) 1 1] V fun e w' => e = .returned (.bool true) ∧ Hid (Below M.heap.size M w' ∧ Below Y.heap.size Y w')) := fun V hV Q hQ => by
            have hVr := hMr.trans (hV.mono hMr.size)
            refine (rsame6_any 1 P (i * 7) (n'.K - i) Q 0 1 V (by omega) (fun j hj => ?_)).mono ?_
            · obtain rfl : j = 0 := by omega
              exact as_one (hpl.below hVr) hlt2 (HA.out.short i) hmk (hmi.below hVr) hQ
            · rintro e w' ⟨rfl, m, rfl⟩
              have := hB2.out.trans (hVr.mono hB2.out.size)
              exact ⟨rfl, below_drewN hV m, below_drewN this m⟩
          have HCC : Hid (∀ V, Below M.heap.size M V → (V.cell? ⟨g, 0, none⟩ = some (.int .u64 (mat xl i).md.v.root) ∧ V.cell? ⟨g, 1, none⟩ = some (.int .i64 (mat xl i).md.v.cost) ∧ V.cell? ⟨g, 2, none⟩ = some (.int .u64 (mat xl i).md.v.bridge) ∧ V.cell? ⟨g, 3, none⟩ = some (.int .i64 (mat xl i).md.v.port)) ∧ V.cell? ⟨g, 5, none⟩ = some (.int .i64 (mat xl i).md.rp) ∧ V.cell? ⟨g, 6, none⟩ = some (.slice (mat xl i).po (mat xl i).ports.length (mat xl i).pc) ∧ V.cell? ⟨g, 7, none⟩ = some (.slice (mat xl i).ro (mat xl i).roles.length (mat xl i).rc)) := fun V hV => by
            have h := keep hMg hV
            exact ⟨⟨cell_of_row V g 0 _ _ _ h, cell_of_row V g 1 _ _ _ h, cell_of_row V g 2 _ _ _ h, cell_of_row V g 3 _ _ _ h⟩, cell_of_row V g 5 _ _ _ h, cell_of_row V g 6 _ _ _ h, cell_of_row V g 7 _ _ _ h⟩
          have HB0 : Hid (Below M.heap.size M M.drew) := Below.drew (Below.refl _ _)
          have HB1 : Hid (Below M.heap.size M M) := Below.refl _ _
          have HAL : Hid (∀ (V : World) (o : Obj), Below M.heap.size M V → Below M.heap.size M (V.alloc o)) := fun V o hV => hV.alloc hV.size o
          obtain ⟨⟨m0, m1, m2, m3⟩, m5, m6, m7⟩ := HCC.out M (Below.refl _ _)
          have HII : Hid (i + 1 ≤ n'.K) := hlt2
          have wi : IntKind.i64.wrap ((i : Int) + 1) = (i : Int) + 1 := wraps_i64 _ (by omega) (by omega)
          have ni2 : (i : Int) + 1 ≤ (n'.K : Int) := by omega
          have ni4 : (0 : Int) ≤ (i : Int) + 1 := by omega
          have nKi : n'.K ≠ i := by omega
          clear h1 hmi hmk hpl hMr hMg hZr hB2 HPA HMK HRK HA HG
          generalize mat xl i = A at *
          go_wp2_with fail
          rw [← HM.out, ← Hg.out]
          clear d0 d1 d2 d3 d4 d5 d6 d7 d8
          go_region_held3 (fun W => (W.cell? ⟨g, 0, none⟩ = some (.int .u64 A.md.v.root) ∧ W.cell? ⟨g, 1, none⟩ = some (.int .i64 A.md.v.cost) ∧ W.cell? ⟨g, 2, none⟩ = some (.int .u64 A.md.v.bridge) ∧ W.cell? ⟨g, 3, none⟩ = some (.int .i64 A.md.v.port)) ∧ W.cell? ⟨g, 5, none⟩ = some (.int .i64 A.md.rp) ∧ W.cell? ⟨g, 6, none⟩ = some (.slice A.po A.ports.length A.pc) ∧ W.cell? ⟨g, 7, none⟩ = some (.slice A.ro A.roles.length A.rc))
            (first | (with_reducible exact HCC.out _ HB0.out) | (with_reducible exact HCC.out _ H5.out.1) | (with_reducible exact HCC.out _ (Below.drew (HAL.out _ _ HB1.out))) | (with_reducible exact HCC.out _ (HAL.out _ _ HB0.out)))
            (first | (go_at_call 47; refine (HSM.out _ (by first | exact Below.drew (HAL.out _ _ HB1.out) | exact HAL.out _ _ HB0.out) _ (by first | exact drew_keep (heap_alloc_last _ _) | exact heap_alloc_last _ _)).mono ?_; rintro e w5 ⟨rfl, H5⟩))
          all_goals go_wp2_with fail
          all_goals exact ⟨⟨i + 1, by omega, by go_num, H5.out.2⟩, by simp [intOf]; omega⟩
        · have hiK : i = n'.K := by omega
          have hni : ¬ (i : Int) < (n'.K : Int) := by omega
          have HN : Hid (Below Z.heap.size Z wr) := HYZ.out.trans (hB2.out.mono HYZ.out.size)
          have h3 := HKT.out
          clear HMK HRK HPA
          go_wp2_with fail
          exact ⟨⟨k + 1, h3, by go_num, HN⟩, by simp [intOf]; omega⟩
    · obtain rfl : k = t'.length := by omega
      have HF : Hid (Below w.heap.size w wr) := (HG.out wr hB.out).2.2
      clear HG
      go_wp2_with fail
      go_ret
      exact ⟨rfl, HF.out⟩
end Go.Proofs.YtaneiffnhphkhaaGreatDoor

namespace Go.Proofs.YtaneiffnhphkhaaGreatDoor
open Go.RowKit
open Vc (V Of)
open Pl (Br Net Pc Lk En St)

set_option maxRecDepth 100000 in
set_option maxHeartbeats 1000000 in
theorem t7ints_any (ao bo : Option Addr) (n c1 c2 : Nat) (f : Nat → Int) (w : World) (hn : n ≤ 1000) (h1 : IRow w ao n c1 f) (h2 : IRow w bo n c2 f) :
    Calls Tryz.prog 37 #[.slice ao n c1, .slice bo n c2] w fun e w' => e = .returned (.bool true) ∧ ∃ m, w' = w.drewN m := by
  have HA : Hid (∀ m, IRow (w.drewN m) ao n c1 f ∧ IRow (w.drewN m) bo n c2 f) := fun m => ⟨CRow.below h1 (below_drewN (Below.refl _ _) m), CRow.below h2 (below_drewN (Below.refl _ _) m)⟩
  have k1 := h1.1
  have k2 := h2.1
  clear h1 h2
  go_enter Tryz.func37, Tryz.ntmps37
  go_wp2_with fail
  go_loopw [13] (fun i wr => ∃ k m : Nat, k ≤ n ∧ i = .int .i64 k ∧ wr = w.drewN m) (fun i _ => n - (intOf i).toNat)
  case atStart => exact ⟨0, 0, by omega, rfl, rfl⟩
  case round =>
    obtain ⟨k, m, hk, rfl, HW⟩ := hrel
    by_cases hlt : k < n
    · obtain ⟨r1, r2⟩ := HA.out m
      rw [← HW] at r1 r2
      obtain ⟨b1, o1, rfl, _⟩ := CRow.some r1 (by omega)
      obtain ⟨b2, o2, rfl, _⟩ := CRow.some r2 (by omega)
      have x1 := IRow.cells r1 hlt
      have x2 := IRow.cells r2 hlt
      have HE : Hid (wr = w.drewN m) := HW
      have i0 : (0 : Int) ≤ (k : Int) := by omega
      have i1 : (k : Int) < (n : Int) := by omega
      clear r1 r2 HA HW
      generalize f k = z at *
      go_wp2_with fail
      go_quiet (fail)
      go_wp2_with fail
      exact ⟨⟨k + 1, _, by omega, by go_num, by rw [HE.out, World.drewN_drewN]⟩, by simp [intOf]; omega⟩
    · have hnk : ¬ (k : Int) < (n : Int) := by omega
      have HE : Hid (wr = w.drewN m) := HW
      clear HA HW
      go_wp2_with fail
      go_ret
      exact ⟨rfl, m, HE.out⟩
/-- Two bridges that say the same. -/
structure SameB (a b : Br) : Prop where
  addr : b.addr = a.addr
  pn : b.pn = a.pn
  pv : ∀ j, j < a.pn → b.pv j = a.pv j
  s : b.reg.s = a.reg.s
  rev : b.reg.rev = a.reg.rev
  n : b.reg.n = a.reg.n
  ways : ∀ j, j < a.reg.n → b.reg.vs j = a.reg.vs j ∧ b.reg.ts j = a.reg.ts j
/-- Two nets that say the same. -/
structure SameN (a b : Net) : Prop where
  K : b.K = a.K
  L : b.L = a.L
  few : a.K ≤ 12 ∧ a.L ≤ 40
  bs : ∀ i, i < a.K → SameB (a.bs i) (b.bs i)
  small : ∀ i, i < a.K → (a.bs i).pn ≤ 1000 ∧ (a.bs i).reg.n ≤ 100000
  ls : ∀ k, k < a.L → b.ls k = a.ls k
theorem way_neq (a b : Int) (W : World) : (binOp .neq 81 (.agg #[.int .i64 a, .int .i64 b]) (.agg #[.int .i64 a, .int .i64 b])).run Tryz.prog W = .ok (.bool false) W := by go_simp
theorem link_neq (a b c d e : Int) (f : Bool) (W : World) : (binOp .neq 83 (.agg #[.int .i64 a, .int .i64 b, .int .i64 c, .int .i64 d, .int .i64 e, .bool f]) (.agg #[.int .i64 a, .int .i64 b, .int .i64 c, .int .i64 d, .int .i64 e, .bool f])).run Tryz.prog W = .ok (.bool false) W := by go_simp
set_option maxRecDepth 100000 in
set_option maxHeartbeats 3000000 in
theorem tsamenet_any (n m : Net) (w : World) (hn : n.at' w) (hm : m.at' w) (hs : SameN n m) :
    Calls Tryz.prog 17 #[.agg #[.slice n.bao n.K n.bcap, .slice n.lao n.L n.lcap], .agg #[.slice m.bao m.K m.bcap, .slice m.lao m.L m.lcap]] w fun e w' => e = .returned (.bool true) ∧ Below w.heap.size w w' := by
  obtain ⟨Z, HZ⟩ : ∃ Z, Hid (Z = (w.alloc (.cells #[.slice n.bao n.K n.bcap, .slice n.lao n.L n.lcap] 25)).alloc (.cells #[.slice m.bao n.K m.bcap, .slice m.lao n.L m.lcap] 25)) := ⟨_, rfl⟩
  have hZB : Below w.heap.size w Z := by rw [HZ.out]; exact below_alloc2 _ _ _
  have y7 : Z.heap[w.heap.size]? = some (.cells #[.slice n.bao n.K n.bcap, .slice n.lao n.L n.lcap] 25 (0, 0)) := by rw [HZ.out]; exact heap_alloc2_old _ _ _
  have y8 : Z.heap[w.heap.size + 1]? = some (.cells #[.slice m.bao n.K m.bcap, .slice m.lao n.L m.lcap] 25 (0, 0)) := by rw [HZ.out]; exact heap_alloc2_new _ _ _
  have HG : Hid (∀ V, Below Z.heap.size Z V → ((V.cell? ⟨w.heap.size, 0, none⟩ = some (.slice n.bao n.K n.bcap) ∧ V.cell? ⟨w.heap.size, 1, none⟩ = some (.slice n.lao n.L n.lcap)) ∧ (V.cell? ⟨w.heap.size + 1, 0, none⟩ = some (.slice m.bao n.K m.bcap) ∧ V.cell? ⟨w.heap.size + 1, 1, none⟩ = some (.slice m.lao n.L m.lcap))) ∧ (n.at' V ∧ m.at' V) ∧ Below w.heap.size w V) := fun V hV => by
    have h := hZB.trans (hV.mono hZB.size)
    exact ⟨⟨two_cells2 (keep y7 hV), two_cells2 (keep y8 hV)⟩, ⟨hn.below h, hm.below h⟩, h⟩
  have HS : Hid (SameN n m) := hs
  have hfewK : n.K ≤ 12 := hs.few.1
  have hfewL : n.L ≤ 40 := hs.few.2
  have hbc := hn.brs.1
  have hlc := hn.lks.1
  have hbc2 : n.K ≤ m.bcap := by have := hm.brs.1; rw [hs.K] at this; exact this
  have hlc2 : n.L ≤ m.lcap := by have := hm.lks.1; rw [hs.L] at this; exact this
  rw [hs.K, hs.L]
  obtain ⟨⟨⟨c70, c71⟩, c80, c81⟩, _⟩ := HG.out Z (Below.refl _ _)
  rw [HZ.out] at c70 c71 c80 c81
  clear hn hm hs hZB y7 y8
  obtain ⟨bao, hbao⟩ : ∃ x, x = n.bao := ⟨_, rfl⟩
  obtain ⟨mao, hmao⟩ : ∃ x, x = m.bao := ⟨_, rfl⟩
  obtain ⟨lao, hlao⟩ : ∃ x, x = n.lao := ⟨_, rfl⟩
  obtain ⟨kao, hkao⟩ : ∃ x, x = m.lao := ⟨_, rfl⟩
  rw [← hbao, ← hmao, ← hlao, ← hkao]
  rw [← hbao, ← hlao] at HZ HG
  rw [← hmao, ← hkao] at HZ HG
  rw [← hbao] at c70
  rw [← hlao] at c71
  rw [← hmao] at c80
  rw [← hkao] at c81
  have HBA : Hid (bao = n.bao ∧ mao = m.bao ∧ lao = n.lao ∧ kao = m.lao) := ⟨hbao, hmao, hlao, hkao⟩
  clear hbao hmao hlao hkao
  go_enter Tryz.func17, Tryz.ntmps17
  have q1 : ((n.K : Int) != (n.K : Int)) = false := by simp
  have q2 : ((n.L : Int) != (n.L : Int)) = false := by simp
  go_wp2_with fail
  rw [← HZ.out]
  clear c70 c71 c80 c81 q1 q2
  go_loopw [29] (fun i wr => ∃ k : Nat, k ≤ n.K ∧ i = .int .i64 k ∧ Hid (Below Z.heap.size Z wr)) (fun i _ => n.K - (intOf i).toNat)
  case atStart => exact ⟨0, by omega, rfl, Below.refl _ _⟩
  case round =>
    obtain ⟨k, hk, rfl, hB⟩ := hrel
    by_cases hlt : k < n.K
    · obtain ⟨⟨⟨c70, _⟩, c80, _⟩, ⟨an, am⟩, _⟩ := HG.out wr hB.out
      have r1 := an.brs
      have r2 := am.brs
      rw [← HBA.out.1] at r1
      rw [← HBA.out.2.1] at r2
      obtain ⟨b1, o1, rfl, lb1⟩ := CRow.some r1 (by omega)
      obtain ⟨b2, o2, rfl, lb2⟩ := CRow.some r2 (by rw [HS.out.K]; omega)
      have lz1 : w.heap.size + 1 < wr.heap.size := by
        have h1 : Z.heap.size = w.heap.size + 1 + 1 := by rw [HZ.out]; simp
        have h2 := hB.out.size
        omega
      have lz0 : w.heap.size < wr.heap.size := by omega
      have lz3 : w.heap.size + 1 < wr.heap.size + 1 := by omega
      have lz2 : w.heap.size < wr.heap.size + 1 := by omega
      have lb3 : b1 < wr.heap.size + 1 := by omega
      have lb4 : b2 < wr.heap.size + 1 := by omega
      obtain ⟨a0, a1, a2, a3, a4⟩ := BRow.cells r1 hlt
      obtain ⟨d0, d1, d2, d3, d4⟩ := BRow.cells r2 (i := k) (by rw [HS.out.K]; exact hlt)
      have sb := HS.out.bs k hlt
      rw [sb.addr] at d0
      rw [sb.pn] at d1
      rw [sb.s] at d2
      rw [sb.rev] at d3
      rw [sb.n] at d4
      have e1 := an.each k hlt
      have e2 := am.each k (by rw [HS.out.K]; exact hlt)
      have sm := HS.out.small k hlt
      have HRO : Hid (∀ V, Below wr.heap.size wr V → (IRow V (n.bs k).pao (n.bs k).pn (n.bs k).pcap (n.bs k).pv ∧ IRow V (m.bs k).pao (n.bs k).pn (m.bs k).pcap (n.bs k).pv) ∧ (WayRow V (n.bs k).reg.ao (n.bs k).reg.n (n.bs k).reg.cap (n.bs k).reg.vs (n.bs k).reg.ts ∧ WayRow V (m.bs k).reg.ao (n.bs k).reg.n (m.bs k).reg.cap (m.bs k).reg.vs (m.bs k).reg.ts) ∧ Below Z.heap.size Z V) := fun V hV => by
        obtain ⟨x1, x2, _, _⟩ := e1.below hV
        obtain ⟨y1, y2, _, _⟩ := e2.below hV
        rw [sb.pn] at y1
        have y2 : WayRow V (m.bs k).reg.ao (m.bs k).reg.n (m.bs k).reg.cap (m.bs k).reg.vs (m.bs k).reg.ts := y2
        rw [sb.n] at y2
        exact ⟨⟨x1, CRow.congr y1 (fun j hj => by funext _; rw [sb.pv j hj])⟩, ⟨x2, y2⟩, hB.out.trans (hV.mono hB.out.size)⟩
      have HWY : Hid (∀ j, j < (n.bs k).reg.n → (m.bs k).reg.vs j = (n.bs k).reg.vs j ∧ (m.bs k).reg.ts j = (n.bs k).reg.ts j) := sb.ways
      have ik : (0 : Int) ≤ (k : Int) := by omega
      have nk : (k : Int) < (n.K : Int) := by omega
      have HKK : Hid (k + 1 ≤ n.K) := hlt
      have hn1 := sm.2
      have hp1 := sm.1
      clear an am r1 r2 sb e1 e2 sm hB HBA HS
      generalize m.bs k = mb at *
      generalize n.bs k = nb at *
      obtain ⟨ad, pa, pn, pc, pv, ⟨s, rv, wa, wn, wc', vs, ts⟩⟩ := nb
      obtain ⟨ad2, pa2, pn2, pc2, pv2, ⟨s2, rv2, wa2, wn2, wc2, vs2, ts2⟩⟩ := mb
      simp only at *
      go_wp2_with fail
      go_cut [6, 7] (fun s6 s7 wx => ∃ g1 g2, s6 = .pointer (some ⟨g1, 0, none⟩) ∧ s7 = .pointer (some ⟨g2, 0, none⟩) ∧ Hid (wx.heap[g1]? = some (.cells #[.int .u64 ad, .slice pa pn pc, .string s, .int .i64 rv, .slice wa wn wc'] 74 (0, 0)) ∧ wx.heap[g2]? = some (.cells #[.int .u64 ad, .slice pa2 pn pc2, .string s, .int .i64 rv, .slice wa2 wn wc2] 74 (0, 0)) ∧ Below wr.heap.size wr wx))
      case first =>
        go_region
        all_goals go_wp2_with fail
        all_goals go_meet
        all_goals first | (exact ⟨_, _, rfl, rfl, drew_keep (heap_alloc2_old _ _ _), drew_keep (heap_alloc2_new _ _ _), Below.drew (below_alloc2 _ _ _)⟩) | (exact ⟨_, _, rfl, rfl, drew_keep (heap_alloc2_new _ _ _), drew_keep (heap_alloc2_old _ _ _), Below.drew (below_alloc2 _ _ _)⟩)
      case rest =>
      obtain ⟨g1, g2, rfl, rfl, HC⟩ := hcut
      clear c70 c80 a0 a1 a2 a3 a4 d0 d1 d2 d3 d4 lz0 lz1 lz2 lz3 lb1 lb2 lb3 lb4
      have HCC : Hid (∀ V, Below wc.heap.size wc V → ((V.cell? ⟨g1, 0, none⟩ = some (.int .u64 ad) ∧ V.cell? ⟨g1, 1, none⟩ = some (.slice pa pn pc) ∧ V.cell? ⟨g1, 2, none⟩ = some (.string s) ∧ V.cell? ⟨g1, 3, none⟩ = some (.int .i64 rv) ∧ V.cell? ⟨g1, 4, none⟩ = some (.slice wa wn wc')) ∧ (V.cell? ⟨g2, 0, none⟩ = some (.int .u64 ad) ∧ V.cell? ⟨g2, 1, none⟩ = some (.slice pa2 pn pc2) ∧ V.cell? ⟨g2, 2, none⟩ = some (.string s) ∧ V.cell? ⟨g2, 3, none⟩ = some (.int .i64 rv) ∧ V.cell? ⟨g2, 4, none⟩ = some (.slice wa2 wn wc2))) ∧ Below wr.heap.size wr V) := fun V hV => by
        obtain ⟨h1, h2, h3⟩ := HC.out
        have h1 := keep h1 hV
        have h2 := keep h2 hV
        exact ⟨⟨⟨cell_of_row V g1 0 _ _ _ h1, cell_of_row V g1 1 _ _ _ h1, cell_of_row V g1 2 _ _ _ h1, cell_of_row V g1 3 _ _ _ h1, cell_of_row V g1 4 _ _ _ h1⟩, ⟨cell_of_row V g2 0 _ _ _ h2, cell_of_row V g2 1 _ _ _ h2, cell_of_row V g2 2 _ _ _ h2, cell_of_row V g2 3 _ _ _ h2, cell_of_row V g2 4 _ _ _ h2⟩⟩, h3.trans (hV.mono h3.size)⟩
      obtain ⟨⟨⟨x0, x1, x2, x3, x4⟩, y0, y1, y2, y3, y4⟩, hwc⟩ := HCC.out wc (Below.refl _ _)
      have HIN : Hid (Calls Tryz.prog 37 #[.slice pa pn pc, .slice pa2 pn pc2] wc fun e w' => e = .returned (.bool true) ∧ Hid (Below wc.heap.size wc w')) := by
        refine (t7ints_any pa pa2 pn pc pc2 pv wc hp1 (HRO.out wc hwc).1.1 (HRO.out wc hwc).1.2).mono ?_
        rintro e w' ⟨rfl, mm, rfl⟩
        exact ⟨rfl, below_drewN (Below.refl _ _) mm⟩
      clear hwc HC
      go_wp2_with fail
      refine HIN.out.mono ?_
      rintro e w4 ⟨rfl, H4⟩
      clear HIN x0 x1 x2 x3 x4 y0 y1 y2 y3 y4
      obtain ⟨⟨⟨x0, x1, x2, x3, x4⟩, y0, y1, y2, y3, y4⟩, _⟩ := HCC.out w4 H4.out
      have q1 : ((wn : Int) != (wn : Int)) = false := by simp
      go_wp2_with fail
      clear x0 x1 x2 x3 x4 y0 y1 y2 y3 y4 q1
      go_loopw [88] (fun i wr => ∃ j : Nat, j ≤ wn ∧ i = .int .i64 j ∧ Hid (Below wc.heap.size wc wr)) (fun i _ => wn - (intOf i).toNat)
      case atStart => exact ⟨0, by omega, rfl, H4⟩
      case round =>
        obtain ⟨j, hj, rfl, hB3⟩ := hrel
        by_cases hlt3 : j < wn
        · obtain ⟨⟨⟨_, _, _, _, x4⟩, _, _, _, _, y4⟩, hB4⟩ := HCC.out wr hB3.out
          obtain ⟨_, ⟨v1, v2⟩, _⟩ := HRO.out wr hB4
          obtain ⟨u1, f1, rfl, _, t1⟩ := v1.2 (by omega)
          obtain ⟨u2, f2, rfl, _, t2⟩ := v2.2 (by omega)
          obtain ⟨p1, p2⟩ := t1 j hlt3
          obtain ⟨p3, p4⟩ := t2 j hlt3
          rw [(HWY.out j hlt3).1] at p3
          rw [(HWY.out j hlt3).2] at p4
          have cp1 := v1.1
          have cp2 := v2.1
          have ij : (0 : Int) ≤ (j : Int) := by omega
          have nj : (j : Int) < (wn : Int) := by omega
          have HN : Hid (∀ mm, Below wc.heap.size wc (wr.drewN mm)) := fun mm => below_drewN hB3.out mm
          have HJJ : Hid (j + 1 ≤ wn) := hlt3
          clear v1 v2 t1 t2 HCC HRO HWY hB4
          go_wp2_with fail
          go_quiet (fail)
          go_wp2_with fail
          exact ⟨⟨j + 1, by omega, by go_num, HN.out _⟩, by simp [intOf]; omega⟩
        · have hjK : j = wn := by omega
          have hnj : ¬ (j : Int) < (wn : Int) := by omega
          have HN : Hid (Below Z.heap.size Z wr) := (HRO.out wr (HCC.out wr hB3.out).2).2.2
          have h3 := HKK.out
          clear HCC HRO HWY
          go_wp2_with fail
          exact ⟨⟨k + 1, h3, by go_num, HN⟩, by simp [intOf]; omega⟩
    · have hkK : k = n.K := by omega
      have hnk : ¬ (k : Int) < (n.K : Int) := by omega
      obtain ⟨⟨⟨_, c71⟩, _, c81⟩, _⟩ := HG.out wr hB.out
      go_wp2_with fail
      clear c71 c81
      go_loopw [109] (fun i wr => ∃ j : Nat, j ≤ n.L ∧ i = .int .i64 j ∧ Hid (Below Z.heap.size Z wr)) (fun i _ => n.L - (intOf i).toNat)
      case atStart => exact ⟨0, by omega, rfl, hB⟩
      case round =>
        obtain ⟨j, hj, rfl, hB3⟩ := hrel
        by_cases hlt3 : j < n.L
        · obtain ⟨⟨⟨_, c71⟩, _, c81⟩, ⟨an, am⟩, _⟩ := HG.out wr hB3.out
          have r1 := an.lks
          have r2 := am.lks
          rw [← HBA.out.2.2.1] at r1
          rw [← HBA.out.2.2.2] at r2
          obtain ⟨b1, o1, rfl, _⟩ := CRow.some r1 (by omega)
          obtain ⟨b2, o2, rfl, _⟩ := CRow.some r2 (by rw [HS.out.L]; omega)
          obtain ⟨a0, a1, a2, a3, a4, a5⟩ := LRow.cells r1 hlt3
          obtain ⟨d0, d1, d2, d3, d4, d5⟩ := LRow.cells r2 (i := j) (by rw [HS.out.L]; exact hlt3)
          rw [HS.out.ls j hlt3] at d0 d1 d2 d3 d4 d5
          have ij : (0 : Int) ≤ (j : Int) := by omega
          have nj : (j : Int) < (n.L : Int) := by omega
          have HN : Hid (∀ mm, Below Z.heap.size Z (wr.drewN mm)) := fun mm => below_drewN hB3.out mm
          clear an am r1 r2 HBA HS HG
          generalize n.ls j = lk at *
          go_wp2_with fail
          go_quiet (fail)
          go_wp2_with fail
          exact ⟨⟨j + 1, by omega, by go_num, HN.out _⟩, by simp [intOf]; omega⟩
        · have hjK : j = n.L := by omega
          have hnj : ¬ (j : Int) < (n.L : Int) := by omega
          have HF : Hid (Below w.heap.size w wr) := (HG.out wr hB3.out).2.2
          clear HBA HS HG
          go_wp2_with fail
          go_ret
          exact ⟨rfl, HF.out⟩
end Go.Proofs.YtaneiffnhphkhaaGreatDoor

namespace Go.Proofs.YtaneiffnhphkhaaGreatDoor
open Go.RowKit
open Vc (V Of)
open Tk (Md)

/-- Two minds that say the same. -/
structure SameM (a b : Mi) : Prop where
  md : b.md = a.md
  ports : b.ports = a.ports
  roles : b.roles = a.roles
  calm : b.calm = a.calm
  small : a.ports.length ≤ 1000 ∧ a.roles.length ≤ 1000 ∧ a.calm.length ≤ 1000
/-- Two talks that say the same. -/
structure SameT (t u : List Tr) : Prop where
  len : u.length = t.length
  few : t.length ≤ 1000
  rows : ∀ k, k < t.length → (tat u k).l.length = (tat t k).l.length ∧ (tat t k).l.length ≤ 1000
  minds : ∀ k i, k < t.length → i < (tat t k).l.length → SameM (mat (tat t k).l i) (mat (tat u k).l i)
theorem heap_alloc1_new (w : World) (c : Array Value) (t : TypeId) : (w.alloc (.cells c t)).heap[w.heap.size]? = some (.cells c t (0, 0)) := heap_alloc_last _ _
set_option maxRecDepth 100000 in
set_option maxHeartbeats 3000000 in
theorem tsame7_any (ao bo : Option Addr) (cap bcap : Nat) (t u : List Tr) (w : World) (ht : TrRow w ao cap t) (hu : TrRow w bo bcap u) (hs : SameT t u) :
    Calls Tryz.prog 14 #[.agg #[.slice ao t.length cap], .agg #[.slice bo u.length bcap]] w fun e w' => e = .returned (.bool true) ∧ Below w.heap.size w w' := by
  rw [hs.len]
  obtain ⟨Z, HZ⟩ : ∃ Z, Hid (Z = (w.alloc (.cells #[.slice ao t.length cap] 29)).alloc (.cells #[.slice bo t.length bcap] 29)) := ⟨_, rfl⟩
  have hZB : Below w.heap.size w Z := by rw [HZ.out]; exact below_alloc2 _ _ _
  have y7 : Z.heap[w.heap.size]? = some (.cells #[.slice ao t.length cap] 29 (0, 0)) := by rw [HZ.out]; exact heap_alloc2_old _ _ _
  have y8 : Z.heap[w.heap.size + 1]? = some (.cells #[.slice bo t.length bcap] 29 (0, 0)) := by rw [HZ.out]; exact heap_alloc2_new _ _ _
  have HG : Hid (∀ V, Below Z.heap.size Z V → (V.cell? ⟨w.heap.size, 0, none⟩ = some (.slice ao t.length cap) ∧ V.cell? ⟨w.heap.size + 1, 0, none⟩ = some (.slice bo t.length bcap)) ∧ (TrRow V ao cap t ∧ TrRow V bo bcap u) ∧ Below w.heap.size w V) := fun V hV => by
    have h := hZB.trans (hV.mono hZB.size)
    exact ⟨⟨one_cell (keep y7 hV), one_cell (keep y8 hV)⟩, ⟨ht.below h, hu.below h⟩, h⟩
  have HS : Hid (SameT t u) := hs
  have hfew : t.length ≤ 1000 := hs.few
  have hcp : t.length ≤ cap := ht.row.1
  have hcp2 : t.length ≤ bcap := by have := hu.row.1; rw [hs.len] at this; exact this
  obtain ⟨⟨c70, c80⟩, _⟩ := HG.out Z (Below.refl _ _)
  rw [HZ.out] at c70 c80
  have HSZ : Hid (Z.heap.size = w.heap.size + 1 + 1) := by
    have h : Z.heap.size = w.heap.size + 1 + 1 := by rw [HZ.out]; simp
    exact h
  clear ht hu hs hZB y7 y8
  go_enter Tryz.func14, Tryz.ntmps14
  have q1 : ((t.length : Int) != (t.length : Int)) = false := by simp
  go_wp2_with fail
  rw [← HZ.out]
  clear c70 c80 q1
  go_loopw [19] (fun i wr => ∃ k : Nat, k ≤ t.length ∧ i = .int .i64 k ∧ Hid (Below Z.heap.size Z wr)) (fun i _ => t.length - (intOf i).toNat)
  case atStart => exact ⟨0, by omega, rfl, Below.refl _ _⟩
  case round =>
    obtain ⟨k, hk, rfl, hB⟩ := hrel
    by_cases hlt : k < t.length
    · obtain ⟨⟨c70, c80⟩, ⟨r1, r2⟩, _⟩ := HG.out wr hB.out
      obtain ⟨b1, o1, hao, lb1⟩ := r1.place (by omega)
      obtain ⟨b2, o2, hbo, lb2⟩ := r2.place (by rw [HS.out.len]; omega)
      subst hao hbo
      have x1 := r1.cell hlt
      have x2 := r2.cell (i := k) (by rw [HS.out.len]; exact hlt)
      obtain ⟨s1, s2⟩ := HS.out.rows k hlt
      rw [s1] at x2
      have HR : Hid (∀ V, Below Z.heap.size Z V → (V.cell? ⟨w.heap.size, 0, none⟩ = some (.slice (some ⟨b1, o1, none⟩) t.length cap) ∧ V.cell? ⟨w.heap.size + 1, 0, none⟩ = some (.slice (some ⟨b2, o2, none⟩) t.length bcap)) ∧ (V.cell? ⟨b1, o1 + k, none⟩ = some (.slice (tat t k).ao (tat t k).l.length (tat t k).cap) ∧ V.cell? ⟨b2, o2 + k, none⟩ = some (.slice (tat u k).ao (tat t k).l.length (tat u k).cap)) ∧ (MiRow V (tat t k).ao (tat t k).cap (tat t k).l ∧ MiRow V (tat u k).ao (tat u k).cap (tat u k).l)) := fun V hV => by
        obtain ⟨c1, ⟨h1, h2⟩, _⟩ := HG.out V hV
        have e2 := h2.cell (i := k) (by rw [HS.out.len]; exact hlt)
        rw [s1] at e2
        exact ⟨c1, ⟨h1.cell hlt, e2⟩, h1.each k hlt, h2.each k (by rw [HS.out.len]; exact hlt)⟩
      have HM : Hid (∀ i, i < (tat t k).l.length → SameM (mat (tat t k).l i) (mat (tat u k).l i)) := fun i hi => HS.out.minds k i hlt hi
      have HLE : Hid ((tat u k).l.length = (tat t k).l.length) := s1
      have hm1 : (tat t k).l.length ≤ (tat t k).cap := (r1.each k hlt).row.1
      have hm2 : (tat t k).l.length ≤ (tat u k).cap := by
        have := (r2.each k (by rw [HS.out.len]; exact hlt)).row.1
        rw [s1] at this
        exact this
      have ik : (0 : Int) ≤ (k : Int) := by omega
      have nk : (k : Int) < (t.length : Int) := by omega
      have HKK : Hid (k + 1 ≤ t.length) := hlt
      have HLB : Hid (b1 < wr.heap.size ∧ b2 < wr.heap.size) := ⟨lb1, lb2⟩
      clear r1 r2 s1 HS HG lb1 lb2
      generalize tat t k = tk at *
      generalize tat u k = uk at *
      obtain ⟨ta, tc, tl⟩ := tk
      obtain ⟨ua, uc, ul⟩ := uk
      simp only at *
      have q1 : ((tl.length : Int) != (tl.length : Int)) = false := by simp
      go_wp2_with fail
      go_quiet (fail)
      go_wp2_with fail
      clear x1 x2 c70 c80 q1
      have HBD : Hid (∀ m, Below Z.heap.size Z (wr.drewN m)) := fun m => below_drewN hB.out m
      obtain ⟨S0, HS0⟩ : ∃ S0, Hid (S0 = wr.heap.size) := ⟨_, rfl⟩
      have HLB2 : Hid (b1 < S0 ∧ b2 < S0) := by rw [HS0.out]; exact HLB.out
      go_loopw [41] (fun i wq => ∃ j : Nat, j ≤ tl.length ∧ i = .int .i64 j ∧ Hid (Below Z.heap.size Z wq ∧ S0 ≤ wq.heap.size)) (fun i _ => tl.length - (intOf i).toNat)
      case atStart => exact ⟨0, by omega, rfl, HBD.out _, by rw [HS0.out]; simp⟩
      case round =>
        obtain ⟨j, hj, rfl, hB2⟩ := hrel
        by_cases hlt2 : j < tl.length
        · obtain ⟨⟨c70, c80⟩, ⟨x1, x2⟩, r1, r2⟩ := HR.out wr hB2.out.1
          obtain ⟨d1, p1, rfl, ld1⟩ := r1.place (by omega)
          obtain ⟨d2, p2, rfl, ld2⟩ := r2.place (by rw [HLE.out]; omega)
          obtain ⟨a0, a1, a2, a3, a4, a5, a6, a7, a8⟩ := r1.cells hlt2
          obtain ⟨e0, e1, e2, e3, e4, e5, e6, e7, e8⟩ := r2.cells (i := j) (by rw [HLE.out]; exact hlt2)
          have i1 := r1.each j hlt2
          have i2 := r2.each j (by rw [HLE.out]; exact hlt2)
          have sm := HM.out j hlt2
          have lz1 : w.heap.size + 1 < wr.heap.size := by
            have h1 := HSZ.out
            have h2 := hB2.out.1.size
            omega
          have lb1 : b1 < wr.heap.size := Nat.lt_of_lt_of_le HLB2.out.1 hB2.out.2
          have lb2 : b2 < wr.heap.size := Nat.lt_of_lt_of_le HLB2.out.2 hB2.out.2
          have lz0 : w.heap.size < wr.heap.size := by omega
          have lz3 : w.heap.size + 1 < wr.heap.size + 1 := by omega
          have lz2 : w.heap.size < wr.heap.size + 1 := by omega
          have lb3 : b1 < wr.heap.size + 1 := by omega
          have lb4 : b2 < wr.heap.size + 1 := by omega
          have ld3 : d1 < wr.heap.size + 1 := by omega
          have ld4 : d2 < wr.heap.size + 1 := by omega
          rw [sm.md] at e0 e1 e2 e3 e4 e5
          rw [sm.ports] at e6
          rw [sm.roles] at e7
          rw [sm.calm] at e8
          obtain ⟨n1, n2, n3⟩ := sm.small
          have HIN : Hid (∀ V, Below wr.heap.size wr V → (Calls Tryz.prog 37 #[.slice (mat tl j).po (mat tl j).ports.length (mat tl j).pc, .slice (mat ul j).po (mat tl j).ports.length (mat ul j).pc] V fun e w' => e = .returned (.bool true) ∧ Hid (Below wr.heap.size wr w' ∧ Below V.heap.size V w')) ∧ (Calls Tryz.prog 37 #[.slice (mat tl j).ro (mat tl j).roles.length (mat tl j).rc, .slice (mat ul j).ro (mat tl j).roles.length (mat ul j).rc] V fun e w' => e = .returned (.bool true) ∧ Hid (Below wr.heap.size wr w' ∧ Below V.heap.size V w')) ∧ (Calls Tryz.prog 37 #[.slice (mat tl j).co (mat tl j).calm.length (mat tl j).cc, .slice (mat ul j).co (mat tl j).calm.length (mat ul j).cc] V fun e w' => e = .returned (.bool true) ∧ Hid (Below wr.heap.size wr w' ∧ Below V.heap.size V w'))) := fun V hV => by
            have j1 := i1.below hV
            have j2 := i2.below hV
            have y1 := j2.ports
            have y2 := j2.roles
            have y3 := j2.calm
            rw [sm.ports] at y1
            rw [sm.roles] at y2
            rw [sm.calm] at y3
            refine ⟨(t7ints_any _ _ _ _ _ _ V n1 j1.ports y1).mono ?_, (t7ints_any _ _ _ _ _ _ V n2 j1.roles y2).mono ?_, (t7ints_any _ _ _ _ _ _ V n3 j1.calm y3).mono ?_⟩ <;>
            · rintro e w' ⟨rfl, m, rfl⟩
              exact ⟨rfl, below_drewN hV m, below_drewN (Below.refl _ _) m⟩
          have ij : (0 : Int) ≤ (j : Int) := by omega
          have nj : (j : Int) < (tl.length : Int) := by omega
          have HJJ : Hid (j + 1 ≤ tl.length) := hlt2
          have HBB : Hid (∀ V, Below wr.heap.size wr V → Below Z.heap.size Z V) := fun V hV => hB2.out.1.trans (hV.mono hB2.out.1.size)
          have HWS : Hid (S0 ≤ wr.heap.size) := hB2.out.2
          clear i1 i2 sm r1 r2 hB2 HM HR HLE n1 n2 n3
          generalize mat tl j = A at *
          generalize mat ul j = B at *
          obtain ⟨⟨⟨vr, vc, vb, vp⟩, ag, rp⟩, po, pc, ports, ro, rc, roles, co, cc, calm⟩ := A
          obtain ⟨bmd, po2, pc2, ports2, ro2, rc2, roles2, co2, cc2, calm2⟩ := B
          simp only at *
          generalize ports.length = pn at *
          generalize roles.length = rn at *
          generalize calm.length = cn at *
          go_wp2_with fail
          go_cut [7, 8] (fun s6 s7 wx => ∃ g1 g2, s6 = .pointer (some ⟨g1, 0, none⟩) ∧ s7 = .pointer (some ⟨g2, 0, none⟩) ∧ Hid (wx.heap[g1]? = some (.cells #[.int .u64 vr, .int .i64 vc, .int .u64 vb, .int .i64 vp, .int .i64 ag, .int .i64 rp, .slice po pn pc, .slice ro rn rc, .slice co cn cc] 66 (0, 0)) ∧ wx.heap[g2]? = some (.cells #[.int .u64 vr, .int .i64 vc, .int .u64 vb, .int .i64 vp, .int .i64 ag, .int .i64 rp, .slice po2 pn pc2, .slice ro2 rn rc2, .slice co2 cn cc2] 66 (0, 0)) ∧ Below wr.heap.size wr wx))
          case first =>
            go_region
            all_goals go_wp2_with fail
            all_goals go_meet
            all_goals first | (exact ⟨_, _, rfl, rfl, drew_keep (heap_alloc2_old _ _ _), drew_keep (heap_alloc2_new _ _ _), Below.drew (below_alloc2 _ _ _)⟩) | (exact ⟨_, _, rfl, rfl, drew_keep (heap_alloc2_new _ _ _), drew_keep (heap_alloc2_old _ _ _), Below.drew (below_alloc2 _ _ _)⟩)
          case rest =>
          obtain ⟨g1, g2, rfl, rfl, HC⟩ := hcut
          clear c70 c80 x1 x2 a0 a1 a2 a3 a4 a5 a6 a7 a8 e0 e1 e2 e3 e4 e5 e6 e7 e8 lz0 lz1 lz2 lz3 lb1 lb2 lb3 lb4 ld1 ld2 ld3 ld4
          have HCC : Hid (∀ V, Below wc.heap.size wc V → ((V.cell? ⟨g1, 0, none⟩ = some (.int .u64 vr) ∧ V.cell? ⟨g1, 1, none⟩ = some (.int .i64 vc) ∧ V.cell? ⟨g1, 2, none⟩ = some (.int .u64 vb) ∧ V.cell? ⟨g1, 3, none⟩ = some (.int .i64 vp) ∧ V.cell? ⟨g1, 4, none⟩ = some (.int .i64 ag) ∧ V.cell? ⟨g1, 5, none⟩ = some (.int .i64 rp) ∧ V.cell? ⟨g1, 6, none⟩ = some (.slice po pn pc) ∧ V.cell? ⟨g1, 7, none⟩ = some (.slice ro rn rc) ∧ V.cell? ⟨g1, 8, none⟩ = some (.slice co cn cc)) ∧ (V.cell? ⟨g2, 0, none⟩ = some (.int .u64 vr) ∧ V.cell? ⟨g2, 1, none⟩ = some (.int .i64 vc) ∧ V.cell? ⟨g2, 2, none⟩ = some (.int .u64 vb) ∧ V.cell? ⟨g2, 3, none⟩ = some (.int .i64 vp) ∧ V.cell? ⟨g2, 4, none⟩ = some (.int .i64 ag) ∧ V.cell? ⟨g2, 5, none⟩ = some (.int .i64 rp) ∧ V.cell? ⟨g2, 6, none⟩ = some (.slice po2 pn pc2) ∧ V.cell? ⟨g2, 7, none⟩ = some (.slice ro2 rn rc2) ∧ V.cell? ⟨g2, 8, none⟩ = some (.slice co2 cn cc2))) ∧ Below wr.heap.size wr V) := fun V hV => by
            obtain ⟨h1, h2, h3⟩ := HC.out
            have h1 := keep h1 hV
            have h2 := keep h2 hV
            exact ⟨⟨⟨cell_of_row V g1 0 _ _ _ h1, cell_of_row V g1 1 _ _ _ h1, cell_of_row V g1 2 _ _ _ h1, cell_of_row V g1 3 _ _ _ h1, cell_of_row V g1 4 _ _ _ h1, cell_of_row V g1 5 _ _ _ h1, cell_of_row V g1 6 _ _ _ h1, cell_of_row V g1 7 _ _ _ h1, cell_of_row V g1 8 _ _ _ h1⟩, ⟨cell_of_row V g2 0 _ _ _ h2, cell_of_row V g2 1 _ _ _ h2, cell_of_row V g2 2 _ _ _ h2, cell_of_row V g2 3 _ _ _ h2, cell_of_row V g2 4 _ _ _ h2, cell_of_row V g2 5 _ _ _ h2, cell_of_row V g2 6 _ _ _ h2, cell_of_row V g2 7 _ _ _ h2, cell_of_row V g2 8 _ _ _ h2⟩⟩, h3.trans (hV.mono h3.size)⟩
          obtain ⟨⟨⟨x0, x1, x2, x3, x4, x5, x6, x7, x8⟩, y0, y1, y2, y3, y4, y5, y6, y7, y8⟩, hwc⟩ := HCC.out wc (Below.refl _ _)
          have HI := HIN.out wc hwc
          have HI1 : Hid (Calls Tryz.prog 37 #[.slice po pn pc, .slice po2 pn pc2] wc fun e w' => e = .returned (.bool true) ∧ Hid (Below wr.heap.size wr w' ∧ Below wc.heap.size wc w')) := HI.1
          clear HC hwc HI
          go_wp2_with fail
          refine HI1.out.mono ?_
          rintro e w4 ⟨rfl, H4⟩
          clear HI1 x0 x1 x2 x3 x4 x5 x6 x7 x8 y0 y1 y2 y3 y4 y5 y6 y7 y8
          obtain ⟨⟨⟨x0, x1, x2, x3, x4, x5, x6, x7, x8⟩, y0, y1, y2, y3, y4, y5, y6, y7, y8⟩, hw4⟩ := HCC.out w4 H4.out.2
          have HI1 : Hid (Calls Tryz.prog 37 #[.slice ro rn rc, .slice ro2 rn rc2] w4 fun e w' => e = .returned (.bool true) ∧ Hid (Below wr.heap.size wr w' ∧ Below w4.heap.size w4 w')) := (HIN.out w4 hw4).2.1
          clear hw4
          go_wp2_with fail
          refine HI1.out.mono ?_
          rintro e w5 ⟨rfl, H5⟩
          clear HI1 x0 x1 x2 x3 x4 x5 x6 x7 x8 y0 y1 y2 y3 y4 y5 y6 y7 y8
          obtain ⟨⟨⟨x0, x1, x2, x3, x4, x5, x6, x7, x8⟩, y0, y1, y2, y3, y4, y5, y6, y7, y8⟩, hw5⟩ := HCC.out w5 (H4.out.2.trans (H5.out.2.mono H4.out.2.size))
          have HI1 : Hid (Calls Tryz.prog 37 #[.slice co cn cc, .slice co2 cn cc2] w5 fun e w' => e = .returned (.bool true) ∧ Hid (Below wr.heap.size wr w' ∧ Below w5.heap.size w5 w')) := (HIN.out w5 hw5).2.2
          clear hw5
          go_wp2_with fail
          refine HI1.out.mono ?_
          rintro e w6 ⟨rfl, H6⟩
          clear HI1 x0 x1 x2 x3 x4 x5 x6 x7 x8 y0 y1 y2 y3 y4 y5 y6 y7 y8 HCC HIN H4 H5
          go_wp2_with fail
          exact ⟨⟨j + 1, HJJ.out, by go_num, HBB.out _ H6.out.1, Nat.le_trans HWS.out H6.out.1.size⟩, by simp [intOf]; omega⟩
        · have hnj : ¬ (j : Int) < (tl.length : Int) := by omega
          have h3 := HKK.out
          have HF : Hid (Below Z.heap.size Z wr) := hB2.out.1
          clear HM HR hB2
          go_wp2_with fail
          exact ⟨⟨k + 1, h3, by go_num, HF⟩, by simp [intOf]; omega⟩
    · have hnk : ¬ (k : Int) < (t.length : Int) := by omega
      have HF : Hid (Below w.heap.size w wr) := (HG.out wr hB.out).2.2
      clear HS HG
      go_wp2_with fail
      go_ret
      exact ⟨rfl, HF.out⟩
end Go.Proofs.YtaneiffnhphkhaaGreatDoor

namespace Go.Proofs.YtaneiffnhphkhaaGreatDoor
open Go.RowKit
open Vc (V Of)
open Pl (Br Net Pc Lk En St)
open Tk (Md Mnd Cn Sc Dn)

theorem right_small {n : Net} (h : n.wrong.1 = 0) {i : Nat} (hi : i < n.K) : (n.bs i).pn ≤ 1000 ∧ (n.bs i).reg.n ≤ 100000 := by
  have h0 := bErr_zero (((wrong_iff n).1 h).2.1 i hi)
  unfold Pl.brErr at h0
  by_cases c1 : 281474976710655 < (n.bs i).addr
  · rw [if_pos c1] at h0; cases h0
  rw [if_neg c1] at h0
  by_cases c2 : 16 < (n.bs i).pn
  · rw [if_pos c2] at h0; cases h0
  rw [if_neg c2] at h0
  by_cases c3 : Vc.someTo (fun j => Pl.oddP ((n.bs i).pv j)) (n.bs i).pn = true
  · rw [if_pos c3] at h0; cases h0
  rw [if_neg c3] at h0
  have := (Rg.wrong_zero h0).2.2.many
  omega
/-- Two nets with the same bridges, priorities, regions and links. -/
theorem net_same {a b : Net} (hr : a.wrong.1 = 0) (hc : b.cn = a.cn) (hp : ∀ i, lsF (b.bs i).pv (b.bs i).pn = lsF (a.bs i).pv (a.bs i).pn) (hl : b.ls = a.ls)
    (hg : ∀ i, (b.bs i).reg.s = (a.bs i).reg.s ∧ (b.bs i).reg.rev = (a.bs i).reg.rev ∧ (b.bs i).reg.n = (a.bs i).reg.n ∧ (b.bs i).reg.vs = (a.bs i).reg.vs ∧ (b.bs i).reg.ts = (a.bs i).reg.ts) : SameN a b := by
  have hw := (wrong_iff a).1 hr
  refine ⟨congrArg Cn.K hc, congrArg Cn.L hc, ⟨by omega, by omega⟩, fun i hi => ?_, fun i hi => right_small hr hi, fun k _ => by rw [hl]⟩
  obtain ⟨g1, g2, g3, g4, g5⟩ := hg i
  have e : (b.bs i).pn = (a.bs i).pn := by
    have := congrArg List.length (hp i)
    rwa [lsF_len, lsF_len] at this
  refine ⟨congrFun (congrArg Cn.addr hc) i, e, fun j hj => ?_, g1, g2, g3, fun j _ => ⟨by rw [g4], by rw [g5]⟩⟩
  have h1 := lsF_get (b.bs i).pv (n := (b.bs i).pn) (j := j) (by omega)
  rw [← h1, hp i]
  exact lsF_get (a.bs i).pv hj
theorem sn_same {W W2 : World} {n m : Net} {T T2 : Nat} {s s2 : Sc} {a b : Net} {oa oa2 : Option Addr} {oc oc2 : Nat} {t t2 : List Tr} (h : SnOut W n T s a oa oc t) (h2 : SnOut W2 m T2 s2 b oa2 oc2 t2) (hc : m.cn = n.cn) (hp : s2.pr = s.pr) (hl : s2.ls = s.ls)
    (hg : ∀ i, (m.bs i).reg.s = (n.bs i).reg.s ∧ (m.bs i).reg.rev = (n.bs i).reg.rev ∧ (m.bs i).reg.n = (n.bs i).reg.n ∧ (m.bs i).reg.vs = (n.bs i).reg.vs ∧ (m.bs i).reg.ts = (n.bs i).reg.ts) : SameN a b := by
  refine net_same h.right (h2.cn.trans (hc.trans h.cn.symm)) (fun i => ?_) ?_ (fun i => ?_)
  · have e1 := congrFun (congrArg Sc.pr h.sc) i
    have e2 := congrFun (congrArg Sc.pr h2.sc) i
    refine Eq.trans e2 ?_
    rw [hp]
    exact e1.symm
  · have e1 := congrArg Sc.ls h.sc
    have e2 := congrArg Sc.ls h2.sc
    refine Eq.trans e2 ?_
    rw [hl]
    exact e1.symm
  · obtain ⟨a1, a2, a3, a4, a5⟩ := h.regs i
    obtain ⟨b1, b2, b3, b4, b5⟩ := h2.regs i
    obtain ⟨g1, g2, g3, g4, g5⟩ := hg i
    exact ⟨by rw [b1, g1, a1], by rw [b2, g2, a2], by rw [b3, g3, a3], by rw [b4, g4, a4], by rw [b5, g5, a5]⟩
/-- The first trees of two talks. -/
theorem sn_sameT {W W2 : World} {n m : Net} {T T2 : Nat} {s s2 : Sc} {a b : Net} {oa oa2 : Option Addr} {oc oc2 : Nat} {t t2 : List Tr} (h : SnOut W n T s a oa oc t) (h2 : SnOut W2 m T2 s2 b oa2 oc2 t2) (hT : T ≤ T2) (hT4 : T ≤ 1000) (hK : m.K = n.K) (hm : ∀ k, k < T → s2.ms k = s.ms k) (hp : ∀ i, m.pts i = n.pts i) : SameT t (t2.take T) := by
  have hR := right_of h.wf h.right
  obtain ⟨e1, e2, e3, _⟩ := sn_net h
  have hat : ∀ k, k < T → tat (t2.take T) k = tat t2 k := fun k hk => by
    unfold tat
    rw [List.getD_eq_getElem?_getD, List.getD_eq_getElem?_getD, List.getElem?_take_of_lt hk]
  have hlen : (t2.take T).length = T := by rw [List.length_take, h2.len]; omega
  refine ⟨by rw [hlen, h.len], by rw [h.len]; exact hT4, fun k hk => ?_, fun k i hk hi => ?_⟩
  · rw [h.len] at hk
    rw [hat k hk, (h.each k hk).1, (h2.each k (by omega)).1, hK]
    exact ⟨rfl, by rw [← e1]; have := hR.few; omega⟩
  · rw [h.len] at hk
    rw [(h.each k hk).1] at hi
    rw [hat k hk]
    obtain ⟨m1, m2⟩ := (h.each k hk).2 i hi
    obtain ⟨o1, o2⟩ := (h2.each k (by omega)).2 i (by rw [hK]; exact hi)
    have em : msT t2 k i = msT t k i := by rw [o1, m1, hm k hk]
    have hf := h.ok.fit k hk i hi
    refine ⟨congrArg Mnd.md em, by rw [o2, m2, hp i], congrArg Mnd.roles em, congrArg Mnd.calm em, ?_⟩
    have hen := ends_few a i hR.fewL
    rw [e3] at hen
    have z1 : (mat (tat t k).l i).roles = (s.ms k i).roles := congrArg Mnd.roles m1
    have z2 : (mat (tat t k).l i).calm = (s.ms k i).calm := congrArg Mnd.calm m1
    rw [z1, z2, m2]
    have hn := ends_few n i (by rw [← e2]; exact hR.fewL)
    exact ⟨by unfold Pl.Net.pts; rw [List.length_map]; exact hn, by rw [hf.1]; exact hen, by rw [hf.2]; exact hen⟩
theorem tat_take {t : List Tr} {T k : Nat} (hk : k < T) : tat (t.take T) k = tat t k := by
  unfold tat
  rw [List.getD_eq_getElem?_getD, List.getD_eq_getElem?_getD, List.getElem?_take_of_lt hk]
theorem TrRow.take {w : World} {b off cap : Nat} {t : List Tr} (h : TrRow w (some ⟨b, off, none⟩) cap t) {T : Nat} (hT : T ≤ t.length) : TrRow w (some ⟨b, off, none⟩) cap (t.take T) := by
  have hlen : (t.take T).length = T := by rw [List.length_take]; omega
  have hc := h.row.1
  refine ⟨?_, fun k hk => ?_, by rw [hlen]; have := h.many; omega⟩
  · rw [hlen]
    refine ⟨by omega, fun h0 => ?_⟩
    obtain ⟨b', off', e, hb, hcell⟩ := h.row.2 (by omega)
    refine ⟨b', off', e, hb, fun i hi j hj => ?_⟩
    have e2 := tat_take (t := t) hi
    show _ = some (Value.slice (tat (List.take T t) i).ao (tat (List.take T t) i).l.length (tat (List.take T t) i).cap)
    rw [e2]
    exact hcell i (by omega) j hj
  · rw [hlen] at hk
    rw [tat_take hk]
    exact h.each k (by omega)
/-- What is done, and more. -/
def dsA (dn : Nat) (ds ms : Nat → Dn) (i : Nat) : Dn := if i < dn then ds i else ms (i - dn)
theorem do_app {W : World} {lo : Nat} {a1 : Option Addr} {c1 dn : Nat} {ds : Nat → Dn} {mao : Option Addr} {mn mcap : Nat} {ms : Nat → Dn} (ho : W.ownsRow lo 45 4 (.slice a1 dn c1) dn (cellsL dn 4 (fun i => dnC (ds i)))) (hr : DRow W mao mn mcap ms) (hnil : NilOk mao mn mcap) (hn : dn ≤ 100000) (hm : mn ≤ 100000) (hl : lo ≤ W.heap.size) :
    ∃ a2 c2 w', runAppD (.slice a1 dn c1) (.slice mao mn mcap) W (.slice a2 (dn + mn) c2) w' ∧ w'.ownsRow lo 45 4 (.slice a2 (dn + mn) c2) (dn + mn) (cellsL (dn + mn) 4 (fun i => dnC (dsA dn ds ms i))) ∧ Below lo W w' ∧ (∀ q, q < W.heap.size → some q ≠ (Value.slice a1 dn c1).ownBlock → w'.heap[q]? = W.heap[q]?) := by
  obtain ⟨a2, c2, w', r, o, b, q⟩ := append_c W 26 45 _ 4 32 Tryz.underlying26 infoDo rfl (by omega) lo (.slice a1 dn c1) dn _ ho mao mn mcap (fun i => dnC (ms i)) (fun _ _ => dnC_one _ _) hr hnil (by unfold maxLen; omega) (by omega) hl
  rw [cellsL_congr (dn + mn) 4 _ (fun i => dnC (dsA dn ds ms i)) (fun i hi => by
    unfold catC dsA
    by_cases h : i < dn
    · rw [if_pos h, if_pos h]
    · rw [if_neg h, if_neg h])] at o
  exact ⟨a2, c2, w', r, o, b, q⟩
theorem all_more (s : Sc) (c : Cn) (ds ms : Nat → Dn) (dn mn : Nat) : s.all c (dsA dn ds ms) (dn + mn) = (s.all c ds dn).all c ms mn := (Tk.all_add s c ds ms dn mn).symm
end Go.Proofs.YtaneiffnhphkhaaGreatDoor

namespace Go.Proofs.YtaneiffnhphkhaaGreatDoor
open Go.RowKit
open Vc (V Of)
open Pl (Br Net Pc Lk En St)
open Tk (Md Mnd Cn Sc Dn)

theorem first_least (f : Nat → Int) : ∀ n, (∀ i, i < n → f i = 0) ∨ ∃ k, k < n ∧ f k ≠ 0 ∧ ∀ i, i < k → f i = 0
  | 0 => Or.inl (fun i hi => by omega)
  | n + 1 => by
    rcases first_least f n with h | ⟨k, h1, h2, h3⟩
    · by_cases e : f n = 0
      · exact Or.inl (fun i hi => by
          by_cases c : i < n
          · exact h i c
          · obtain rfl : i = n := by omega
            exact e)
      · exact Or.inr ⟨n, by omega, e, h⟩
    · exact Or.inr ⟨k, by omega, h2, h3⟩
theorem err_more {c : Cn} {ds ms : Nat → Dn} {dn mn : Nat} (h : ∀ k, k < dn → Tk.errOf c (ds k) = 0) : (Tk.errTo c (dsA dn ds ms) (dn + mn)).1 = (Tk.errTo c ms mn).1 := by
  unfold Tk.errTo
  rcases first_least (fun k => Tk.errOf c (ms k)) mn with e | ⟨k, h1, h2, h3⟩
  · rw [Pl.firstTo_all _ mn e, Pl.firstTo_all _ (dn + mn) (fun i hi => ?_)]
    by_cases q : i < dn
    · unfold dsA; rw [if_pos q]; exact h i q
    · unfold dsA; rw [if_neg q]; exact e (i - dn) (by omega)
  · rw [Pl.firstTo_here _ k h3 h2 mn h1, Pl.firstTo_here (fun j => Tk.errOf c (dsA dn ds ms j)) (dn + k) (fun i hi => ?_) ?_ (dn + mn) (by omega)]
    · show Tk.errOf c (dsA dn ds ms (dn + k)) = Tk.errOf c (ms k)
      unfold dsA
      rw [if_neg (by omega), Nat.add_sub_cancel_left]
    · show Tk.errOf c (dsA dn ds ms (dn + k)) ≠ 0
      unfold dsA
      rw [if_neg (by omega), Nat.add_sub_cancel_left]
      exact h2
    · by_cases q : i < dn
      · unfold dsA; rw [if_pos q]; exact h i q
      · unfold dsA; rw [if_neg q]; exact h3 (i - dn) (by omega)
/-- What On leaves, whatever is done. -/
def OnG (V w' : World) (n n' : Net) (T : Nat) (s : Sc) (ms : Nat → Dn) (mn : Nat) (na : Option Addr) (nk nc : Nat) (la : Option Addr) (lk lc : Nat) (oa : Option Addr) (ol oc : Nat) (f1 f2 : Int) : Prop :=
  ((Tk.errTo n.cn ms mn).1 ≠ 0 ∧ f1 = (Tk.errTo n.cn ms mn).1 ∧ (na = none ∧ nk = 0 ∧ nc = 0) ∧ (la = none ∧ lk = 0 ∧ lc = 0) ∧ oa = none ∧ ol = 0 ∧ oc = 0) ∨
    ((Tk.errTo n.cn ms mn).1 = 0 ∧ (f1 = 0 ∧ f2 = 0) ∧ ∃ (n2 : Net) (t2 : List Tr), (na = n2.bao ∧ nk = n2.K ∧ nc = n2.bcap) ∧ (la = n2.lao ∧ lk = n2.L ∧ lc = n2.lcap) ∧ ol = t2.length ∧ ∃ b, V.heap.size ≤ b ∧ Kept w' b (fun U => SnOut U n' T (s.all n.cn ms mn) n2 oa oc t2))
theorem on_gen {V : World} {n : Net} {T : Nat} {s : Sc} {n' : Net} {oa : Option Addr} {oc : Nat} {t' : List Tr} (h : SnOut V n T s n' oa oc t') (hT : 1 ≤ T ∧ T ≤ 4) (hp : ∀ i, n.pts i = n'.pts i) {mao : Option Addr} {mn mcap : Nat} {ms : Nat → Dn} (hmn : mn ≤ 30) (hrow : DRow V mao mn mcap ms) (htb : Tabs V) (hbt : 2 ≤ V.heap.size) :
    Calls Tryz.prog 20 #[.agg #[.slice n'.bao n'.K n'.bcap, .slice n'.lao n'.L n'.lcap], .agg #[.slice oa t'.length oc], .slice mao mn mcap] V fun e w' => ∃ na nk nc la lk lc oa ol oc f1 f2, e = .returned (.tuple #[.agg #[.slice na nk nc, .slice la lk lc], .agg #[.slice oa ol oc], .agg #[.int .i64 f1, .int .i64 f2]]) ∧ Hid (Below V.heap.size V w' ∧ OnG V w' n n' T s ms mn na nk nc la lk lc oa ol oc f1 f2) := by
  obtain ⟨hf, hc, hm⟩ := sn_fit h hT hp
  have herr : onErr n' t' ms mn = Tk.errTo n.cn ms mn := by
    rw [on_start h.right hf, if_neg (by omega), h.cn]
  refine (ton_any n' oa oc t' s.ms mao mn mcap ms V h.wf h.net h.row (by omega) hrow hc hm htb hbt).mono ?_
  rintro e w' ⟨h1, ⟨h2, rfl⟩ | ⟨h2, n2, oao, ocap, t2, rfl, b, hb, h3⟩⟩
  · rw [herr] at h2
    exact ⟨none, 0, 0, none, 0, 0, none, 0, 0, _, _, rfl, h1, Or.inl ⟨h2, by rw [herr], ⟨rfl, rfl, rfl⟩, ⟨rfl, rfl, rfl⟩, rfl, rfl, rfl⟩⟩
  · rw [herr] at h2
    refine ⟨n2.bao, n2.K, n2.bcap, n2.lao, n2.L, n2.lcap, oao, t2.length, ocap, 0, 0, rfl, h1, Or.inr ⟨h2, ⟨rfl, rfl⟩, n2, t2, ⟨rfl, rfl, rfl⟩, ⟨rfl, rfl, rfl⟩, rfl, b, hb, ?_⟩⟩
    rw [h.sc, h.cn, h.len] at h3
    exact h3
/-- A net of nothing. -/
def Pl.Net.none0 (n : Net) : Net := ⟨none, 0, 0, n.bs, none, 0, 0, n.ls⟩
theorem none_same (n : Net) (w : World) : Calls Tryz.prog 17 #[.agg #[.slice none 0 0, .slice none 0 0], .agg #[.slice none 0 0, .slice none 0 0]] w fun e w' => e = .returned (.bool true) ∧ Below w.heap.size w w' := by
  have h : (Pl.Net.none0 n).at' w := ⟨⟨Nat.le_refl _, fun h => absurd h (Nat.lt_irrefl _)⟩, fun i hi => absurd hi (Nat.not_lt_zero _), ⟨Nat.le_refl _, fun h => absurd h (Nat.lt_irrefl _)⟩, Nat.zero_le _, Nat.zero_le _⟩
  exact tsamenet_any (Pl.Net.none0 n) (Pl.Net.none0 n) w h h ⟨rfl, rfl, ⟨Nat.zero_le _, Nat.zero_le _⟩, fun i hi => absurd hi (Nat.not_lt_zero _), fun i hi => absurd hi (Nat.not_lt_zero _), fun _ _ => rfl⟩
theorem none_sameT (w : World) : Calls Tryz.prog 14 #[.agg #[.slice none 0 0], .agg #[.slice none 0 0]] w fun e w' => e = .returned (.bool true) ∧ Below w.heap.size w w' := by
  have h : TrRow w none 0 [] := ⟨⟨Nat.le_refl _, fun h => absurd h (Nat.lt_irrefl _)⟩, fun i hi => absurd hi (Nat.not_lt_zero _), Nat.zero_le _⟩
  exact tsame7_any none none 0 0 [] [] w h h ⟨rfl, Nat.zero_le _, fun k hk => absurd hk (Nat.not_lt_zero _), fun k i hk => absurd hk (Nat.not_lt_zero _)⟩
end Go.Proofs.YtaneiffnhphkhaaGreatDoor

namespace Go.Proofs.YtaneiffnhphkhaaGreatDoor
open Go.RowKit
open Tk (Dn)

def upD (k : Int) : Dn := ⟨2, k, 0, 0⟩
def downD (k : Int) : Dn := ⟨3, k, 0, 0⟩
/-- Up, and 40 ticks. -/
def upT (which : Int) (i : Nat) : Dn := if i = 0 then upD which else tickD 40
/-- Down, some ticks, up, and 40 ticks. -/
def backT (which td : Int) (i : Nat) : Dn := if i = 0 then downD which else if i = 1 then tickD td else if i = 2 then upD which else tickD 40
theorem up_row {W : World} {g : Nat} {which : Int} (h : W.heap[g]? = some (.cells #[.int .i64 2, .int .i64 which, .int .i64 0, .int .i64 0, .int .i64 1, .int .i64 40, .int .i64 0, .int .i64 0] 45 (0, 0))) : DRow W (some ⟨g, 0, none⟩) 2 2 (upT which) := by
  refine ⟨Nat.le_refl _, fun _ => ⟨g, 0, rfl, lt_some h, fun i hi j hj => ?_⟩⟩
  match i, hi, j, hj with
  | 0, _, 0, _ => exact cell_of_row W g 0 _ _ _ h
  | 0, _, 1, _ => exact cell_of_row W g 1 _ _ _ h
  | 0, _, 2, _ => exact cell_of_row W g 2 _ _ _ h
  | 0, _, 3, _ => exact cell_of_row W g 3 _ _ _ h
  | 1, _, 0, _ => exact cell_of_row W g 4 _ _ _ h
  | 1, _, 1, _ => exact cell_of_row W g 5 _ _ _ h
  | 1, _, 2, _ => exact cell_of_row W g 6 _ _ _ h
  | 1, _, 3, _ => exact cell_of_row W g 7 _ _ _ h
theorem back_row {W : World} {g : Nat} {which td : Int} (h : W.heap[g]? = some (.cells #[.int .i64 3, .int .i64 which, .int .i64 0, .int .i64 0, .int .i64 1, .int .i64 td, .int .i64 0, .int .i64 0, .int .i64 2, .int .i64 which, .int .i64 0, .int .i64 0, .int .i64 1, .int .i64 40, .int .i64 0, .int .i64 0] 45 (0, 0))) : DRow W (some ⟨g, 0, none⟩) 4 4 (backT which td) := by
  refine ⟨Nat.le_refl _, fun _ => ⟨g, 0, rfl, lt_some h, fun i hi j hj => ?_⟩⟩
  match i, hi, j, hj with
  | 0, _, 0, _ => exact cell_of_row W g 0 _ _ _ h
  | 0, _, 1, _ => exact cell_of_row W g 1 _ _ _ h
  | 0, _, 2, _ => exact cell_of_row W g 2 _ _ _ h
  | 0, _, 3, _ => exact cell_of_row W g 3 _ _ _ h
  | 1, _, 0, _ => exact cell_of_row W g 4 _ _ _ h
  | 1, _, 1, _ => exact cell_of_row W g 5 _ _ _ h
  | 1, _, 2, _ => exact cell_of_row W g 6 _ _ _ h
  | 1, _, 3, _ => exact cell_of_row W g 7 _ _ _ h
  | 2, _, 0, _ => exact cell_of_row W g 8 _ _ _ h
  | 2, _, 1, _ => exact cell_of_row W g 9 _ _ _ h
  | 2, _, 2, _ => exact cell_of_row W g 10 _ _ _ h
  | 2, _, 3, _ => exact cell_of_row W g 11 _ _ _ h
  | 3, _, 0, _ => exact cell_of_row W g 12 _ _ _ h
  | 3, _, 1, _ => exact cell_of_row W g 13 _ _ _ h
  | 3, _, 2, _ => exact cell_of_row W g 14 _ _ _ h
  | 3, _, 3, _ => exact cell_of_row W g 15 _ _ _ h
section
variable {Q : Exit → Act → World → Prop} (df : List Deferred) (X : World) (gU : Nat) (which : Int) (dao : Option Addr) (dn dcap : Nat) (ds : Nat → Dn)
variable (x0 x1 x3 x4 x5 x6 x7 x8 x9 x10 x11 x13 x14 x15 x16 x17 x18 x19 x20 x21 x22 x23 x24 x25 x26 x27 x28 x29 x30 x31 x32 x33 x34 x35 x36 x37 x39 x41 x42 x43 x44 x45 x46 x47 x48 x49 x50 x51 x52 x53 x54 x55 x56 x57 x58 x59 x60 x61 x62 x63 x64 x65 x66 x67 x68 x69 x70 x71 x72 x73 x74 x75 x76 x77 x78 x79 x80 x81 x82 x83 x84 : Value)
def rb7_ops : Array Oper := #[{ dst := some 37, op := Op.buildSlice 26 0 #[], type := 26, pos := "law.go:278", after := #[], guard := none }, { dst := some 38, op := Op.move (Operand.tmp 2), type := 26, pos := "law.go:278", after := #[], guard := none }, { dst := some 39, op := Op.call { callee := Callee.builtin Builtin.append, args := #[Operand.tmp 37, Operand.tmp 38], argTypes := #[26, 26] }, type := 26, pos := "law.go:278", after := #[{ on := 0, ground := Ground.data }, { on := 1, ground := Ground.data }], guard := none }, { dst := some 40, op := Op.load 45 (Operand.tmp 12), type := 45, pos := "law.go:278", after := #[], guard := none }, { dst := some 41, op := Op.call { callee := Callee.value (Operand.func 23), args := #[Operand.const (Value.int IntKind.i64 40)], argTypes := #[3] }, type := 45, pos := "law.go:278", after := #[{ on := 2, ground := Ground.chain }], guard := none }, { dst := some 42, op := Op.buildSlice 26 2 #[(0, Operand.tmp 40), (1, Operand.tmp 41)], type := 26, pos := "law.go:278", after := #[{ on := 3, ground := Ground.data }, { on := 4, ground := Ground.data }], guard := none }, { dst := some 43, op := Op.call { callee := Callee.builtin Builtin.append, args := #[Operand.tmp 39, Operand.tmp 42], argTypes := #[26, 26] }, type := 26, pos := "law.go:278", after := #[{ on := 2, ground := Ground.data }, { on := 5, ground := Ground.data }, { on := 4, ground := Ground.chain }], guard := none }, { dst := some 13, op := Op.assign (Operand.tmp 43), type := 26, pos := "law.go:278", after := #[{ on := 6, ground := Ground.data }, { on := 6, ground := Ground.chain }, { on := 0, ground := Ground.phase }, { on := 1, ground := Ground.phase }, { on := 2, ground := Ground.phase }, { on := 3, ground := Ground.phase }, { on := 4, ground := Ground.phase }, { on := 5, ground := Ground.phase }, { on := 6, ground := Ground.phase }], guard := none }]
variable (hQ : ∀ c (a : Act) (d : Tmp) (v : Value) (w : World), Q (.panic c) (a.put (some d) v) w → Q (.panic c) a w)
variable (hC : ∀ V, Below X.heap.size X V → V.cell? ⟨gU, 0, none⟩ = some (.int .i64 2) ∧ V.cell? ⟨gU, 1, none⟩ = some (.int .i64 which) ∧ V.cell? ⟨gU, 2, none⟩ = some (.int .i64 0) ∧ V.cell? ⟨gU, 3, none⟩ = some (.int .i64 0))
variable (hdn : dn ≤ 1000) (hnil : NilOk dao dn dcap) (hds : ∀ V, Below X.heap.size X V → DRow V dao dn dcap ds)
variable (hT : ∀ V, Calls Tryz.prog 23 #[.int .i64 40] V fun e w' => e = .returned (.agg #[.int .i64 1, .int .i64 40, .int .i64 0, .int .i64 0]) ∧ Below V.heap.size V w')
variable (fin : ∀ (v37 : Value) (a1 : Option Addr) (c1 gt : Nat) (a2 : Option Addr) (c2 : Nat) (W : World), DRow W a2 (dn + 2) c2 (dsA dn ds (upT which)) → Below X.heap.size X W → Q .normal { tmps := #[x0, x1, (.slice dao dn dcap), x3, x4, x5, x6, x7, x8, x9, x10, x11, (.pointer (some ⟨gU, 0, none⟩)), (.slice a2 (dn + 2) c2), x14, x15, x16, x17, x18, x19, x20, x21, x22, x23, x24, x25, x26, x27, x28, x29, x30, x31, x32, x33, x34, x35, x36, v37, (.slice dao dn dcap), (.slice a1 dn c1), (.agg #[.int .i64 2, .int .i64 which, .int .i64 0, .int .i64 0]), (.agg #[.int .i64 1, .int .i64 40, .int .i64 0, .int .i64 0]), (.slice (some ⟨gt, 0, none⟩) 2 2), (.slice a2 (dn + 2) c2), x44, x45, x46, x47, x48, x49, x50, x51, x52, x53, x54, x55, x56, x57, x58, x59, x60, x61, x62, x63, x64, x65, x66, x67, x68, x69, x70, x71, x72, x73, x74, x75, x76, x77, x78, x79, x80, x81, x82, x83, x84], defers := df } W)
include hQ hC hdn hnil hds hT fin in
set_option maxRecDepth 100000 in
set_option maxHeartbeats 3000000 in
theorem rb7 (x38 x40 : Value) : (Code.region 7 rb7_ops true).wp Tryz.prog Q { tmps := #[x0, x1, (.slice dao dn dcap), x3, x4, x5, x6, x7, x8, x9, x10, x11, (.pointer (some ⟨gU, 0, none⟩)), x13, x14, x15, x16, x17, x18, x19, x20, x21, x22, x23, x24, x25, x26, x27, x28, x29, x30, x31, x32, x33, x34, x35, x36, x37, x38, x39, x40, x41, x42, x43, x44, x45, x46, x47, x48, x49, x50, x51, x52, x53, x54, x55, x56, x57, x58, x59, x60, x61, x62, x63, x64, x65, x66, x67, x68, x69, x70, x71, x72, x73, x74, x75, x76, x77, x78, x79, x80, x81, x82, x83, x84], defers := df } X := by
  have hXd : Below X.heap.size X X.drew := Below.drew (Below.refl _ _)
  refine wp_region_z (z := 7) (C := fun W => W.cell? ⟨gU, 0, none⟩ = some (.int .i64 2) ∧ W.cell? ⟨gU, 1, none⟩ = some (.int .i64 which) ∧ W.cell? ⟨gU, 2, none⟩ = some (.int .i64 0) ∧ W.cell? ⟨gU, 3, none⟩ = some (.int .i64 0)) (by kernel_rfl) (hC _ hXd) (fun hHeld => ?_)
  refine z_take (i := 1) (oi := { dst := some 38, op := Op.move (Operand.tmp 2), type := 26, pos := "law.go:278", after := #[], guard := none }) (v := ?_) (some 38) rfl rfl (by kernel_rfl) (by kernel_rfl) (by kernel_rfl) (by decide) (fun c a w h => hQ c a _ _ w h) (by rfl) ?_ hHeld ?_
  rotate_left 1
  · (intro wq; go_simp; try with_reducible rfl)
  (try simp only [Act.put, List.setIfInBounds_toArray, List.set_cons_zero, List.set_cons_succ])
  refine z_load (i := 3) (oi := { dst := some 40, op := Op.load 45 (Operand.tmp 12), type := 45, pos := "law.go:278", after := #[], guard := none }) (v := ?_) (some 40) rfl rfl (by kernel_rfl) (by kernel_rfl) (by kernel_rfl) (by kernel_rfl) (fun c a w h => hQ c a _ _ w h) (by rfl) ?_ hHeld ?_
  rotate_left 1
  · (intro wq hSw; go_simp; try with_reducible rfl)
  (try simp only [Act.put, List.setIfInBounds_toArray, List.set_cons_zero, List.set_cons_succ])
  refine z_one (i := 0) (o := { dst := some 37, op := Op.buildSlice 26 0 #[], type := 26, pos := "law.go:278", after := #[], guard := none }) (by kernel_rfl) rfl (fun K hK => ?_)
  go_simp
  have hn : Below X.drew.heap.size X.drew (X.drew.alloc (.cells #[] 45)) := below_alloc1 _ _
  have hX1 : Below X.heap.size X (X.drew.alloc (.cells #[] 45)) := hXd.trans (hn.mono hXd.size)
  refine hK.out _ _ (Or.inr (hC _ hX1)) (fun hHeld => ?_)
  clear hK K
  (try simp only [List.setIfInBounds_toArray, List.set_cons_zero, List.set_cons_succ])
  have hF := own_empty X.drew (lo := X.heap.size) hXd.size
  obtain ⟨a1, c1, w2, r, ho, hl, hq⟩ := do_copy hF (hds _ hX1) hnil (by omega) hX1.size
  refine z_one (i := 2) (o := { dst := some 39, op := Op.call { callee := Callee.builtin Builtin.append, args := #[Operand.tmp 37, Operand.tmp 38], argTypes := #[26, 26] }, type := 26, pos := "law.go:278", after := #[{ on := 0, ground := Ground.data }, { on := 1, ground := Ground.data }], guard := none }) (by kernel_rfl) rfl (fun K hK => ?_)
  refine step_append_d (some 39) rfl rfl (.tmp 37) (.tmp 38) 26 rfl _ _ _ rfl rfl r ?_
  have hX2 : Below X.heap.size X w2 := hX1.trans hl
  refine hK.out _ _ (Or.inr (hC _ hX2)) (fun hHeld => ?_)
  clear hK K
  (try simp only [Act.put, List.setIfInBounds_toArray, List.set_cons_zero, List.set_cons_succ])
  refine z_one (i := 4) (o := { dst := some 41, op := Op.call { callee := Callee.value (Operand.func 23), args := #[Operand.const (Value.int IntKind.i64 40)], argTypes := #[3] }, type := 45, pos := "law.go:278", after := #[{ on := 2, ground := Ground.chain }], guard := none }) (by kernel_rfl) rfl (fun K hK => ?_)
  go_simp
  refine (hT w2).mono ?_
  rintro e w3 ⟨rfl, hn3⟩
  have hX3 : Below X.heap.size X w3 := hX2.trans (hn3.mono hX2.size)
  refine hK.out _ _ (Or.inr (hC _ hX3)) (fun hHeld => ?_)
  clear hK K
  (try simp only [List.setIfInBounds_toArray, List.set_cons_zero, List.set_cons_succ])
  refine z_one (i := 5) (o := { dst := some 42, op := Op.buildSlice 26 2 #[(0, Operand.tmp 40), (1, Operand.tmp 41)], type := 26, pos := "law.go:278", after := #[{ on := 3, ground := Ground.data }, { on := 4, ground := Ground.data }], guard := none }) (by kernel_rfl) rfl (fun K hK => ?_)
  go_simp
  have hn4 : Below w3.heap.size w3 (w3.alloc (.cells #[.int .i64 2, .int .i64 which, .int .i64 0, .int .i64 0, .int .i64 1, .int .i64 40, .int .i64 0, .int .i64 0] 45)) := below_alloc1 _ _
  have hX4 := hX3.trans (hn4.mono hX3.size)
  refine hK.out _ _ (Or.inr (hC _ hX4)) (fun hHeld => ?_)
  clear hK K
  (try simp only [List.setIfInBounds_toArray, List.set_cons_zero, List.set_cons_succ])
  obtain ⟨a2, c2, w5, r5, ho5, hl5, hq5⟩ := do_app (ownsC_below (ownsC_below ho hn3) hn4) (up_row (heap_alloc_last _ _)) (fun h => by cases h) (by omega) (by omega) hX4.size
  refine z_one (i := 6) (o := { dst := some 43, op := Op.call { callee := Callee.builtin Builtin.append, args := #[Operand.tmp 39, Operand.tmp 42], argTypes := #[26, 26] }, type := 26, pos := "law.go:278", after := #[{ on := 2, ground := Ground.data }, { on := 5, ground := Ground.data }, { on := 4, ground := Ground.chain }], guard := none }) (by kernel_rfl) rfl (fun K hK => ?_)
  refine step_append_d (some 43) rfl rfl (.tmp 39) (.tmp 42) 26 rfl _ _ _ rfl rfl r5 ?_
  have hX5 : Below X.heap.size X w5 := hX4.trans hl5
  refine hK.out _ _ (Or.inr (hC _ hX5)) (fun hHeld => ?_)
  clear hK K
  (try simp only [Act.put, List.setIfInBounds_toArray, List.set_cons_zero, List.set_cons_succ])
  refine z_one (i := 7) (o := { dst := some 13, op := Op.assign (Operand.tmp 43), type := 26, pos := "law.go:278", after := #[{ on := 6, ground := Ground.data }, { on := 6, ground := Ground.chain }, { on := 0, ground := Ground.phase }, { on := 1, ground := Ground.phase }, { on := 2, ground := Ground.phase }, { on := 3, ground := Ground.phase }, { on := 4, ground := Ground.phase }, { on := 5, ground := Ground.phase }, { on := 6, ground := Ground.phase }], guard := none }) (by kernel_rfl) rfl (fun K hK => ?_)
  go_simp
  refine hK.out _ _ (Or.inl (by kernel_rfl)) (fun hHeld => ?_)
  clear hK K
  (try simp only [List.setIfInBounds_toArray, List.set_cons_zero, List.set_cons_succ])
  refine z_done (by kernel_rfl) ?_ _
  exact fin _ a1 c1 _ a2 c2 w5 (own_do ho5) hX5
end
section
variable {Q : Exit → Act → World → Prop} (df : List Deferred) (X : World) (gM gT gF gD gU : Nat) (nb nl tb : Value) (p1 p2 : Int) (which td : Int)
variable (R : World → World → Option Addr → Nat → Nat → Option Addr → Nat → Nat → Option Addr → Nat → Nat → Int → Int → Prop)
variable (x0 x1 x2 x3 x5 x6 x7 x8 x9 x10 x13 x19 x20 x21 x22 x23 x24 x25 x26 x27 x28 x29 x30 x31 x32 x33 x34 x35 x36 x37 x38 x39 x40 x41 x42 x43 x44 x45 x46 x47 x48 x49 x50 x51 x52 x53 x54 x55 x60 x62 x63 x64 x65 x66 x67 x68 x69 x70 x71 x72 x73 x74 x75 x76 x77 x78 x79 x80 x81 x82 x83 x84 : Value)
def rb11_ops : Array Oper := #[{ dst := some 56, op := Op.load 25 (Operand.tmp 14), type := 25, pos := "law.go:283", after := #[], guard := none }, { dst := some 57, op := Op.load 29 (Operand.tmp 15), type := 29, pos := "law.go:283", after := #[], guard := none }, { dst := some 58, op := Op.load 45 (Operand.tmp 11), type := 45, pos := "law.go:283", after := #[], guard := none }, { dst := some 59, op := Op.move (Operand.tmp 4), type := 3, pos := "law.go:283", after := #[], guard := none }, { dst := some 60, op := Op.call { callee := Callee.value (Operand.func 23), args := #[Operand.tmp 59], argTypes := #[3] }, type := 45, pos := "law.go:283", after := #[{ on := 3, ground := Ground.data }], guard := none }, { dst := some 61, op := Op.load 45 (Operand.tmp 12), type := 45, pos := "law.go:283", after := #[], guard := none }, { dst := some 62, op := Op.call { callee := Callee.value (Operand.func 23), args := #[Operand.const (Value.int IntKind.i64 40)], argTypes := #[3] }, type := 45, pos := "law.go:283", after := #[{ on := 4, ground := Ground.chain }], guard := none }, { dst := some 63, op := Op.buildSlice 26 4 #[(0, Operand.tmp 58), (1, Operand.tmp 60), (2, Operand.tmp 61), (3, Operand.tmp 62)], type := 26, pos := "law.go:283", after := #[{ on := 2, ground := Ground.data }, { on := 4, ground := Ground.data }, { on := 5, ground := Ground.data }, { on := 6, ground := Ground.data }], guard := none }, { dst := some 64, op := Op.call { callee := Callee.value (Operand.func 20), args := #[Operand.tmp 56, Operand.tmp 57, Operand.tmp 63], argTypes := #[25, 29, 26] }, type := 36, pos := "law.go:283", after := #[{ on := 0, ground := Ground.data }, { on := 1, ground := Ground.data }, { on := 7, ground := Ground.data }, { on := 6, ground := Ground.chain }], guard := none }, { dst := some 55, op := Op.move (Operand.tmp 64), type := 36, pos := "law.go:283", after := #[{ on := 8, ground := Ground.data }], guard := none }, { dst := some 65, op := Op.extract (Operand.tmp 55) 0, type := 25, pos := "law.go:283", after := #[{ on := 9, ground := Ground.data }], guard := none }, { dst := some 66, op := Op.extract (Operand.tmp 55) 1, type := 29, pos := "law.go:283", after := #[{ on := 9, ground := Ground.data }, { on := 15, ground := Ground.gcOnly Departure.lateStores }], guard := none }, { dst := some 67, op := Op.extract (Operand.tmp 55) 2, type := 32, pos := "law.go:283", after := #[{ on := 9, ground := Ground.data }, { on := 16, ground := Ground.gcOnly Departure.lateStores }], guard := none }, { dst := some 17, op := Op.alloc 25, type := 0, pos := "law.go:283", after := #[], guard := none }, { dst := some 18, op := Op.alloc 29, type := 0, pos := "law.go:283", after := #[], guard := none }, { dst := none, op := Op.store 25 (Operand.tmp 17) (Operand.tmp 65), type := 0, pos := "law.go:283", after := #[{ on := 13, ground := Ground.data }, { on := 10, ground := Ground.data }, { on := 8, ground := Ground.chain }, { on := 0, ground := Ground.phase }, { on := 1, ground := Ground.phase }, { on := 2, ground := Ground.phase }, { on := 3, ground := Ground.phase }, { on := 4, ground := Ground.phase }, { on := 5, ground := Ground.phase }, { on := 6, ground := Ground.phase }, { on := 7, ground := Ground.phase }, { on := 8, ground := Ground.phase }, { on := 9, ground := Ground.phase }, { on := 10, ground := Ground.phase }, { on := 11, ground := Ground.textOnly Departure.lateStores }, { on := 12, ground := Ground.textOnly Departure.lateStores }, { on := 13, ground := Ground.phase }, { on := 14, ground := Ground.phase }], guard := none }, { dst := none, op := Op.store 29 (Operand.tmp 18) (Operand.tmp 66), type := 0, pos := "law.go:283", after := #[{ on := 14, ground := Ground.data }, { on := 11, ground := Ground.data }, { on := 15, ground := Ground.chain }, { on := 0, ground := Ground.phase }, { on := 1, ground := Ground.phase }, { on := 2, ground := Ground.phase }, { on := 3, ground := Ground.phase }, { on := 4, ground := Ground.phase }, { on := 5, ground := Ground.phase }, { on := 6, ground := Ground.phase }, { on := 7, ground := Ground.phase }, { on := 8, ground := Ground.phase }, { on := 9, ground := Ground.phase }, { on := 10, ground := Ground.phase }, { on := 11, ground := Ground.phase }, { on := 12, ground := Ground.textOnly Departure.lateStores }, { on := 13, ground := Ground.phase }, { on := 14, ground := Ground.phase }, { on := 15, ground := Ground.phase }], guard := none }, { dst := none, op := Op.store 32 (Operand.tmp 16) (Operand.tmp 67), type := 0, pos := "law.go:283", after := #[{ on := 12, ground := Ground.data }, { on := 16, ground := Ground.chain }, { on := 0, ground := Ground.phase }, { on := 1, ground := Ground.phase }, { on := 2, ground := Ground.phase }, { on := 3, ground := Ground.phase }, { on := 4, ground := Ground.phase }, { on := 5, ground := Ground.phase }, { on := 6, ground := Ground.phase }, { on := 7, ground := Ground.phase }, { on := 8, ground := Ground.phase }, { on := 9, ground := Ground.phase }, { on := 10, ground := Ground.phase }, { on := 11, ground := Ground.phase }, { on := 12, ground := Ground.phase }, { on := 13, ground := Ground.phase }, { on := 14, ground := Ground.phase }, { on := 15, ground := Ground.phase }, { on := 16, ground := Ground.phase }], guard := none }]
variable (hQ : ∀ c (a : Act) (d : Tmp) (v : Value) (w : World), Q (.panic c) (a.put (some d) v) w → Q (.panic c) a w)
variable (hC : ∀ V, Below X.heap.size X V → V.cell? ⟨gM, 0, none⟩ = some nb ∧ V.cell? ⟨gM, 1, none⟩ = some nl ∧ V.cell? ⟨gT, 0, none⟩ = some tb ∧ (V.cell? ⟨gD, 0, none⟩ = some (.int .i64 3) ∧ V.cell? ⟨gD, 1, none⟩ = some (.int .i64 which) ∧ V.cell? ⟨gD, 2, none⟩ = some (.int .i64 0) ∧ V.cell? ⟨gD, 3, none⟩ = some (.int .i64 0)) ∧ V.cell? ⟨gU, 0, none⟩ = some (.int .i64 2) ∧ V.cell? ⟨gU, 1, none⟩ = some (.int .i64 which) ∧ V.cell? ⟨gU, 2, none⟩ = some (.int .i64 0) ∧ V.cell? ⟨gU, 3, none⟩ = some (.int .i64 0))
variable (hFt : X.heap[gF]? = some (.cells #[.int .i64 p1, .int .i64 p2] 32 (0, 0)))
variable (hT : ∀ (t : Int) V, Calls Tryz.prog 23 #[.int .i64 t] V fun e w' => e = .returned (.agg #[.int .i64 1, .int .i64 t, .int .i64 0, .int .i64 0]) ∧ Below V.heap.size V w')
variable (hP : ∀ V g, Below X.heap.size X V → DRow V (some ⟨g, 0, none⟩) 4 4 (backT which td) → Calls Tryz.prog 20 #[.agg #[nb, nl], .agg #[tb], .slice (some ⟨g, 0, none⟩) 4 4] V fun e w' => ∃ na nk nc la lk lc oa ol oc f1 f2, e = .returned (.tuple #[.agg #[.slice na nk nc, .slice la lk lc], .agg #[.slice oa ol oc], .agg #[.int .i64 f1, .int .i64 f2]]) ∧ Hid (Below V.heap.size V w' ∧ R V w' na nk nc la lk lc oa ol oc f1 f2))
variable (fin : ∀ (gt : Nat) (V : World) (na : Option Addr) (nk nc : Nat) (la : Option Addr) (lk lc : Nat) (oa : Option Addr) (ol oc : Nat) (f1 f2 : Int) (g7 g8 : Nat) (W0 W : World), R V W0 na nk nc la lk lc oa ol oc f1 f2 → Below W0.heap.size W0 W → Below X.heap.size X W → (W.heap[g7]? = some (.cells #[.slice none 0 0, .slice none 0 0] 25 (0, 0)) ∧ W.heap[g8]? = some (.cells #[.slice none 0 0] 29 (0, 0)) ∧ W.heap[gF]? = some (.cells #[.int .i64 p1, .int .i64 p2] 32 (0, 0))) → (X.heap.size ≤ g7 ∧ X.heap.size ≤ g8 ∧ gF < X.heap.size ∧ X.heap.size ≤ V.heap.size) → ((g7 < V.heap.size ∨ W0.heap.size ≤ g7) ∧ (g8 < V.heap.size ∨ W0.heap.size ≤ g8)) → Q .normal { tmps := #[x0, x1, x2, x3, (.int .i64 td), x5, x6, x7, x8, x9, x10, (.pointer (some ⟨gD, 0, none⟩)), (.pointer (some ⟨gU, 0, none⟩)), x13, (.pointer (some ⟨gM, 0, none⟩)), (.pointer (some ⟨gT, 0, none⟩)), (.pointer (some ⟨gF, 0, none⟩)), (.pointer (some ⟨g7, 0, none⟩)), (.pointer (some ⟨g8, 0, none⟩)), x19, x20, x21, x22, x23, x24, x25, x26, x27, x28, x29, x30, x31, x32, x33, x34, x35, x36, x37, x38, x39, x40, x41, x42, x43, x44, x45, x46, x47, x48, x49, x50, x51, x52, x53, x54, (.tuple #[.agg #[.slice na nk nc, .slice la lk lc], .agg #[.slice oa ol oc], .agg #[.int .i64 f1, .int .i64 f2]]), (.agg #[nb, nl]), (.agg #[tb]), (.agg #[.int .i64 3, .int .i64 which, .int .i64 0, .int .i64 0]), (.int .i64 td), (.agg #[.int .i64 1, .int .i64 td, .int .i64 0, .int .i64 0]), (.agg #[.int .i64 2, .int .i64 which, .int .i64 0, .int .i64 0]), (.agg #[.int .i64 1, .int .i64 40, .int .i64 0, .int .i64 0]), (.slice (some ⟨gt, 0, none⟩) 4 4), (.tuple #[.agg #[.slice na nk nc, .slice la lk lc], .agg #[.slice oa ol oc], .agg #[.int .i64 f1, .int .i64 f2]]), (.agg #[.slice na nk nc, .slice la lk lc]), (.agg #[.slice oa ol oc]), (.agg #[.int .i64 f1, .int .i64 f2]), x68, x69, x70, x71, x72, x73, x74, x75, x76, x77, x78, x79, x80, x81, x82, x83, x84], defers := df } (((((W.setCell ⟨g7, 0, none⟩ (.slice na nk nc)).setCell ⟨g7, 1, none⟩ (.slice la lk lc)).setCell ⟨g8, 0, none⟩ (.slice oa ol oc)).setCell ⟨gF, 0, none⟩ (.int .i64 f1)).setCell ⟨gF, 1, none⟩ (.int .i64 f2)))
set_option maxRecDepth 100000
theorem rb11_rd0 (b7 b8 : Bool) : Region.ready .any rb11_ops #[true, true, true, true, false, true, false, false, false, false, false, false, false, b7, b8, false, false, false] = (4 :: ((if b7 then [] else [13]) ++ (if b8 then [] else [14])) : List Nat) := by
  cases b7 <;> cases b8 <;> kernel_rfl
theorem rb11_rd1 (b7 b8 : Bool) : Region.ready .any rb11_ops #[true, true, true, true, true, true, false, false, false, false, false, false, false, b7, b8, false, false, false] = (6 :: ((if b7 then [] else [13]) ++ (if b8 then [] else [14])) : List Nat) := by
  cases b7 <;> cases b8 <;> kernel_rfl
theorem rb11_rd2 (b7 b8 : Bool) : Region.ready .any rb11_ops #[true, true, true, true, true, true, true, false, false, false, false, false, false, b7, b8, false, false, false] = (7 :: ((if b7 then [] else [13]) ++ (if b8 then [] else [14])) : List Nat) := by
  cases b7 <;> cases b8 <;> kernel_rfl
theorem rb11_rd3 (b7 b8 : Bool) : Region.ready .any rb11_ops #[true, true, true, true, true, true, true, true, false, false, false, false, false, b7, b8, false, false, false] = (8 :: ((if b7 then [] else [13]) ++ (if b8 then [] else [14])) : List Nat) := by
  cases b7 <;> cases b8 <;> kernel_rfl
theorem rb11_rd4 (b7 b8 : Bool) : Region.ready .any rb11_ops #[true, true, true, true, true, true, true, true, true, true, true, true, true, b7, b8, false, false, false] = (if (b7 && b8) = true then [15] else (if b7 then [] else [13]) ++ (if b8 then [] else [14]) : List Nat) := by
  cases b7 <;> cases b8 <;> kernel_rfl
include hC hFt fin in
set_option maxRecDepth 100000 in
set_option maxHeartbeats 1500000 in
theorem rb11_4 : ∀ (fuel : Nat) (b7 b8 : Bool), 3 + cnt3 b7 b8 true ≤ fuel → ∀ (s7 s8 : Value) (g7 g8 : Nat) (gt : Nat) (V : World) (na : Option Addr) (nk nc : Nat) (la : Option Addr) (lk lc : Nat) (oa : Option Addr) (ol oc : Nat) (f1 f2 : Int) (W0 W : World), R V W0 na nk nc la lk lc oa ol oc f1 f2 → Below W0.heap.size W0 W → Below X.heap.size X W → AlF W X.heap.size b7 s7 g7 #[.slice none 0 0, .slice none 0 0] 25 → AlF W X.heap.size b8 s8 g8 #[.slice none 0 0] 29 → X.heap.size ≤ V.heap.size → (b7 = true → g7 < V.heap.size ∨ W0.heap.size ≤ g7) → (b8 = true → g8 < V.heap.size ∨ W0.heap.size ≤ g8) → wpAnyZ Tryz.prog .any rb11_ops Q 15 (fun W => W.cell? ⟨gM, 0, none⟩ = some nb ∧ W.cell? ⟨gM, 1, none⟩ = some nl ∧ W.cell? ⟨gT, 0, none⟩ = some tb ∧ (W.cell? ⟨gD, 0, none⟩ = some (.int .i64 3) ∧ W.cell? ⟨gD, 1, none⟩ = some (.int .i64 which) ∧ W.cell? ⟨gD, 2, none⟩ = some (.int .i64 0) ∧ W.cell? ⟨gD, 3, none⟩ = some (.int .i64 0)) ∧ W.cell? ⟨gU, 0, none⟩ = some (.int .i64 2) ∧ W.cell? ⟨gU, 1, none⟩ = some (.int .i64 which) ∧ W.cell? ⟨gU, 2, none⟩ = some (.int .i64 0) ∧ W.cell? ⟨gU, 3, none⟩ = some (.int .i64 0)) fuel #[true, true, true, true, true, true, true, true, true, true, true, true, true, b7, b8, false, false, false] { tmps := #[x0, x1, x2, x3, (.int .i64 td), x5, x6, x7, x8, x9, x10, (.pointer (some ⟨gD, 0, none⟩)), (.pointer (some ⟨gU, 0, none⟩)), x13, (.pointer (some ⟨gM, 0, none⟩)), (.pointer (some ⟨gT, 0, none⟩)), (.pointer (some ⟨gF, 0, none⟩)), s7, s8, x19, x20, x21, x22, x23, x24, x25, x26, x27, x28, x29, x30, x31, x32, x33, x34, x35, x36, x37, x38, x39, x40, x41, x42, x43, x44, x45, x46, x47, x48, x49, x50, x51, x52, x53, x54, (.tuple #[.agg #[.slice na nk nc, .slice la lk lc], .agg #[.slice oa ol oc], .agg #[.int .i64 f1, .int .i64 f2]]), (.agg #[nb, nl]), (.agg #[tb]), (.agg #[.int .i64 3, .int .i64 which, .int .i64 0, .int .i64 0]), (.int .i64 td), (.agg #[.int .i64 1, .int .i64 td, .int .i64 0, .int .i64 0]), (.agg #[.int .i64 2, .int .i64 which, .int .i64 0, .int .i64 0]), (.agg #[.int .i64 1, .int .i64 40, .int .i64 0, .int .i64 0]), (.slice (some ⟨gt, 0, none⟩) 4 4), (.tuple #[.agg #[.slice na nk nc, .slice la lk lc], .agg #[.slice oa ol oc], .agg #[.int .i64 f1, .int .i64 f2]]), (.agg #[.slice na nk nc, .slice la lk lc]), (.agg #[.slice oa ol oc]), (.agg #[.int .i64 f1, .int .i64 f2]), x68, x69, x70, x71, x72, x73, x74, x75, x76, x77, x78, x79, x80, x81, x82, x83, x84], defers := df } W := by
  intro fuel
  induction fuel with
  | zero => intro b7 b8 h; omega
  | succ fuel ih =>
    intro b7 b8 hf s7 s8 g7 g8 gt V na nk nc la lk lc oa ol oc f1 f2 W0 W hF hb hX h7 h8 hVX hz7 hz8
    have hHeld : (#[true, true, true, true, true, true, true, true, true, true, true, true, true, b7, b8, false, false, false] : Array Bool).getD 15 true = true ∨ (fun W => W.cell? ⟨gM, 0, none⟩ = some nb ∧ W.cell? ⟨gM, 1, none⟩ = some nl ∧ W.cell? ⟨gT, 0, none⟩ = some tb ∧ (W.cell? ⟨gD, 0, none⟩ = some (.int .i64 3) ∧ W.cell? ⟨gD, 1, none⟩ = some (.int .i64 which) ∧ W.cell? ⟨gD, 2, none⟩ = some (.int .i64 0) ∧ W.cell? ⟨gD, 3, none⟩ = some (.int .i64 0)) ∧ W.cell? ⟨gU, 0, none⟩ = some (.int .i64 2) ∧ W.cell? ⟨gU, 1, none⟩ = some (.int .i64 which) ∧ W.cell? ⟨gU, 2, none⟩ = some (.int .i64 0) ∧ W.cell? ⟨gU, 3, none⟩ = some (.int .i64 0)) W := Or.inr (hC W hX)
    by_cases hall : b7 = true ∧ b8 = true
    · obtain ⟨rfl, rfl⟩ := hall
      obtain ⟨rfl, k7, l7⟩ := h7 rfl
      obtain ⟨rfl, k8, l8⟩ := h8 rfl
      have k9 := keep hFt hX
      have l9 := lt_some hFt
      have hfin := fin gt V na nk nc la lk lc oa ol oc f1 f2 g7 g8 W0 W hF hb hX ⟨k7, k8, k9⟩ ⟨l7, l8, l9, hVX⟩ ⟨hz7 rfl, hz8 rfl⟩
      have n78 : g7 ≠ g8 := fun e => by subst e; exact absurd (cells_type k7 k8) (by decide)
      have n79 : g7 ≠ gF := by omega
      have n89 : g8 ≠ gF := by omega
      have n87 := n78.symm
      have n97 := n79.symm
      have n98 := n89.symm
      obtain ⟨u0, u1⟩ := two_cells2 k7
      have u2 := one_cell k8
      obtain ⟨u3, u4⟩ := two_cells2 k9
      have v0 : W.frozen? ⟨g7, 0, none⟩ = false := frozen_of_row _ _ _ _ _ k7
      have v1 : W.frozen? ⟨g7, 1, none⟩ = false := frozen_of_row _ _ _ _ _ k7
      have v2 : W.frozen? ⟨g8, 0, none⟩ = false := frozen_of_row _ _ _ _ _ k8
      have v3 : W.frozen? ⟨gF, 0, none⟩ = false := frozen_of_row _ _ _ _ _ k9
      have v4 : W.frozen? ⟨gF, 1, none⟩ = false := frozen_of_row _ _ _ _ _ k9
      obtain ⟨fuel, rfl⟩ : ∃ q, fuel = q + 1 + 1 := ⟨fuel - 2, by simp [cnt3] at hf; omega⟩
      clear k7 k8 k9 fin ih hz7 hz8 h7 h8
      refine z_one (i := 15) (o := { dst := none, op := Op.store 25 (Operand.tmp 17) (Operand.tmp 65), type := 0, pos := "law.go:283", after := #[{ on := 13, ground := Ground.data }, { on := 10, ground := Ground.data }, { on := 8, ground := Ground.chain }, { on := 0, ground := Ground.phase }, { on := 1, ground := Ground.phase }, { on := 2, ground := Ground.phase }, { on := 3, ground := Ground.phase }, { on := 4, ground := Ground.phase }, { on := 5, ground := Ground.phase }, { on := 6, ground := Ground.phase }, { on := 7, ground := Ground.phase }, { on := 8, ground := Ground.phase }, { on := 9, ground := Ground.phase }, { on := 10, ground := Ground.phase }, { on := 11, ground := Ground.textOnly Departure.lateStores }, { on := 12, ground := Ground.textOnly Departure.lateStores }, { on := 13, ground := Ground.phase }, { on := 14, ground := Ground.phase }], guard := none }) (by kernel_rfl) rfl (fun K hK => ?_)
      go_simp
      refine hK.out _ _ (Or.inl (by kernel_rfl)) (fun hHeld => ?_)
      clear hK K
      (try simp only [List.setIfInBounds_toArray, List.set_cons_zero, List.set_cons_succ])
      refine z_one (i := 16) (o := { dst := none, op := Op.store 29 (Operand.tmp 18) (Operand.tmp 66), type := 0, pos := "law.go:283", after := #[{ on := 14, ground := Ground.data }, { on := 11, ground := Ground.data }, { on := 15, ground := Ground.chain }, { on := 0, ground := Ground.phase }, { on := 1, ground := Ground.phase }, { on := 2, ground := Ground.phase }, { on := 3, ground := Ground.phase }, { on := 4, ground := Ground.phase }, { on := 5, ground := Ground.phase }, { on := 6, ground := Ground.phase }, { on := 7, ground := Ground.phase }, { on := 8, ground := Ground.phase }, { on := 9, ground := Ground.phase }, { on := 10, ground := Ground.phase }, { on := 11, ground := Ground.phase }, { on := 12, ground := Ground.textOnly Departure.lateStores }, { on := 13, ground := Ground.phase }, { on := 14, ground := Ground.phase }, { on := 15, ground := Ground.phase }], guard := none }) (by kernel_rfl) rfl (fun K hK => ?_)
      go_simp
      refine hK.out _ _ (Or.inl (by kernel_rfl)) (fun hHeld => ?_)
      clear hK K
      (try simp only [List.setIfInBounds_toArray, List.set_cons_zero, List.set_cons_succ])
      refine z_one (i := 17) (o := { dst := none, op := Op.store 32 (Operand.tmp 16) (Operand.tmp 67), type := 0, pos := "law.go:283", after := #[{ on := 12, ground := Ground.data }, { on := 16, ground := Ground.chain }, { on := 0, ground := Ground.phase }, { on := 1, ground := Ground.phase }, { on := 2, ground := Ground.phase }, { on := 3, ground := Ground.phase }, { on := 4, ground := Ground.phase }, { on := 5, ground := Ground.phase }, { on := 6, ground := Ground.phase }, { on := 7, ground := Ground.phase }, { on := 8, ground := Ground.phase }, { on := 9, ground := Ground.phase }, { on := 10, ground := Ground.phase }, { on := 11, ground := Ground.phase }, { on := 12, ground := Ground.phase }, { on := 13, ground := Ground.phase }, { on := 14, ground := Ground.phase }, { on := 15, ground := Ground.phase }, { on := 16, ground := Ground.phase }], guard := none }) (by kernel_rfl) rfl (fun K hK => ?_)
      go_simp
      refine hK.out _ _ (Or.inl (by kernel_rfl)) (fun hHeld => ?_)
      clear hK K
      (try simp only [List.setIfInBounds_toArray, List.set_cons_zero, List.set_cons_succ])
      refine z_done (by kernel_rfl) ?_ _
      exact hfin
    · refine z_mem (rb11_rd4 b7 b8) (by revert hall; cases b7 <;> cases b8 <;> simp) (fun i hi => ?_)
      rw [if_neg (by revert hall; cases b7 <;> cases b8 <;> simp)] at hi
      simp only [List.mem_append] at hi
      rcases hi with hi | hi
      · cases b7 with
        | true => simp at hi
        | false =>
          obtain rfl : i = 13 := by simpa using hi
          refine z_op (o := { dst := some 17, op := Op.alloc 25, type := 0, pos := "law.go:283", after := #[], guard := none }) rfl (fun K hK => ?_)
          go_simp
          have hn : Below W.heap.size W (W.alloc (.cells #[.slice none 0 0, .slice none 0 0] 25)) := below_alloc1 _ _
          have hXn := hX.trans (hn.mono hX.size)
          refine hK.out _ _ (Or.inr (hC _ hXn)) ?_
          (try simp only [List.setIfInBounds_toArray, List.set_cons_zero, List.set_cons_succ])
          exact ih true b8 (by revert hf; cases b8 <;> simp [cnt3] <;> omega) _ s8 W.heap.size g8 gt V na nk nc la lk lc oa ol oc f1 f2 W0 _ hF (hb.trans (hn.mono hb.size)) hXn (AlF.new W hX.size _ _ _) (h8.below hn) hVX (fun _ => Or.inr hb.size) hz8
      · cases b8 with
        | true => simp at hi
        | false =>
          obtain rfl : i = 14 := by simpa using hi
          refine z_op (o := { dst := some 18, op := Op.alloc 29, type := 0, pos := "law.go:283", after := #[], guard := none }) rfl (fun K hK => ?_)
          go_simp
          have hn : Below W.heap.size W (W.alloc (.cells #[.slice none 0 0] 29)) := below_alloc1 _ _
          have hXn := hX.trans (hn.mono hX.size)
          refine hK.out _ _ (Or.inr (hC _ hXn)) ?_
          (try simp only [List.setIfInBounds_toArray, List.set_cons_zero, List.set_cons_succ])
          exact ih b7 true (by revert hf; cases b7 <;> simp [cnt3] <;> omega) s7 _ g7 W.heap.size gt V na nk nc la lk lc oa ol oc f1 f2 W0 _ hF (hb.trans (hn.mono hb.size)) hXn (h7.below hn) (AlF.new W hX.size _ _ _) hVX hz7 (fun _ => Or.inr hb.size)
include hQ hC hFt hP fin in
set_option maxRecDepth 100000 in
set_option maxHeartbeats 1500000 in
theorem rb11_3 : ∀ (fuel : Nat) (b7 b8 : Bool), 8 + cnt3 b7 b8 true ≤ fuel → ∀ (s7 s8 : Value) (g7 g8 : Nat) (gt : Nat) (W0 W : World), W0.heap[gt]? = some (.cells #[.int .i64 3, .int .i64 which, .int .i64 0, .int .i64 0, .int .i64 1, .int .i64 td, .int .i64 0, .int .i64 0, .int .i64 2, .int .i64 which, .int .i64 0, .int .i64 0, .int .i64 1, .int .i64 40, .int .i64 0, .int .i64 0] 45 (0, 0)) → Below W0.heap.size W0 W → Below X.heap.size X W → AlF W X.heap.size b7 s7 g7 #[.slice none 0 0, .slice none 0 0] 25 → AlF W X.heap.size b8 s8 g8 #[.slice none 0 0] 29 → wpAnyZ Tryz.prog .any rb11_ops Q 15 (fun W => W.cell? ⟨gM, 0, none⟩ = some nb ∧ W.cell? ⟨gM, 1, none⟩ = some nl ∧ W.cell? ⟨gT, 0, none⟩ = some tb ∧ (W.cell? ⟨gD, 0, none⟩ = some (.int .i64 3) ∧ W.cell? ⟨gD, 1, none⟩ = some (.int .i64 which) ∧ W.cell? ⟨gD, 2, none⟩ = some (.int .i64 0) ∧ W.cell? ⟨gD, 3, none⟩ = some (.int .i64 0)) ∧ W.cell? ⟨gU, 0, none⟩ = some (.int .i64 2) ∧ W.cell? ⟨gU, 1, none⟩ = some (.int .i64 which) ∧ W.cell? ⟨gU, 2, none⟩ = some (.int .i64 0) ∧ W.cell? ⟨gU, 3, none⟩ = some (.int .i64 0)) fuel #[true, true, true, true, true, true, true, true, false, false, false, false, false, b7, b8, false, false, false] { tmps := #[x0, x1, x2, x3, (.int .i64 td), x5, x6, x7, x8, x9, x10, (.pointer (some ⟨gD, 0, none⟩)), (.pointer (some ⟨gU, 0, none⟩)), x13, (.pointer (some ⟨gM, 0, none⟩)), (.pointer (some ⟨gT, 0, none⟩)), (.pointer (some ⟨gF, 0, none⟩)), s7, s8, x19, x20, x21, x22, x23, x24, x25, x26, x27, x28, x29, x30, x31, x32, x33, x34, x35, x36, x37, x38, x39, x40, x41, x42, x43, x44, x45, x46, x47, x48, x49, x50, x51, x52, x53, x54, x55, (.agg #[nb, nl]), (.agg #[tb]), (.agg #[.int .i64 3, .int .i64 which, .int .i64 0, .int .i64 0]), (.int .i64 td), (.agg #[.int .i64 1, .int .i64 td, .int .i64 0, .int .i64 0]), (.agg #[.int .i64 2, .int .i64 which, .int .i64 0, .int .i64 0]), (.agg #[.int .i64 1, .int .i64 40, .int .i64 0, .int .i64 0]), (.slice (some ⟨gt, 0, none⟩) 4 4), x64, x65, x66, x67, x68, x69, x70, x71, x72, x73, x74, x75, x76, x77, x78, x79, x80, x81, x82, x83, x84], defers := df } W := by
  intro fuel
  induction fuel with
  | zero => intro b7 b8 h; omega
  | succ fuel ih =>
    intro b7 b8 hf s7 s8 g7 g8 gt W0 W hF hb hX h7 h8 
    refine z_mem (rb11_rd3 b7 b8) (by simp) (fun i hi => ?_)
    simp only [List.mem_cons, List.mem_append] at hi
    rcases hi with rfl | hi | hi
    · refine z_op (o := { dst := some 64, op := Op.call { callee := Callee.value (Operand.func 20), args := #[Operand.tmp 56, Operand.tmp 57, Operand.tmp 63], argTypes := #[25, 29, 26] }, type := 36, pos := "law.go:283", after := #[{ on := 0, ground := Ground.data }, { on := 1, ground := Ground.data }, { on := 7, ground := Ground.data }, { on := 6, ground := Ground.chain }], guard := none }) rfl (fun K hK => ?_)
      go_simp
      refine (hP W gt hX (back_row (keep hF hb))).mono ?_
      rintro e w2 ⟨na, nk, nc, la, lk, lc, oa, ol, oc, f1, f2, rfl, H⟩
      have hn := H.out.1
      have hXn := hX.trans (hn.mono hX.size)
      refine hK.out _ _ (Or.inr (hC _ hXn)) ?_
      (try simp only [List.setIfInBounds_toArray, List.set_cons_zero, List.set_cons_succ])
      obtain ⟨fuel, rfl⟩ : ∃ q, fuel = q + 1 + 1 + 1 + 1 := ⟨fuel - 4, by omega⟩
      refine z_take (i := 9) (oi := { dst := some 55, op := Op.move (Operand.tmp 64), type := 36, pos := "law.go:283", after := #[{ on := 8, ground := Ground.data }], guard := none }) (v := ?_) (some 55) rfl rfl (by cases b7 <;> cases b8 <;> kernel_rfl) (by cases b7 <;> cases b8 <;> kernel_rfl) (by cases b7 <;> cases b8 <;> kernel_rfl) (by decide) (fun c a w h => hQ c a _ _ w h) (by rfl) ?_ (Or.inr (hC _ hXn)) ?_
      rotate_left 1
      · (intro wq; go_simp; try with_reducible rfl)
      (try simp only [Act.put, List.setIfInBounds_toArray, List.set_cons_zero, List.set_cons_succ])
      refine z_take (i := 10) (oi := { dst := some 65, op := Op.extract (Operand.tmp 55) 0, type := 25, pos := "law.go:283", after := #[{ on := 9, ground := Ground.data }], guard := none }) (v := ?_) (some 65) rfl rfl (by cases b7 <;> cases b8 <;> kernel_rfl) (by cases b7 <;> cases b8 <;> kernel_rfl) (by cases b7 <;> cases b8 <;> kernel_rfl) (by decide) (fun c a w h => hQ c a _ _ w h) (by rfl) ?_ (Or.inr (hC _ hXn)) ?_
      rotate_left 1
      · (intro wq; go_simp; try with_reducible rfl)
      (try simp only [Act.put, List.setIfInBounds_toArray, List.set_cons_zero, List.set_cons_succ])
      refine z_take (i := 11) (oi := { dst := some 66, op := Op.extract (Operand.tmp 55) 1, type := 29, pos := "law.go:283", after := #[{ on := 9, ground := Ground.data }, { on := 15, ground := Ground.gcOnly Departure.lateStores }], guard := none }) (v := ?_) (some 66) rfl rfl (by cases b7 <;> cases b8 <;> kernel_rfl) (by cases b7 <;> cases b8 <;> kernel_rfl) (by cases b7 <;> cases b8 <;> kernel_rfl) (by decide) (fun c a w h => hQ c a _ _ w h) (by rfl) ?_ (Or.inr (hC _ hXn)) ?_
      rotate_left 1
      · (intro wq; go_simp; try with_reducible rfl)
      (try simp only [Act.put, List.setIfInBounds_toArray, List.set_cons_zero, List.set_cons_succ])
      refine z_take (i := 12) (oi := { dst := some 67, op := Op.extract (Operand.tmp 55) 2, type := 32, pos := "law.go:283", after := #[{ on := 9, ground := Ground.data }, { on := 16, ground := Ground.gcOnly Departure.lateStores }], guard := none }) (v := ?_) (some 67) rfl rfl (by cases b7 <;> cases b8 <;> kernel_rfl) (by cases b7 <;> cases b8 <;> kernel_rfl) (by cases b7 <;> cases b8 <;> kernel_rfl) (by decide) (fun c a w h => hQ c a _ _ w h) (by rfl) ?_ (Or.inr (hC _ hXn)) ?_
      rotate_left 1
      · (intro wq; go_simp; try with_reducible rfl)
      (try simp only [Act.put, List.setIfInBounds_toArray, List.set_cons_zero, List.set_cons_succ])
      exact rb11_4 df X gM gT gF gD gU nb nl tb p1 p2 which td R x0 x1 x2 x3 x5 x6 x7 x8 x9 x10 x13 x19 x20 x21 x22 x23 x24 x25 x26 x27 x28 x29 x30 x31 x32 x33 x34 x35 x36 x37 x38 x39 x40 x41 x42 x43 x44 x45 x46 x47 x48 x49 x50 x51 x52 x53 x54 x68 x69 x70 x71 x72 x73 x74 x75 x76 x77 x78 x79 x80 x81 x82 x83 x84 hC hFt fin fuel b7 b8 (by omega) s7 s8 g7 g8 gt W na nk nc la lk lc oa ol oc f1 f2 w2 w2 H.out.2 (Below.refl _ _) hXn (h7.below hn) (h8.below hn) hX.size (fun e => Or.inl (lt_some (h7 e).2.1)) (fun e => Or.inl (lt_some (h8 e).2.1))
    · cases b7 with
      | true => simp at hi
      | false =>
        obtain rfl : i = 13 := by simpa using hi
        refine z_op (o := { dst := some 17, op := Op.alloc 25, type := 0, pos := "law.go:283", after := #[], guard := none }) rfl (fun K hK => ?_)
        go_simp
        have hn : Below W.heap.size W (W.alloc (.cells #[.slice none 0 0, .slice none 0 0] 25)) := below_alloc1 _ _
        have hXn := hX.trans (hn.mono hX.size)
        refine hK.out _ _ (Or.inr (hC _ hXn)) ?_
        (try simp only [List.setIfInBounds_toArray, List.set_cons_zero, List.set_cons_succ])
        exact ih true b8 (by revert hf; cases b8 <;> simp [cnt3] <;> omega) _ s8 W.heap.size g8 gt W0 _ hF (hb.trans (hn.mono hb.size)) hXn (AlF.new W hX.size _ _ _) (h8.below hn) 
    · cases b8 with
      | true => simp at hi
      | false =>
        obtain rfl : i = 14 := by simpa using hi
        refine z_op (o := { dst := some 18, op := Op.alloc 29, type := 0, pos := "law.go:283", after := #[], guard := none }) rfl (fun K hK => ?_)
        go_simp
        have hn : Below W.heap.size W (W.alloc (.cells #[.slice none 0 0] 29)) := below_alloc1 _ _
        have hXn := hX.trans (hn.mono hX.size)
        refine hK.out _ _ (Or.inr (hC _ hXn)) ?_
        (try simp only [List.setIfInBounds_toArray, List.set_cons_zero, List.set_cons_succ])
        exact ih b7 true (by revert hf; cases b7 <;> simp [cnt3] <;> omega) s7 _ g7 W.heap.size gt W0 _ hF (hb.trans (hn.mono hb.size)) hXn (h7.below hn) (AlF.new W hX.size _ _ _) 
include hQ hC hFt hP fin in
set_option maxRecDepth 100000 in
set_option maxHeartbeats 1500000 in
theorem rb11_2 : ∀ (fuel : Nat) (b7 b8 : Bool), 9 + cnt3 b7 b8 true ≤ fuel → ∀ (s7 s8 : Value) (g7 g8 : Nat) (W0 W : World), True → Below W0.heap.size W0 W → Below X.heap.size X W → AlF W X.heap.size b7 s7 g7 #[.slice none 0 0, .slice none 0 0] 25 → AlF W X.heap.size b8 s8 g8 #[.slice none 0 0] 29 → wpAnyZ Tryz.prog .any rb11_ops Q 15 (fun W => W.cell? ⟨gM, 0, none⟩ = some nb ∧ W.cell? ⟨gM, 1, none⟩ = some nl ∧ W.cell? ⟨gT, 0, none⟩ = some tb ∧ (W.cell? ⟨gD, 0, none⟩ = some (.int .i64 3) ∧ W.cell? ⟨gD, 1, none⟩ = some (.int .i64 which) ∧ W.cell? ⟨gD, 2, none⟩ = some (.int .i64 0) ∧ W.cell? ⟨gD, 3, none⟩ = some (.int .i64 0)) ∧ W.cell? ⟨gU, 0, none⟩ = some (.int .i64 2) ∧ W.cell? ⟨gU, 1, none⟩ = some (.int .i64 which) ∧ W.cell? ⟨gU, 2, none⟩ = some (.int .i64 0) ∧ W.cell? ⟨gU, 3, none⟩ = some (.int .i64 0)) fuel #[true, true, true, true, true, true, true, false, false, false, false, false, false, b7, b8, false, false, false] { tmps := #[x0, x1, x2, x3, (.int .i64 td), x5, x6, x7, x8, x9, x10, (.pointer (some ⟨gD, 0, none⟩)), (.pointer (some ⟨gU, 0, none⟩)), x13, (.pointer (some ⟨gM, 0, none⟩)), (.pointer (some ⟨gT, 0, none⟩)), (.pointer (some ⟨gF, 0, none⟩)), s7, s8, x19, x20, x21, x22, x23, x24, x25, x26, x27, x28, x29, x30, x31, x32, x33, x34, x35, x36, x37, x38, x39, x40, x41, x42, x43, x44, x45, x46, x47, x48, x49, x50, x51, x52, x53, x54, x55, (.agg #[nb, nl]), (.agg #[tb]), (.agg #[.int .i64 3, .int .i64 which, .int .i64 0, .int .i64 0]), (.int .i64 td), (.agg #[.int .i64 1, .int .i64 td, .int .i64 0, .int .i64 0]), (.agg #[.int .i64 2, .int .i64 which, .int .i64 0, .int .i64 0]), (.agg #[.int .i64 1, .int .i64 40, .int .i64 0, .int .i64 0]), x63, x64, x65, x66, x67, x68, x69, x70, x71, x72, x73, x74, x75, x76, x77, x78, x79, x80, x81, x82, x83, x84], defers := df } W := by
  intro fuel
  induction fuel with
  | zero => intro b7 b8 h; omega
  | succ fuel ih =>
    intro b7 b8 hf s7 s8 g7 g8 W0 W hF hb hX h7 h8 
    refine z_mem (rb11_rd2 b7 b8) (by simp) (fun i hi => ?_)
    simp only [List.mem_cons, List.mem_append] at hi
    rcases hi with rfl | hi | hi
    · refine z_op (o := { dst := some 63, op := Op.buildSlice 26 4 #[(0, Operand.tmp 58), (1, Operand.tmp 60), (2, Operand.tmp 61), (3, Operand.tmp 62)], type := 26, pos := "law.go:283", after := #[{ on := 2, ground := Ground.data }, { on := 4, ground := Ground.data }, { on := 5, ground := Ground.data }, { on := 6, ground := Ground.data }], guard := none }) rfl (fun K hK => ?_)
      go_simp
      have hn : Below W.heap.size W (W.alloc (.cells #[.int .i64 3, .int .i64 which, .int .i64 0, .int .i64 0, .int .i64 1, .int .i64 td, .int .i64 0, .int .i64 0, .int .i64 2, .int .i64 which, .int .i64 0, .int .i64 0, .int .i64 1, .int .i64 40, .int .i64 0, .int .i64 0] 45)) := below_alloc1 _ _
      have hXn := hX.trans (hn.mono hX.size)
      refine hK.out _ _ (Or.inr (hC _ hXn)) ?_
      (try simp only [List.setIfInBounds_toArray, List.set_cons_zero, List.set_cons_succ])
      exact rb11_3 df X gM gT gF gD gU nb nl tb p1 p2 which td R x0 x1 x2 x3 x5 x6 x7 x8 x9 x10 x13 x19 x20 x21 x22 x23 x24 x25 x26 x27 x28 x29 x30 x31 x32 x33 x34 x35 x36 x37 x38 x39 x40 x41 x42 x43 x44 x45 x46 x47 x48 x49 x50 x51 x52 x53 x54 x55 x64 x65 x66 x67 x68 x69 x70 x71 x72 x73 x74 x75 x76 x77 x78 x79 x80 x81 x82 x83 x84 hQ hC hFt hP fin fuel b7 b8 (by omega) s7 s8 g7 g8 W.heap.size _ _ (heap_alloc_last _ _) (Below.refl _ _) hXn (h7.below hn) (h8.below hn)
    · cases b7 with
      | true => simp at hi
      | false =>
        obtain rfl : i = 13 := by simpa using hi
        refine z_op (o := { dst := some 17, op := Op.alloc 25, type := 0, pos := "law.go:283", after := #[], guard := none }) rfl (fun K hK => ?_)
        go_simp
        have hn : Below W.heap.size W (W.alloc (.cells #[.slice none 0 0, .slice none 0 0] 25)) := below_alloc1 _ _
        have hXn := hX.trans (hn.mono hX.size)
        refine hK.out _ _ (Or.inr (hC _ hXn)) ?_
        (try simp only [List.setIfInBounds_toArray, List.set_cons_zero, List.set_cons_succ])
        exact ih true b8 (by revert hf; cases b8 <;> simp [cnt3] <;> omega) _ s8 W.heap.size g8 W0 _ hF (hb.trans (hn.mono hb.size)) hXn (AlF.new W hX.size _ _ _) (h8.below hn) 
    · cases b8 with
      | true => simp at hi
      | false =>
        obtain rfl : i = 14 := by simpa using hi
        refine z_op (o := { dst := some 18, op := Op.alloc 29, type := 0, pos := "law.go:283", after := #[], guard := none }) rfl (fun K hK => ?_)
        go_simp
        have hn : Below W.heap.size W (W.alloc (.cells #[.slice none 0 0] 29)) := below_alloc1 _ _
        have hXn := hX.trans (hn.mono hX.size)
        refine hK.out _ _ (Or.inr (hC _ hXn)) ?_
        (try simp only [List.setIfInBounds_toArray, List.set_cons_zero, List.set_cons_succ])
        exact ih b7 true (by revert hf; cases b7 <;> simp [cnt3] <;> omega) s7 _ g7 W.heap.size W0 _ hF (hb.trans (hn.mono hb.size)) hXn (h7.below hn) (AlF.new W hX.size _ _ _) 
include hQ hC hFt hT hP fin in
set_option maxRecDepth 100000 in
set_option maxHeartbeats 1500000 in
theorem rb11_1 : ∀ (fuel : Nat) (b7 b8 : Bool), 10 + cnt3 b7 b8 true ≤ fuel → ∀ (s7 s8 : Value) (g7 g8 : Nat) (W0 W : World), True → Below W0.heap.size W0 W → Below X.heap.size X W → AlF W X.heap.size b7 s7 g7 #[.slice none 0 0, .slice none 0 0] 25 → AlF W X.heap.size b8 s8 g8 #[.slice none 0 0] 29 → wpAnyZ Tryz.prog .any rb11_ops Q 15 (fun W => W.cell? ⟨gM, 0, none⟩ = some nb ∧ W.cell? ⟨gM, 1, none⟩ = some nl ∧ W.cell? ⟨gT, 0, none⟩ = some tb ∧ (W.cell? ⟨gD, 0, none⟩ = some (.int .i64 3) ∧ W.cell? ⟨gD, 1, none⟩ = some (.int .i64 which) ∧ W.cell? ⟨gD, 2, none⟩ = some (.int .i64 0) ∧ W.cell? ⟨gD, 3, none⟩ = some (.int .i64 0)) ∧ W.cell? ⟨gU, 0, none⟩ = some (.int .i64 2) ∧ W.cell? ⟨gU, 1, none⟩ = some (.int .i64 which) ∧ W.cell? ⟨gU, 2, none⟩ = some (.int .i64 0) ∧ W.cell? ⟨gU, 3, none⟩ = some (.int .i64 0)) fuel #[true, true, true, true, true, true, false, false, false, false, false, false, false, b7, b8, false, false, false] { tmps := #[x0, x1, x2, x3, (.int .i64 td), x5, x6, x7, x8, x9, x10, (.pointer (some ⟨gD, 0, none⟩)), (.pointer (some ⟨gU, 0, none⟩)), x13, (.pointer (some ⟨gM, 0, none⟩)), (.pointer (some ⟨gT, 0, none⟩)), (.pointer (some ⟨gF, 0, none⟩)), s7, s8, x19, x20, x21, x22, x23, x24, x25, x26, x27, x28, x29, x30, x31, x32, x33, x34, x35, x36, x37, x38, x39, x40, x41, x42, x43, x44, x45, x46, x47, x48, x49, x50, x51, x52, x53, x54, x55, (.agg #[nb, nl]), (.agg #[tb]), (.agg #[.int .i64 3, .int .i64 which, .int .i64 0, .int .i64 0]), (.int .i64 td), (.agg #[.int .i64 1, .int .i64 td, .int .i64 0, .int .i64 0]), (.agg #[.int .i64 2, .int .i64 which, .int .i64 0, .int .i64 0]), x62, x63, x64, x65, x66, x67, x68, x69, x70, x71, x72, x73, x74, x75, x76, x77, x78, x79, x80, x81, x82, x83, x84], defers := df } W := by
  intro fuel
  induction fuel with
  | zero => intro b7 b8 h; omega
  | succ fuel ih =>
    intro b7 b8 hf s7 s8 g7 g8 W0 W hF hb hX h7 h8 
    refine z_mem (rb11_rd1 b7 b8) (by simp) (fun i hi => ?_)
    simp only [List.mem_cons, List.mem_append] at hi
    rcases hi with rfl | hi | hi
    · refine z_op (o := { dst := some 62, op := Op.call { callee := Callee.value (Operand.func 23), args := #[Operand.const (Value.int IntKind.i64 40)], argTypes := #[3] }, type := 45, pos := "law.go:283", after := #[{ on := 4, ground := Ground.chain }], guard := none }) rfl (fun K hK => ?_)
      go_simp
      refine (hT 40 W).mono ?_
      rintro e w2 ⟨rfl, hn⟩
      have hXn := hX.trans (hn.mono hX.size)
      refine hK.out _ _ (Or.inr (hC _ hXn)) ?_
      (try simp only [List.setIfInBounds_toArray, List.set_cons_zero, List.set_cons_succ])
      exact rb11_2 df X gM gT gF gD gU nb nl tb p1 p2 which td R x0 x1 x2 x3 x5 x6 x7 x8 x9 x10 x13 x19 x20 x21 x22 x23 x24 x25 x26 x27 x28 x29 x30 x31 x32 x33 x34 x35 x36 x37 x38 x39 x40 x41 x42 x43 x44 x45 x46 x47 x48 x49 x50 x51 x52 x53 x54 x55 x63 x64 x65 x66 x67 x68 x69 x70 x71 x72 x73 x74 x75 x76 x77 x78 x79 x80 x81 x82 x83 x84 hQ hC hFt hP fin fuel b7 b8 (by omega) s7 s8 g7 g8 w2 w2 trivial (Below.refl _ _) hXn (h7.below hn) (h8.below hn)
    · cases b7 with
      | true => simp at hi
      | false =>
        obtain rfl : i = 13 := by simpa using hi
        refine z_op (o := { dst := some 17, op := Op.alloc 25, type := 0, pos := "law.go:283", after := #[], guard := none }) rfl (fun K hK => ?_)
        go_simp
        have hn : Below W.heap.size W (W.alloc (.cells #[.slice none 0 0, .slice none 0 0] 25)) := below_alloc1 _ _
        have hXn := hX.trans (hn.mono hX.size)
        refine hK.out _ _ (Or.inr (hC _ hXn)) ?_
        (try simp only [List.setIfInBounds_toArray, List.set_cons_zero, List.set_cons_succ])
        exact ih true b8 (by revert hf; cases b8 <;> simp [cnt3] <;> omega) _ s8 W.heap.size g8 W0 _ hF (hb.trans (hn.mono hb.size)) hXn (AlF.new W hX.size _ _ _) (h8.below hn) 
    · cases b8 with
      | true => simp at hi
      | false =>
        obtain rfl : i = 14 := by simpa using hi
        refine z_op (o := { dst := some 18, op := Op.alloc 29, type := 0, pos := "law.go:283", after := #[], guard := none }) rfl (fun K hK => ?_)
        go_simp
        have hn : Below W.heap.size W (W.alloc (.cells #[.slice none 0 0] 29)) := below_alloc1 _ _
        have hXn := hX.trans (hn.mono hX.size)
        refine hK.out _ _ (Or.inr (hC _ hXn)) ?_
        (try simp only [List.setIfInBounds_toArray, List.set_cons_zero, List.set_cons_succ])
        exact ih b7 true (by revert hf; cases b7 <;> simp [cnt3] <;> omega) s7 _ g7 W.heap.size W0 _ hF (hb.trans (hn.mono hb.size)) hXn (h7.below hn) (AlF.new W hX.size _ _ _) 
include hQ hC hFt hT hP fin in
set_option maxRecDepth 100000 in
set_option maxHeartbeats 1500000 in
theorem rb11_0 : ∀ (fuel : Nat) (b7 b8 : Bool), 11 + cnt3 b7 b8 true ≤ fuel → ∀ (s7 s8 : Value) (g7 g8 : Nat) (W0 W : World), True → Below W0.heap.size W0 W → Below X.heap.size X W → AlF W X.heap.size b7 s7 g7 #[.slice none 0 0, .slice none 0 0] 25 → AlF W X.heap.size b8 s8 g8 #[.slice none 0 0] 29 → wpAnyZ Tryz.prog .any rb11_ops Q 15 (fun W => W.cell? ⟨gM, 0, none⟩ = some nb ∧ W.cell? ⟨gM, 1, none⟩ = some nl ∧ W.cell? ⟨gT, 0, none⟩ = some tb ∧ (W.cell? ⟨gD, 0, none⟩ = some (.int .i64 3) ∧ W.cell? ⟨gD, 1, none⟩ = some (.int .i64 which) ∧ W.cell? ⟨gD, 2, none⟩ = some (.int .i64 0) ∧ W.cell? ⟨gD, 3, none⟩ = some (.int .i64 0)) ∧ W.cell? ⟨gU, 0, none⟩ = some (.int .i64 2) ∧ W.cell? ⟨gU, 1, none⟩ = some (.int .i64 which) ∧ W.cell? ⟨gU, 2, none⟩ = some (.int .i64 0) ∧ W.cell? ⟨gU, 3, none⟩ = some (.int .i64 0)) fuel #[true, true, true, true, false, true, false, false, false, false, false, false, false, b7, b8, false, false, false] { tmps := #[x0, x1, x2, x3, (.int .i64 td), x5, x6, x7, x8, x9, x10, (.pointer (some ⟨gD, 0, none⟩)), (.pointer (some ⟨gU, 0, none⟩)), x13, (.pointer (some ⟨gM, 0, none⟩)), (.pointer (some ⟨gT, 0, none⟩)), (.pointer (some ⟨gF, 0, none⟩)), s7, s8, x19, x20, x21, x22, x23, x24, x25, x26, x27, x28, x29, x30, x31, x32, x33, x34, x35, x36, x37, x38, x39, x40, x41, x42, x43, x44, x45, x46, x47, x48, x49, x50, x51, x52, x53, x54, x55, (.agg #[nb, nl]), (.agg #[tb]), (.agg #[.int .i64 3, .int .i64 which, .int .i64 0, .int .i64 0]), (.int .i64 td), x60, (.agg #[.int .i64 2, .int .i64 which, .int .i64 0, .int .i64 0]), x62, x63, x64, x65, x66, x67, x68, x69, x70, x71, x72, x73, x74, x75, x76, x77, x78, x79, x80, x81, x82, x83, x84], defers := df } W := by
  intro fuel
  induction fuel with
  | zero => intro b7 b8 h; omega
  | succ fuel ih =>
    intro b7 b8 hf s7 s8 g7 g8 W0 W hF hb hX h7 h8 
    refine z_mem (rb11_rd0 b7 b8) (by simp) (fun i hi => ?_)
    simp only [List.mem_cons, List.mem_append] at hi
    rcases hi with rfl | hi | hi
    · refine z_op (o := { dst := some 60, op := Op.call { callee := Callee.value (Operand.func 23), args := #[Operand.tmp 59], argTypes := #[3] }, type := 45, pos := "law.go:283", after := #[{ on := 3, ground := Ground.data }], guard := none }) rfl (fun K hK => ?_)
      go_simp
      refine (hT td W).mono ?_
      rintro e w2 ⟨rfl, hn⟩
      have hXn := hX.trans (hn.mono hX.size)
      refine hK.out _ _ (Or.inr (hC _ hXn)) ?_
      (try simp only [List.setIfInBounds_toArray, List.set_cons_zero, List.set_cons_succ])
      exact rb11_1 df X gM gT gF gD gU nb nl tb p1 p2 which td R x0 x1 x2 x3 x5 x6 x7 x8 x9 x10 x13 x19 x20 x21 x22 x23 x24 x25 x26 x27 x28 x29 x30 x31 x32 x33 x34 x35 x36 x37 x38 x39 x40 x41 x42 x43 x44 x45 x46 x47 x48 x49 x50 x51 x52 x53 x54 x55 x62 x63 x64 x65 x66 x67 x68 x69 x70 x71 x72 x73 x74 x75 x76 x77 x78 x79 x80 x81 x82 x83 x84 hQ hC hFt hT hP fin fuel b7 b8 (by omega) s7 s8 g7 g8 w2 w2 trivial (Below.refl _ _) hXn (h7.below hn) (h8.below hn)
    · cases b7 with
      | true => simp at hi
      | false =>
        obtain rfl : i = 13 := by simpa using hi
        refine z_op (o := { dst := some 17, op := Op.alloc 25, type := 0, pos := "law.go:283", after := #[], guard := none }) rfl (fun K hK => ?_)
        go_simp
        have hn : Below W.heap.size W (W.alloc (.cells #[.slice none 0 0, .slice none 0 0] 25)) := below_alloc1 _ _
        have hXn := hX.trans (hn.mono hX.size)
        refine hK.out _ _ (Or.inr (hC _ hXn)) ?_
        (try simp only [List.setIfInBounds_toArray, List.set_cons_zero, List.set_cons_succ])
        exact ih true b8 (by revert hf; cases b8 <;> simp [cnt3] <;> omega) _ s8 W.heap.size g8 W0 _ hF (hb.trans (hn.mono hb.size)) hXn (AlF.new W hX.size _ _ _) (h8.below hn) 
    · cases b8 with
      | true => simp at hi
      | false =>
        obtain rfl : i = 14 := by simpa using hi
        refine z_op (o := { dst := some 18, op := Op.alloc 29, type := 0, pos := "law.go:283", after := #[], guard := none }) rfl (fun K hK => ?_)
        go_simp
        have hn : Below W.heap.size W (W.alloc (.cells #[.slice none 0 0] 29)) := below_alloc1 _ _
        have hXn := hX.trans (hn.mono hX.size)
        refine hK.out _ _ (Or.inr (hC _ hXn)) ?_
        (try simp only [List.setIfInBounds_toArray, List.set_cons_zero, List.set_cons_succ])
        exact ih b7 true (by revert hf; cases b7 <;> simp [cnt3] <;> omega) s7 _ g7 W.heap.size W0 _ hF (hb.trans (hn.mono hb.size)) hXn (h7.below hn) (AlF.new W hX.size _ _ _) 
include hQ hC hFt hT hP fin in
set_option maxHeartbeats 1500000 in
theorem rb11 (x17 x18 x56 x57 x58 x59 x61 : Value) : (Code.region 11 rb11_ops true).wp Tryz.prog Q { tmps := #[x0, x1, x2, x3, (.int .i64 td), x5, x6, x7, x8, x9, x10, (.pointer (some ⟨gD, 0, none⟩)), (.pointer (some ⟨gU, 0, none⟩)), x13, (.pointer (some ⟨gM, 0, none⟩)), (.pointer (some ⟨gT, 0, none⟩)), (.pointer (some ⟨gF, 0, none⟩)), x17, x18, x19, x20, x21, x22, x23, x24, x25, x26, x27, x28, x29, x30, x31, x32, x33, x34, x35, x36, x37, x38, x39, x40, x41, x42, x43, x44, x45, x46, x47, x48, x49, x50, x51, x52, x53, x54, x55, x56, x57, x58, x59, x60, x61, x62, x63, x64, x65, x66, x67, x68, x69, x70, x71, x72, x73, x74, x75, x76, x77, x78, x79, x80, x81, x82, x83, x84], defers := df } X := by
  have hXd : Below X.heap.size X X.drew := Below.drew (Below.refl _ _)
  refine wp_region_z (z := 15) (C := fun W => W.cell? ⟨gM, 0, none⟩ = some nb ∧ W.cell? ⟨gM, 1, none⟩ = some nl ∧ W.cell? ⟨gT, 0, none⟩ = some tb ∧ (W.cell? ⟨gD, 0, none⟩ = some (.int .i64 3) ∧ W.cell? ⟨gD, 1, none⟩ = some (.int .i64 which) ∧ W.cell? ⟨gD, 2, none⟩ = some (.int .i64 0) ∧ W.cell? ⟨gD, 3, none⟩ = some (.int .i64 0)) ∧ W.cell? ⟨gU, 0, none⟩ = some (.int .i64 2) ∧ W.cell? ⟨gU, 1, none⟩ = some (.int .i64 which) ∧ W.cell? ⟨gU, 2, none⟩ = some (.int .i64 0) ∧ W.cell? ⟨gU, 3, none⟩ = some (.int .i64 0)) (by kernel_rfl) (hC _ hXd) (fun hHeld => ?_)
  refine z_load (i := 0) (oi := { dst := some 56, op := Op.load 25 (Operand.tmp 14), type := 25, pos := "law.go:283", after := #[], guard := none }) (v := ?_) (some 56) rfl rfl (by kernel_rfl) (by kernel_rfl) (by kernel_rfl) (by kernel_rfl) (fun c a w h => hQ c a _ _ w h) (by rfl) ?_ hHeld ?_
  rotate_left 1
  · (intro wq hSw; go_simp; try with_reducible rfl)
  (try simp only [Act.put, List.setIfInBounds_toArray, List.set_cons_zero, List.set_cons_succ])
  refine z_load (i := 1) (oi := { dst := some 57, op := Op.load 29 (Operand.tmp 15), type := 29, pos := "law.go:283", after := #[], guard := none }) (v := ?_) (some 57) rfl rfl (by kernel_rfl) (by kernel_rfl) (by kernel_rfl) (by kernel_rfl) (fun c a w h => hQ c a _ _ w h) (by rfl) ?_ hHeld ?_
  rotate_left 1
  · (intro wq hSw; go_simp; try with_reducible rfl)
  (try simp only [Act.put, List.setIfInBounds_toArray, List.set_cons_zero, List.set_cons_succ])
  refine z_load (i := 2) (oi := { dst := some 58, op := Op.load 45 (Operand.tmp 11), type := 45, pos := "law.go:283", after := #[], guard := none }) (v := ?_) (some 58) rfl rfl (by kernel_rfl) (by kernel_rfl) (by kernel_rfl) (by kernel_rfl) (fun c a w h => hQ c a _ _ w h) (by rfl) ?_ hHeld ?_
  rotate_left 1
  · (intro wq hSw; go_simp; try with_reducible rfl)
  (try simp only [Act.put, List.setIfInBounds_toArray, List.set_cons_zero, List.set_cons_succ])
  refine z_take (i := 3) (oi := { dst := some 59, op := Op.move (Operand.tmp 4), type := 3, pos := "law.go:283", after := #[], guard := none }) (v := ?_) (some 59) rfl rfl (by kernel_rfl) (by kernel_rfl) (by kernel_rfl) (by decide) (fun c a w h => hQ c a _ _ w h) (by rfl) ?_ hHeld ?_
  rotate_left 1
  · (intro wq; go_simp; try with_reducible rfl)
  (try simp only [Act.put, List.setIfInBounds_toArray, List.set_cons_zero, List.set_cons_succ])
  refine z_load (i := 5) (oi := { dst := some 61, op := Op.load 45 (Operand.tmp 12), type := 45, pos := "law.go:283", after := #[], guard := none }) (v := ?_) (some 61) rfl rfl (by kernel_rfl) (by kernel_rfl) (by kernel_rfl) (by kernel_rfl) (fun c a w h => hQ c a _ _ w h) (by rfl) ?_ hHeld ?_
  rotate_left 1
  · (intro wq hSw; go_simp; try with_reducible rfl)
  (try simp only [Act.put, List.setIfInBounds_toArray, List.set_cons_zero, List.set_cons_succ])
  exact rb11_0 df X gM gT gF gD gU nb nl tb p1 p2 which td R x0 x1 x2 x3 x5 x6 x7 x8 x9 x10 x13 x19 x20 x21 x22 x23 x24 x25 x26 x27 x28 x29 x30 x31 x32 x33 x34 x35 x36 x37 x38 x39 x40 x41 x42 x43 x44 x45 x46 x47 x48 x49 x50 x51 x52 x53 x54 x55 x60 x62 x63 x64 x65 x66 x67 x68 x69 x70 x71 x72 x73 x74 x75 x76 x77 x78 x79 x80 x81 x82 x83 x84 hQ hC hFt hT hP fin _ false false (by simp [cnt3]) _ _ 0 0 X _ trivial hXd hXd (fun e => by cases e) (fun e => by cases e)
end
end Go.Proofs.YtaneiffnhphkhaaGreatDoor

namespace Go.Proofs.YtaneiffnhphkhaaGreatDoor
open Go.RowKit
open Vc (V Of)
open Pl (Br Net Pc Lk En St)
open Tk (Md Mnd Cn Sc Dn)

theorem one_upD (s : Sc) (c : Cn) (k : Int) : s.one c (upD k) = s.setUp k.toNat true := by
  show (if (2 : Int) = 1 then _ else if (2 : Int) = 2 then s.setUp k.toNat true else _) = _
  rw [if_neg (by decide), if_pos rfl]
theorem one_downD (s : Sc) (c : Cn) (k : Int) : s.one c (downD k) = s.setUp k.toNat false := by
  show (if (3 : Int) = 1 then _ else if (3 : Int) = 2 then _ else if (3 : Int) = 3 then s.setUp k.toNat false else _) = _
  rw [if_neg (by decide), if_neg (by decide), if_pos rfl]
theorem up_all (s : Sc) (c : Cn) (ds : Nat → Dn) (dn : Nat) (which : Int) : s.all c (dsA dn ds (upT which)) (dn + 2) = ((s.all c ds dn).setUp which.toNat true).ticks c 40 := by
  rw [all_more]
  show ((s.all c ds dn).one c (upD which)).one c (tickD 40) = _
  rw [one_upD, Tk.Sc.one_tick (d := tickD 40) rfl]
  rfl
theorem back_all3 (s : Sc) (c : Cn) (which td : Int) : s.all c (backT which td) 3 = ((s.setUp which.toNat false).ticks c td.toNat).setUp which.toNat true := by
  show ((s.one c (downD which)).one c (tickD td)).one c (upD which) = _
  rw [one_upD, one_downD, Tk.Sc.one_tick (d := tickD td) rfl]
  rfl
theorem back_all (s : Sc) (c : Cn) (which td : Int) : s.all c (backT which td) 4 = (s.all c (backT which td) 3).ticks c 40 := by
  show (s.all c (backT which td) 3).one c (tickD 40) = _
  rw [Tk.Sc.one_tick rfl]
  rfl
theorem back_same (s0 : Sc) (c : Cn) (ds : Nat → Dn) (dn : Nat) (which td : Int) : ((s0.all c (dsA dn ds (upT which)) (dn + 2)).all c (backT which td) 4).pr = (s0.all c (dsA dn ds (upT which)) (dn + 2)).pr ∧ ((s0.all c (dsA dn ds (upT which)) (dn + 2)).all c (backT which td) 4).ls = (s0.all c (dsA dn ds (upT which)) (dn + 2)).ls := by
  rw [back_all, back_all3, up_all]
  refine ⟨rfl, ?_⟩
  funext j
  show (if j = which.toNat then _ else if j = which.toNat then _ else if j = which.toNat then _ else (s0.all c ds dn).ls j) = if j = which.toNat then _ else (s0.all c ds dn).ls j
  by_cases e : j = which.toNat
  · subst e
    rw [if_pos rfl, if_pos rfl]
    simp [Tk.Sc.setUp, Tk.Sc.ticks]
  · simp only [if_neg e]
theorem back_err {c : Cn} {ds : Nat → Dn} {dn : Nat} {which td : Int} (h : ∀ k, k < dn + 2 → Tk.errOf c (dsA dn ds (upT which) k) = 0) (ht : 0 ≤ td ∧ td ≤ 100) : (∀ k, k < dn → Tk.errOf c (ds k) = 0) ∧ ∀ k, k < 4 → Tk.errOf c (backT which td k) = 0 := by
  have hu : Tk.errOf c (upD which) = 0 := by
    have := h dn (by omega)
    unfold dsA at this
    rw [if_neg (by omega), Nat.sub_self] at this
    exact this
  refine ⟨fun k hk => ?_, fun k hk => ?_⟩
  · have := h k (by omega)
    unfold dsA at this
    rw [if_pos hk] at this
    exact this
  · have tick : ∀ x : Int, 0 ≤ x ∧ x ≤ 200 → Tk.errOf c (tickD x) = 0 := fun x hx => by
      unfold Tk.errOf tickD
      simp only [if_pos]
      rw [if_pos hx]
    match k, hk with
    | 0, _ => exact hu
    | 1, _ => exact tick td (by omega)
    | 2, _ => exact hu
    | 3, _ => exact tick 40 (by decide)
theorem down_up {c : Cn} {k : Int} (h : Tk.errOf c (upD k) = 0) : Tk.errOf c (downD k) = 0 := h
set_option maxRecDepth 100000 in
set_option maxHeartbeats 6000000 in
theorem tback_any (n : Net) (trees : Int) (dao : Option Addr) (dn dcap : Nat) (ds : Nat → Dn) (which td : Int) (w : World) (hwf : n.Wf) (hat : n.at' w) (hdx : dn ≤ 1000000000000000) (hds : DRow w dao dn dcap ds) (hnil : NilOk dao dn dcap) (htb : Tabs w) (hbt : 2 ≤ w.heap.size) :
    Calls Tryz.prog 11 #[n.val, .int .i64 trees, .slice dao dn dcap, .int .i64 which, .int .i64 td] w fun e w' => e = .returned (.bool true) ∧ Below w.heap.size w w' := by
  obtain ⟨X, HX⟩ : ∃ X, Hid (X = w.alloc (.cells #[.slice n.bao n.K n.bcap, .slice n.lao n.L n.lcap] 25)) := ⟨_, rfl⟩
  have hXB : Below w.heap.size w X := by rw [HX.out]; exact below_alloc1 _ _
  have hX0 : X.heap[w.heap.size]? = some (.cells #[.slice n.bao n.K n.bcap, .slice n.lao n.L n.lcap] 25 (0, 0)) := by rw [HX.out]; exact heap_alloc_last _ _
  have HTB : Hid (∀ V, Below X.heap.size X V → (Tabs V ∧ 2 ≤ V.heap.size) ∧ n.at' V ∧ DRow V dao dn dcap ds ∧ (V.cell? ⟨w.heap.size, 0, none⟩ = some (.slice n.bao n.K n.bcap) ∧ V.cell? ⟨w.heap.size, 1, none⟩ = some (.slice n.lao n.L n.lcap)) ∧ Below w.heap.size w V) := fun V hV => by
    have h := hXB.trans (hV.mono hXB.size)
    exact ⟨⟨htb.below h hbt, Nat.le_trans hbt h.size⟩, hat.below h, CRow.below hds h, two_cells2 (keep hX0 hV), h⟩
  have HWF : Hid n.Wf := hwf
  have HNL : Hid (NilOk dao dn dcap) := hnil
  clear hwf hat hds htb hbt hXB hX0 hnil
  simp only [Pl.Net.val]
  go_enter Tryz.func11, Tryz.ntmps11
  go_wp2_with fail
  rw [← HX.out]
  obtain ⟨⟨t1, t2⟩, _⟩ := HTB.out X (Below.refl _ _)
  refine (t7alive_any X t1 t2).mono ?_
  rintro e w1 ⟨rfl, HB1⟩
  have H1 : Hid (Below X.heap.size X w1) := HB1
  clear t1 t2 HB1
  have HBW : Hid (Below w.heap.size w w1) := (HTB.out w1 H1.out).2.2.2.2
  by_cases hbig : 30 < dn + 5
  · have hb1 : (30 : Int) < (dn : Int) + 5 := by omega
    clear HTB HWF HNL
    go_wp2_with fail
    go_ret
    exact ⟨rfl, HBW.out⟩
  have hb1 : ¬ (30 : Int) < (dn : Int) + 5 := by omega
  by_cases hm1 : td < 0
  · clear HTB HWF HNL
    go_wp2_with fail
    go_ret
    exact ⟨rfl, HBW.out⟩
  by_cases hm2 : td > 100
  · clear HTB HWF HNL
    go_wp2_with fail
    go_ret
    exact ⟨rfl, HBW.out⟩
  obtain ⟨Y, HY⟩ : ∃ Y, Hid (Y = (w1.alloc (.cells #[.int .i64 3, .int .i64 which, .int .i64 0, .int .i64 0] 45)).alloc (.cells #[.int .i64 2, .int .i64 which, .int .i64 0, .int .i64 0] 45)) := ⟨_, rfl⟩
  obtain ⟨gD, HgD⟩ : ∃ g, Hid (g = w1.heap.size) := ⟨_, rfl⟩
  have hY1 : Below w1.heap.size w1 Y := by rw [HY.out]; exact below_alloc2 _ _ _
  have yD : Y.heap[gD]? = some (.cells #[.int .i64 3, .int .i64 which, .int .i64 0, .int .i64 0] 45 (0, 0)) := by rw [HY.out, HgD.out]; exact heap_alloc2_old _ _ _
  have yU : Y.heap[gD + 1]? = some (.cells #[.int .i64 2, .int .i64 which, .int .i64 0, .int .i64 0] 45 (0, 0)) := by rw [HY.out, HgD.out]; exact heap_alloc2_new _ _ _
  have HXY : Hid (Below X.heap.size X Y) := H1.out.trans (hY1.mono H1.out.size)
  have HCD : Hid (∀ V, Below Y.heap.size Y V → (V.cell? ⟨gD, 0, none⟩ = some (.int .i64 3) ∧ V.cell? ⟨gD, 1, none⟩ = some (.int .i64 which) ∧ V.cell? ⟨gD, 2, none⟩ = some (.int .i64 0) ∧ V.cell? ⟨gD, 3, none⟩ = some (.int .i64 0)) ∧ V.cell? ⟨gD + 1, 0, none⟩ = some (.int .i64 2) ∧ V.cell? ⟨gD + 1, 1, none⟩ = some (.int .i64 which) ∧ V.cell? ⟨gD + 1, 2, none⟩ = some (.int .i64 0) ∧ V.cell? ⟨gD + 1, 3, none⟩ = some (.int .i64 0)) := fun V hV => by
    have h1 := keep yD hV
    have h2 := keep yU hV
    exact ⟨⟨cell_of_row V gD 0 _ _ _ h1, cell_of_row V gD 1 _ _ _ h1, cell_of_row V gD 2 _ _ _ h1, cell_of_row V gD 3 _ _ _ h1⟩, cell_of_row V (gD + 1) 0 _ _ _ h2, cell_of_row V (gD + 1) 1 _ _ _ h2, cell_of_row V (gD + 1) 2 _ _ _ h2, cell_of_row V (gD + 1) 3 _ _ _ h2⟩
  have HTY : Hid (∀ V, Below Y.heap.size Y V → (Tabs V ∧ 2 ≤ V.heap.size) ∧ n.at' V ∧ DRow V dao dn dcap ds ∧ (V.cell? ⟨w.heap.size, 0, none⟩ = some (.slice n.bao n.K n.bcap) ∧ V.cell? ⟨w.heap.size, 1, none⟩ = some (.slice n.lao n.L n.lcap)) ∧ Below w.heap.size w V) := fun V hV => HTB.out V (HXY.out.trans (hV.mono HXY.out.size))
  clear HBW hY1 yD yU HTB HXY H1
  go_wp2_with fail
  rw [← HY.out, ← HgD.out]
  clear HY HgD
  refine rb7 [] Y (gD + 1) which dao dn dcap ds _ _ _ _ _ _ _ _ _ _ _ _ _ _ _ _ _ _ _ _ _ _ _ _ _ _ _ _ _ _ _ _ _ _ _ _ _ _ _ _ _ _ _ _ _ _ _ _ _ _ _ _ _ _ _ _ _ _ _ _ _ _ _ _ _ _ _ _ _ _ _ _ _ _ _ _ _ _ _ _ _ ?hQ ?hC ?hdn ?hnil ?hds ?hT ?fin _ _
  case hQ => exact fun _ _ _ _ _ h => h
  case hC => exact fun V hV => (HCD.out V hV).2
  case hdn => omega
  case hnil => exact HNL.out
  case hds => exact fun V hV => (HTY.out V hV).2.2.1
  case hT => exact fun V => t7ticks_any 40 V
  case fin =>
    intro v37 a1 c1 gt a2 c2 W hrow hYW
    have HYW : Hid (Below Y.heap.size Y W) := hYW
    obtain ⟨⟨t1, t2⟩, b1, _, ⟨c0, c1'⟩, _⟩ := HTY.out W hYW
    have HP : Hid (Calls Tryz.prog 15 #[.agg #[.slice n.bao n.K n.bcap, .slice n.lao n.L n.lcap], .int .i64 trees, .slice a2 (dn + 2) c2] W fun e w' => ∃ na nk nc la lk lc oa ol oc f1 f2, e = .returned (.tuple #[.agg #[.slice na nk nc, .slice la lk lc], .agg #[.slice oa ol oc], .agg #[.int .i64 f1, .int .i64 f2]]) ∧ Hid (Below W.heap.size W w' ∧ PlF W w' n trees (dsA dn ds (upT which)) (dn + 2) na nk nc la lk lc oa ol oc f1 f2)) := tplay_flat n trees a2 (dn + 2) c2 (dsA dn ds (upT which)) W HWF.out b1 (by omega) hrow t1 t2
    clear t1 t2 b1 hrow hYW
    go_wp2_with fail
    refine HP.out.mono ?_
    rintro e w2 ⟨na, nk, nc, la, lk, lc, oa, ol, oc, f1, f2, rfl, H2⟩
    clear HP c0 c1'
    obtain ⟨Z, HZ⟩ : ∃ Z, Hid (Z = ((w2.alloc (.cells #[.slice na nk nc, .slice la lk lc] 25)).alloc (.cells #[.slice oa ol oc] 29)).alloc (.cells #[.int .i64 f1, .int .i64 f2] 32)) := ⟨_, rfl⟩
    have hZ2 : Below w2.heap.size w2 Z := by rw [HZ.out]; exact (below_alloc2 _ _ _).alloc (by simp; omega) _
    have hY2 : Below Y.heap.size Y w2 := HYW.out.trans (H2.out.1.mono HYW.out.size)
    have hYZ : Below Y.heap.size Y Z := hY2.trans (hZ2.mono hY2.size)
    have HBZ : Hid (Below w.heap.size w Z) := (HTY.out Z hYZ).2.2.2.2
    obtain ⟨p1, HP1⟩ : ∃ p, Hid (p = w2.heap.size) := ⟨_, rfl⟩
    obtain ⟨y1, y2, y3, _⟩ := alloc3 w2 (.cells #[.slice na nk nc, .slice la lk lc] 25) (.cells #[.slice oa ol oc] 29) (.cells #[.int .i64 f1, .int .i64 f2] 32)
    rw [← HZ.out, ← HP1.out] at y1 y2 y3
    rcases H2.out.2 with ⟨q, ⟨q2, q3⟩, q4⟩ | ⟨q, ⟨rfl, rfl⟩, n', t', ⟨rfl, rfl, rfl⟩, ⟨rfl, rfl, rfl⟩, rfl, b, hVb, hK⟩
    · have q1 : (f1 != 0) = true := by rw [q2]; simpa using q
      clear HTY HWF HNL H2 hZ2 hY2 hYZ q q2 q3 q4 y1 y2 y3 HCD HYW
      go_wp2_with fail
      rw [← HZ.out]
      go_ret
      exact ⟨rfl, HBZ.out⟩
    · have q1 : ((0 : Int) != 0) = false := rfl
      have HSS : Hid (∀ U, Below Z.heap.size Z U → SnOut U n trees.toNat ((n.sc (startMs n)).all n.cn (dsA dn ds (upT which)) (dn + 2)) n' oa oc t') := fun U hU => ((hK.below hZ2).below hU).here
      have HPP : Hid ((n.wrong.1 = 0 ∧ 1 ≤ trees ∧ trees ≤ 4) ∧ ∀ k, k < dn + 2 → Tk.errOf n.cn (dsA dn ds (upT which) k) = 0) := ⟨(plErr_zero q).1, (plErr_zero q).2.2⟩
      have HTZ : Hid (∀ U, Below Z.heap.size Z U → (Tabs U ∧ 2 ≤ U.heap.size) ∧ Below w.heap.size w U) := fun U hU => ⟨(HTY.out U (hYZ.trans (hU.mono hYZ.size))).1, (HTY.out U (hYZ.trans (hU.mono hYZ.size))).2.2.2.2⟩
      have HCZ : Hid (∀ U, Below Z.heap.size Z U → (U.cell? ⟨p1, 0, none⟩ = some (.slice n'.bao n'.K n'.bcap) ∧ U.cell? ⟨p1, 1, none⟩ = some (.slice n'.lao n'.L n'.lcap)) ∧ U.cell? ⟨p1 + 1, 0, none⟩ = some (.slice oa t'.length oc)) := fun U hU => ⟨two_cells2 (keep y1 hU), one_cell (keep y2 hU)⟩
      have HCW : Hid (∀ U, Below Z.heap.size Z U → Below Y.heap.size Y U) := fun U hU => hYZ.trans (hU.mono hYZ.size)
      have HY9 : Hid (Z.heap[p1 + 1 + 1]? = some (.cells #[.int .i64 0, .int .i64 0] 32 (0, 0))) := y3
      clear H2 hK hVb hZ2 hY2 hYZ q y1 y2 y3 HTY HNL HBZ HYW
      have hS0 := HSS.out Z (Below.refl _ _)
      obtain ⟨he0, he4⟩ := back_err HPP.out.2 (td := td) (by omega)
      have HE : Hid ((∀ k, k < dn → Tk.errOf n.cn (ds k) = 0) ∧ ∀ k, k < 4 → Tk.errOf n.cn (backT which td k) = 0) := ⟨he0, he4⟩
      have HPT : Hid (∀ i, n.pts i = n'.pts i) := sn_pts hS0 HWF.out HPP.out.1.1 HPP.out.2
      have HOK0 : Hid (Tk.Ok n.cn (((n.sc (startMs n)).all n.cn ds dn).setUp which.toNat true) trees.toNat) := by
        have h := ((start_ok HWF.out HPP.out.1.1 trees.toNat).all ds dn he0).one (upD which) (he4 2 (by decide))
        rw [one_upD] at h
        exact h
      have HAS : Hid (AsT n' t') := by
        have hS1 := hS0
        rw [up_all] at hS1
        exact sn_as hS1 (by have := HPP.out.1.2; omega) HOK0.out (by decide) HPT.out rfl
      have HOK1 : Hid (Tk.Ok n.cn (((n.sc (startMs n)).all n.cn (dsA dn ds (upT which)) (dn + 2)).all n.cn (backT which td) 3) trees.toNat) := hS0.ok.all (backT which td) 3 (fun k hk => he4 k (by omega))
      clear hS0 he0 he4 HOK0
      go_wp2_with fail
      rw [← HZ.out, ← HP1.out]
      clear HZ HP1
      refine rb11 [] Z p1 (p1 + 1) (p1 + 1 + 1) gD (gD + 1) (.slice n'.bao n'.K n'.bcap) (.slice n'.lao n'.L n'.lcap) (.slice oa t'.length oc) 0 0 which td (fun V W0 na nk nc la lk lc oa ol oc f1 f2 => OnG V W0 n n' trees.toNat ((n.sc (startMs n)).all n.cn (dsA dn ds (upT which)) (dn + 2)) (backT which td) 4 na nk nc la lk lc oa ol oc f1 f2) _ _ _ _ _ _ _ _ _ _ _ _ _ _ _ _ _ _ _ _ _ _ _ _ _ _ _ _ _ _ _ _ _ _ _ _ _ _ _ _ _ _ _ _ _ _ _ _ _ _ _ _ _ _ _ _ _ _ _ _ _ _ _ _ _ _ _ _ _ _ _ _ ?hQ ?hC ?hFt ?hT ?hP ?fin _ _ _ _ _ _ _
      case hQ => exact fun _ _ _ _ _ h => h
      case hC =>
        intro V hV
        exact ⟨(HCZ.out V hV).1.1, (HCZ.out V hV).1.2, (HCZ.out V hV).2, (HCD.out V (HCW.out V hV)).1, (HCD.out V (HCW.out V hV)).2⟩
      case hFt => exact HY9.out
      case hT => exact fun t V => t7ticks_any t V
      case hP =>
        intro V g hV hrow
        exact on_gen (HSS.out V hV) (by have := HPP.out.1.2; omega) HPT.out (by decide) hrow (HTZ.out V hV).1.1 (HTZ.out V hV).1.2
      case fin =>
        intro gt V na nk nc la lk lc oa2 ol oc2 f1 f2 g10 g11 W0 W hR hb hX ⟨k7, k8, k9⟩ ⟨l7, l8, l9, lV⟩ ⟨z7, z8⟩
        have herr : (Tk.errTo n.cn (backT which td) 4).1 = 0 := by
          unfold Tk.errTo
          rw [Pl.firstTo_all _ _ HE.out.2]
        rcases hR with ⟨r1, _⟩ | ⟨_, ⟨rfl, rfl⟩, n2, t2, ⟨rfl, rfl, rfl⟩, ⟨rfl, rfl, rfl⟩, rfl, b, hVb, hK⟩
        · exact absurd herr r1
        clear herr
        have m78 : g10 ≠ g11 := fun e => by subst e; exact absurd (cells_type k7 k8) (by decide)
        have m79 : p1 + 1 + 1 ≠ g10 := fun e => by subst e; exact absurd l9 (Nat.not_lt.2 l7)
        have m89 : p1 + 1 + 1 ≠ g11 := fun e => by subst e; exact absurd l9 (Nat.not_lt.2 l8)
        obtain ⟨Z2, HZ2⟩ : ∃ Z2, Hid (Z2 = ((((W.setCell ⟨g10, 0, none⟩ (.slice n2.bao n2.K n2.bcap)).setCell ⟨g10, 1, none⟩ (.slice n2.lao n2.L n2.lcap)).setCell ⟨g11, 0, none⟩ (.slice oa2 t2.length oc2)).setCell ⟨p1 + 1 + 1, 0, none⟩ (.int .i64 0)).setCell ⟨p1 + 1 + 1, 1, none⟩ (.int .i64 0)) := ⟨_, rfl⟩
        have hZZ : Below Z.heap.size Z Z2 := by rw [HZ2.out]; exact boxes_same hX l7 l8 m79 m89 k9
        have zs2 : Z2.heap.size = W.heap.size := by rw [HZ2.out]; simp
        have y11 : Z2.heap[g11]? = some (.cells #[.slice oa2 t2.length oc2] 29 (0, 0)) := by rw [HZ2.out]; exact set_keep (set_keep (set1_same (set_keep (set_keep k8 m78.symm) m78.symm)) m89.symm) m89.symm
        have y10 : Z2.heap[g10]? = some (.cells #[.slice n2.bao n2.K n2.bcap, .slice n2.lao n2.L n2.lcap] 25 (0, 0)) := by rw [HZ2.out]; exact set_keep (set_keep (set_keep (set2_same k7) m78) m79.symm) m79.symm
        have y9 := keep HY9.out hZZ
        have hS2 : ∀ U, Below Z2.heap.size Z2 U → SnOut U n' trees.toNat (((n.sc (startMs n)).all n.cn (dsA dn ds (upT which)) (dn + 2)).all n.cn (backT which td) 4) n2 oa2 oc2 t2 := fun U hU => boxes_kept hK hVb hb z7 z8 (Or.inl (Nat.lt_of_lt_of_le l9 lV)) (by rw [← HZ2.out, ← zs2]; exact hU)
        have hS20 := hS2 Z2 (Below.refl _ _)
        have hS0 := HSS.out Z2 hZZ
        have hcn : n'.cn = n.cn := hS0.cn
        obtain ⟨s1, s2⟩ := back_same (n.sc (startMs n)) n.cn ds dn which td
        have sN : SameN n' n2 := sn_same hS0 hS20 hcn s1 s2 hS0.regs
        have hpt : ∀ i, n'.pts i = n2.pts i := fun i => by
          obtain ⟨_, _, e3, _⟩ := sn_net hS0
          obtain ⟨_, _, e4, _⟩ := sn_net hS20
          unfold Pl.Net.pts
          rw [e3, e4, hcn]
          unfold Tk.Sc.E Tk.Sc.lv
          rw [s2]
        have HA2 : Hid (AsT n2 t2) := by
          have hS3 := hS20
          rw [back_all, ← hcn] at hS3
          exact sn_as hS3 (by have := HPP.out.1.2; omega) (by rw [hcn]; exact HOK1.out) (by decide) hpt rfl
        have HSN : Hid (Calls Tryz.prog 17 #[.agg #[.slice n'.bao n'.K n'.bcap, .slice n'.lao n'.L n'.lcap], .agg #[.slice n2.bao n2.K n2.bcap, .slice n2.lao n2.L n2.lcap]] Z2 fun e w' => e = .returned (.bool true) ∧ Hid (Below Z2.heap.size Z2 w')) := (tsamenet_any n' n2 Z2 hS0.net hS20.net sN).mono (fun e w' h => ⟨h.1, h.2⟩)
        have HA3 : Hid (∀ V, Below Z2.heap.size Z2 V → Calls Tryz.prog 24 #[.agg #[.slice n2.bao n2.K n2.bcap, .slice n2.lao n2.L n2.lcap], .agg #[.slice oa2 t2.length oc2]] V fun e w' => e = .returned (.bool true) ∧ Hid (Below Z2.heap.size Z2 w')) := fun V hV => by
          have hZV := hZZ.trans (hV.mono hZZ.size)
          have h := hS2 V hV
          exact (tas_any n2 oa2 oc2 t2 V h.net h.wf h.right h.row HA2.out (HTZ.out V hZV).1.1 (HTZ.out V hZV).1.2).mono (fun e w' q => ⟨q.1, hV.trans (q.2.mono hV.size)⟩)
        have HA4 : Hid (∀ V, Below Z2.heap.size Z2 V → Calls Tryz.prog 24 #[.agg #[.slice n'.bao n'.K n'.bcap, .slice n'.lao n'.L n'.lcap], .agg #[.slice oa t'.length oc]] V fun e w' => e = .returned (.bool true) ∧ Hid (Below w.heap.size w w')) := fun V hV => by
          have hZV := hZZ.trans (hV.mono hZZ.size)
          have h := HSS.out V hZV
          exact (tas_any n' oa oc t' V h.net h.wf h.right h.row HAS.out (HTZ.out V hZV).1.1 (HTZ.out V hZV).1.2).mono (fun e w' q => ⟨q.1, (HTZ.out _ (hZV.trans (q.2.mono hZV.size))).2⟩)
        have HCB : Hid (∀ V, Below Z2.heap.size Z2 V → ((V.cell? ⟨p1, 0, none⟩ = some (.slice n'.bao n'.K n'.bcap) ∧ V.cell? ⟨p1, 1, none⟩ = some (.slice n'.lao n'.L n'.lcap)) ∧ V.cell? ⟨p1 + 1, 0, none⟩ = some (.slice oa t'.length oc)) ∧ (V.cell? ⟨g10, 0, none⟩ = some (.slice n2.bao n2.K n2.bcap) ∧ V.cell? ⟨g10, 1, none⟩ = some (.slice n2.lao n2.L n2.lcap)) ∧ V.cell? ⟨g11, 0, none⟩ = some (.slice oa2 t2.length oc2)) := fun V hV => ⟨HCZ.out V (hZZ.trans (hV.mono hZZ.size)), two_cells2 (keep y10 hV), one_cell (keep y11 hV)⟩
        obtain ⟨c90, c91⟩ := two_cells2 y9
        obtain ⟨⟨⟨d1, d2⟩, d3⟩, ⟨d4, d5⟩, d6⟩ := HCB.out Z2 (Below.refl _ _)
        clear hb hX k7 k8 k9 l7 l8 l9 lV z7 z8 hVb hK m78 m79 m89 hZZ zs2 y10 y11 y9 hS2 hS20 hS0 HSS HTZ HCZ HY9 HPP HWF hcn HA2 HAS HOK1 s1 s2 sN hpt HE HPT HCD HCW
        rw [← HZ2.out]
        go_wp2_with fail
        refine HSN.out.mono ?_
        rintro e w5 ⟨rfl, H5⟩
        clear HSN c90 c91 d1 d2 d3 d4 d5 d6
        obtain ⟨⟨⟨d1, d2⟩, d3⟩, ⟨d4, d5⟩, d6⟩ := HCB.out w5 H5.out
        have HC1 : Hid (Calls Tryz.prog 24 #[.agg #[.slice n2.bao n2.K n2.bcap, .slice n2.lao n2.L n2.lcap], .agg #[.slice oa2 t2.length oc2]] w5 fun e w' => e = .returned (.bool true) ∧ Hid (Below Z2.heap.size Z2 w')) := HA3.out w5 H5.out
        clear HA3
        go_wp2_with fail
        refine HC1.out.mono ?_
        rintro e w6 ⟨rfl, H6⟩
        clear HC1 d1 d2 d3 d4 d5 d6
        obtain ⟨⟨⟨d1, d2⟩, d3⟩, ⟨d4, d5⟩, d6⟩ := HCB.out w6 H6.out
        have HC1 : Hid (Calls Tryz.prog 24 #[.agg #[.slice n'.bao n'.K n'.bcap, .slice n'.lao n'.L n'.lcap], .agg #[.slice oa t'.length oc]] w6 fun e w' => e = .returned (.bool true) ∧ Hid (Below w.heap.size w w')) := HA4.out w6 H6.out
        clear HA4 HCB
        go_wp2_with fail
        refine HC1.out.mono ?_
        rintro e w7 ⟨rfl, H7⟩
        clear HC1
        go_wp2_with fail
        go_ret
        exact ⟨rfl, H7.out⟩
end Go.Proofs.YtaneiffnhphkhaaGreatDoor

namespace Go.Proofs.YtaneiffnhphkhaaGreatDoor.talkBack
open Go.ChangeShapes Go.WideShapes Go.ChangeAt Go.RowKit

set_option maxRecDepth 100000 in
theorem contract (H : Type) (enc : TypeId × Value → H) (W : World) (base : Nat) (args : Array Value) (ds gs : List (DataW H)) (before : List MemPlace)
    (hval : ∀ (j : Nat) t v, Tryz.f11.params[j]? = some t → args[j]? = some v → Value.okWide Tryz.prog W .any base t v)
    (hW : DataW.Whole enc Tryz.prog Tryz.f11.params.toList Rows.talkBackSpec.vars false W args.toList ds gs before)
    (hsz : (DataW.weightsEach Tryz.prog (Tryz.f11.params.toList ++ (OpenSpec.ofChange Rows.talkBackSpec).bare.plain.varTypes Tryz.prog) (ds ++ gs)).all (· ≤ reachBytes) = true)
    (hL : laidMetH Tryz.prog Rows.talkBackRow.laid W) :
    Calls Tryz.prog 11 args W fun e W' => ∃ v, e = .returned v ∧ Rows.talkBackSpec.post enc Tryz.prog Tryz.f11 false true false false W args v W' := by
  have hW' := hW
  obtain ⟨p, q, hA0, hV, rfl, hfz, hnd⟩ := hW
  have hA : DataW.TrodAll enc Tryz.prog W 0 (fun _ => true) true Tryz.f11.params.toList args.toList ds p := hA0
  rw [Tryz.params11] at hA hval hsz
  obtain ⟨v0, vs0, d0, ds0, p0, q0, hargs, rfl, rfl, h0, r0⟩ := trodAll_cons hA
  obtain ⟨v1, vs1, d1, ds1, p1, q1, rfl, rfl, rfl, h1, r1⟩ := trodAll_cons r0
  obtain ⟨v2, vs2, d2, ds2, p2, q2, rfl, rfl, rfl, h2, r2⟩ := trodAll_cons r1
  obtain ⟨v3, vs3, d3, ds3, p3, q3, rfl, rfl, rfl, h3, r3⟩ := trodAll_cons r2
  obtain ⟨v4, vs4, d4, ds4, p4, q4, rfl, rfl, rfl, h4, r4⟩ := trodAll_cons r3
  obtain ⟨rfl, rfl, rfl⟩ := trodAll_nil r4
  obtain rfl : args = #[v0, v1, v2, v3, v4] := by cases args; simp_all
  obtain ⟨rfl, rfl⟩ := trodVars_none hV
  have lt0 : ∀ x ∈ p0, x.block < W.heap.size := by obtain ⟨m, hm⟩ := h0; exact DataW.trod_lt m _ _ _ hm
  obtain ⟨n0, rfl, hat0, hwf0, hz0⟩ := net_in (hval 0 25 v0 rfl rfl) h0
  have lt1 : ∀ x ∈ p1, x.block < W.heap.size := by obtain ⟨m, hm⟩ := h1; exact DataW.trod_lt m _ _ _ hm
  obtain ⟨z1, rfl⟩ := okWide_int Tryz.underlying3 (hval 1 3 v1 rfl rfl)
  have lt2 : ∀ x ∈ p2, x.block < W.heap.size := by obtain ⟨m, hm⟩ := h2; exact DataW.trod_lt m _ _ _ hm
  obtain ⟨da2, dn2, dc2, dd2, rfl, hd2, hnl2, hdn2, hdz2⟩ := dos_in (hval 2 26 v2 rfl rfl) h2
  have lt3 : ∀ x ∈ p3, x.block < W.heap.size := by obtain ⟨m, hm⟩ := h3; exact DataW.trod_lt m _ _ _ hm
  obtain ⟨z3, rfl⟩ := okWide_int Tryz.underlying3 (hval 3 3 v3 rfl rfl)
  have lt4 : ∀ x ∈ p4, x.block < W.heap.size := by obtain ⟨m, hm⟩ := h4; exact DataW.trod_lt m _ _ _ hm
  obtain ⟨z4, rfl⟩ := okWide_int Tryz.underlying3 (hval 4 3 v4 rfl rfl)
  have hall := hsz
  simp only [List.cons_append, DataW.weightsEach, List.all_append, Bool.and_eq_true] at hall
  have hm2 := hdz2 hall.2.2.1
  unfold reachBytes at hm2
  have hT := tabs_of hL
  have hG : 2 ≤ W.heap.size := hT.lt
  clear hA0 hall hsz
  refine (tback_any n0 z1 da2 dn2 dc2 dd2 z3 z4 W hwf0 hat0 (by omega) hd2 hnl2 hT hG).mono fun e W' ⟨he, bel⟩ => ?_
  subst he
  exact ⟨_, rfl, _, _, _, [], _, [], hW', trodAll_mk1 (shut_bool Tryz.underlying4 _), (trodAll_cons_mk (Below.trod laidOut (by kernel_rfl) (of_decide_eq_true (by kernel_rfl)) h0 bel lt0) (trodAll_cons_mk (Below.trod laidOut (by kernel_rfl) (of_decide_eq_true (by kernel_rfl)) h1 bel lt1) (trodAll_cons_mk (Below.trod laidOut (by kernel_rfl) (of_decide_eq_true (by kernel_rfl)) h2 bel lt2) (trodAll_cons_mk (Below.trod laidOut (by kernel_rfl) (of_decide_eq_true (by kernel_rfl)) h3 bel lt3) (trodAll_cons_mk (Below.trod laidOut (by kernel_rfl) (of_decide_eq_true (by kernel_rfl)) h4 bel lt4) trodAll_mk0))))), rfl, bel.frame _, fun h => by cases h⟩

theorem laid_met (os : Os) : laidMet Tryz.prog Rows.talkBackRow.laid ((laidW (World.holding Tryz.prog os ⟨#[], #[], []⟩)).forCall (fun _ _ => 0) ⟨#[], #[.agg #[.slice none 0 0, .slice none 0 0], .int .i64 0, .slice none 0 0, .int .i64 0, .int .i64 0], []⟩).memory :=
  laidMet_of_run' 8 (by kernel_rfl) (by kernel_rfl)
theorem reads (os : Os) {H : Type} (enc : TypeId × Value → H) : ∃ places, DataW.whole enc Tryz.prog ((laidW (World.holding Tryz.prog os ⟨#[], #[], []⟩)).forCall (fun _ _ => 0) ⟨#[], #[.agg #[.slice none 0 0, .slice none 0 0], .int .i64 0, .slice none 0 0, .int .i64 0, .int .i64 0], []⟩).memory Tryz.f11.params.toList Rows.talkBackSpec.vars false #[Value.agg #[.slice none 0 0, .slice none 0 0], .int .i64 0, .slice none 0 0, .int .i64 0, .int .i64 0].toList 8 = some ([.agg [.nil, .nil], .lit (.int .i64 0), .nil, .lit (.int .i64 0), .lit (.int .i64 0)], [], places) :=
  ⟨[], by kernel_rfl⟩

set_option maxRecDepth 100000 in
theorem lifted (os : Os) (started : os.Started) (H : Type) (enc : TypeId × Value → H) (F : Stop.Interp) :
    ReturnsInHanded {} Tryz.checked os 11 .any ((OpenSpec.ofChange Rows.talkBackSpec).preRow enc Tryz.prog Tryz.f11 Rows.talkBackRow.domain false Rows.talkBackRow.laid) (((OpenSpec.ofChange Rows.talkBackSpec).at F).post enc Tryz.prog Tryz.f11 false true false false) := by
  obtain ⟨places, hx⟩ := reads os enc
  refine returnsInHanded_of_row (C := Tryz.checked) (s := OpenSpec.ofChange Rows.talkBackSpec) own started (by kernel_rfl) Tryz.func11
    (witness_row_at (enc := enc) (C := Tryz.checked) false (laidW (World.holding Tryz.prog os ⟨#[], #[], []⟩)) #[.agg #[.slice none 0 0, .slice none 0 0], .int .i64 0, .slice none 0 0, .int .i64 0, .int .i64 0] rfl (by kernel_rfl) (by kernel_rfl) (by kernel_rfl)
      (OpenSpec.preRow_of_cond 8 hx (by kernel_rfl) (fun k hk => by cases hk) (by kernel_rfl) (laid_met os))) ?_
  intro W base args ds gs before hval hW _ _ hsz hL _ _
  exact contract H enc W base args ds gs before hval hW hsz hL

theorem said : Rows.TalkBackSaid :=
  OpenClaim.holds_of_cond 11 Tryz.f11 rfl rfl rfl rfl rfl rfl rfl ⟨rfl, rfl, rfl, rfl, rfl⟩ rfl rfl rfl rfl rfl (by kernel_rfl) Tryz.func11 (by kernel_rfl)
    (of_decide_eq_true (by kernel_rfl)) (by unfold Func.isWrapper; first | (rw [if_pos (by decide +kernel)]; kernel_rfl) | (rw [if_neg (by decide +kernel)]; exact ⟨rfl, rfl⟩))
    (fun os started H enc _ F => by rw [OpenClaim.pre_eq_preRow]; exact lifted os started H enc F)

theorem plain (f : FuncId) (fn : Func) (hf : Tryz.pinned.checked.prog.funcNamed "hedgerow/hedgelaw7.TalkBack" = some f) (hfn : Tryz.pinned.checked.prog.funcs[f]? = some fn) :
    false = Tryz.pinned.checked.prog.looks [] ∧ ∀ (j : Nat) t, fn.params[j]? = some t → Tryz.pinned.checked.prog.wantsStandIn t = false := by
  obtain rfl : f = 11 := Option.some.inj ((show Tryz.prog.funcNamed "hedgerow/hedgelaw7.TalkBack" = some 11 by kernel_rfl).symm.trans hf) |>.symm
  obtain rfl : fn = Tryz.f11 := (Option.some.inj (Tryz.func11.symm.trans hfn)).symm
  refine ⟨by kernel_rfl, fun j t ht => ?_⟩
  rw [Tryz.params11] at ht
  have h1 : Tryz.prog.wantsStandIn 25 = false := by kernel_rfl
  have h2 : Tryz.prog.wantsStandIn 3 = false := by kernel_rfl
  have h3 : Tryz.prog.wantsStandIn 26 = false := by kernel_rfl
  have ht2 : t = 25 ∨ t = 3 ∨ t = 26 ∨ t = 3 ∨ t = 3 := by simpa using Array.mem_of_getElem? ht
  rcases ht2 with rfl | rfl | rfl | rfl | rfl
  · exact h1
  · exact h2
  · exact h3
  · exact h2
  · exact h2

/-- ████ THE CARD ████ -/
theorem card : Rows.TalkBackCardSaid :=
  Claim7.holds_tied_plain_at .later [] _ _ _ _ said (fun _ h => by cases h) (by kernel_rfl) (fun _ h => by cases h) talkBack_row_tie rfl ⟨rfl, rfl⟩ (by kernel_rfl) rfl plain (by kernel_rfl)
end Go.Proofs.YtaneiffnhphkhaaGreatDoor.talkBack
namespace Go.Proofs.YtaneiffnhphkhaaGreatDoor
/-- A LINK THAT COMES BACK: the statement, as it was given. -/
theorem talkBack_card : Rows.TalkBackCardSaid := talkBack.card
#print axioms talkBack_card
end Go.Proofs.YtaneiffnhphkhaaGreatDoor
