/- Plain: lines and rings of bridges as nets: what is known of them -/
import Derived.Test.YtflghpnpjmodaaaGreatDoorK36
import Derived.Test.YtflghpnpjmodaaaGreatDoorK09
import Derived.Test.YtflghpnpjmodaaaGreatDoorK21
namespace Go.Proofs.YtflghpnpjmodaaaGreatDoor
open Go.RowKit
open Vc (V Of)
open Pl (Br Net Pc Lk En St)
open Tk (Md Mnd Cn Sc Dn)

theorem start_ok {n : Net} (hw : n.Wf) (h : n.wrong.1 = 0) (T : Nat) : Tk.Ok n.cn (n.sc (startMs n)) T := by
  refine ⟨net_fine hw h _, fun k hk i hi => ?_, fun k hk i hi j => ?_⟩
  · rw [Pl.Net.sc_E]
    have e : (n.pts i).length = (n.ends i).length := by unfold Pl.Net.pts; simp
    show (zer (n.pts i).length).length = _ ∧ (zer (n.pts i).length).length = _
    rw [zer_len]
    exact ⟨e, e⟩
  · show 0 ≤ (zer (n.pts i).length).getD j 0 ∧ (0 < (zer (n.pts i).length).getD j 0 → _)
    rw [zer_get]
    exact ⟨Int.le_refl _, fun h => absurd h (Int.lt_irrefl _)⟩
theorem all_ticks (s : Sc) (c : Cn) (ds : Nat → Dn) (dn : Nat) (tk : Int) : s.all c (dsT dn ds tk) (dn + 1) = (s.all c ds dn).ticks c tk.toNat := by
  have e : dsT dn ds tk = fun k => if k < dn then ds k else tickD tk := rfl
  rw [e, Tk.all_last, Tk.Sc.one_tick rfl]
  rfl
theorem dsT_err {c : Cn} {ds : Nat → Dn} {dn : Nat} {tk : Int} (h : ∀ k, k < dn + 1 → Tk.errOf c (dsT dn ds tk k) = 0) : ∀ k, k < dn → Tk.errOf c (ds k) = 0 := fun k hk => by
  have := h k (by omega)
  unfold dsT at this
  rw [if_pos hk] at this
  exact this
theorem sn_net {W : World} {n : Net} {T : Nat} {s : Sc} {n' : Net} {oa : Option Addr} {oc : Nat} {t' : List Tr} (h : SnOut W n T s n' oa oc t') : n'.K = n.K ∧ n'.L = n.L ∧ n'.ends = s.E n.cn ∧ ∀ k : Int, n'.ids k = s.ids n.cn k := by
  have e1 : n'.K = n.K := congrArg Cn.K h.cn
  have e2 : n'.L = n.L := congrArg Cn.L h.cn
  refine ⟨e1, e2, ?_, fun k => ?_⟩
  · have := Pl.Net.sc_E n' s.ms
    rw [h.sc, h.cn] at this
    exact this.symm
  · funext i
    have := net_ids (n := n') s.ms k i
    rw [h.sc, h.cn] at this
    exact this.symm
theorem idx_at {l : List Int} {j : Nat} (hj : j < l.length) (h : ∀ a, a < j → l.getD a 0 ≠ l.getD j 0) : Bk.idx l (l.getD j 0) l.length = (j : Int) := by
  have H : ∀ k, k ≤ l.length → Bk.idx l (l.getD j 0) k = if j < k then (j : Int) else -1 := by
    intro k
    induction k with
    | zero => intro _; rfl
    | succ k ih =>
      intro hk
      have ih := ih (by omega)
      show (if 0 ≤ Bk.idx l (l.getD j 0) k then Bk.idx l (l.getD j 0) k else if l.getD j 0 = l.getD k 0 then (k : Int) else -1) = _
      rw [ih]
      by_cases q : j < k
      · rw [if_pos q, if_pos (by omega), if_pos (by omega)]
      · rw [if_neg q, if_neg (by omega)]
        by_cases q2 : j = k
        · subst q2
          rw [if_pos rfl, if_pos (by omega)]
        · rw [if_neg (fun e => h k (by omega) e.symm), if_neg (by omega)]
  rw [H _ (Nat.le_refl _), if_pos hj]
theorem EL_get {es : List En} {j : Nat} (hj : j < es.length) : es[j]? = some (EL es j) := by
  simp [EL, hj]
theorem pts_get {es : List En} {j : Nat} (hj : j < es.length) : (es.map (fun e : En => e.port)).getD j 0 = (EL es j).port := by
  simp [EL, hj]
/-- THE TREE OPENS, as it lies. -/
theorem sn_opens {W : World} {n : Net} {T : Nat} {ds : Nat → Dn} {dn : Nat} {tk : Int} {n' : Net} {oa : Option Addr} {oc : Nat} {t' : List Tr} (h : SnOut W n T ((n.sc (startMs n)).all n.cn (dsT dn ds tk) (dn + 1)) n' oa oc t') (hw : n.Wf) (h0 : n.wrong.1 = 0) (he : ∀ k, k < dn → Tk.errOf n.cn (ds k) = 0) (ht : 83 ≤ tk.toNat)
    {k i j : Nat} (hk : k < T) (hi : i < n.K) (hj : j < (n'.ends i).length) :
    opT t' k i (EL (n'.ends i) j).port = decide (Pl.roleAt (Pl.rounds (n'.ids k) n'.ends n'.K n'.K i) (Pl.offs (n'.ends i) (Pl.rounds (n'.ids k) n'.ends n'.K n'.K)) (EL (n'.ends i) j) = 1 ∨ Pl.roleAt (Pl.rounds (n'.ids k) n'.ends n'.K n'.K i) (Pl.offs (n'.ends i) (Pl.rounds (n'.ids k) n'.ends n'.K n'.K)) (EL (n'.ends i) j) = 2) := by
  obtain ⟨e1, _, e3, e4⟩ := sn_net h
  have hE := h.each k hk
  have hlen := h.len
  rw [all_ticks] at hE e3 e4
  obtain ⟨s0, hs0⟩ : ∃ s0, s0 = (n.sc (startMs n)).all n.cn ds dn := ⟨_, rfl⟩
  rw [← hs0] at hE e3 e4
  have e3 : n'.ends = s0.E n.cn := e3
  have e4 : n'.ids k = s0.ids n.cn k := e4 k
  have hok : Tk.Ok n.cn s0 T := by rw [hs0]; exact (start_ok hw h0 T).all ds dn he
  have hsame := ((net_fine hw h0 (startMs n)).all ds dn he)
  rw [← hs0] at hsame
  have hpts : n.pts i = (n'.ends i).map (fun e : En => e.port) := by
    have := (hsame.2.len (net_fine hw h0 (startMs n)) hsame.1 i).1
    rw [Pl.Net.sc_E] at this
    rw [e3]
    exact this.symm
  obtain ⟨hl, hm⟩ := hE
  obtain ⟨hm1, hm2⟩ := hm i hi
  have hcalm : (mat (tat t' k).l i).calm = ((s0.ticks n.cn tk.toNat).ms k i).calm := congrArg Mnd.calm hm1
  have hfit := ((ok_ticks hok tk.toNat).fit k hk i hi).2
  have hfit : ((s0.ticks n.cn tk.toNat).ms k i).calm.length = (n'.ends i).length := by rw [e3]; exact hfit
  rw [e3] at hj hpts hfit ⊢
  have hop := hok.opens ht hk hi (EL_get hj)
  have hrole : (s0.roles n.cn k i).getD j 0 = Pl.roleAt (s0.says n.cn k i) (Pl.offs (s0.E n.cn i) (s0.says n.cn k)) (EL (s0.E n.cn i) j) := by
    unfold Tk.Sc.roles
    exact Tk.map_getD _ _ (EL_get hj)
  have hsays : Pl.rounds (n'.ids k) (s0.E n.cn) n'.K n'.K = s0.says n.cn k := by
    rw [e4, e1]
    rfl
  rw [hsays, ← hrole]
  have hidx : Bk.idx (mat (tat t' k).l i).ports (EL (s0.E n.cn i) j).port (mat (tat t' k).l i).ports.length = (j : Int) := by
    rw [hm2, hpts, ← pts_get hj]
    refine idx_at (by simpa using hj) (fun a ha => ?_)
    rw [pts_get (by omega), pts_get hj]
    have hs := Pl.ends_sorted hok.fine.links (s0.lv n.cn) i
    have := List.pairwise_iff_getElem.1 hs a j (by have := hj; unfold Tk.Sc.E at this; omega) (by have := hj; unfold Tk.Sc.E at this; exact this) ha
    have g1 : EL (s0.E n.cn i) a = (s0.E n.cn i)[a]'(by omega) := by simp [EL, show a < (s0.E n.cn i).length by omega]
    have g2 : EL (s0.E n.cn i) j = (s0.E n.cn i)[j] := by simp [EL, hj]
    rw [g1, g2]
    exact Int.ne_of_lt this
  unfold opT
  rw [Int.toNat_natCast, Int.toNat_natCast, if_pos ⟨⟨by omega, by omega⟩, ⟨by omega, by omega⟩⟩]
  unfold opM
  rw [hidx, hcalm, if_pos ⟨by omega, by omega⟩, Int.toNat_natCast]
  exact decide_eq_decide.2 hop
/-- Three variables' boxes, written behind a call: what the call left is as it was. -/
theorem boxes_kept {V W0 W U : World} {b g7 g8 g9 : Nat} {v0 v1 v2 v3 v4 : Value} {P : World → Prop} (hK : Kept W0 b P) (hVb : V.heap.size ≤ b) (hb : Below W0.heap.size W0 W) (z7 : g7 < V.heap.size ∨ W0.heap.size ≤ g7) (z8 : g8 < V.heap.size ∨ W0.heap.size ≤ g8) (z9 : g9 < V.heap.size ∨ W0.heap.size ≤ g9)
    (hU : Below W.heap.size (((((W.setCell ⟨g7, 0, none⟩ v0).setCell ⟨g7, 1, none⟩ v1).setCell ⟨g8, 0, none⟩ v2).setCell ⟨g9, 0, none⟩ v3).setCell ⟨g9, 1, none⟩ v4) U) : P U := hK U (fun q h1 h2 => by
  have hs := hb.size
  rw [hU.block q (by omega), heap_setCell_other _ _ _ _ (by show q ≠ g9; omega), heap_setCell_other _ _ _ _ (by show q ≠ g9; omega), heap_setCell_other _ _ _ _ (by show q ≠ g8; omega), heap_setCell_other _ _ _ _ (by show q ≠ g7; omega), heap_setCell_other _ _ _ _ (by show q ≠ g7; omega)]
  exact hb.block q h2)
end Go.Proofs.YtflghpnpjmodaaaGreatDoor

namespace Go.Proofs.YtflghpnpjmodaaaGreatDoor
namespace Pl
open Vc (V Of)
def s0 : St := ⟨⟨0, 0, 0, 0⟩, 0⟩
def sat (l : List St) (j : Nat) : St := l.getD j s0
def stepL (ids : Nat → Int) (E : Nat → List En) (l : List St) (i : Nat) : List St := l.set i (chS (ids i) (offs (E i) (sat l)))
def roundL (ids : Nat → Int) (E : Nat → List En) (l : List St) : Nat → List St
  | 0 => l
  | k + 1 => stepL ids E (roundL ids E l k) k
def firstL (ids : Nat → Int) (K : Nat) : List St := (List.range K).map (fun i => ⟨⟨ids i, 0, ids i, 0⟩, 0⟩)
def roundsL (ids : Nat → Int) (E : Nat → List En) (K : Nat) : Nat → List St
  | 0 => firstL ids K
  | r + 1 => roundL ids E (roundsL ids E K r) K
def finL (ids : Nat → Int) (E : Nat → List En) (K : Nat) : List St := roundsL ids E K K
section
variable {ids : Nat → Int} {E : Nat → List En} {K : Nat}
def Says (K : Nat) (l : List St) (x : Nat → St) : Prop := l.length = K ∧ ∀ i, i < K → sat l i = x i
theorem says_step (hE : ∀ i, i < K → ∀ e, e ∈ E i → e.other.toNat < K) {l : List St} {x : Nat → St} (h : Says K l x) {i : Nat} (hi : i < K) : Says K (stepL ids E l i) (step ids E x i) := by
  have he : offs (E i) (sat l) = offs (E i) x := offs_congr (fun e he _ => by rw [h.2 _ (hE i hi e he)])
  refine ⟨by unfold stepL; rw [List.length_set]; exact h.1, fun j hj => ?_⟩
  unfold stepL step
  rw [he]
  unfold sat
  by_cases e : j = i
  · subst e
    rw [if_pos rfl]
    simp [h.1, hi]
  · rw [if_neg e, ← h.2 j hj]
    unfold sat
    simp [Ne.symm e]
theorem says_round (hE : ∀ i, i < K → ∀ e, e ∈ E i → e.other.toNat < K) {l : List St} {x : Nat → St} (h : Says K l x) : ∀ k, k ≤ K → Says K (roundL ids E l k) (roundTo ids E x k)
  | 0, _ => h
  | k + 1, hk => says_step hE (says_round hE h k (by omega)) (by omega)
theorem says_rounds (hE : ∀ i, i < K → ∀ e, e ∈ E i → e.other.toNat < K) : ∀ r, Says K (roundsL ids E K r) (rounds ids E K r)
  | 0 => ⟨by simp [roundsL, firstL], fun i hi => by simp [roundsL, firstL, sat, hi, rounds]⟩
  | r + 1 => says_round hE (says_rounds hE r) K (Nat.le_refl _)
theorem finL_eq (hE : ∀ i, i < K → ∀ e, e ∈ E i → e.other.toNat < K) {i : Nat} (hi : i < K) : sat (finL ids E K) i = fin ids E K i := (says_rounds hE K).2 i hi
end
/-- The ends of a ring's bridge i; what links cost; which are live. -/
def ringE (k : Nat) (cst : Nat → Int) (lv : Nat → Bool) (i : Nat) : List En :=
  [⟨1, cst (if i = 0 then k - 1 else i - 1), ((if i = 0 then k - 1 else i - 1 : Nat) : Int), 2, lv (if i = 0 then k - 1 else i - 1)⟩, ⟨2, cst i, ((if i + 1 = k then 0 else i + 1 : Nat) : Int), 1, lv i⟩]
def ringId (i : Nat) : Int := 32768 * 281474976710656 + 10 + (i : Int)
def ringAll (k : Nat) (cst : Nat → Int) (lv : Nat → Bool) : List St := finL ringId (ringE k cst lv) k
/-- The roles. -/
def rolesL (k : Nat) (cst : Nat → Int) (lv : Nat → Bool) (l : List St) (i : Nat) : List Int := (ringE k cst lv i).map (roleAt (sat l i) (offs (ringE k cst lv i) (sat l)))
def shutOk (k : Nat) : Bool :=
  let l := ringAll k (fun _ => 10) (fun _ => true)
  (List.range k).all (fun i => decide ((sat l i).v.root = ringId 0) && (decide ((sat l i).v.cost = 10 * (min i (k - i) : Nat)) && (rolesL k (fun _ => 10) (fun _ => true) l i).all (fun r => decide (r ≠ 3) || decide (i = (k + 1) / 2))))
theorem shut3 : shutOk 3 = true := by decide +kernel
end Pl
end Go.Proofs.YtflghpnpjmodaaaGreatDoor

namespace Go.Proofs.YtflghpnpjmodaaaGreatDoor
namespace Tk
open Vc (V Of)
open Pl (Lk En St RightL ends)
def m0 : Mnd := ⟨⟨⟨0, 0, 0, 0⟩, 0, 0⟩, [], []⟩
def mat (l : List Mnd) (j : Nat) : Mnd := l.getD j m0
def tickL (ids : Nat → Int) (E : Nat → List En) (K : Nat) (l : List Mnd) : List Mnd := (List.range K).map (tickF ids E (mat l))
def ticksL (ids : Nat → Int) (E : Nat → List En) (K : Nat) (l : List Mnd) : Nat → List Mnd
  | 0 => l
  | t + 1 => tickL ids E K (ticksL ids E K l t)
def SaysM (K : Nat) (l : List Mnd) (x : Nat → Mnd) : Prop := l.length = K ∧ ∀ i, i < K → mat l i = x i
theorem heard_same {l : List En} {x y : Nat → Md} (h : ∀ e, e ∈ l → x e.other.toNat = y e.other.toNat) : heard l x = heard l y := by
  unfold heard
  apply List.map_congr_left
  intro e he
  unfold heardOf
  rw [h e (List.mem_filter.1 he).1]
section
variable {ids : Nat → Int} {E F : Nat → List En} {K : Nat}
theorem says_tick (hEF : ∀ i, i < K → E i = F i) (hF : ∀ i, i < K → ∀ e, e ∈ F i → e.other.toNat < K) {l : List Mnd} {x : Nat → Mnd} (h : SaysM K l x) : SaysM K (tickL ids F K l) (tickF ids E x) := by
  refine ⟨by simp [tickL], fun i hi => ?_⟩
  have e1 : mat (tickL ids F K l) i = tickF ids F (mat l) i := by simp [mat, tickL, hi]
  have e2 : heard (F i) (fun j => (mat l j).md) = heard (E i) (fun j => (x j).md) := by
    rw [hEF i hi]
    exact heard_same (fun e he => by rw [h.2 _ (hF i hi e he)])
  rw [e1]
  unfold tickF
  rw [e2, h.2 i hi, hEF i hi]
theorem says_ticks (hEF : ∀ i, i < K → E i = F i) (hF : ∀ i, i < K → ∀ e, e ∈ F i → e.other.toNat < K) {l : List Mnd} {x : Nat → Mnd} (h : SaysM K l x) : ∀ t, SaysM K (ticksL ids F K l t) (ticksF ids E x t)
  | 0 => h
  | t + 1 => says_tick hEF hF (says_ticks hEF hF h t)
end
end Tk
namespace Pl
open Vc (V Of)
/-- What is sorted by ports and holds the same is the same. -/
theorem ends_by {K L : Nat} {ls : Nat → Lk} (R : RightL K L ls) (lv : Nat → Bool) (i : Nat) {l : List En} (hm : ∀ e, e ∈ l ↔ e ∈ ends ls lv L i) (hs : l.Pairwise (fun x y => x.port < y.port)) : ends ls lv L i = l := by
  have S := ends_sorted R lv i
  have nd : ∀ {m : List En}, m.Pairwise (fun x y => x.port < y.port) → m.Nodup := fun h => h.imp (fun {a b} q e => by rw [e] at q; omega)
  exact (sorted_unique ((List.perm_ext_iff_of_nodup (nd hs) (nd S)).2 hm) hs S).symm
/-- The links of a line, or a ring, of k bridges. -/
def lnk (k : Nat) (cst : Nat → Int) (up : Nat → Bool) (j : Nat) : Lk := ⟨(j : Int), 2, ((if j + 1 = k then 0 else j + 1 : Nat) : Int), 1, cst j, up j⟩
theorem ring_right {k : Nat} (hk : 3 ≤ k) {cst : Nat → Int} (hc : ∀ j, j < k → 1 ≤ cst j ∧ cst j ≤ 200000) (up : Nat → Bool) : RightL k k (lnk k cst up) := by
  refine ⟨fun j hj => ?_, fun i j hij hj => ?_⟩
  · have := hc j hj
    unfold lnk
    simp only
    by_cases e : j + 1 = k
    · rw [if_pos e]; omega
    · rw [if_neg e]; omega
  · unfold isEnd lnk
    simp only [Bool.or_eq_false_iff, decide_eq_false_iff_not]
    by_cases e : j + 1 = k
    · rw [if_pos e]
      by_cases e2 : i + 1 = k
      · omega
      · rw [if_neg e2]; omega
    · rw [if_neg e]
      by_cases e2 : i + 1 = k
      · omega
      · rw [if_neg e2]; omega
theorem line_right {k : Nat} {cst : Nat → Int} (hc : ∀ j, j < k → 1 ≤ cst j ∧ cst j ≤ 200000) (up : Nat → Bool) : RightL k (k - 1) (lnk k cst up) := by
  refine ⟨fun j hj => ?_, fun i j hij hj => ?_⟩
  · have := hc j (by omega)
    unfold lnk
    simp only
    rw [if_neg (by omega)]; omega
  · unfold isEnd lnk
    simp only [Bool.or_eq_false_iff, decide_eq_false_iff_not]
    rw [if_neg (by omega), if_neg (by omega)]; omega
theorem ring_ends {k : Nat} (hk : 3 ≤ k) {cst : Nat → Int} (hc : ∀ j, j < k → 1 ≤ cst j ∧ cst j ≤ 200000) (up lv : Nat → Bool) {i : Nat} (hi : i < k) : ends (lnk k cst up) lv k i = ringE k cst lv i := by
  refine ends_by (ring_right hk hc up) lv i (fun e => ?_) (by simp [ringE])
  rw [ends_mem]
  unfold ringE lnk
  simp only [List.mem_cons, List.not_mem_nil, or_false]
  constructor
  · rintro (rfl | rfl)
    · by_cases e0 : i = 0
      · refine ⟨k - 1, by omega, Or.inr ⟨by rw [if_pos (by omega)]; omega, ?_⟩⟩
        rw [if_pos e0]
      · refine ⟨i - 1, by omega, Or.inr ⟨by rw [if_neg (by omega)]; omega, ?_⟩⟩
        rw [if_neg e0]
    · exact ⟨i, hi, Or.inl ⟨rfl, rfl⟩⟩
  · rintro ⟨j, hj, ⟨ha, rfl⟩ | ⟨hb, rfl⟩⟩
    · obtain rfl : j = i := by omega
      exact Or.inr rfl
    · left
      by_cases e : j + 1 = k
      · rw [if_pos e] at hb
        have e0 : i = 0 := by omega
        rw [if_pos e0]
        obtain rfl : j = k - 1 := by omega
        rfl
      · rw [if_neg e] at hb
        have e0 : i ≠ 0 := by omega
        rw [if_neg e0]
        obtain rfl : j = i - 1 := by omega
        rfl
/-- The ends of a line's bridge i. -/
def lineE (k : Nat) (cst : Nat → Int) (lv : Nat → Bool) (i : Nat) : List En :=
  (if i = 0 then [] else [⟨1, cst (i - 1), ((i - 1 : Nat) : Int), 2, lv (i - 1)⟩]) ++ (if i + 1 = k then [] else [⟨2, cst i, ((i + 1 : Nat) : Int), 1, lv i⟩])
theorem line_ends {k : Nat} {cst : Nat → Int} (hc : ∀ j, j < k → 1 ≤ cst j ∧ cst j ≤ 200000) (up lv : Nat → Bool) {i : Nat} (hi : i < k) : ends (lnk k cst up) lv (k - 1) i = lineE k cst lv i := by
  refine ends_by (line_right hc up) lv i (fun e => ?_) ?_
  · rw [ends_mem]
    unfold lineE lnk
    simp only [List.mem_append]
    constructor
    · rintro (h | h)
      · by_cases e0 : i = 0
        · rw [if_pos e0] at h; simp at h
        · rw [if_neg e0] at h
          simp only [List.mem_cons, List.not_mem_nil, or_false] at h
          subst h
          exact ⟨i - 1, by omega, Or.inr ⟨by rw [if_neg (by omega)]; omega, rfl⟩⟩
      · by_cases e0 : i + 1 = k
        · rw [if_pos e0] at h; simp at h
        · rw [if_neg e0] at h
          simp only [List.mem_cons, List.not_mem_nil, or_false] at h
          subst h
          exact ⟨i, by omega, Or.inl ⟨rfl, by rw [if_neg e0]⟩⟩
    · rintro ⟨j, hj, ⟨ha, rfl⟩ | ⟨hb, rfl⟩⟩
      · obtain rfl : j = i := by omega
        right
        rw [if_neg (show ¬ j + 1 = k by omega), if_neg (show ¬ j + 1 = k by omega)]
        simp
      · rw [if_neg (show ¬ j + 1 = k by omega)] at hb
        left
        rw [if_neg (show ¬ i = 0 by omega)]
        obtain rfl : j = i - 1 := by omega
        simp
  · unfold lineE
    split <;> split <;> simp
theorem ringE_in {k : Nat} (hk : 3 ≤ k) (cst : Nat → Int) (lv : Nat → Bool) : ∀ i, i < k → ∀ e, e ∈ ringE k cst lv i → e.other.toNat < k := by
  intro i hi e he
  unfold ringE at he
  simp only [List.mem_cons, List.not_mem_nil, or_false] at he
  rcases he with rfl | rfl
  · simp only [Int.toNat_natCast]
    by_cases q : i = 0
    · rw [if_pos q]; omega
    · rw [if_neg q]; omega
  · simp only [Int.toNat_natCast]
    by_cases q : i + 1 = k
    · rw [if_pos q]; omega
    · rw [if_neg q]; omega
theorem lineE_in (k : Nat) (cst : Nat → Int) (lv : Nat → Bool) : ∀ i, i < k → ∀ e, e ∈ lineE k cst lv i → e.other.toNat < k := by
  intro i hi e he
  unfold lineE at he
  simp only [List.mem_append] at he
  rcases he with he | he
  · by_cases q : i = 0
    · rw [if_pos q] at he; simp at he
    · rw [if_neg q] at he
      simp only [List.mem_cons, List.not_mem_nil, or_false] at he
      subst he
      simp only [Int.toNat_natCast]
      omega
  · by_cases q : i + 1 = k
    · rw [if_pos q] at he; simp at he
    · rw [if_neg q] at he
      simp only [List.mem_cons, List.not_mem_nil, or_false] at he
      subst he
      simp only [Int.toNat_natCast]
      omega
end Pl
end Go.Proofs.YtflghpnpjmodaaaGreatDoor

namespace Go.Proofs.YtflghpnpjmodaaaGreatDoor
namespace Tk
open Vc (V Of)
open Pl (Lk En St lineE ringE ringId)
/-- Minds that have heard nothing yet. -/
def startL (ids : Nat → Int) (E : Nat → List En) (K : Nat) : List Mnd := (List.range K).map (fun i => ⟨⟨⟨ids i, 0, ids i, 0⟩, 0, -1⟩, List.replicate (E i).length 0, List.replicate (E i).length 0⟩)
def ten (_ : Nat) : Int := 10
def yes (_ : Nat) : Bool := true
/-- n states, tick by tick. -/
def allL (ids : Nat → Int) (E : Nat → List En) (K : Nat) (ok : Nat → List Mnd → Bool) : Nat → Nat → List Mnd → Bool
  | 0, _, _ => true
  | n + 1, t, l => ok t l && allL ids E K ok n (t + 1) (tickL ids E K l)
theorem allL_at {ids : Nat → Int} {E : Nat → List En} {K : Nat} {ok : Nat → List Mnd → Bool} : ∀ {n t : Nat} {l : List Mnd}, allL ids E K ok n t l = true → ∀ s, s < n → ok (t + s) (ticksL ids E K l s) = true
  | 0, _, _, _, s, hs => by omega
  | n + 1, t, l, h, s, hs => by
    simp only [allL, Bool.and_eq_true] at h
    have hc : ∀ (m : List Mnd) (s : Nat), ticksL ids E K (tickL ids E K m) s = ticksL ids E K m (s + 1) := by
      intro m s
      induction s with
      | zero => rfl
      | succ s ih => show tickL ids E K (ticksL ids E K (tickL ids E K m) s) = tickL ids E K (ticksL ids E K m (s + 1)); rw [ih]
    cases s with
    | zero => exact h.1
    | succ s =>
      have := allL_at h.2 s (by omega)
      rw [hc, show t + 1 + s = t + (s + 1) by omega] at this
      exact this
/-- WORD GOES ONE LINK A TICK. -/
def lineAt (k t : Nat) (l : List Mnd) : Bool := (List.range k).all (fun i => decide ((mat l i).md.v.root = ringId (i - t)) && decide ((mat l i).md.v.cost = 10 * (min i t : Nat)))
theorem line_all : (List.range 13).all (fun k => allL ringId (lineE k ten yes) k (lineAt k) 31 0 (startL ringId (lineE k ten yes) k)) = true := by decide +kernel
/-- NO GHOST OUTLIVES ITS HOPS. -/
def cutE (k : Nat) : Nat → List En := lineE k ten (fun j => decide (j ≠ 0))
def ghostAt (k t : Nat) (l : List Mnd) : Bool := decide (t < 21) || (List.range k).all (fun i => decide (i = 0) || decide ((mat l i).md.v.root ≠ ringId 0))
theorem ghost_all : (List.range 13).all (fun k => allL ringId (cutE k) k (ghostAt k) 71 0 (ticksL ringId (lineE k ten yes) k (startL ringId (lineE k ten yes) k) 50)) = true := by decide +kernel
/-- Whether end j of bridge i must forward. -/
def onR (k : Nat) (cst : Nat → Int) (lv : Nat → Bool) (l : List St) (i j : Nat) : Bool := let r := (Pl.rolesL k cst lv l i).getD j 0; decide (r = 1) || decide (r = 2)
def nxt (k i : Nat) : Nat := if i + 1 = k then 0 else i + 1
/-- THE CHEAPER WAY. -/
def dearC (d j : Nat) : Int := if j = d then 1000 else 10
def cheapAt (k d : Nat) : Bool :=
  let l := Pl.ringAll k (dearC d) yes
  (List.range k).all (fun i => (onR k (dearC d) yes l i 1 && onR k (dearC d) yes l (nxt k i) 0) == decide (i ≠ d))
theorem cheap_all : ((List.range 13).drop 3).all (fun k => (List.range k).all (cheapAt k)) = true := by decide +kernel
/-- WHICH LINK IS SHUT. -/
theorem shut_all : ((List.range 13).drop 3).all Pl.shutOk = true := by decide +kernel
def shutN (k : Nat) : Nat := let l := Pl.ringAll k ten yes; (((List.range k).map (fun i => ((Pl.rolesL k ten yes l i).filter (fun r => decide (r = 3))).length)).foldl (· + ·) 0)
theorem shut_one : ((List.range 13).drop 3).all (fun k => decide (shutN k = 1)) = true := by decide +kernel
/-- A RING THAT BREAKS IS A LINE: all ports of links that are there forward. -/
def brokenAt (k b : Nat) : Bool :=
  let lv : Nat → Bool := fun j => decide (j ≠ b)
  let l := Pl.ringAll k ten lv
  (List.range k).all (fun i => (onR k ten lv l i 1 == decide (i ≠ b)) && (onR k ten lv l (nxt k i) 0 == decide (i ≠ b)))
theorem broken_all : ((List.range 13).drop 3).all (fun k => (List.range k).all (brokenAt k)) = true := by decide +kernel
end Tk
end Go.Proofs.YtflghpnpjmodaaaGreatDoor

namespace Go.Proofs.YtflghpnpjmodaaaGreatDoor
open Go.RowKit
open Vc (V Of)
open Pl (Br Net Pc Lk En St ringE lineE ringId)
open Tk (Md Mnd Cn Sc Dn ten yes)

namespace Pl
section
variable {ids : Nat → Int} {E F : Nat → List En} {K : Nat}
theorem roundL_congr (h : ∀ i, i < K → E i = F i) (l : List St) : ∀ m, m ≤ K → roundL ids E l m = roundL ids F l m
  | 0, _ => rfl
  | m + 1, hm => by
    show stepL ids E (roundL ids E l m) m = stepL ids F (roundL ids F l m) m
    rw [roundL_congr h l m (by omega)]
    unfold stepL
    rw [h m (by omega)]
theorem roundsL_congr (h : ∀ i, i < K → E i = F i) : ∀ r, roundsL ids E K r = roundsL ids F K r
  | 0 => rfl
  | r + 1 => by
    show roundL ids E (roundsL ids E K r) K = roundL ids F (roundsL ids F K r) K
    rw [roundsL_congr h r, roundL_congr h _ K (Nat.le_refl _)]
theorem finL_by (h : ∀ i, i < K → E i = F i) (hF : ∀ i, i < K → ∀ e, e ∈ F i → e.other.toNat < K) {i : Nat} (hi : i < K) : sat (finL ids F K) i = rounds ids E K K i := by
  have := finL_eq (ids := ids) (E := E) (K := K) (fun i hi e he => hF i hi e (by rw [← h i hi]; exact he)) hi
  rw [show finL ids E K = finL ids F K from roundsL_congr h K] at this
  exact this
end
end Pl
def bsL (i : Nat) : Br := ⟨10 + (i : Int), none, 0, 0, fun _ => 0, regR⟩
/-- How many links. -/
def lnL (k : Nat) (ring : Bool) : Nat := if ring = true ∧ 2 < k then k else k - 1
theorem lnL_ring {k : Nat} (hk : 3 ≤ k) : lnL k true = k := by unfold lnL; rw [if_pos ⟨rfl, by omega⟩]
theorem lnL_line (k : Nat) : lnL k false = k - 1 := by unfold lnL; rw [if_neg (fun z => by cases z.1)]
/-- A line, or a ring, as it lies. -/
def netL (k : Nat) (ring : Bool) (cst : Nat → Int) (a5 : Option Addr) (c5 : Nat) (a6 : Option Addr) (c6 : Nat) : Net := ⟨a5, k, c5, bsL, a6, lnL k ring, c6, Pl.lnk k cst yes⟩
section
variable {k : Nat} {ring : Bool} {cst : Nat → Int} {a5 : Option Addr} {c5 : Nat} {a6 : Option Addr} {c6 : Nat}
theorem netL_wf (hk : k ≤ 12) : (netL k ring cst a5 c5 a6 c6).Wf := by
  refine ⟨fun i hi => ?_, fun i hi => ?_⟩
  · have hi : i < k := hi
    exact u64_wf (show 0 ≤ 10 + (i : Int) ∧ 10 + (i : Int) ≤ 18446744073709551615 by omega)
  · have hi : i < lnL k ring := hi
    have hi2 : i < k ∨ k = 0 := by
      unfold lnL at hi
      split at hi <;> omega
    show (Lit.int .i64 (i : Int)).wf = true ∧ (Lit.int .i64 2).wf = true ∧ (Lit.int .i64 ((if i + 1 = k then 0 else i + 1 : Nat) : Int)).wf = true ∧ (Lit.int .i64 1).wf = true
    have h3 : lnL k ring ≤ 12 := by unfold lnL; split <;> omega
    exact ⟨i64_wf (by omega), i64_wf (by omega), i64_wf (by split <;> omega), i64_wf (by omega)⟩
theorem bErrL : ∀ i, i < 12 → Pl.bErr bsL i = 0 := by
  intro i hi
  rcases (by omega : i = 0 ∨ i = 1 ∨ i = 2 ∨ i = 3 ∨ i = 4 ∨ i = 5 ∨ i = 6 ∨ i = 7 ∨ i = 8 ∨ i = 9 ∨ i = 10 ∨ i = 11) with e | e | e | e | e | e | e | e | e | e | e | e <;> subst e <;> kernel_rfl
theorem lnL_right (hc : ∀ j, j < k → 1 ≤ cst j ∧ cst j ≤ 200000) : Pl.RightL k (lnL k ring) (Pl.lnk k cst yes) := by
  by_cases h : ring = true ∧ 2 < k
  · have e : lnL k ring = k := by unfold lnL; rw [if_pos h]
    rw [e]
    exact Pl.ring_right (by omega) hc _
  · have e : lnL k ring = k - 1 := by unfold lnL; rw [if_neg h]
    rw [e]
    exact Pl.line_right hc _
theorem netL_right (hk : k ≤ 12) (hc : ∀ j, j < k → 1 ≤ cst j ∧ cst j ≤ 200000) : (netL k ring cst a5 c5 a6 c6).wrong.1 = 0 := by
  have hl : lnL k ring ≤ 12 := by unfold lnL; split <;> omega
  have h1 : Pl.firstTo (Pl.bErr bsL) k = (0, 0) := Pl.firstTo_all _ _ (fun i hi => bErrL i (by omega))
  have h2 : Pl.firstTo (Pl.lErr k (Pl.lnk k cst yes)) (lnL k ring) = (0, 0) := Pl.firstTo_all _ _ (fun i hi => lErr_of (lnL_right hc) hi)
  show (if 12 < k ∨ 40 < lnL k ring then ((5 : Int), (0 : Int)) else if (Pl.firstTo (Pl.bErr bsL) k).1 ≠ 0 then Pl.firstTo (Pl.bErr bsL) k else Pl.firstTo (Pl.lErr k (Pl.lnk k cst yes)) (lnL k ring)).1 = 0
  rw [h1, h2, if_neg (by omega)]
  rfl
theorem netL_ids (t : Int) : (netL k ring cst a5 c5 a6 c6).ids t = ringId := by
  funext i
  show (if (0 : Int) ≤ t ∧ t ≤ ((0 : Nat) : Int) - 1 then (0 : Int) else 32768) * 281474976710656 + (10 + (i : Int)) = _
  rw [if_neg (by omega)]
  unfold ringId
  omega
theorem netL_live : (netL k ring cst a5 c5 a6 c6).live = yes := by
  funext j
  show (true && decide (strOf 50 regR.id = strOf 50 regR.id)) = true
  simp
theorem netL_ring (hk : 3 ≤ k) (hc : ∀ j, j < k → 1 ≤ cst j ∧ cst j ≤ 200000) {i : Nat} (hi : i < k) : (netL k true cst a5 c5 a6 c6).ends i = ringE k cst yes i := by
  unfold Pl.Net.ends
  rw [netL_live]
  show Pl.ends (Pl.lnk k cst yes) yes (lnL k true) i = _
  rw [lnL_ring hk]
  exact Pl.ring_ends hk hc yes yes hi
theorem netL_line (hc : ∀ j, j < k → 1 ≤ cst j ∧ cst j ≤ 200000) {i : Nat} (hi : i < k) : (netL k false cst a5 c5 a6 c6).ends i = lineE k cst yes i := by
  unfold Pl.Net.ends
  rw [netL_live]
  show Pl.ends (Pl.lnk k cst yes) yes (lnL k false) i = _
  rw [lnL_line]
  exact Pl.line_ends hc yes yes hi
/-- Those who have heard nothing yet. -/
theorem netL_start {F : Nat → List En} (h : ∀ i, i < k → (netL k ring cst a5 c5 a6 c6).ends i = F i) (t : Nat) : Tk.SaysM k (Tk.startL ringId F k) (startMs (netL k ring cst a5 c5 a6 c6) t) := by
  refine ⟨by simp [Tk.startL], fun i hi => ?_⟩
  have e1 : Tk.mat (Tk.startL ringId F k) i = ⟨⟨⟨ringId i, 0, ringId i, 0⟩, 0, -1⟩, List.replicate (F i).length 0, List.replicate (F i).length 0⟩ := by
    unfold Tk.mat Tk.startL
    rw [range_getD _ _ hi]
  have e2 : ((netL k ring cst a5 c5 a6 c6).pts i).length = (F i).length := by
    unfold Pl.Net.pts
    rw [List.length_map, h i hi]
  rw [e1]
  unfold startMs zer
  rw [netL_ids, e2]
end
theorem ten_ok {k : Nat} : ∀ j, j < k → 1 ≤ ten j ∧ ten j ≤ 200000 := fun j _ => by unfold ten; omega
/-- What is to be done: so many ticks. -/
def tk1 (x : Int) : Nat → Dn := dsT 0 (fun _ => tickD x) x
theorem tk1_eq (x : Int) (i : Nat) : tk1 x i = tickD x := by unfold tk1 dsT; split <;> rfl
theorem tk1_all (s : Sc) (c : Cn) (x : Int) : s.all c (tk1 x) 1 = s.ticks c x.toNat := all_ticks s c (fun _ => tickD x) 0 x
/-- WORD GOES ONE LINK A TICK. -/
theorem line_at {k x i : Nat} {a5 : Option Addr} {c5 : Nat} {a6 : Option Addr} {c6 : Nat} (hk : k ≤ 12) (hx : x ≤ 30) (hi : i < k) :
    (((((netL k false ten a5 c5 a6 c6).sc (startMs (netL k false ten a5 c5 a6 c6))).all (netL k false ten a5 c5 a6 c6).cn (tk1 x) 1).ms 0 i).md.v.root = ringId (i - x)) ∧ (((((netL k false ten a5 c5 a6 c6).sc (startMs (netL k false ten a5 c5 a6 c6))).all (netL k false ten a5 c5 a6 c6).cn (tk1 x) 1).ms 0 i).md.v.cost = 10 * (min i x : Nat)) := by
  have hT := all_ticks ((netL k false ten a5 c5 a6 c6).sc (startMs (netL k false ten a5 c5 a6 c6))) (netL k false ten a5 c5 a6 c6).cn (fun _ => tickD x) 0 (x : Int)
  have hT : ((netL k false ten a5 c5 a6 c6).sc (startMs (netL k false ten a5 c5 a6 c6))).all (netL k false ten a5 c5 a6 c6).cn (tk1 x) 1 = ((netL k false ten a5 c5 a6 c6).sc (startMs (netL k false ten a5 c5 a6 c6))).ticks (netL k false ten a5 c5 a6 c6).cn x := hT
  rw [hT]
  have hm : (((netL k false ten a5 c5 a6 c6).sc (startMs (netL k false ten a5 c5 a6 c6))).ticks (netL k false ten a5 c5 a6 c6).cn x).ms 0 = Tk.ticksF ringId (netL k false ten a5 c5 a6 c6).ends (startMs (netL k false ten a5 c5 a6 c6) 0) x := by
    show Tk.ticksF (((netL k false ten a5 c5 a6 c6).sc (startMs (netL k false ten a5 c5 a6 c6))).ids (netL k false ten a5 c5 a6 c6).cn ((0 : Nat) : Int)) (((netL k false ten a5 c5 a6 c6).sc (startMs (netL k false ten a5 c5 a6 c6))).E (netL k false ten a5 c5 a6 c6).cn) (startMs (netL k false ten a5 c5 a6 c6) 0) x = _
    rw [Pl.Net.sc_E]
    have e1 : ((netL k false ten a5 c5 a6 c6).sc (startMs (netL k false ten a5 c5 a6 c6))).ids (netL k false ten a5 c5 a6 c6).cn ((0 : Nat) : Int) = ringId := by
      funext j
      rw [net_ids, netL_ids]
    rw [e1]
  rw [hm]
  have hS := Tk.says_ticks (ids := ringId) (E := (netL k false ten a5 c5 a6 c6).ends) (F := lineE k ten yes) (fun i hi => netL_line ten_ok hi) (Pl.lineE_in k ten yes) (netL_start (a5 := a5) (c5 := c5) (a6 := a6) (c6 := c6) (fun i hi => netL_line ten_ok hi) 0) x
  rw [← hS.2 i hi]
  have h1 := List.all_eq_true.1 Tk.line_all k (List.mem_range.2 (by omega))
  have h2 := Tk.allL_at h1 x (by omega)
  rw [Nat.zero_add] at h2
  have h3 := List.all_eq_true.1 h2 i (List.mem_range.2 hi)
  simp only [Bool.and_eq_true, decide_eq_true_eq] at h3
  exact h3
end Go.Proofs.YtflghpnpjmodaaaGreatDoor
