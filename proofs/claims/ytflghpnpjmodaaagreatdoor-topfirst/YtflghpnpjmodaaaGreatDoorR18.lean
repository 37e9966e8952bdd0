/- Plain: a scene: a net and its bridges' minds; what is done with it; what stays as it was -/
import Derived.Test.YtflghpnpjmodaaaGreatDoorR08
import Derived.Test.YtflghpnpjmodaaaGreatDoorR15
import Derived.Test.YtflghpnpjmodaaaGreatDoorR16
import Derived.Test.YtflghpnpjmodaaaGreatDoorR17
import Derived.Test.YtflghpnpjmodaaaGreatDoorR07
import Derived.Test.YtflghpnpjmodaaaGreatDoorR09
import Derived.Test.YtflghpnpjmodaaaGreatDoorR13
namespace Go.Proofs.YtflghpnpjmodaaaGreatDoor
open Go.RowKit
open Vc (V Of)
open Pl (Br Net Pc Lk En St)
theorem row_but {w W : World} {P : Nat} {ao : Option Addr} {n cap k : Nat} {c : Nat → Nat → Value} (h : CRow w ao n cap k c) (hW : w.grownBy W (some P)) (hne : 0 < n → ∀ b off, ao = some ⟨b, off, none⟩ → b ≠ P) : CRow W ao n cap k c := by
 rcases Nat.eq_zero_or_pos n with e | e
 ·subst e; exact ⟨h.1, fun q => absurd q (by omega)⟩
 ·exact CRow.other h (fun b off e1 hlt => hW.block b hlt (fun q => hne e b off e1 (by injection q))) hW.size
def plS (s : St) (j : Nat) : Value := if j < 4 then vC s.v j else if j = 4 then .int .i64 s.rp else .slice none 0 0
def PortsAt (w : World) (P : Nat) (x : St) (es : List En) (os : List Of) (v5 v6 : Value) : Prop :=
 ∃ (pao rao : Option Addr) (pcap rcap : Nat), v5 = .slice pao es.length pcap ∧ v6 = .slice rao es.length rcap ∧ IRow w pao es.length pcap (fun j => (EL es j).port) ∧ IRow w rao es.length rcap (fun j => Pl.roleAt x os (EL es j)) ∧ (∀ b off, pao = some ⟨b, off, none⟩ → b ≠ P) ∧ (∀ b off, rao = some ⟨b, off, none⟩ → b ≠ P)
theorem PortsAt.grown {w W : World} {P : Nat} {x : St} {es : List En} {os : List Of} {v5 v6 : Value} (h : PortsAt w P x es os v5 v6) (hW : w.grownBy W (some P)) : PortsAt W P x es os v5 v6 := by
 obtain ⟨pao, rao, pcap, rcap, e5, e6, h1, h2, h3, h4⟩ := h
 exact ⟨pao, rao, pcap, rcap, e5, e6, row_but h1 hW (fun _ => h3), row_but h2 hW (fun _ => h4), h3, h4⟩
def PlacesAt (w : World) (P K : Nat) (x : Nat → St) (E : Nat → List En) (k : Nat) : Prop :=
 ∃ c, w.heap[P]? = some (.cells (rowC K 7 c) 39 (0, 0)) ∧ (∀ i, i < K → ∀ j, j < 5 → c i j = plS (x i) j) ∧ (∀ i, i < K → k ≤ i → c i 5 = .slice none 0 0 ∧ c i 6 = .slice none 0 0) ∧ ∀ i, i < k → PortsAt w P (x i) (E i) (Pl.offs (E i) x) (c i 5) (c i 6)
theorem PlacesAt.below {w w' : World} {P K : Nat} {x : Nat → St} {E : Nat → List En} {k : Nat} (h : PlacesAt w P K x E k) (hb : Below w.heap.size w w') : PlacesAt w' P K x E k := by
 obtain ⟨c, h1, h2, h3, h4⟩ := h
 exact ⟨c, keep h1 hb, h2, h3, fun i hi => (h4 i hi).grown ⟨hb.os, hb.tape, hb.output, hb.size, fun j hj _ => hb.block j hj⟩⟩
def PlacW (w : World) (P K : Nat) (x : Nat → St) (E : Nat → List En) (k : Nat) : Prop :=
 ∃ c, w.heap[P]? = some (.cells (rowC K 7 c) 39 (0, 0)) ∧ (∀ i, i < k → ∀ j, j < 5 → c i j = plS (x i) j) ∧ ∀ i, i < k → PortsAt w P (x i) (E i) (Pl.offs (E i) x) (c i 5) (c i 6)
theorem PlacW.all {w : World} {P K : Nat} {x : Nat → St} {E : Nat → List En} (h : PlacW w P K x E K) : PlacesAt w P K x E K := by
 obtain ⟨c, h1, h2, h3⟩ := h
 exact ⟨c, h1, h2, fun i hi hk => absurd hi (by omega), h3⟩
def set7 (w : World) (P i : Nat) (a b c d e f g : Value) : World := ((((((w.setCell ⟨P, i * 7, none⟩ a).setCell ⟨P, i * 7 + 1, none⟩ b).setCell ⟨P, i * 7 + 2, none⟩ c).setCell ⟨P, i * 7 + 3, none⟩ d).setCell ⟨P, i * 7 + 4, none⟩ e).setCell ⟨P, i * 7 + 5, none⟩ f).setCell ⟨P, i * 7 + 6, none⟩ g
theorem set7_grown (w : World) (P i : Nat) (a b c d e f g : Value) : w.grownBy (set7 w P i a b c d e f g) (some P) :=
 ((((((((Es.But.refl P w).setCell (i * 7) a).setCell (i * 7 + 1) b).setCell (i * 7 + 2) c).setCell (i * 7 + 3) d).setCell (i * 7 + 4) e).setCell (i * 7 + 5) f).setCell (i * 7 + 6) g)
theorem PlacW.next {w W : World} {P K : Nat} {x : Nat → St} {E : Nat → List En} {i : Nat} (h : PlacW w P K x E i) (hi : i < K) (hg : w.grownBy W (some P)) (hP : W.heap[P]? = w.heap[P]?) {v5 v6 : Value} (hp : PortsAt W P (x i) (E i) (Pl.offs (E i) x) v5 v6) :
  PlacW (set7 W P i (.int .u64 (x i).v.root) (.int .i64 (x i).v.cost) (.int .u64 (x i).v.bridge) (.int .i64 (x i).v.port) (.int .i64 (x i).rp) v5 v6) P K x E (i + 1) := by
 obtain ⟨c, h1, h2, h3⟩ := h
 have g := set7_grown W P i (.int .u64 (x i).v.root) (.int .i64 (x i).v.cost) (.int .u64 (x i).v.bridge) (.int .i64 (x i).v.port) (.int .i64 (x i).rp) v5 v6
 have a0 := rowC_set (hP.trans h1) hi (show 0 < 7 by omega) (.int .u64 (x i).v.root)
 rw [Nat.add_zero] at a0
 have a1 := rowC_set a0 hi (show 1 < 7 by omega) (.int .i64 (x i).v.cost)
 have a2 := rowC_set a1 hi (show 2 < 7 by omega) (.int .u64 (x i).v.bridge)
 have a3 := rowC_set a2 hi (show 3 < 7 by omega) (.int .i64 (x i).v.port)
 have a4 := rowC_set a3 hi (show 4 < 7 by omega) (.int .i64 (x i).rp)
 have a5 := rowC_set a4 hi (show 5 < 7 by omega) v5
 have a6 := rowC_set a5 hi (show 6 < 7 by omega) v6
 refine ⟨_, a6, fun q hq j hj => ?_, fun q hq => ?_⟩
 ·by_cases e : q = i
  ·subst e
   rcases (by omega : j = 0 ∨ j = 1 ∨ j = 2 ∨ j = 3 ∨ j = 4) with e | e | e | e | e <;> subst e <;> simp [updC, plS, vC]
  ·simp only [updC, e, false_and, if_false]
   exact h2 q (by omega) j hj
 ·by_cases e : q = i
  ·subst e
   have : PortsAt W P (x q) (E q) (Pl.offs (E q) x) v5 v6 := hp
   simpa [updC] using this.grown g
  ·simp only [updC, e, false_and, if_false]
   exact ((h3 q (by omega)).grown hg).grown g
theorem EndsOk.grown {w W : World} {G K P : Nat} {v : Nat → Value} {E : Nat → List En} (h : EndsOk w G K v E) (hW : w.grownBy W (some P)) (hP : w.heap.size ≤ P) : EndsOk W G K v E := by
 have hl := (Array.getElem?_eq_some_iff.1 h.blk).1
 refine ⟨(hW.block G hl (fun q => by injection q with q; omega)).trans h.blk, fun i hi => ?_, fun i hi q hq => ?_⟩
 rotate_left
 ·obtain ⟨cur, hc⟩ := h.ty i hi q hq
  have hq2 := (Array.getElem?_eq_some_iff.1 hc).1
  exact ⟨cur, (hW.block q hq2 (fun p => by injection p with p; omega)).trans hc⟩
 obtain ⟨ao, cap, e, h1⟩ := h.row i hi
 exact ⟨ao, cap, e, CRow.other h1 (fun b off _ hlt => hW.block b hlt (fun q => by injection q with q; omega)) hW.size⟩
theorem below_same {w : World} {T : Nat} (h : w.heap[T]? = some (.cells #[.int .i64 0, .int .i64 0] 26 (0, 0))) : Below w.heap.size w ((w.setCell ⟨T, 0, none⟩ (.int .i64 0)).setCell ⟨T, 1, none⟩ (.int .i64 0)) := by
 have b : Below 0 w ((w.setCell ⟨T, 0, none⟩ (.int .i64 0)).setCell ⟨T, 1, none⟩ (.int .i64 0)) := ((Below.refl 0 w).setCell (Nat.zero_le _) _).setCell (Nat.zero_le _) _
 refine ⟨b.os, b.tape, b.output, b.size, fun j _ => ?_⟩
 by_cases e : j = T
 ·subst e
  rw [set2_same h, h]
 ·exact (heap_setCell_other _ _ _ _ (by exact e)).trans (heap_setCell_other _ _ _ _ (by exact e))
theorem ends_few (n : Net) (i : Nat) (h : n.L ≤ 40) : (n.ends i).length ≤ 1000 := by
 have h1 := (Pl.ends_perm n.ls n.live n.L i).length_eq
 have h2 := endsTo_few n.ls n.live i n.L
 show (Pl.ends n.ls n.live n.L i).length ≤ 1000
 omega
structure Pl.Net.Right (n : Net) : Prop where
 few : n.K ≤ 12
 fewL : n.L ≤ 40
 fine : ∀ i, i < n.K → (n.bs i).Fine
 links : Pl.RightL n.K n.L n.ls
 apart : ∀ i j, i < n.K → j < n.K → (n.bs i).addr = (n.bs j).addr → i = j
theorem right_of {n : Net} (hw : n.Wf) (h : n.wrong.1 = 0) : n.Right := by
 unfold Pl.Net.wrong at h
 by_cases c1 : 12 < n.K ∨ 40 < n.L
 ·rw [if_pos c1] at h; cases h
 ·rw [if_neg c1] at h
  by_cases c2 : (Pl.firstTo (Pl.bErr n.bs) n.K).1 = 0
  ·rw [if_neg (fun q => q c2)] at h
   have hb := (Pl.firstTo_zero _ _ c2).2
   have hl := (Pl.firstTo_zero _ _ h).2
   refine ⟨by omega, by omega, fun i hi => ?_, Pl.rightL hl, fun i j hi hj e => ?_⟩
   ·have h0 := bErr_zero (hb i hi)
    have ha := wf_u64 (hw.addr i hi)
    unfold Pl.brErr at h0
    split at h0
    ·omega
    ·split at h0
     ·omega
     ·split at h0
      ·omega
      ·rename_i q1 q2 q3
       refine ⟨by omega, by omega, fun t ht => ?_, Rg.wrong_zero h0⟩
       have := Pl.someTo_false (by simpa using q3) t ht
       unfold Pl.oddP at this
       simp only [Bool.or_eq_false_iff, Bool.not_eq_false', decide_eq_true_eq] at this
       exact this.1
   ·have key : ∀ a b, a < b → b < n.K → (n.bs a).addr ≠ (n.bs b).addr := fun a b hab hb' e2 => by
     have h7 := hb b hb'
     unfold Pl.bErr at h7
     rw [if_neg (fun q => q (bErr_zero (hb b hb'))), if_pos (Pl.someTo_iff.2 ⟨a, hab, decide_eq_true e2⟩)] at h7
     cases h7
    rcases Nat.lt_trichotomy i j with q | q | q
    ·exact absurd e (key i j q hj)
    ·exact q
    ·exact absurd e.symm (key j i q hi)
  ·rw [if_pos c2] at h; exact absurd h c2
def regR : Rg.Reg := ⟨⟨#[114]⟩, 0, none, 0, 0, fun _ => 0, fun _ => 0⟩
theorem sizeNet : (Tryz.prog.info? 32).map (·.size) = some 2 := by kernel_rfl
def e2a : En := ⟨1, 5, 1, 2, true⟩
def e2b : En := ⟨2, 5, 0, 1, true⟩
def E2 (i : Nat) : List En := if i = 0 then [e2a] else if i = 1 then [e2b] else []
theorem infoLk : (Tryz.prog.info? 83).map (fun i => (i.zero, i.size, i.bytes)) = some (some (.agg #[.int .i64 0, .int .i64 0, .int .i64 0, .int .i64 0, .int .i64 0, .bool false]), 6, 48) := by kernel_rfl
def PlRes (n : Net) (tree : Int) (base : Nat) (w : World) (a : Option Addr) (k c : Nat) (f1 f2 : Int) : Prop :=
 (n.wrong.1 ≠ 0 ∧ (a = none ∧ k = 0 ∧ c = 0) ∧ (f1, f2) = n.wrong) ∨ (n.wrong.1 = 0 ∧ ¬ (0 ≤ tree ∧ tree ≤ 15) ∧ (a = none ∧ k = 0 ∧ c = 0) ∧ f1 = 3 ∧ f2 = 0) ∨
  (n.wrong.1 = 0 ∧ (0 ≤ tree ∧ tree ≤ 15) ∧ ∃ P, (a = some ⟨P, 0, none⟩ ∧ k = n.K ∧ c = n.K) ∧ (f1 = 0 ∧ f2 = 0) ∧ PlacesAt w P n.K (Pl.rounds (n.ids tree) n.ends n.K n.K) n.ends n.K ∧ base ≤ P)
theorem PlRes.below {n : Net} {tree : Int} {base : Nat} {w w' : World} {a : Option Addr} {k c : Nat} {f1 f2 : Int} (h : PlRes n tree base w a k c f1 f2) (hb : Below w.heap.size w w') : PlRes n tree base w' a k c f1 f2 := by
 rcases h with h | h | ⟨h1, h2, P, h3, h4, h5, h6⟩
 ·exact Or.inl h
 ·exact Or.inr (Or.inl h)
 ·exact Or.inr (Or.inr ⟨h1, h2, P, h3, h4, h5.below hb, h6⟩)
theorem PlRes.mono {n : Net} {tree : Int} {base base' : Nat} {w : World} {a : Option Addr} {k c : Nat} {f1 f2 : Int} (h : PlRes n tree base w a k c f1 f2) (hb : base' ≤ base) : PlRes n tree base' w a k c f1 f2 := by
 rcases h with h | h | ⟨h1, h2, P, h3, h4, h5, h6⟩
 ·exact Or.inl h
 ·exact Or.inr (Or.inl h)
 ·exact Or.inr (Or.inr ⟨h1, h2, P, h3, h4, h5, Nat.le_trans hb h6⟩)
theorem PlRes.told {n : Net} {tree : Int} {base : Nat} {w : World} {a : Option Addr} {k c : Nat} {f1 f2 : Int} {T : Nat} (h : PlRes n tree base w a k c f1 f2) (hT : w.heap[T]? = some (.cells #[.int .i64 0, .int .i64 0] 26 (0, 0))) : PlRes n tree base ((w.setCell ⟨T, 0, none⟩ (.int .i64 f1)).setCell ⟨T, 1, none⟩ (.int .i64 f2)) a k c f1 f2 := by
 rcases h with h | h | ⟨h1, h2, P, h3, ⟨rfl, rfl⟩, h5, h6⟩
 ·exact Or.inl h
 ·exact Or.inr (Or.inl h)
 ·exact Or.inr (Or.inr ⟨h1, h2, P, h3, ⟨rfl, rfl⟩, h5.below (below_same hT), h6⟩)
end Go.Proofs.YtflghpnpjmodaaaGreatDoor
namespace Go.Proofs.YtflghpnpjmodaaaGreatDoor
namespace Pl
open Vc (V Of)
def lab (es : Nat → Nat × Nat) : Nat → (Nat → Nat)
 | 0 => fun i => i
 | k + 1 => fun i => if lab es k i = lab es k (es k).1 ∨ lab es k i = lab es k (es k).2 then min (lab es k (es k).1) (lab es k (es k).2) else lab es k i
def ring (es : Nat → Nat × Nat) : Nat → Bool
 | 0 => false
 | k + 1 => ring es k || decide (lab es k (es k).1 = lab es k (es k).2)
section
variable {K L : Nat} {ls : Nat → Lk} {ids : Nat → Int} {lv : Nat → Bool}
inductive Sub (ids : Nat → Int) (ls : Nat → Lk) (lv : Nat → Bool) (K L c : Nat) : Nat → Prop
 | self : Sub ids ls lv K L c c
 | up (v : Nat) (e : En) : v < K → e ∈ ends ls lv L v → e.live = true → e.port = (says ids ls lv K L v).rp → Sub ids ls lv K L c e.other.toNat → Sub ids ls lv K L c v
theorem up_cost (R : RightL K L ls) (hK : K ≤ 12) {v : Nat} (hv : v < K) {e : En} (he : e ∈ ends ls lv L v) (hl : e.live = true) (hp : e.port = (says ids ls lv K L v).rp) :
  (says ids ls lv K L v).v.cost = (says ids ls lv K L e.other.toNat).v.cost + e.cost ∧ (says ids ls lv K L v).v.root = (says ids ls lv K L e.other.toNat).v.root ∧ 1 ≤ e.cost ∧ e.other.toNat < K := by
 have G := good R hK ids lv
 obtain ⟨g1, g2, _⟩ := G.lt v hv e he hl
 rcases fin_port G hv with ⟨h, _⟩ | ⟨_, _, q, q1, q2, q3, q4, q5, _⟩
 ·exfalso
  change (says ids ls lv K L v).rp = -1 at h
  obtain ⟨k, hk, hh⟩ := ends_mem.1 he
  obtain ⟨_, _, _, o4, o5, _⟩ := R.ok k hk
  rcases hh with ⟨_, rfl⟩ | ⟨_, rfl⟩ <;> simp only at hp <;> omega
 ·have := ends_one R lv he q1 (by rw [q3]; exact hp)
  subst this
  exact ⟨q5, q4, g2.1, toNat_lt g1⟩
theorem Sub.cost (R : RightL K L ls) (hK : K ≤ 12) {c v : Nat} (h : Sub ids ls lv K L c v) : (says ids ls lv K L c).v.cost ≤ (says ids ls lv K L v).v.cost := by
 induction h with
 | self => exact Int.le_refl _
 | up v e hv he hl hp _ ih => have := up_cost R hK hv he hl hp; omega
end
end Pl
end Go.Proofs.YtflghpnpjmodaaaGreatDoor
namespace Go.Proofs.YtflghpnpjmodaaaGreatDoor
open Go.RowKit
open Vc (V Of)
open Pl (Br Net Pc Lk En St)
namespace Pl
def LN (l : List Nat) (j : Nat) : Nat := l.getD j 0
def Net.lvsTo (n : Net) (k : Nat) : List Nat := (List.range k).filter n.live
def Net.lvs (n : Net) : List Nat := n.lvsTo n.L
theorem Net.lvsTo_next (n : Net) (k : Nat) : n.lvsTo (k + 1) = n.lvsTo k ++ if n.live k = true then [k] else [] := by
 unfold Net.lvsTo
 rw [List.range_succ, List.filter_append]
 congr 1
 cases h : n.live k <;> simp [h]
theorem Net.lvsTo_few (n : Net) (k : Nat) : (n.lvsTo k).length ≤ k := by
 have := List.length_filter_le n.live (List.range k)
 rw [List.length_range] at this
 exact this
theorem LN_get {l : List Nat} {j : Nat} (h : j < l.length) : LN l j = l[j] := by
 unfold LN
 rw [List.getD_eq_getElem?_getD, List.getElem?_eq_getElem h]
 rfl
theorem Net.lvs_mem {n : Net} {j : Nat} (h : j < n.lvs.length) : LN n.lvs j < n.L ∧ n.live (LN n.lvs j) = true := by
 have hm : LN n.lvs j ∈ n.lvs := by rw [LN_get h]; exact List.getElem_mem h
 unfold Net.lvs Net.lvsTo at hm
 obtain ⟨h1, h2⟩ := List.mem_filter.1 hm
 exact ⟨List.mem_range.1 h1, h2⟩
end Pl
open Pl (LN)
abbrev lkCells (ls : Nat → Lk) (l : List Nat) : List Value := cellsL l.length 6 (fun j => lkC (ls (LN l j)))
theorem ln_snoc (ls : Nat → Lk) (l : List Nat) (k : Nat) : cellsL (l.length + 1) 6 (catC l.length (fun j => lkC (ls (LN l j))) (fun _ => lkC (ls k))) = lkCells ls (l ++ [k]) := by
 unfold lkCells
 rw [List.length_append]
 apply cellsL_congr
 intro i hi
 simp only [catC]
 by_cases q : i < l.length
 ·rw [if_pos q]
  simp [LN, List.getD, List.getElem?_append_left q]
 ·rw [if_neg q]
  obtain rfl : i = l.length := by omega
  simp [LN, List.getD]
theorem one_lk_row {w : World} {g : Nat} {l : Lk} {ty : TypeId} (h : w.heap[g]? = some (.cells (lkA l) ty (0, 0))) : LRow w (some ⟨g, 0, none⟩) 1 1 (fun _ => l) := by
 refine ⟨Nat.le_refl _, fun _ => ⟨g, 0, rfl, (Array.getElem?_eq_some_iff.1 h).1, fun i hi j hj => ?_⟩⟩
 obtain rfl : i = 0 := by omega
 rcases (by omega : j = 0 ∨ j = 1 ∨ j = 2 ∨ j = 3 ∨ j = 4 ∨ j = 5) with e | e | e | e | e | e <;> subst e <;> exact cell_of_row w g _ _ _ _ h
end Go.Proofs.YtflghpnpjmodaaaGreatDoor
namespace Go.Proofs.YtflghpnpjmodaaaGreatDoor
namespace Pl
open Vc (V Of)
def tStep (th : Nat → Bool) (l : Lk) (i : Nat) : Bool := if (th l.a.toNat || th l.b.toNat) = true then (th i || (decide (i = l.a.toNat) || decide (i = l.b.toNat))) else th i
def tTo (es : Nat → Lk) (th : Nat → Bool) : Nat → (Nat → Bool)
 | 0 => th
 | j + 1 => tStep (tTo es th j) (es j)
def tRounds (es : Nat → Lk) (m b : Nat) : Nat → (Nat → Bool)
 | 0 => fun i => decide (i = b)
 | r + 1 => tTo es (tRounds es m b r) m
theorem tStep_up {th : Nat → Bool} {l : Lk} {i : Nat} (h : th i = true) : tStep th l i = true := by
 unfold tStep
 split
 ·rw [h]; rfl
 ·exact h
theorem tTo_up {es : Nat → Lk} {th : Nat → Bool} {i : Nat} : ∀ j k, j ≤ k → tTo es th j i = true → tTo es th k i = true
 | j, 0, hk, h => by
  obtain rfl : j = 0 := by omega
  exact h
 | j, k + 1, hk, h => by
  by_cases e : j = k + 1
  ·rw [← e]; exact h
  ·exact tStep_up (tTo_up j k (by omega) h)
section
variable {ids : Nat → Int} {ls : Nat → Lk} {lv : Nat → Bool} {K L m : Nat} {on : Nat → Nat} {b : Nat}
def TReal (ls : Nat → Lk) (lv : Nat → Bool) (K L b : Nat) (th : Nat → Bool) : Prop := ∀ i, i < K → th i = true → Reach ls lv K L i b
def TUp (ls : Nat → Lk) (lv : Nat → Bool) (K L b : Nat) (n : Nat) (th : Nat → Bool) : Prop := ∀ i vs c, Walk (fun i => (i : Int)) (fun i => ends ls lv L i) K i vs (b : Int) c → vs.length ≤ n → th i = true
theorem tTo_real (R : RightL K L ls) (V : Lives ls lv L m on) {th : Nat → Bool} (h : TReal ls lv K L b th) : ∀ j, j ≤ m → TReal ls lv K L b (tTo (fun j => ls (on j)) th j)
 | 0, _ => h
 | j + 1, hj => by
  have ih := tTo_real R V h j (by omega)
  obtain ⟨hk, hl⟩ := V.mem j (by omega)
  obtain ⟨o1, o2, _⟩ := R.ok (on j) hk
  have ha := ih (ls (on j)).a.toNat (by omega)
  have hb := ih (ls (on j)).b.toNat (by omega)
  intro i hi ht
  have ht : tStep (tTo (fun j => ls (on j)) th j) (ls (on j)) i = true := ht
  unfold tStep at ht
  by_cases c : (tTo (fun j => ls (on j)) th j (ls (on j)).a.toNat || tTo (fun j => ls (on j)) th j (ls (on j)).b.toNat) = true
  ·rw [if_pos c] at ht
   have both : Reach ls lv K L (ls (on j)).a.toNat b ∧ Reach ls lv K L (ls (on j)).b.toNat b := by
    rw [Bool.or_eq_true] at c
    rcases c with c | c
    ·exact ⟨ha c, Reach.over R hk hl (Or.inr ⟨rfl, ha c⟩)⟩
    ·exact ⟨Reach.over R hk hl (Or.inl ⟨rfl, hb c⟩), hb c⟩
   rw [Bool.or_eq_true, Bool.or_eq_true, decide_eq_true_eq, decide_eq_true_eq] at ht
   rcases ht with ht | ht | ht
   ·exact ih i hi ht
   ·rw [ht]; exact both.1
   ·rw [ht]; exact both.2
  ·rw [if_neg c] at ht
   exact ih i hi ht
theorem tTo_more (R : RightL K L ls) (V : Lives ls lv L m on) {th : Nat → Bool} {n : Nat} (h : TUp ls lv K L b n th) (h0 : th b = true) : TUp ls lv K L b (n + 1) (tTo (fun j => ls (on j)) th m) := by
 intro i vs c hw hn
 generalize hr : (b : Int) = ρ at hw
 cases hw with
 | here _ hi =>
  have e : i = b := by omega
  rw [e]
  exact tTo_up 0 m (by omega) h0
 | over _ e vs _ c _ he hl hw =>
  rw [← hr] at hw
  have h1 := h e.other.toNat vs c hw (by simp at hn; omega)
  obtain ⟨k, hk, hh⟩ := ends_mem.1 he
  obtain ⟨o1, o2, _⟩ := R.ok k hk
  have hlk : lv k = true := by rcases hh with ⟨_, rfl⟩ | ⟨_, rfl⟩ <;> exact hl
  obtain ⟨q, hq, eq⟩ := V.all k hk hlk
  refine tTo_up (q + 1) m (by omega) ?_
  show tStep (tTo (fun j => ls (on j)) th q) (ls (on q)) i = true
  rw [eq]
  have hle : ∀ x, th x = true → tTo (fun j => ls (on j)) th q x = true := fun x hx => tTo_up 0 q (by omega) hx
  unfold tStep
  rcases hh with ⟨q1, rfl⟩ | ⟨q1, rfl⟩
  ·rw [if_pos (by rw [Bool.or_eq_true]; exact Or.inr (hle _ h1)), decide_eq_true (show i = (ls k).a.toNat by omega)]
   simp
  ·rw [if_pos (by rw [Bool.or_eq_true]; exact Or.inl (hle _ h1)), decide_eq_true (show i = (ls k).b.toNat by omega)]
   simp
theorem tRounds_inv (R : RightL K L ls) (V : Lives ls lv L m on) (hb : b < K) : ∀ r, TReal ls lv K L b (tRounds (fun j => ls (on j)) m b r) ∧ TUp ls lv K L b (r + 1) (tRounds (fun j => ls (on j)) m b r) ∧ tRounds (fun j => ls (on j)) m b r b = true
 | 0 => by
  refine ⟨fun i hi h => ?_, fun i vs c hw hn => ?_, decide_eq_true rfl⟩
  ·have e : i = b := of_decide_eq_true h
   rw [e]
   exact Reach.refl hb
  ·generalize hr : (b : Int) = ρ at hw
   cases hw with
   | here _ hi => exact decide_eq_true (by omega)
   | over _ e vs _ c _ _ _ hw =>
    cases hw with
    | here => simp at hn
    | over => simp at hn
 | r + 1 => by
  obtain ⟨h1, h2, h3⟩ := tRounds_inv R V hb r
  exact ⟨tTo_real R V h1 m (Nat.le_refl _), tTo_more R V h2 h3, tTo_up 0 m (by omega) h3⟩
theorem marked_iff (R : RightL K L ls) (hK : K ≤ 12) (V : Lives ls lv L m on) (hb : b < K) {i : Nat} (hi : i < K) : tRounds (fun j => ls (on j)) m b K i = true ↔ Reach ls lv K L i b := by
 obtain ⟨h1, h2, _⟩ := tRounds_inv (m := m) (on := on) R V hb K
 constructor
 ·exact h1 i hi
 ·rintro ⟨vs, c, hw⟩
  obtain ⟨us, d, k1, _, k3⟩ := hw.simple (good R hK (fun i => (i : Int)) lv)
  exact h2 i us d k1 (Nat.le_trans (nodup_few K us k3 k1.all) (by omega))
theorem first_root (R : RightL K L ls) (hK : K ≤ 12) (V : Lives ls lv L m on) (hb : b < K) (hl : ∀ j, j < K → j ≠ b → ids b < ids j) {i : Nat} (hi : i < K) : (says ids ls lv K L i).v.root = ids b ↔ Reach ls lv K L i b := by
 rw [← root_same (ids := ids) R hK V hi]
 obtain ⟨h1, h2⟩ := rootTo_le ids (gRounds (fun j => ls (on j)) m K) i K
 obtain ⟨j, j1, j2, j3⟩ := rootTo_is ids (gRounds (fun j => ls (on j)) m K) i K
 have hj : j < K := by omega
 constructor
 ·intro e
  rw [j3] at e
  by_cases q : j = b
  ·rw [q] at j2
   exact (group_iff R hK V hi hb).1 j2.symm
  ·have := hl j hj q
   omega
 ·intro h
  have g := (group_iff R hK V hi hb).2 h
  have h3 := h2 b hb g.symm
  by_cases q : j = b
  ·rw [j3, q]
  ·have := hl j hj q
   omega
theorem marked_root (R : RightL K L ls) (hK : K ≤ 12) (V : Lives ls lv L m on) (hb : b < K) (hl : ∀ j, j < K → j ≠ b → ids b < ids j) {i : Nat} (hi : i < K) : tRounds (fun j => ls (on j)) m b K i = decide ((says ids ls lv K L i).v.root = ids b) := by
 have h := (marked_iff R hK V hb hi).trans (first_root R hK V hb hl hi).symm
 cases e : tRounds (fun j => ls (on j)) m b K i with
 | true => exact (decide_eq_true (h.1 e)).symm
 | false => exact (decide_eq_false (fun q => by rw [h.2 q] at e; cases e)).symm
end
theorem Net.lives (n : Net) : Lives n.ls n.live n.L n.lvs.length (LN n.lvs) := by
 refine ⟨fun j hj => n.lvs_mem hj, fun k hk hl => ?_⟩
 have hm : k ∈ n.lvs := by
  unfold Net.lvs Net.lvsTo
  exact List.mem_filter.2 ⟨List.mem_range.2 hk, hl⟩
 obtain ⟨j, hj, e⟩ := List.getElem_of_mem hm
 exact ⟨j, hj, by rw [LN_get hj]; exact e⟩
end Pl
namespace Tk
open Vc (V Of)
open Pl (Lk En St fin offs)
def calmOf (r c : Int) : Int := if r = 1 ∨ r = 2 then (if c < 49 then c else 49) + 1 else 0
theorem calmOf_pos {r c : Int} (h : 0 < calmOf r c) : r = 1 ∨ r = 2 := by
 unfold calmOf at h
 by_cases q : r = 1 ∨ r = 2
 ·exact q
 ·rw [if_neg q] at h; omega
structure Mnd where
 md : Md
 roles : List Int
 calm : List Int
def tickF (ids : Nat → Int) (E : Nat → List En) (x : Nat → Mnd) (i : Nat) : Mnd :=
 ⟨chM (ids i) (heard (E i) (fun j => (x j).md)), (E i).map (roleM (chM (ids i) (heard (E i) (fun j => (x j).md))) (heard (E i) (fun j => (x j).md))),
  List.zipWith calmOf ((E i).map (roleM (chM (ids i) (heard (E i) (fun j => (x j).md))) (heard (E i) (fun j => (x j).md)))) (x i).calm⟩
def ticksF (ids : Nat → Int) (E : Nat → List En) (x : Nat → Mnd) : Nat → (Nat → Mnd)
 | 0 => x
 | t + 1 => tickF ids E (ticksF ids E x t)
section
variable {ids : Nat → Int} {E : Nat → List En} {K : Nat}
theorem ticksF_md (x : Nat → Mnd) : ∀ t i, (ticksF ids E x t i).md = ticks ids E (fun j => (x j).md) t i
 | 0, _ => rfl
 | t + 1, i => by
  have e : (fun j => (ticksF ids E x t j).md) = ticks ids E (fun j => (x j).md) t := funext (fun j => ticksF_md x t j)
  simp only [ticksF, tickF, ticks, tick]
  rw [e]
theorem ticksF_add (x : Nat → Mnd) (a : Nat) : ∀ b, ticksF ids E (ticksF ids E x a) b = ticksF ids E x (a + b)
 | 0 => rfl
 | b + 1 => by
  show tickF ids E (ticksF ids E (ticksF ids E x a) b) = tickF ids E (ticksF ids E x (a + b))
  rw [ticksF_add x a b]
theorem settledF (G : Pl.Good ids E K) (one : ∀ i, i < K → ∀ p q, p ∈ E i → q ∈ E i → p.port = q.port → p = q) (x : Nat → Mnd) {t : Nat} (ht : 33 ≤ t) {i : Nat} (hi : i < K) :
  (ticksF ids E x t i).md.v = (fin ids E K i).v ∧ (ticksF ids E x t i).md.rp = (fin ids E K i).rp ∧ (ticksF ids E x t i).roles = (E i).map (Pl.roleAt (fin ids E K i) (offs (E i) (fin ids E K))) := by
 obtain ⟨dep, hd, hs⟩ := settled G one (fun j => (x j).md)
 have h1 := hs t (by omega) i hi
 rw [ticksF_md, h1]
 refine ⟨rfl, rfl, ?_⟩
 obtain ⟨s, rfl⟩ : ∃ s, t = s + 1 := ⟨t - 1, by omega⟩
 have e : (fun j => (ticksF ids E x s j).md) = ticks ids E (fun j => (x j).md) s := funext (fun j => ticksF_md x s j)
 simp only [ticksF, tickF]
 rw [e]
 have h2 : chM (ids i) (heard (E i) (ticks ids E (fun j => (x j).md) s)) = ⟨(fin ids E K i).v, dep i, (fin ids E K i).rp⟩ := h1
 rw [h2]
 apply List.map_congr_left
 intro e _
 refine role_same _ _ rfl rfl (E i) _ _ (fun q hq hl => ?_) e
 have hj := Pl.toNat_lt (G.lt i hi q hq hl).1
 rw [hs s (by omega) q.other.toNat hj]
 have := hd q.other.toNat hj
 exact ⟨rfl, by simp only; omega, by simp only; omega⟩
def Fit (E : Nat → List En) (K : Nat) (x : Nat → Mnd) : Prop := ∀ i, i < K → (x i).roles.length = (E i).length ∧ (x i).calm.length = (E i).length
def Calm (x : Nat → Mnd) (K : Nat) : Prop := ∀ i, i < K → ∀ j, 0 ≤ (x i).calm.getD j 0 ∧ (0 < (x i).calm.getD j 0 → (x i).roles.getD j 0 = 1 ∨ (x i).roles.getD j 0 = 2)
theorem getD_zip (rs cs : List Int) (h : rs.length = cs.length) (j : Nat) (hj : j < rs.length) : (List.zipWith calmOf rs cs).getD j 0 = calmOf (rs.getD j 0) (cs.getD j 0) := by
 rw [List.getD_eq_getElem?_getD, List.getD_eq_getElem?_getD, List.getD_eq_getElem?_getD, List.getElem?_zipWith, List.getElem?_eq_getElem hj, List.getElem?_eq_getElem (by omega)]
 rfl
theorem getD_out (l : List Int) (j : Nat) (hj : l.length ≤ j) : l.getD j 0 = 0 := by
 rw [List.getD_eq_getElem?_getD, List.getElem?_eq_none hj]; rfl
theorem tickF_fit {x : Nat → Mnd} (h : Fit E K x) : Fit E K (tickF ids E x) := fun i hi => by
 have := h i hi
 simp only [tickF, List.length_map, List.length_zipWith]
 exact ⟨trivial, by omega⟩
theorem ticksF_fit {x : Nat → Mnd} (h : Fit E K x) : ∀ t, Fit E K (ticksF ids E x t)
 | 0 => h
 | t + 1 => tickF_fit (ticksF_fit h t)
theorem tickF_calm {x : Nat → Mnd} (h : Fit E K x) {i : Nat} (hi : i < K) {j : Nat} (hj : j < (E i).length) : (tickF ids E x i).calm.getD j 0 = calmOf ((tickF ids E x i).roles.getD j 0) ((x i).calm.getD j 0) := by
 simp only [tickF]
 exact getD_zip _ _ (by rw [List.length_map]; exact (h i hi).2.symm) j (by rw [List.length_map]; exact hj)
theorem calmOf_nonneg {r c : Int} (h : 0 ≤ c) : 0 ≤ calmOf r c := by
 unfold calmOf
 split
 ·split <;> omega
 ·omega
theorem tickF_Calm {x : Nat → Mnd} (h : Fit E K x) (hc : Calm x K) : Calm (tickF ids E x) K := fun i hi j => by
 by_cases hj : j < (E i).length
 ·rw [tickF_calm h hi hj]
  exact ⟨calmOf_nonneg (hc i hi j).1, fun q => calmOf_pos q⟩
 ·rw [getD_out _ j (by rw [(tickF_fit (ids := ids) h i hi).2]; omega)]
  exact ⟨Int.le_refl _, fun q => by omega⟩
theorem ticksF_Calm {x : Nat → Mnd} (h : Fit E K x) (hc : Calm x K) : ∀ t, Calm (ticksF ids E x t) K
 | 0 => hc
 | t + 1 => tickF_Calm (ticksF_fit h t) (ticksF_Calm h hc t)
theorem calm_on {x : Nat → Mnd} (h : Fit E K x) (hc : Calm x K) {i : Nat} (hi : i < K) {j : Nat} (hj : j < (E i).length) (s : Nat) (hr : ∀ t, s < t → (ticksF ids E x t i).roles.getD j 0 = 1 ∨ (ticksF ids E x t i).roles.getD j 0 = 2) : ∀ n : Nat, n ≤ 50 → (n : Int) ≤ (ticksF ids E x (s + n) i).calm.getD j 0
 | 0, _ => (ticksF_Calm h hc s i hi j).1
 | n + 1, hn => by
  have ih := calm_on h hc hi hj s hr n (by omega)
  have hr' := hr (s + n + 1) (by omega)
  show _ ≤ (ticksF ids E x (s + n + 1) i).calm.getD j 0
  simp only [ticksF] at hr' ⊢
  rw [tickF_calm (ticksF_fit h _) hi hj]
  unfold calmOf
  rw [if_pos hr']
  split <;> omega
end
end Tk
namespace Tk
open Vc (V Of)
open Pl (Lk En St fin offs RightL ends endsTo endsAt)
structure Dn where
 kind : Int
 n : Int
 tree : Int
 value : Int
structure Cn where
 K : Nat
 L : Nat
 addr : Nat → Int
 sm : Nat → Nat → Bool
structure Sc where
 pr : Nat → List Int
 ls : Nat → Lk
 ms : Nat → Nat → Mnd
def prioOf (p : List Int) (tree : Int) : Int := if 0 ≤ tree ∧ tree ≤ (p.length : Int) - 1 then p.getD tree.toNat 0 else 32768
def Sc.ids (s : Sc) (c : Cn) (tree : Int) (i : Nat) : Int := prioOf (s.pr i) tree * 281474976710656 + c.addr i
def Sc.lv (s : Sc) (c : Cn) (k : Nat) : Bool := (s.ls k).up && c.sm (s.ls k).a.toNat (s.ls k).b.toNat
def Sc.E (s : Sc) (c : Cn) (i : Nat) : List En := ends s.ls (s.lv c) c.L i
def Sc.ticks (s : Sc) (c : Cn) (t : Nat) : Sc := ⟨s.pr, s.ls, fun k => ticksF (s.ids c k) (s.E c) (s.ms k) t⟩
theorem Sc.ticks_add (s : Sc) (c : Cn) (a b : Nat) : (s.ticks c a).ticks c b = s.ticks c (a + b) := by
 unfold Sc.ticks
 congr 1
 funext k
 exact ticksF_add (s.ms k) a b
def padTo (p : List Int) (t : Nat) : List Int := p ++ List.replicate (t + 1 - p.length) 32768
def setPr (p : List Int) (t : Nat) (v : Int) : List Int := (padTo p t).set t v
def Sc.setUp (s : Sc) (k : Nat) (up : Bool) : Sc := ⟨s.pr, fun j => if j = k then ⟨(s.ls k).a, (s.ls k).pa, (s.ls k).b, (s.ls k).pb, (s.ls k).cost, up⟩ else s.ls j, s.ms⟩
def Sc.setCost (s : Sc) (k : Nat) (v : Int) : Sc := ⟨s.pr, fun j => if j = k then ⟨(s.ls k).a, (s.ls k).pa, (s.ls k).b, (s.ls k).pb, v, (s.ls k).up⟩ else s.ls j, s.ms⟩
def Sc.setPrio (s : Sc) (i t : Nat) (v : Int) : Sc := ⟨fun j => if j = i then setPr (s.pr i) t v else s.pr j, s.ls, s.ms⟩
def errOf (c : Cn) (d : Dn) : Int :=
 if d.kind = 1 then (if 0 ≤ d.n ∧ d.n ≤ 200 then 0 else 3)
 else if d.kind = 2 ∨ d.kind = 3 ∨ d.kind = 4 then (if 0 ≤ d.n ∧ d.n ≤ (c.L : Int) - 1 then (if d.kind = 4 ∧ ¬ (1 ≤ d.value ∧ d.value ≤ 200000) then 3 else 0) else 6)
 else if d.kind = 5 then (if 0 ≤ d.n ∧ d.n ≤ (c.K : Int) - 1 then (if (0 ≤ d.tree ∧ d.tree ≤ 15) ∧ Pl.oddP d.value = false then 0 else 3) else 6)
 else 1
def Sc.one (s : Sc) (c : Cn) (d : Dn) : Sc :=
 if d.kind = 1 then s.ticks c d.n.toNat
 else if d.kind = 2 then s.setUp d.n.toNat true
 else if d.kind = 3 then s.setUp d.n.toNat false
 else if d.kind = 4 then s.setCost d.n.toNat d.value
 else s.setPrio d.n.toNat d.tree.toNat d.value
def Sc.all (s : Sc) (c : Cn) (l : Nat → Dn) : Nat → Sc
 | 0 => s
 | k + 1 => (s.all c l k).one c (l k)
def errTo (c : Cn) (l : Nat → Dn) : Nat → Int × Int := Pl.firstTo (fun k => errOf c (l k))
def SameEnds (c : Cn) (s t : Sc) : Prop := ∀ k, k < c.L → (t.ls k).a = (s.ls k).a ∧ (t.ls k).b = (s.ls k).b ∧ (t.ls k).pa = (s.ls k).pa ∧ (t.ls k).pb = (s.ls k).pb
structure Fine (c : Cn) (s : Sc) : Prop where
 few : c.K ≤ 12
 fewL : c.L ≤ 40
 links : RightL c.K c.L s.ls
 addr : ∀ i, i < c.K → 0 ≤ c.addr i ∧ c.addr i ≤ 281474976710655
 apart : ∀ i j, i < c.K → j < c.K → c.addr i = c.addr j → i = j
 prios : ∀ i, i < c.K → (s.pr i).length ≤ 16 ∧ ∀ p ∈ s.pr i, 0 ≤ p ∧ p ≤ 61440 ∧ p % 4096 = 0
theorem rightL_of {K L : Nat} {ls ls' : Nat → Lk} (R : RightL K L ls) (h : ∀ k, k < L → (ls' k).a = (ls k).a ∧ (ls' k).b = (ls k).b ∧ (ls' k).pa = (ls k).pa ∧ (ls' k).pb = (ls k).pb) (hc : ∀ k, k < L → 1 ≤ (ls' k).cost ∧ (ls' k).cost ≤ 200000) : RightL K L ls' := by
 refine ⟨fun k hk => ?_, fun j k hj hk => ?_⟩
 ·obtain ⟨a1, a2, a3, a4⟩ := h k hk
  obtain ⟨o1, o2, o3, o4, o5, _⟩ := R.ok k hk
  rw [a1, a2, a3, a4]
  exact ⟨o1, o2, o3, o4, o5, hc k hk⟩
 ·obtain ⟨a1, a2, a3, a4⟩ := h k hk
  obtain ⟨b1, b2, b3, b4⟩ := h j (by omega)
  have := R.one j k hj hk
  unfold Pl.isEnd at this ⊢
  rw [a1, a2, a3, a4, b1, b2, b3, b4]
  exact this
theorem Fine.one {c : Cn} {s : Sc} (h : Fine c s) (d : Dn) (hd : errOf c d = 0) : Fine c (s.one c d) ∧ SameEnds c s (s.one c d) := by
 unfold errOf at hd
 unfold Sc.one
 by_cases k1 : d.kind = 1
 ·rw [if_pos k1]
  exact ⟨⟨h.few, h.fewL, h.links, h.addr, h.apart, h.prios⟩, fun k hk => ⟨rfl, rfl, rfl, rfl⟩⟩
 ·rw [if_neg k1] at hd ⊢
  have hup : ∀ (k : Nat) (up : Bool), Fine c (s.setUp k up) ∧ SameEnds c s (s.setUp k up) := fun k up => by
   have hs : SameEnds c s (s.setUp k up) := fun j hj => by
    unfold Sc.setUp
    by_cases e : j = k
    ·simp only [if_pos e]; rw [e]; exact ⟨rfl, rfl, rfl, rfl⟩
    ·simp only [if_neg e]; exact ⟨trivial, trivial, trivial, trivial⟩
   refine ⟨⟨h.few, h.fewL, rightL_of h.links hs (fun j hj => ?_), h.addr, h.apart, h.prios⟩, hs⟩
   unfold Sc.setUp
   by_cases e : j = k
   ·subst e; simp only [if_true]; exact (h.links.ok j hj).2.2.2.2.2
   ·simp only [if_neg e]; exact (h.links.ok j hj).2.2.2.2.2
  by_cases k2 : d.kind = 2
  ·rw [if_pos k2]; exact hup _ _
  ·rw [if_neg k2]
   by_cases k3 : d.kind = 3
   ·rw [if_pos k3]; exact hup _ _
   ·rw [if_neg k3]
    by_cases k4 : d.kind = 4
    ·rw [if_pos (Or.inr (Or.inr k4))] at hd
     rw [if_pos k4]
     have hv : 1 ≤ d.value ∧ d.value ≤ 200000 := by
      by_cases q : 1 ≤ d.value ∧ d.value ≤ 200000
      ·exact q
      ·exfalso
       by_cases q2 : 0 ≤ d.n ∧ d.n ≤ (c.L : Int) - 1
       ·rw [if_pos q2, if_pos ⟨k4, q⟩] at hd; omega
       ·rw [if_neg q2] at hd; omega
     have hs : SameEnds c s (s.setCost d.n.toNat d.value) := fun j hj => by
      unfold Sc.setCost
      by_cases e : j = d.n.toNat
      ·simp only [if_pos e]; rw [e]; exact ⟨rfl, rfl, rfl, rfl⟩
      ·simp only [if_neg e]; exact ⟨trivial, trivial, trivial, trivial⟩
     refine ⟨⟨h.few, h.fewL, rightL_of h.links hs (fun j hj => ?_), h.addr, h.apart, h.prios⟩, hs⟩
     unfold Sc.setCost
     by_cases e : j = d.n.toNat
     ·simp only [if_pos e]; exact hv
     ·simp only [if_neg e]; exact (h.links.ok j hj).2.2.2.2.2
    ·rw [if_neg (by omega)] at hd
     rw [if_neg k4]
     have k5 : d.kind = 5 := by
      by_cases q : d.kind = 5
      ·exact q
      ·rw [if_neg q] at hd; omega
     rw [if_pos k5] at hd
     have hn : 0 ≤ d.n ∧ d.n ≤ (c.K : Int) - 1 := by
      by_cases q : 0 ≤ d.n ∧ d.n ≤ (c.K : Int) - 1
      ·exact q
      ·rw [if_neg q] at hd; omega
     rw [if_pos hn] at hd
     have hv : (0 ≤ d.tree ∧ d.tree ≤ 15) ∧ Pl.oddP d.value = false := by
      by_cases q : (0 ≤ d.tree ∧ d.tree ≤ 15) ∧ Pl.oddP d.value = false
      ·exact q
      ·rw [if_neg q] at hd; omega
     have hp : 0 ≤ d.value ∧ d.value ≤ 61440 ∧ d.value % 4096 = 0 := by
      have := hv.2
      unfold Pl.oddP at this
      simp at this
      omega
     refine ⟨⟨h.few, h.fewL, h.links, h.addr, h.apart, fun i hi => ?_⟩, fun k hk => ⟨rfl, rfl, rfl, rfl⟩⟩
     unfold Sc.setPrio
     by_cases e : i = d.n.toNat
     ·simp only [if_pos e]
      rw [← e]
      obtain ⟨p1, p2⟩ := h.prios i hi
      unfold setPr padTo
      refine ⟨by simp; omega, fun p hpm => ?_⟩
      rcases List.mem_or_eq_of_mem_set hpm with q | q
      ·rcases List.mem_append.1 q with q | q
       ·exact p2 p q
       ·rw [List.mem_replicate] at q
        rw [q.2]; decide
      ·rw [q]; exact hp
     ·simp only [if_neg e]; exact h.prios i hi
theorem Fine.all {c : Cn} {s : Sc} (h : Fine c s) (l : Nat → Dn) : ∀ n, (∀ k, k < n → errOf c (l k) = 0) → Fine c (s.all c l n) ∧ SameEnds c s (s.all c l n)
 | 0, _ => ⟨h, fun _ _ => ⟨rfl, rfl, rfl, rfl⟩⟩
 | n + 1, hl => by
  obtain ⟨h1, h2⟩ := Fine.all h l n (fun k hk => hl k (by omega))
  obtain ⟨h3, h4⟩ := h1.one (l n) (hl n (by omega))
  refine ⟨h3, fun k hk => ?_⟩
  obtain ⟨a1, a2, a3, a4⟩ := h2 k hk
  obtain ⟨b1, b2, b3, b4⟩ := h4 k hk
  exact ⟨b1.trans a1, b2.trans a2, b3.trans a3, b4.trans a4⟩
theorem endsTo_ports_eq {ls ls' : Nat → Lk} (lv lv' : Nat → Bool) (i : Nat) : ∀ L, (∀ k, k < L → (ls' k).a = (ls k).a ∧ (ls' k).b = (ls k).b ∧ (ls' k).pa = (ls k).pa ∧ (ls' k).pb = (ls k).pb) → (endsTo ls' lv' i L).map (·.port) = (endsTo ls lv i L).map (·.port)
 | 0, _ => rfl
 | L + 1, h => by
  simp only [endsTo, List.map_append]
  rw [endsTo_ports_eq lv lv' i L (fun k hk => h k (by omega))]
  obtain ⟨a1, a2, a3, a4⟩ := h L (by omega)
  congr 1
  unfold endsAt
  rw [a1, a2, a3, a4]
  split <;> split <;> rfl
theorem ports_eq {K L : Nat} {ls ls' : Nat → Lk} (R : RightL K L ls) (R' : RightL K L ls') (h : ∀ k, k < L → (ls' k).a = (ls k).a ∧ (ls' k).b = (ls k).b ∧ (ls' k).pa = (ls k).pa ∧ (ls' k).pb = (ls k).pb) (lv lv' : Nat → Bool) (i : Nat) : (ends ls' lv' L i).map (·.port) = (ends ls lv L i).map (·.port) := by
 have p1 := (Pl.ends_perm ls' lv' L i).map (fun e : En => e.port)
 have p2 := (Pl.ends_perm ls lv L i).map (fun e : En => e.port)
 rw [endsTo_ports_eq lv lv' i L h] at p1
 refine (p1.trans p2.symm).eq_of_pairwise (le := fun a b : Int => a < b) (fun a b _ _ h1 h2 => by omega) ?_ ?_
 ·exact List.pairwise_map.2 (Pl.ends_sorted R' lv' i)
 ·exact List.pairwise_map.2 (Pl.ends_sorted R lv i)
theorem SameEnds.len {c : Cn} {s t : Sc} (h : SameEnds c s t) (hs : Fine c s) (ht : Fine c t) (i : Nat) : (t.E c i).map (·.port) = (s.E c i).map (·.port) ∧ (t.E c i).length = (s.E c i).length := by
 have := ports_eq hs.links ht.links h (s.lv c) (t.lv c) i
 refine ⟨this, ?_⟩
 have e := congrArg List.length this
 simpa [Sc.E] using e
theorem Fine.good {c : Cn} {s : Sc} (h : Fine c s) (ids : Nat → Int) : Pl.Good ids (s.E c) c.K := Pl.good h.links h.few ids (s.lv c)
theorem Fine.ports {c : Cn} {s : Sc} (h : Fine c s) : ∀ i, i < c.K → ∀ p q, p ∈ s.E c i → q ∈ s.E c i → p.port = q.port → p = q := fun _ _ _ _ hp hq e => Pl.ends_one h.links (s.lv c) hp hq e
structure Ok (c : Cn) (s : Sc) (T : Nat) : Prop where
 fine : Fine c s
 fit : ∀ k, k < T → Fit (s.E c) c.K (s.ms k)
 calm : ∀ k, k < T → Calm (s.ms k) c.K
theorem Ok.one {c : Cn} {s : Sc} {T : Nat} (h : Ok c s T) (d : Dn) (hd : errOf c d = 0) : Ok c (s.one c d) T := by
 obtain ⟨h1, h2⟩ := h.fine.one d hd
 have hlen := fun i => (h2.len h.fine h1 i).2
 by_cases k1 : d.kind = 1
 ·have e : s.one c d = s.ticks c d.n.toNat := by unfold Sc.one; rw [if_pos k1]
  rw [e] at h1 hlen ⊢
  exact ⟨h1, fun k hk => ticksF_fit (h.fit k hk) _, fun k hk => ticksF_Calm (h.fit k hk) (h.calm k hk) _⟩
 ·have e : (s.one c d).ms = s.ms := by
   unfold Sc.one
   rw [if_neg k1]
   split
   ·rfl
   ·split
    ·rfl
    ·split <;> rfl
  refine ⟨h1, fun k hk i hi => ?_, fun k hk => ?_⟩
  ·rw [e, hlen i]; exact h.fit k hk i hi
  ·rw [e]; exact h.calm k hk
theorem Ok.all {c : Cn} {s : Sc} {T : Nat} (h : Ok c s T) (l : Nat → Dn) : ∀ n, (∀ k, k < n → errOf c (l k) = 0) → Ok c (s.all c l n) T
 | 0, _ => h
 | n + 1, hl => (Ok.all h l n (fun k hk => hl k (by omega))).one (l n) (hl n (by omega))
def Sc.says (s : Sc) (c : Cn) (tree : Int) : Nat → St := fin (s.ids c tree) (s.E c) c.K
def Sc.roles (s : Sc) (c : Cn) (tree : Int) (i : Nat) : List Int := (s.E c i).map (Pl.roleAt (s.says c tree i) (offs (s.E c i) (s.says c tree)))
def As (c : Cn) (s : Sc) (k : Nat) : Prop := ∀ i, i < c.K → (s.ms k i).md.v = (s.says c k i).v ∧ (s.ms k i).md.rp = (s.says c k i).rp ∧ (s.ms k i).roles = s.roles c k i
theorem Fine.settles {c : Cn} {s : Sc} (h : Fine c s) {t : Nat} (ht : 33 ≤ t) (k : Nat) : As c (s.ticks c t) k := fun _ hi => settledF (h.good _) h.ports (s.ms k) ht hi
end Tk
end Go.Proofs.YtflghpnpjmodaaaGreatDoor
