/- What package relay's functions come to: plain functions on lists of gates. -/
import Derived.Test.YtgkmaihleilchaaGMd
import Derived.Test.YtgkmaihleilchaaBMd3
import Derived.Test.YtgkmaihleilchaaBase
import Derived.Test.YtgkmaihleilchaaBW4
namespace Go.Proofs.Ytgkmaihleilchaa
namespace Rl
open Bk (E at')
/-- A gate, and where its ways and its openings lie. -/
structure G where
  port : Int
  plain : Int
  ways : List Int
  opens : List Bool
  wo : Option Addr
  wcap : Nat
  oo : Option Addr
  ocap : Nat
def g0 : G := ⟨0, 0, [], [], none, 0, none, 0⟩
instance : Inhabited G := ⟨g0⟩
/-- Gate i. -/
def gat (l : List G) (i : Nat) : G := l.getD i g0
theorem gat_get (l : List G) (i : Nat) (h : i < l.length) : gat l i = l[i] := by simp [gat, h]
theorem gat_mem (l : List G) (i : Nat) (h : i < l.length) : gat l i ∈ l := by rw [gat_get l i h]; exact List.getElem_mem h
theorem mem_gat {l : List G} {g : G} (h : g ∈ l) : ∃ i, i < l.length ∧ gat l i = g := by
  obtain ⟨i, hi, rfl⟩ := List.getElem_of_mem h
  exact ⟨i, hi, gat_get l i hi⟩
theorem gat_out (l : List G) (i : Nat) (h : l.length ≤ i) : gat l i = g0 := by simp [gat, h]
theorem take_succ (l : List G) (k : Nat) (h : k < l.length) : l.take (k + 1) = l.take k ++ [gat l k] := by
  rw [gat_get l k h, List.take_succ_eq_append_getElem h]
def listOf (n : Nat) (f : Nat → G) : List G := (List.range n).map f
theorem listOf_length (n : Nat) (f : Nat → G) : (listOf n f).length = n := by simp [listOf]
theorem listOf_at (n : Nat) (f : Nat → G) (i : Nat) (h : i < n) : gat (listOf n f) i = f i := by simp [gat, listOf, h]
/-- What is wrong with a gate, whatever its ways are. -/
def gateErr (g : G) : Int := if (0 ≤ g.port ∧ g.port ≤ 30) ∧ 0 ≤ g.plain ∧ g.plain ≤ 4094 then (if (16 : Int) < g.opens.length then 5 else 0) else 3
/-- What is wrong with its ways. -/
def wv (l : List Int) (i : Nat) : Int := l.getD i 0
def waysErr (l : List Int) : Int := Rg.wrongTo (wv l) (fun _ => 1) l.length
def rise (a n : Int) : Int := if n ≤ a then 2 else 0
def aheadP (l : List G) (i : Nat) : Int := if i = 0 then -1 else (gat l (i - 1)).port
def or3 (a b c : Int) : Int := if a = 0 then (if b = 0 then c else b) else a
def gErr (l : List G) (i : Nat) : Int := or3 (gateErr (gat l i)) (waysErr (gat l i).ways) (rise (aheadP l i) (gat l i).port)
def wrong (l : List G) : Int × Int := Bk.firstTo (gErr l) l.length
theorem or3_zero {a b c : Int} (h : or3 a b c = 0) : a = 0 ∧ b = 0 ∧ c = 0 := by
  unfold or3 at h
  by_cases h1 : a = 0
  · rw [if_pos h1] at h
    by_cases h2 : b = 0
    · rw [if_pos h2] at h; exact ⟨h1, h2, h⟩
    · rw [if_neg h2] at h; exact absurd h h2
  · rw [if_neg h1] at h; exact absurd h h1
/-- Nothing is wrong with the gates. -/
structure Right (l : List G) : Prop where
  port : ∀ i, i < l.length → 0 ≤ (gat l i).port ∧ (gat l i).port ≤ 30
  plain : ∀ i, i < l.length → 0 ≤ (gat l i).plain ∧ (gat l i).plain ≤ 4094
  opens : ∀ i, i < l.length → (gat l i).opens.length ≤ 16
  ways : ∀ i, i < l.length → Rg.Right (wv (gat l i).ways) (fun _ => 1) (gat l i).ways.length
  less : ∀ i j, i < j → j < l.length → (gat l i).port < (gat l j).port
theorem right_of {l : List G} (h : (wrong l).1 = 0) : Right l := by
  have hz := (Bk.firstTo_zero _ _ h).2
  have h1 : ∀ i, i < l.length → gateErr (gat l i) = 0 ∧ waysErr (gat l i).ways = 0 ∧ rise (aheadP l i) (gat l i).port = 0 := fun i hi => or3_zero (hz i hi)
  have hg : ∀ i, i < l.length → ((0 ≤ (gat l i).port ∧ (gat l i).port ≤ 30) ∧ 0 ≤ (gat l i).plain ∧ (gat l i).plain ≤ 4094) ∧ (gat l i).opens.length ≤ 16 := fun i hi => by
    have := (h1 i hi).1
    unfold gateErr at this
    by_cases c : (0 ≤ (gat l i).port ∧ (gat l i).port ≤ 30) ∧ 0 ≤ (gat l i).plain ∧ (gat l i).plain ≤ 4094
    · rw [if_pos c] at this
      by_cases d : (16 : Int) < (gat l i).opens.length
      · rw [if_pos d] at this; cases this
      · exact ⟨c, by omega⟩
    · rw [if_neg c] at this; cases this
  refine ⟨fun i hi => (hg i hi).1.1, fun i hi => (hg i hi).1.2, fun i hi => (hg i hi).2, fun i hi => Rg.right_of (h1 i hi).2.1, ?_⟩
  have hs : ∀ i, i + 1 < l.length → (gat l i).port < (gat l (i + 1)).port := fun i hi => by
    have := (h1 (i + 1) hi).2.2
    have ea : aheadP l (i + 1) = (gat l i).port := by unfold aheadP; rw [if_neg (by omega)]; rfl
    rw [ea] at this
    unfold rise at this
    by_cases c : (gat l (i + 1)).port ≤ (gat l i).port
    · rw [if_pos c] at this; cases this
    · omega
  intro i j hij
  induction j with
  | zero => omega
  | succ j ih =>
    intro hj
    by_cases e : i = j
    · subst e; exact hs i hj
    · have := ih (by omega) (by omega)
      have := hs j hj
      omega
theorem Right.low {l : List G} (h : Right l) : ∀ i, i < l.length → (i : Int) ≤ (gat l i).port
  | 0, hi => (h.port 0 hi).1
  | i + 1, hi => by have := Right.low h i (by omega); have := h.less i (i + 1) (by omega) hi; omega
theorem Right.many {l : List G} (h : Right l) : l.length ≤ 31 := by
  rcases Nat.eq_zero_or_pos l.length with e | e
  · omega
  · have h1 := h.low (l.length - 1) (by omega)
    have h2 := (h.port (l.length - 1) (by omega)).2
    omega
theorem Right.one {l : List G} (h : Right l) {i j : Nat} (hi : i < l.length) (hj : j < l.length) (e : (gat l i).port = (gat l j).port) : i = j := by
  rcases Nat.lt_trichotomy i j with c | c | c
  · have := h.less i j c hj; omega
  · exact c
  · have := h.less j i c hi; omega
theorem wrong_zero {l : List G} (h : (wrong l).1 = 0) : wrong l = (0, 0) := (Bk.firstTo_zero _ _ h).1
/-- Way passes a gate. -/
def passes (g : G) (tree way : Int) : Bool := g.ways.contains way && (decide (0 ≤ tree ∧ tree ≤ (g.opens.length : Int) - 1) && g.opens.getD tree.toNat false)
/-- A frame, and where its data lie. -/
structure F where
  dst : Int
  src : Int
  tagged : Bool
  prio : Int
  drop : Bool
  vid : Int
  type : Int
  ao : Option Addr
  n : Nat
  cap : Nat
  bs : Nat → Int
def wayOf (f : F) (g : G) : Int := if f.tagged = true ∧ f.vid ≠ 0 then f.vid else g.plain
def res (d : Int) : Bool := decide (1652522221568 ≤ d ∧ d ≤ 1652522221583)
/-- Which gate has that port: the first one, or -1. -/
def idx (l : List G) (p : Int) : Nat → Int
  | 0 => -1
  | k + 1 => if 0 ≤ idx l p k then idx l p k else if (gat l k).port = p then (k : Int) else -1
theorem idx_stay (l : List G) (p : Int) (k : Nat) (h : 0 ≤ idx l p k) : ∀ m, k ≤ m → idx l p m = idx l p k := by
  intro m hm
  induction m with
  | zero => obtain rfl : k = 0 := by omega
            rfl
  | succ m ih =>
    by_cases e : k = m + 1
    · subst e; rfl
    · have := ih (by omega)
      show (if 0 ≤ idx l p m then idx l p m else _) = _
      rw [if_pos (by omega), this]
/-- It is none, or just where it is. -/
theorem idx_cases (l : List G) (p : Int) : ∀ k, (idx l p k = -1 ∧ ∀ i, i < k → (gat l i).port ≠ p) ∨ ∃ i, i < k ∧ idx l p k = (i : Int) ∧ (gat l i).port = p ∧ ∀ j, j < i → (gat l j).port ≠ p
  | 0 => Or.inl ⟨rfl, fun i hi => by omega⟩
  | k + 1 => by
    show ((if 0 ≤ idx l p k then idx l p k else if (gat l k).port = p then (k : Int) else -1) = -1 ∧ _) ∨ ∃ i, i < k + 1 ∧ (if 0 ≤ idx l p k then idx l p k else if (gat l k).port = p then (k : Int) else -1) = (i : Int) ∧ _
    rcases idx_cases l p k with ⟨h1, h2⟩ | ⟨i, hi, h1, h2, h3⟩
    · rw [h1, if_neg (by omega)]
      by_cases e : (gat l k).port = p
      · rw [if_pos e]
        exact Or.inr ⟨k, by omega, rfl, e, h2⟩
      · rw [if_neg e]
        refine Or.inl ⟨rfl, fun i hi => ?_⟩
        by_cases q : i = k
        · subst q; exact e
        · exact h2 i (by omega)
    · rw [h1, if_pos (by omega)]
      exact Or.inr ⟨i, by omega, rfl, h2, h3⟩
/-- What leaves by a gate, but for addresses, type and data. -/
structure O where
  port : Int
  tagged : Bool
  prio : Int
  drop : Bool
  vid : Int
def leave (f : F) (way : Int) (g : G) : O :=
  if g.plain = way then ⟨g.port, false, 0, false, 0⟩ else ⟨g.port, true, if f.tagged = true then f.prio else 0, f.tagged && f.drop, way⟩
theorem leave_port (f : F) (way : Int) (g : G) : (leave f way g).port = g.port := by unfold leave; split <;> rfl
/-- A region, and where its ways lie. -/
structure R where
  name : ByteArray
  rev : Int
  ao : Option Addr
  n : Nat
  cap : Nat
  vs : Nat → Int
  ts : Nat → Int
def R.wrong (r : R) : Int := Rg.wrong r.name r.rev r.vs r.ts r.n
def R.tree (r : R) (v : Int) : Int := Rg.tree r.vs r.ts v r.n
def F.wrong (f : F) : Int := Go.Proofs.Ytgkmaihleilchaa.wrong f.dst f.src f.tagged f.prio f.vid f.type f.n
def or4 (a b c d : Int) : Int := if a = 0 then or3 b c d else a
def errR (r : R) (l : List G) (b : List E) (f : F) : Int := or4 r.wrong (wrong l).1 (Bk.wrong (at' b) b.length).1 f.wrong
/-- By which gates it leads on: m is the book then. -/
def leads (r : R) (m : List E) (way : Int) (f : F) (p : Int) (g : G) : Bool :=
  decide (g.port ≠ p) && (passes g (r.tree way) way && (!decide (Bk.Known m ⟨way, f.dst, 0, 0⟩) || decide (g.port = Bk.lookP m ⟨way, f.dst, 0, 0⟩)))
structure Res where
  out : List O
  book : List E
  err : Int
def inG (l : List G) (p : Int) : G := gat l (idx l p l.length).toNat
def stays (r : R) (l : List G) (p : Int) (f : F) : Bool := !passes (inG l p) (r.tree (wayOf f (inG l p))) (wayOf f (inG l p)) || res f.dst
def learnt (b : List E) (l : List G) (p : Int) (f : F) : List E := Bk.learn b ⟨wayOf f (inG l p), f.src, p, 0⟩
def outs (r : R) (l : List G) (b : List E) (p : Int) (f : F) : List O :=
  (l.filter (leads r (learnt b l p f) (wayOf f (inG l p)) f p)).map (leave f (wayOf f (inG l p)))
def relay (r : R) (l : List G) (b : List E) (p : Int) (f : F) : Res :=
  if errR r l b f = 0 then
    (if idx l p l.length < 0 then ⟨[], [], 6⟩
     else if stays r l p f = true then ⟨[], b, 0⟩
     else ⟨outs r l b p f, learnt b l p f, 0⟩)
  else ⟨[], [], errR r l b f⟩
end Rl
end Go.Proofs.Ytgkmaihleilchaa
