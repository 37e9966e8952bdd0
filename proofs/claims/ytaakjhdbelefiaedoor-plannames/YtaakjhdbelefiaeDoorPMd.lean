/- What package plan's functions come to: plain functions -/
import Derived.Test.YtaakjhdbelefiaeDoorVMd
namespace Go.Proofs.YtaakjhdbelefiaeDoor
namespace Pl
open Vc (V Of)
/-- A link; what a bridge has of a link. -/
structure Lk where
  a : Int
  pa : Int
  b : Int
  pb : Int
  cost : Int
  up : Bool
structure En where
  port : Int
  cost : Int
  other : Int
  oport : Int
  live : Bool
/-- The first error of n, and where. -/
def firstTo (f : Nat → Int) : Nat → Int × Int
  | 0 => (0, 0)
  | k + 1 => if (firstTo f k).1 ≠ 0 then firstTo f k else if f k ≠ 0 then (f k, (k : Int)) else (0, 0)
theorem firstTo_zero (f : Nat → Int) : ∀ n, (firstTo f n).1 = 0 → firstTo f n = (0, 0) ∧ ∀ i, i < n → f i = 0
  | 0, _ => ⟨rfl, fun i hi => absurd hi (by omega)⟩
  | k + 1, h => by
    simp only [firstTo] at h ⊢
    by_cases h1 : (firstTo f k).1 = 0
    · obtain ⟨e1, e2⟩ := firstTo_zero f k h1
      by_cases h2 : f k = 0
      · refine ⟨by simp [h1, h2], fun i hi => ?_⟩
        by_cases e : i = k
        · subst e; exact h2
        · exact e2 i (by omega)
      · simp [h1, h2] at h
    · simp [h1] at h
theorem firstTo_here (f : Nat → Int) (k : Nat) (h : ∀ i, i < k → f i = 0) (hk : f k ≠ 0) : ∀ n, k < n → firstTo f n = (f k, (k : Int)) := by
  have h0 : ∀ m, m ≤ k → firstTo f m = (0, 0) := by
    intro m
    induction m with
    | zero => intro _; rfl
    | succ m ih =>
      intro hm
      simp [firstTo, ih (by omega), h m (by omega)]
  intro n hn
  induction n with
  | zero => omega
  | succ n ih =>
    by_cases e : k = n
    · subst e
      simp [firstTo, h0 k (Nat.le_refl _), hk]
    · have := ih (by omega)
      simp [firstTo, this, hk]
theorem firstTo_all (f : Nat → Int) (n : Nat) (h : ∀ i, i < n → f i = 0) : firstTo f n = (0, 0) := by
  induction n with
  | zero => rfl
  | succ n ih => simp [firstTo, ih (fun i hi => h i (by omega)), h n (by omega)]
def oddP (p : Int) : Bool := !decide (0 ≤ p ∧ p ≤ 61440) || decide (p % 4096 ≠ 0)
def lkErr (K : Nat) (l : Lk) : Int :=
  if ¬ (0 ≤ l.a ∧ l.a ≤ (K : Int) - 1) ∨ ¬ (0 ≤ l.b ∧ l.b ≤ (K : Int) - 1) then 6 else if l.a = l.b then 8
  else if ¬ (1 ≤ l.pa ∧ l.pa ≤ 30) ∨ ¬ (1 ≤ l.pb ∧ l.pb ≤ 30) ∨ ¬ (1 ≤ l.cost ∧ l.cost ≤ 200000) then 3 else 0
def isEnd (l : Lk) (x p : Int) : Bool := decide (l.a = x ∧ l.pa = p) || decide (l.b = x ∧ l.pb = p)
def lErr (K : Nat) (ls : Nat → Lk) (i : Nat) : Int :=
  if lkErr K (ls i) ≠ 0 then lkErr K (ls i) else if Vc.someTo (fun j => isEnd (ls j) (ls i).a (ls i).pa || isEnd (ls j) (ls i).b (ls i).pb) i = true then 7 else 0
/-- The ends at bridge i of the first k links. -/
def endsAt (l : Lk) (lv : Bool) (i : Nat) : List En := (if l.a = (i : Int) then [⟨l.pa, l.cost, l.b, l.pb, lv⟩] else []) ++ (if l.b = (i : Int) then [⟨l.pb, l.cost, l.a, l.pa, lv⟩] else [])
def endsTo (ls : Nat → Lk) (lv : Nat → Bool) (i : Nat) : Nat → List En
  | 0 => []
  | k + 1 => endsTo ls lv i k ++ endsAt (ls k) (lv k) i
/-- .. as their ports rise. -/
def leP (x y : En) : Bool := decide (x.port ≤ y.port)
def ends (ls : Nat → Lk) (lv : Nat → Bool) (L i : Nat) : List En := (endsTo ls lv i L).mergeSort leP
/-- What a bridge says, and its root port. -/
structure St where
  v : V
  rp : Int
def offerOf (x : Nat → St) (e : En) : Of := ⟨e.port, e.cost, 0, ⟨(x e.other.toNat).v.root, (x e.other.toNat).v.cost, (x e.other.toNat).v.bridge, e.oport⟩⟩
def o0 : Of := ⟨0, 0, 0, Vc.v0⟩
def offs (E : List En) (x : Nat → St) : List Of := (E.filter (·.live)).map (offerOf x)
def lf (l : List Of) (j : Nat) : Of := l.getD j o0
def chS (id : Int) (l : List Of) : St := ⟨Vc.chV id (lf l) l.length, Vc.chP id (lf l) l.length⟩
def step (ids : Nat → Int) (E : Nat → List En) (x : Nat → St) (i : Nat) : Nat → St := fun j => if j = i then chS (ids i) (offs (E i) x) else x j
def roundTo (ids : Nat → Int) (E : Nat → List En) (x : Nat → St) : Nat → (Nat → St)
  | 0 => x
  | k + 1 => step ids E (roundTo ids E x k) k
def rounds (ids : Nat → Int) (E : Nat → List En) (K : Nat) : Nat → (Nat → St)
  | 0 => fun i => ⟨⟨ids i, 0, ids i, 0⟩, 0⟩
  | r + 1 => roundTo ids E (rounds ids E K r) K
/-- Its own name stays. -/
theorem chS_bridge (id : Int) (l : List Of) : (chS id l).v.bridge = id ∧ (chS id l).v.port = 0 := by
  unfold chS Vc.chV
  cases Vc.chTo id (lf l) l.length <;> exact ⟨rfl, rfl⟩
theorem roundTo_bridge (ids : Nat → Int) (E : Nat → List En) (x : Nat → St) (h : ∀ i, (x i).v.bridge = ids i ∧ (x i).v.port = 0) : ∀ k i, (roundTo ids E x k i).v.bridge = ids i ∧ (roundTo ids E x k i).v.port = 0
  | 0, i => h i
  | k + 1, i => by
    simp only [roundTo, step]
    by_cases e : i = k
    · rw [if_pos e, e]; exact chS_bridge _ _
    · rw [if_neg e]; exact roundTo_bridge ids E x h k i
theorem rounds_bridge (ids : Nat → Int) (E : Nat → List En) (K : Nat) : ∀ r i, (rounds ids E K r i).v.bridge = ids i ∧ (rounds ids E K r i).v.port = 0
  | 0, _ => ⟨rfl, rfl⟩
  | r + 1, i => roundTo_bridge ids E _ (rounds_bridge ids E K r) K i
def roleAt (s : St) (l : List Of) (e : En) : Int := if e.live = true then Vc.role s.v s.rp e.port (lf l) l.length else 0
/-- Rising lists of the same ends are the same. -/
theorem sorted_unique {l l' : List En} (hp : l.Perm l') (h : l.Pairwise (fun x y => x.port < y.port)) (h' : l'.Pairwise (fun x y => x.port < y.port)) : l = l' :=
  hp.eq_of_pairwise (fun a b _ _ h1 h2 => by omega) h h'
end Pl
end Go.Proofs.YtaakjhdbelefiaeDoor
