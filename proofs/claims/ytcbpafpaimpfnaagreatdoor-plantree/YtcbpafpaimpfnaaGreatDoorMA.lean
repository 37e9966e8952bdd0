/- Rows of cells in a block of the call's own: see RC -/
import Derived.Test.YtcbpafpaimpfnaaGreatDoorVMd
import Derived.Test.YtcbpafpaimpfnaaGreatDoorVB2
import Derived.Test.YtcbpafpaimpfnaaGreatDoorGW7a
import Derived.Test.YtcbpafpaimpfnaaGreatDoorRC
namespace Go.Proofs.YtcbpafpaimpfnaaGreatDoor
namespace Pl
open Vc (V Of)
/-- A link; what a bridge has of a link. -/
structure Lk where
  a : Int
  pa : Int
  b : Int
  pb : Int
  cost : Int
  up : Bool
structure En where
  port : Int
  cost : Int
  other : Int
  oport : Int
  live : Bool
/-- The first error of n, and where. -/
def firstTo (f : Nat → Int) : Nat → Int × Int
  | 0 => (0, 0)
  | k + 1 => if (firstTo f k).1 ≠ 0 then firstTo f k else if f k ≠ 0 then (f k, (k : Int)) else (0, 0)
theorem firstTo_zero (f : Nat → Int) : ∀ n, (firstTo f n).1 = 0 → firstTo f n = (0, 0) ∧ ∀ i, i < n → f i = 0
  | 0, _ => ⟨rfl, fun i hi => absurd hi (by omega)⟩
  | k + 1, h => by
    simp only [firstTo] at h ⊢
    by_cases h1 : (firstTo f k).1 = 0
    · obtain ⟨e1, e2⟩ := firstTo_zero f k h1
      by_cases h2 : f k = 0
      · refine ⟨by simp [h1, h2], fun i hi => ?_⟩
        by_cases e : i = k
        · subst e; exact h2
        · exact e2 i (by omega)
      · simp [h1, h2] at h
    · simp [h1] at h
theorem firstTo_here (f : Nat → Int) (k : Nat) (h : ∀ i, i < k → f i = 0) (hk : f k ≠ 0) : ∀ n, k < n → firstTo f n = (f k, (k : Int)) := by
  have h0 : ∀ m, m ≤ k → firstTo f m = (0, 0) := by
    intro m
    induction m with
    | zero => intro _; rfl
    | succ m ih =>
      intro hm
      simp [firstTo, ih (by omega), h m (by omega)]
  intro n hn
  induction n with
  | zero => omega
  | succ n ih =>
    by_cases e : k = n
    · subst e
      simp [firstTo, h0 k (Nat.le_refl _), hk]
    · have := ih (by omega)
      simp [firstTo, this, hk]
theorem firstTo_all (f : Nat → Int) (n : Nat) (h : ∀ i, i < n → f i = 0) : firstTo f n = (0, 0) := by
  induction n with
  | zero => rfl
  | succ n ih => simp [firstTo, ih (fun i hi => h i (by omega)), h n (by omega)]
def oddP (p : Int) : Bool := !decide (0 ≤ p ∧ p ≤ 61440) || decide (p % 4096 ≠ 0)
def lkErr (K : Nat) (l : Lk) : Int :=
  if ¬ (0 ≤ l.a ∧ l.a ≤ (K : Int) - 1) ∨ ¬ (0 ≤ l.b ∧ l.b ≤ (K : Int) - 1) then 6 else if l.a = l.b then 8
  else if ¬ (1 ≤ l.pa ∧ l.pa ≤ 30) ∨ ¬ (1 ≤ l.pb ∧ l.pb ≤ 30) ∨ ¬ (1 ≤ l.cost ∧ l.cost ≤ 200000) then 3 else 0
def isEnd (l : Lk) (x p : Int) : Bool := decide (l.a = x ∧ l.pa = p) || decide (l.b = x ∧ l.pb = p)
def lErr (K : Nat) (ls : Nat → Lk) (i : Nat) : Int :=
  if lkErr K (ls i) ≠ 0 then lkErr K (ls i) else if Vc.someTo (fun j => isEnd (ls j) (ls i).a (ls i).pa || isEnd (ls j) (ls i).b (ls i).pb) i = true then 7 else 0
/-- The ends at bridge i of the first k links. -/
def endsAt (l : Lk) (lv : Bool) (i : Nat) : List En := (if l.a = (i : Int) then [⟨l.pa, l.cost, l.b, l.pb, lv⟩] else []) ++ (if l.b = (i : Int) then [⟨l.pb, l.cost, l.a, l.pa, lv⟩] else [])
def endsTo (ls : Nat → Lk) (lv : Nat → Bool) (i : Nat) : Nat → List En
  | 0 => []
  | k + 1 => endsTo ls lv i k ++ endsAt (ls k) (lv k) i
/-- .. as their ports rise. -/
def leP (x y : En) : Bool := decide (x.port ≤ y.port)
def ends (ls : Nat → Lk) (lv : Nat → Bool) (L i : Nat) : List En := (endsTo ls lv i L).mergeSort leP
/-- What a bridge says, and its root port. -/
structure St where
  v : V
  rp : Int
def offerOf (x : Nat → St) (e : En) : Of := ⟨e.port, e.cost, 0, ⟨(x e.other.toNat).v.root, (x e.other.toNat).v.cost, (x e.other.toNat).v.bridge, e.oport⟩⟩
def o0 : Of := ⟨0, 0, 0, Vc.v0⟩
def offs (E : List En) (x : Nat → St) : List Of := (E.filter (·.live)).map (offerOf x)
def lf (l : List Of) (j : Nat) : Of := l.getD j o0
def chS (id : Int) (l : List Of) : St := ⟨Vc.chV id (lf l) l.length, Vc.chP id (lf l) l.length⟩
def step (ids : Nat → Int) (E : Nat → List En) (x : Nat → St) (i : Nat) : Nat → St := fun j => if j = i then chS (ids i) (offs (E i) x) else x j
def roundTo (ids : Nat → Int) (E : Nat → List En) (x : Nat → St) : Nat → (Nat → St)
  | 0 => x
  | k + 1 => step ids E (roundTo ids E x k) k
def rounds (ids : Nat → Int) (E : Nat → List En) (K : Nat) : Nat → (Nat → St)
  | 0 => fun i => ⟨⟨ids i, 0, ids i, 0⟩, 0⟩
  | r + 1 => roundTo ids E (rounds ids E K r) K
/-- Its own name stays. -/
theorem chS_bridge (id : Int) (l : List Of) : (chS id l).v.bridge = id ∧ (chS id l).v.port = 0 := by
  unfold chS Vc.chV
  cases Vc.chTo id (lf l) l.length <;> exact ⟨rfl, rfl⟩
theorem roundTo_bridge (ids : Nat → Int) (E : Nat → List En) (x : Nat → St) (h : ∀ i, (x i).v.bridge = ids i ∧ (x i).v.port = 0) : ∀ k i, (roundTo ids E x k i).v.bridge = ids i ∧ (roundTo ids E x k i).v.port = 0
  | 0, i => h i
  | k + 1, i => by
    simp only [roundTo, step]
    by_cases e : i = k
    · rw [if_pos e, e]; exact chS_bridge _ _
    · rw [if_neg e]; exact roundTo_bridge ids E x h k i
theorem rounds_bridge (ids : Nat → Int) (E : Nat → List En) (K : Nat) : ∀ r i, (rounds ids E K r i).v.bridge = ids i ∧ (rounds ids E K r i).v.port = 0
  | 0, _ => ⟨rfl, rfl⟩
  | r + 1, i => roundTo_bridge ids E _ (rounds_bridge ids E K r) K i
def roleAt (s : St) (l : List Of) (e : En) : Int := if e.live = true then Vc.role s.v s.rp e.port (lf l) l.length else 0
/-- Rising lists of the same ends are the same. -/
theorem sorted_unique {l l' : List En} (hp : l.Perm l') (h : l.Pairwise (fun x y => x.port < y.port)) (h' : l'.Pairwise (fun x y => x.port < y.port)) : l = l' :=
  hp.eq_of_pairwise (fun a b _ _ h1 h2 => by omega) h h'
end Pl
end Go.Proofs.YtcbpafpaimpfnaaGreatDoor

namespace Go.Proofs.YtcbpafpaimpfnaaGreatDoor
namespace Pl
open Vc (V Of)
theorem lf_mem {l : List Of} {j : Nat} (h : j < l.length) : lf l j ∈ l := by
  unfold lf
  rw [List.getD_eq_getElem?_getD, List.getElem?_eq_getElem h]
  exact List.getElem_mem h
theorem lf_of_mem {l : List Of} {o : Of} (h : o ∈ l) : ∃ j, j < l.length ∧ lf l j = o := by
  obtain ⟨j, hj, e⟩ := List.getElem_of_mem h
  refine ⟨j, hj, ?_⟩
  unfold lf
  rw [List.getD_eq_getElem?_getD, List.getElem?_eq_getElem hj]
  exact e
/-- No worse than root ρ at cost c. -/
def le2 (v : V) (ρ c : Int) : Prop := v.root < ρ ∨ (v.root = ρ ∧ v.cost ≤ c)
/-- WHERE A CHOICE COMES FROM. -/
theorem chS_real (id : Int) (l : List Of) : (chS id l = ⟨⟨id, 0, id, 0⟩, -1⟩ ∧ ∀ o ∈ l, ¬ Vc.may id o) ∨ ∃ o ∈ l, Vc.may id o ∧ chS id l = ⟨⟨o.vec.root, o.vec.cost + o.cost, id, 0⟩, o.port⟩ ∧ ∀ q ∈ l, Vc.may id q → ¬ Vc.ahead q o := by
  cases h : Vc.chTo id (lf l) l.length with
  | none =>
    refine Or.inl ⟨?_, fun o ho hm => ?_⟩
    · unfold chS Vc.chV Vc.chP
      rw [h]
    · obtain ⟨j, hj, e⟩ := lf_of_mem ho
      exact Vc.chTo_none id (lf l) l.length h j hj (by rw [e]; exact hm)
  | some i =>
    obtain ⟨h1, h2, h3⟩ := Vc.chTo_some id (lf l) l.length i h
    refine Or.inr ⟨lf l i, lf_mem h1, h2, ?_, fun q hq hm => ?_⟩
    · unfold chS Vc.chV Vc.chP
      rw [h]
      rfl
    · obtain ⟨j, hj, e⟩ := lf_of_mem hq
      rw [← e]
      exact h3 j hj (by rw [e]; exact hm)
theorem chS_self (id : Int) (l : List Of) : le2 (chS id l).v id 0 := by
  rcases chS_real id l with ⟨h, _⟩ | ⟨o, _, hm, h, _⟩
  · rw [h]; exact Or.inr ⟨rfl, Int.le_refl _⟩
  · rw [h]; exact Or.inl hm.2.2.2
theorem chS_le (id : Int) (l : List Of) {o : Of} (ho : o ∈ l) (hf : Vc.fitsOver o.vec o.cost) (hp : 0 ≤ o.port) (ha : 0 ≤ o.age ∧ o.age < 20) : le2 (chS id l).v o.vec.root (o.vec.cost + o.cost) := by
  have hf' := hf
  obtain ⟨⟨q1, _⟩, ⟨q2, _⟩, _⟩ := hf'
  by_cases hr : o.vec.root < id
  · have hm : Vc.may id o := ⟨hf, hp, ha, hr⟩
    rcases chS_real id l with ⟨_, h⟩ | ⟨p, _, _, h, hn⟩
    · exact absurd hm (h o ho)
    · rw [h]
      have := hn o ho hm
      have k : ¬ Vc.lt (Vc.Of.v o) (Vc.Of.v p) := fun q => this (Or.inl q)
      unfold Vc.lt Vc.Of.v Vc.add at k
      unfold le2
      simp only at k ⊢
      omega
  · have := chS_self id l
    unfold le2 at this ⊢
    omega
/-- What is known of the net. -/
structure Good (ids : Nat → Int) (E : Nat → List En) (K : Nat) : Prop where
  few : K ≤ 12
  lt : ∀ i, i < K → ∀ e, e ∈ E i → e.live = true → (0 ≤ e.other ∧ e.other < K) ∧ (1 ≤ e.cost ∧ e.cost ≤ 200000) ∧ 0 ≤ e.port
/-- A walk: the bridges on it, the last one's identity, what its links cost. -/
inductive Walk (ids : Nat → Int) (E : Nat → List En) (K : Nat) : Nat → List Nat → Int → Int → Prop
  | here (i : Nat) : i < K → Walk ids E K i [i] (ids i) 0
  | over (i : Nat) (e : En) (vs : List Nat) (ρ c : Int) : i < K → e ∈ E i → e.live = true → Walk ids E K e.other.toNat vs ρ c → Walk ids E K i (i :: vs) ρ (c + e.cost)
section
variable {ids : Nat → Int} {E : Nat → List En} {K : Nat}
theorem Walk.start {i : Nat} {vs : List Nat} {ρ c : Int} (h : Walk ids E K i vs ρ c) : i < K := by
  cases h with
  | here _ h => exact h
  | over _ _ _ _ _ h => exact h
theorem Walk.cost (G : Good ids E K) {i : Nat} {vs : List Nat} {ρ c : Int} (h : Walk ids E K i vs ρ c) : 0 ≤ c := by
  induction h with
  | here => exact Int.le_refl _
  | over i e vs ρ c hi he hl _ ih => have := (G.lt i hi e he hl).2.1; omega
theorem Walk.all {i : Nat} {vs : List Nat} {ρ c : Int} (h : Walk ids E K i vs ρ c) : ∀ v ∈ vs, v < K := by
  induction h with
  | here i hi => intro v hv; rw [List.mem_singleton] at hv; rw [hv]; exact hi
  | over i e vs ρ c hi _ _ _ ih =>
    intro v hv
    rcases List.mem_cons.1 hv with e | e
    · rw [e]; exact hi
    · exact ih v e
theorem Walk.from (G : Good ids E K) {i : Nat} {vs : List Nat} {ρ c : Int} (h : Walk ids E K i vs ρ c) : ∀ v ∈ vs, ∃ us d, Walk ids E K v us ρ d ∧ d ≤ c ∧ us.Sublist vs := by
  induction h with
  | here i hi =>
    intro v hv
    rw [List.mem_singleton] at hv
    subst hv
    exact ⟨_, _, Walk.here v hi, Int.le_refl _, List.Sublist.refl _⟩
  | over i e vs ρ c hi he hl hw ih =>
    intro v hv
    rcases List.mem_cons.1 hv with q | q
    · subst q
      exact ⟨_, _, Walk.over v e vs ρ c hi he hl hw, Int.le_refl _, List.Sublist.refl _⟩
    · obtain ⟨us, d, h1, h2, h3⟩ := ih v q
      have := (G.lt i hi e he hl).2.1
      exact ⟨us, d, h1, by omega, h3.cons _⟩
/-- A walk that goes through no bridge twice is no farther. -/
theorem Walk.simple (G : Good ids E K) {i : Nat} {vs : List Nat} {ρ c : Int} (h : Walk ids E K i vs ρ c) : ∃ us d, Walk ids E K i us ρ d ∧ d ≤ c ∧ us.Nodup := by
  induction h with
  | here i hi => exact ⟨_, _, Walk.here i hi, Int.le_refl _, by simp⟩
  | over i e vs ρ c hi he hl hw ih =>
    obtain ⟨us, d, h1, h2, h3⟩ := ih
    have hc := (G.lt i hi e he hl).2.1
    by_cases hm : i ∈ us
    · obtain ⟨us', d', k1, k2, k3⟩ := h1.from G i hm
      exact ⟨us', d', k1, by omega, k3.nodup h3⟩
    · exact ⟨_, _, Walk.over i e us ρ d hi he hl h1, by omega, List.nodup_cons.2 ⟨hm, h3⟩⟩
theorem nodup_few : ∀ (K : Nat) (l : List Nat), l.Nodup → (∀ v ∈ l, v < K) → l.length ≤ K
  | 0, l, _, h => by
    cases l with
    | nil => exact Nat.le_refl _
    | cons a _ => exact absurd (h a (by simp)) (by omega)
  | K + 1, l, hn, h => by
    have h1 := nodup_few K (l.erase K) (hn.erase K) (fun v hv => by
      have := (List.Nodup.mem_erase_iff hn).1 hv
      have := h v this.2
      omega)
    have := List.length_erase (a := K) (l := l)
    split at this <;> omega
/-- All walks of n bridges at most are no better than what is said. -/
def Up (ids : Nat → Int) (E : Nat → List En) (K : Nat) (n : Nat) (x : Nat → St) (i : Nat) : Prop := ∀ vs ρ c, Walk ids E K i vs ρ c → vs.length ≤ n → le2 (x i).v ρ c
/-- What is said comes by a walk. -/
def Real (ids : Nat → Int) (E : Nat → List En) (K : Nat) (x : Nat → St) : Prop := ∀ i, i < K → ∃ vs, Walk ids E K i vs (x i).v.root (x i).v.cost
def Bd (K : Nat) (B : Int) (x : Nat → St) : Prop := ∀ i, i < K → 0 ≤ (x i).v.cost ∧ (x i).v.cost ≤ B
theorem offs_mem {l : List En} {x : Nat → St} {o : Of} (h : o ∈ offs l x) : ∃ e, e ∈ l ∧ e.live = true ∧ o = offerOf x e := by
  unfold offs at h
  obtain ⟨e, he, rfl⟩ := List.mem_map.1 h
  obtain ⟨h1, h2⟩ := List.mem_filter.1 he
  exact ⟨e, h1, h2, rfl⟩
theorem mem_offs {l : List En} {x : Nat → St} {e : En} (h : e ∈ l) (hl : e.live = true) : offerOf x e ∈ offs l x :=
  List.mem_map.2 ⟨e, List.mem_filter.2 ⟨h, hl⟩, rfl⟩
theorem toNat_lt {a : Int} {K : Nat} (h : 0 ≤ a ∧ a < K) : a.toNat < K := by omega
theorem fits (G : Good ids E K) {B : Int} {x : Nat → St} (hB : Bd K B x) (hb : B ≤ 999000000) {i : Nat} (hi : i < K) {e : En} (he : e ∈ E i) (hl : e.live = true) : Vc.fitsOver (offerOf x e).vec (offerOf x e).cost := by
  obtain ⟨h1, h2, _⟩ := G.lt i hi e he hl
  have := hB e.other.toNat (toNat_lt h1)
  unfold Vc.fitsOver offerOf
  simp only
  omega
theorem step_bd (G : Good ids E K) {B : Int} {x : Nat → St} (hB : Bd K B x) (i : Nat) (hi : i < K) (hb : 0 ≤ B) : Bd K (B + 200000) (step ids E x i) := by
  intro j hj
  unfold step
  by_cases e : j = i
  · rw [if_pos e]
    rcases chS_real (ids i) (offs (E i) x) with ⟨h, _⟩ | ⟨o, ho, _, h, _⟩
    · rw [h]; simp only; omega
    · rw [h]
      obtain ⟨q, h1, h2, rfl⟩ := offs_mem ho
      obtain ⟨k1, k2, _⟩ := G.lt i hi q h1 h2
      have := hB q.other.toNat (toNat_lt k1)
      simp only [offerOf]
      omega
  · rw [if_neg e]
    have := hB j hj
    omega
theorem step_real (G : Good ids E K) {x : Nat → St} (h : Real ids E K x) (i : Nat) (hi : i < K) : Real ids E K (step ids E x i) := by
  intro j hj
  unfold step
  by_cases e : j = i
  · rw [if_pos e]
    subst e
    rcases chS_real (ids j) (offs (E j) x) with ⟨h', _⟩ | ⟨o, ho, _, h', _⟩
    · rw [h']; exact ⟨_, Walk.here j hj⟩
    · rw [h']
      obtain ⟨q, h1, h2, rfl⟩ := offs_mem ho
      obtain ⟨k1, k2, _⟩ := G.lt j hi q h1 h2
      obtain ⟨vs, hw⟩ := h q.other.toNat (toNat_lt k1)
      exact ⟨_, Walk.over j q vs _ _ hi h1 h2 hw⟩
  · rw [if_neg e]
    exact h j hj
theorem step_up (G : Good ids E K) {n : Nat} {B : Int} {x : Nat → St} (hB : Bd K B x) (hb : B ≤ 999000000) (h : ∀ j, j < K → Up ids E K n x j) (i : Nat) (hi : i < K) : Up ids E K (n + 1) (step ids E x i) i := by
  intro vs ρ c hw hn
  unfold step
  rw [if_pos rfl]
  cases hw with
  | here _ => exact chS_self _ _
  | over _ e vs _ c _ he hl hw =>
    obtain ⟨k1, k2, k3⟩ := G.lt i hi e he hl
    have h1 := h e.other.toNat (toNat_lt k1) vs ρ c hw (by simp at hn; omega)
    have h2 := chS_le (ids i) (offs (E i) x) (mem_offs he hl) (fits G hB hb hi he hl) k3 ⟨Int.le_refl _, show (0 : Int) < 20 by decide⟩
    unfold le2 at h1 h2 ⊢
    simp only [offerOf] at h2
    omega
theorem Up.mono {n m : Nat} {x : Nat → St} {i : Nat} (h : Up ids E K m x i) (hn : n ≤ m) : Up ids E K n x i := fun vs ρ c hw hl => h vs ρ c hw (by omega)
theorem roundTo_inv (G : Good ids E K) {n : Nat} {B : Int} {x : Nat → St} (hB : Bd K B x) (hb : 0 ≤ B) (hr : Real ids E K x) (h : ∀ j, j < K → Up ids E K n x j) : ∀ k, k ≤ K → B + 200000 * k ≤ 999000000 → Bd K (B + 200000 * k) (roundTo ids E x k) ∧ Real ids E K (roundTo ids E x k) ∧ (∀ j, j < K → Up ids E K n (roundTo ids E x k) j) ∧ ∀ j, j < k → Up ids E K (n + 1) (roundTo ids E x k) j
  | 0, _, _ => ⟨by simpa [roundTo] using hB, hr, h, fun j hj => absurd hj (by omega)⟩
  | k + 1, hk, hbk => by
    obtain ⟨h1, h2, h3, h4⟩ := roundTo_inv G hB hb hr h k (by omega) (by omega)
    have q1 := step_bd G h1 k (by omega) (by omega)
    have q2 := step_real G h2 k (by omega)
    have q3 := step_up G h1 (by omega) h3 k (by omega)
    have other : ∀ j, j ≠ k → roundTo ids E x (k + 1) j = roundTo ids E x k j := fun j hj => by simp only [roundTo, step]; rw [if_neg hj]
    refine ⟨?_, q2, fun j hj => ?_, fun j hj => ?_⟩
    · have : B + 200000 * ((k + 1 : Nat) : Int) = B + 200000 * (k : Int) + 200000 := by omega
      rw [this]; exact q1
    · by_cases e : j = k
      · subst e; exact q3.mono (by omega)
      · intro vs ρ c; rw [other j e]; exact h3 j hj vs ρ c
    · by_cases e : j = k
      · subst e; exact q3
      · intro vs ρ c; rw [other j e]; exact h4 j (by omega) vs ρ c
theorem rounds_inv (G : Good ids E K) : ∀ r : Nat, r ≤ 12 → Bd K (200000 * (12 * r)) (rounds ids E K r) ∧ Real ids E K (rounds ids E K r) ∧ ∀ j, j < K → Up ids E K (r + 1) (rounds ids E K r) j
  | 0, _ => by
    refine ⟨fun i hi => ⟨Int.le_refl _, by simp [rounds]⟩, fun i hi => ⟨_, Walk.here i hi⟩, fun j hj vs ρ c hw hl => ?_⟩
    cases hw with
    | here _ => exact Or.inr ⟨rfl, Int.le_refl _⟩
    | over _ e vs _ c _ _ _ hw =>
      cases hw with
      | here => simp at hl
      | over => simp at hl
  | r + 1, hr => by
    obtain ⟨h1, h2, h3⟩ := rounds_inv G r (by omega)
    have hK := G.few
    obtain ⟨q1, q2, _, q4⟩ := roundTo_inv G h1 (by omega) h2 h3 K (Nat.le_refl _) (by omega)
    refine ⟨fun i hi => ?_, q2, fun j hj => q4 j hj⟩
    have := q1 i hi
    simp only [rounds]
    omega
/-- SETTLED: no walk is better. -/
theorem Up.whole (G : Good ids E K) {n : Nat} {x : Nat → St} {i : Nat} (h : Up ids E K n x i) (hn : K ≤ n) {vs : List Nat} {ρ c : Int} (hw : Walk ids E K i vs ρ c) : le2 (x i).v ρ c := by
  obtain ⟨us, d, h1, h2, h3⟩ := hw.simple G
  have := h us ρ d h1 (Nat.le_trans (nodup_few K us h3 h1.all) hn)
  unfold le2 at this ⊢
  omega
/-- Two states that are both as good as can be say the same. -/
theorem same_of (G : Good ids E K) {n m : Nat} {x y : Nat → St} (hx : Real ids E K x) (hy : Real ids E K y) (ux : ∀ j, j < K → Up ids E K n x j) (uy : ∀ j, j < K → Up ids E K m y j) (hn : K ≤ n) (hm : K ≤ m) : ∀ i, i < K → (x i).v.root = (y i).v.root ∧ (x i).v.cost = (y i).v.cost := by
  intro i hi
  obtain ⟨vs, h1⟩ := hx i hi
  obtain ⟨us, h2⟩ := hy i hi
  have a := (ux i hi).whole G hn h2
  have b := (uy i hi).whole G hm h1
  unfold le2 at a b
  omega
def fin (ids : Nat → Int) (E : Nat → List En) (K : Nat) : Nat → St := rounds ids E K K
theorem offs_congr {l : List En} {x y : Nat → St} (h : ∀ e, e ∈ l → e.live = true → (x e.other.toNat).v = (y e.other.toNat).v) : offs l x = offs l y := by
  unfold offs
  apply List.map_congr_left
  intro e he
  obtain ⟨h1, h2⟩ := List.mem_filter.1 he
  unfold offerOf
  rw [h e h1 h2]
theorem fin_real (G : Good ids E K) : Real ids E K (fin ids E K) := (rounds_inv G K G.few).2.1
theorem fin_up (G : Good ids E K) {i : Nat} (hi : i < K) {vs : List Nat} {ρ c : Int} (hw : Walk ids E K i vs ρ c) : le2 (fin ids E K i).v ρ c := ((rounds_inv G K G.few).2.2 i hi).whole G (by omega) hw
/-- ALL STANDS: each has chosen by what all say in the end. -/
theorem fin_fix (G : Good ids E K) : ∀ i, i < K → fin ids E K i = chS (ids i) (offs (E i) (fin ids E K)) := by
  intro i hi
  obtain ⟨r, rfl⟩ : ∃ r, K = r + 1 := ⟨K - 1, by omega⟩
  have hK := G.few
  obtain ⟨h1, h2, h3⟩ := rounds_inv G r (by omega)
  have F := rounds_inv G (r + 1) (by omega)
  have key : ∀ k, k ≤ r + 1 → ∀ j, j < r + 1 → (roundTo ids E (rounds ids E (r + 1) r) k j).v = (fin ids E (r + 1) j).v := by
    intro k hk j hj
    obtain ⟨_, q2, q3, _⟩ := roundTo_inv G h1 (by omega) h2 h3 k hk (by omega)
    obtain ⟨e1, e2⟩ := same_of G q2 F.2.1 q3 F.2.2 (by omega) (by omega) j hj
    have b1 := roundTo_bridge ids E _ (rounds_bridge ids E (r + 1) r) k j
    have b2 := rounds_bridge ids E (r + 1) (r + 1) j
    exact Vc.V.eq e1 e2 (by rw [b1.1]; exact b2.1.symm) (by rw [b1.2]; exact b2.2.symm)
  have last : ∀ k, i < k → k ≤ r + 1 → roundTo ids E (rounds ids E (r + 1) r) k i = chS (ids i) (offs (E i) (roundTo ids E (rounds ids E (r + 1) r) i)) := by
    intro k
    induction k with
    | zero => intro h; omega
    | succ k ih =>
      intro h1 h2
      by_cases e : i = k
      · subst e
        simp [roundTo, step]
      · simp only [roundTo, step]
        rw [if_neg e]
        exact ih (by omega) (by omega)
  have : fin ids E (r + 1) i = chS (ids i) (offs (E i) (roundTo ids E (rounds ids E (r + 1) r) i)) := last (r + 1) hi (Nat.le_refl _)
  rw [this]
  congr 1
  apply offs_congr
  intro e he hl
  exact key i (by omega) _ (toNat_lt (G.lt i hi e he hl).1)
end
end Pl
end Go.Proofs.YtcbpafpaimpfnaaGreatDoor

namespace Go.Proofs.YtcbpafpaimpfnaaGreatDoor
open Go.RowKit
open Vc (V Of)
open Pl (Lk En St)

/-- A slice of ints. -/
abbrev IRow (w : World) (ao : Option Addr) (n cap : Nat) (f : Nat → Int) : Prop := CRow w ao n cap 1 (fun i _ => .int .i64 (f i))
theorem IRow.cells {w : World} {b off n cap : Nat} {f : Nat → Int} (h : IRow w (some ⟨b, off, none⟩) n cap f) {i : Nat} (hi : i < n) : w.cell? ⟨b, off + i, none⟩ = some (.int .i64 (f i)) := by
  obtain ⟨b', off', e, _, hc⟩ := h.2 (by omega)
  cases e
  have := hc i hi 0 (by omega)
  rw [Nat.mul_one, Nat.add_zero] at this
  exact this
namespace Pl
/-- A bridge, as it lies in memory. -/
structure Br where
  addr : Int
  pao : Option Addr
  pn : Nat
  pcap : Nat
  pv : Nat → Int
  reg : Rg.Reg
/-- A net, as it lies in memory. -/
structure Net where
  bao : Option Addr
  K : Nat
  bcap : Nat
  bs : Nat → Br
  lao : Option Addr
  L : Nat
  lcap : Nat
  ls : Nat → Lk
/-- A place, as it lies in memory. -/
structure Pc where
  v : V
  rp : Int
  pao : Option Addr
  pn : Nat
  pcap : Nat
  ports : Nat → Int
  rao : Option Addr
  rn : Nat
  rcap : Nat
  roles : Nat → Int
end Pl
open Pl (Br Net Pc)
def brC (b : Br) (j : Nat) : Value := if j = 0 then .int .u64 b.addr else if j = 1 then .slice b.pao b.pn b.pcap else if j = 2 then .string b.reg.s else if j = 3 then .int .i64 b.reg.rev else .slice b.reg.ao b.reg.n b.reg.cap
def lkC (l : Lk) (j : Nat) : Value := if j = 0 then .int .i64 l.a else if j = 1 then .int .i64 l.pa else if j = 2 then .int .i64 l.b else if j = 3 then .int .i64 l.pb else if j = 4 then .int .i64 l.cost else .bool l.up
def enC (e : En) (j : Nat) : Value := if j = 0 then .int .i64 e.port else if j = 1 then .int .i64 e.cost else if j = 2 then .int .i64 e.other else if j = 3 then .int .i64 e.oport else .bool e.live
def pcC (p : Pc) (j : Nat) : Value := if j < 4 then vC p.v j else if j = 4 then .int .i64 p.rp else if j = 5 then .slice p.pao p.pn p.pcap else .slice p.rao p.rn p.rcap
theorem brC_one (b : Br) (j : Nat) : (brC b j).oneCell' = true := by
  unfold brC
  repeat' split
  all_goals rfl
theorem lkC_one (l : Lk) (j : Nat) : (lkC l j).oneCell' = true := by
  unfold lkC
  repeat' split
  all_goals rfl
theorem enC_one (e : En) (j : Nat) : (enC e j).oneCell' = true := by
  unfold enC
  repeat' split
  all_goals rfl
theorem pcC_one (p : Pc) (j : Nat) : (pcC p j).oneCell' = true := by
  unfold pcC
  repeat' split
  all_goals first | rfl | exact vC_one _ _
abbrev BRow (w : World) (ao : Option Addr) (n cap : Nat) (bs : Nat → Br) : Prop := CRow w ao n cap 5 (fun i => brC (bs i))
abbrev LRow (w : World) (ao : Option Addr) (n cap : Nat) (ls : Nat → Lk) : Prop := CRow w ao n cap 6 (fun i => lkC (ls i))
abbrev ERow (w : World) (ao : Option Addr) (n cap : Nat) (es : Nat → En) : Prop := CRow w ao n cap 5 (fun i => enC (es i))
abbrev PRow (w : World) (ao : Option Addr) (n cap : Nat) (ps : Nat → Pc) : Prop := CRow w ao n cap 7 (fun i => pcC (ps i))
theorem BRow.cells {w : World} {b off n cap : Nat} {bs : Nat → Br} (h : BRow w (some ⟨b, off, none⟩) n cap bs) {i : Nat} (hi : i < n) :
    w.cell? ⟨b, off + i * 5, none⟩ = some (.int .u64 (bs i).addr) ∧ w.cell? ⟨b, off + i * 5 + 1, none⟩ = some (.slice (bs i).pao (bs i).pn (bs i).pcap) ∧ w.cell? ⟨b, off + i * 5 + 2, none⟩ = some (.string (bs i).reg.s) ∧ w.cell? ⟨b, off + i * 5 + 3, none⟩ = some (.int .i64 (bs i).reg.rev) ∧ w.cell? ⟨b, off + i * 5 + 4, none⟩ = some (.slice (bs i).reg.ao (bs i).reg.n (bs i).reg.cap) := by
  obtain ⟨b', off', e, _, hc⟩ := h.2 (by omega)
  cases e
  exact ⟨hc i hi 0 (by omega), hc i hi 1 (by omega), hc i hi 2 (by omega), hc i hi 3 (by omega), hc i hi 4 (by omega)⟩
theorem LRow.cells {w : World} {b off n cap : Nat} {ls : Nat → Lk} (h : LRow w (some ⟨b, off, none⟩) n cap ls) {i : Nat} (hi : i < n) :
    w.cell? ⟨b, off + i * 6, none⟩ = some (.int .i64 (ls i).a) ∧ w.cell? ⟨b, off + i * 6 + 1, none⟩ = some (.int .i64 (ls i).pa) ∧ w.cell? ⟨b, off + i * 6 + 2, none⟩ = some (.int .i64 (ls i).b) ∧ w.cell? ⟨b, off + i * 6 + 3, none⟩ = some (.int .i64 (ls i).pb) ∧ w.cell? ⟨b, off + i * 6 + 4, none⟩ = some (.int .i64 (ls i).cost) ∧ w.cell? ⟨b, off + i * 6 + 5, none⟩ = some (.bool (ls i).up) := by
  obtain ⟨b', off', e, _, hc⟩ := h.2 (by omega)
  cases e
  exact ⟨hc i hi 0 (by omega), hc i hi 1 (by omega), hc i hi 2 (by omega), hc i hi 3 (by omega), hc i hi 4 (by omega), hc i hi 5 (by omega)⟩
theorem ERow.cells {w : World} {b off n cap : Nat} {es : Nat → En} (h : ERow w (some ⟨b, off, none⟩) n cap es) {i : Nat} (hi : i < n) :
    w.cell? ⟨b, off + i * 5, none⟩ = some (.int .i64 (es i).port) ∧ w.cell? ⟨b, off + i * 5 + 1, none⟩ = some (.int .i64 (es i).cost) ∧ w.cell? ⟨b, off + i * 5 + 2, none⟩ = some (.int .i64 (es i).other) ∧ w.cell? ⟨b, off + i * 5 + 3, none⟩ = some (.int .i64 (es i).oport) ∧ w.cell? ⟨b, off + i * 5 + 4, none⟩ = some (.bool (es i).live) := by
  obtain ⟨b', off', e, _, hc⟩ := h.2 (by omega)
  cases e
  exact ⟨hc i hi 0 (by omega), hc i hi 1 (by omega), hc i hi 2 (by omega), hc i hi 3 (by omega), hc i hi 4 (by omega)⟩
theorem PRow.cells {w : World} {b off n cap : Nat} {ps : Nat → Pc} (h : PRow w (some ⟨b, off, none⟩) n cap ps) {i : Nat} (hi : i < n) :
    w.cell? ⟨b, off + i * 7, none⟩ = some (.int .u64 (ps i).v.root) ∧ w.cell? ⟨b, off + i * 7 + 1, none⟩ = some (.int .i64 (ps i).v.cost) ∧ w.cell? ⟨b, off + i * 7 + 2, none⟩ = some (.int .u64 (ps i).v.bridge) ∧ w.cell? ⟨b, off + i * 7 + 3, none⟩ = some (.int .i64 (ps i).v.port) ∧ w.cell? ⟨b, off + i * 7 + 4, none⟩ = some (.int .i64 (ps i).rp) ∧ w.cell? ⟨b, off + i * 7 + 5, none⟩ = some (.slice (ps i).pao (ps i).pn (ps i).pcap) ∧ w.cell? ⟨b, off + i * 7 + 6, none⟩ = some (.slice (ps i).rao (ps i).rn (ps i).rcap) := by
  obtain ⟨b', off', e, _, hc⟩ := h.2 (by omega)
  cases e
  exact ⟨hc i hi 0 (by omega), hc i hi 1 (by omega), hc i hi 2 (by omega), hc i hi 3 (by omega), hc i hi 4 (by omega), hc i hi 5 (by omega), hc i hi 6 (by omega)⟩
namespace Pl
/-- What a bridge refers to lies there. -/
def Br.at' (b : Br) (w : World) : Prop := IRow w b.pao b.pn b.pcap b.pv ∧ b.reg.at' w ∧ b.pn ≤ 9223372036854775807 ∧ b.reg.n ≤ 9223372036854775807
theorem Br.at'.below {b : Br} {w w' : World} (h : b.at' w) (hb : Below w.heap.size w w') : b.at' w' := ⟨CRow.below h.1 hb, h.2.1.below hb, h.2.2⟩
/-- A net lies there. -/
structure Net.at' (n : Net) (w : World) : Prop where
  brs : BRow w n.bao n.K n.bcap n.bs
  each : ∀ i, i < n.K → (n.bs i).at' w
  lks : LRow w n.lao n.L n.lcap n.ls
  manyB : n.K ≤ 9223372036854775807
  manyL : n.L ≤ 9223372036854775807
theorem Net.at'.below {n : Net} {w w' : World} (h : n.at' w) (hb : Below w.heap.size w w') : n.at' w' := ⟨CRow.below h.brs hb, fun i hi => (h.each i hi).below hb, CRow.below h.lks hb, h.manyB, h.manyL⟩
/-- As an argument. -/
def Net.val (n : Net) : Value := .agg #[.slice n.bao n.K n.bcap, .slice n.lao n.L n.lcap]
def brErr (b : Br) : Int := if 281474976710655 < b.addr then 3 else if 16 < b.pn then 5 else if Vc.someTo (fun i => oddP (b.pv i)) b.pn = true then 3 else Rg.wrong b.reg.s b.reg.rev b.reg.vs b.reg.ts b.reg.n
def bErr (bs : Nat → Br) (i : Nat) : Int := if brErr (bs i) ≠ 0 then brErr (bs i) else if Vc.someTo (fun j => decide ((bs j).addr = (bs i).addr)) i = true then 7 else 0
def Net.wrong (n : Net) : Int × Int := if 12 < n.K ∨ 40 < n.L then (5, 0) else if (firstTo (bErr n.bs) n.K).1 ≠ 0 then firstTo (bErr n.bs) n.K else firstTo (lErr n.K n.ls) n.L
def Br.prio (b : Br) (tree : Int) : Int := if 0 ≤ tree ∧ tree ≤ (b.pn : Int) - 1 then b.pv tree.toNat else 32768
def Br.id (b : Br) (tree : Int) : Int := b.prio tree * 281474976710656 + b.addr
/-- A link is live. -/
def Net.live (n : Net) (k : Nat) : Bool := (n.ls k).up && decide (strOf 50 (n.bs (n.ls k).a.toNat).reg.id = strOf 50 (n.bs (n.ls k).b.toNat).reg.id)
def Net.ids (n : Net) (tree : Int) (i : Nat) : Int := (n.bs i).id tree
def Net.ends (n : Net) (i : Nat) : List En := Pl.ends n.ls n.live n.L i
def Net.says (n : Net) (tree : Int) : Nat → St := fin (n.ids tree) n.ends n.K
end Pl
end Go.Proofs.YtcbpafpaimpfnaaGreatDoor

namespace Go.Proofs.YtcbpafpaimpfnaaGreatDoor
namespace Pl
open Vc (V Of)
/-- Nothing is wrong with the links. -/
structure RightL (K L : Nat) (ls : Nat → Lk) : Prop where
  ok : ∀ k, k < L → (0 ≤ (ls k).a ∧ (ls k).a < K) ∧ (0 ≤ (ls k).b ∧ (ls k).b < K) ∧ (ls k).a ≠ (ls k).b ∧ (1 ≤ (ls k).pa ∧ (ls k).pa ≤ 30) ∧ (1 ≤ (ls k).pb ∧ (ls k).pb ≤ 30) ∧ (1 ≤ (ls k).cost ∧ (ls k).cost ≤ 200000)
  one : ∀ j k, j < k → k < L → isEnd (ls j) (ls k).a (ls k).pa = false ∧ isEnd (ls j) (ls k).b (ls k).pb = false
theorem someTo_false {p : Nat → Bool} : ∀ {n : Nat}, Vc.someTo p n = false → ∀ i, i < n → p i = false
  | 0, _, i, hi => by omega
  | n + 1, h, i, hi => by
    simp only [Vc.someTo, Bool.or_eq_false_iff] at h
    by_cases e : i = n
    · subst e; exact h.2
    · exact someTo_false h.1 i (by omega)
theorem someTo_none {p : Nat → Bool} : ∀ {n : Nat}, (∀ i, i < n → p i = false) → Vc.someTo p n = false
  | 0, _ => rfl
  | n + 1, h => by simp only [Vc.someTo, Bool.or_eq_false_iff]; exact ⟨someTo_none (fun i hi => h i (by omega)), h n (by omega)⟩
theorem lkErr_ok {K : Nat} {l : Lk} (h : lkErr K l = 0) : (0 ≤ l.a ∧ l.a < K) ∧ (0 ≤ l.b ∧ l.b < K) ∧ l.a ≠ l.b ∧ (1 ≤ l.pa ∧ l.pa ≤ 30) ∧ (1 ≤ l.pb ∧ l.pb ≤ 30) ∧ (1 ≤ l.cost ∧ l.cost ≤ 200000) := by
  unfold lkErr at h
  split at h
  · omega
  · split at h
    · omega
    · split at h
      · omega
      · omega
theorem lErr_ok {K : Nat} {ls : Nat → Lk} {i : Nat} (h : lErr K ls i = 0) : lkErr K (ls i) = 0 ∧ ∀ j, j < i → isEnd (ls j) (ls i).a (ls i).pa = false ∧ isEnd (ls j) (ls i).b (ls i).pb = false := by
  unfold lErr at h
  split at h
  · omega
  · rename_i h1
    split at h
    · omega
    · rename_i h2
      refine ⟨by omega, fun j hj => ?_⟩
      have := someTo_false (by simpa using h2) j hj
      simpa using this
theorem rightL {K L : Nat} {ls : Nat → Lk} (h : ∀ i, i < L → lErr K ls i = 0) : RightL K L ls :=
  ⟨fun k hk => lkErr_ok (lErr_ok (h k hk)).1, fun j k hj hk => (lErr_ok (h k hk)).2 j hj⟩
theorem endsAt_mem {l : Lk} {lv : Bool} {i : Nat} {e : En} : e ∈ endsAt l lv i ↔ (l.a = (i : Int) ∧ e = ⟨l.pa, l.cost, l.b, l.pb, lv⟩) ∨ (l.b = (i : Int) ∧ e = ⟨l.pb, l.cost, l.a, l.pa, lv⟩) := by
  unfold endsAt
  by_cases h1 : l.a = (i : Int) <;> by_cases h2 : l.b = (i : Int) <;> simp [h1, h2]
theorem endsTo_mem {ls : Nat → Lk} {lv : Nat → Bool} {i : Nat} {e : En} : ∀ {L : Nat}, e ∈ endsTo ls lv i L ↔ ∃ k, k < L ∧ e ∈ endsAt (ls k) (lv k) i
  | 0 => ⟨fun h => by simp [endsTo] at h, fun ⟨k, hk, _⟩ => by omega⟩
  | L + 1 => by
    simp only [endsTo, List.mem_append]
    rw [endsTo_mem (L := L)]
    constructor
    · rintro (⟨k, hk, h⟩ | h)
      · exact ⟨k, by omega, h⟩
      · exact ⟨L, by omega, h⟩
    · rintro ⟨k, hk, h⟩
      by_cases e : k = L
      · subst e; exact Or.inr h
      · exact Or.inl ⟨k, by omega, h⟩
theorem ends_perm (ls : Nat → Lk) (lv : Nat → Bool) (L i : Nat) : (ends ls lv L i).Perm (endsTo ls lv i L) := List.mergeSort_perm _ _
theorem ends_mem {ls : Nat → Lk} {lv : Nat → Bool} {L i : Nat} {e : En} : e ∈ ends ls lv L i ↔ ∃ k, k < L ∧ (((ls k).a = (i : Int) ∧ e = ⟨(ls k).pa, (ls k).cost, (ls k).b, (ls k).pb, lv k⟩) ∨ ((ls k).b = (i : Int) ∧ e = ⟨(ls k).pb, (ls k).cost, (ls k).a, (ls k).pa, lv k⟩)) := by
  rw [(ends_perm ls lv L i).mem_iff, endsTo_mem]
  constructor
  · rintro ⟨k, hk, h⟩; exact ⟨k, hk, endsAt_mem.1 h⟩
  · rintro ⟨k, hk, h⟩; exact ⟨k, hk, endsAt_mem.2 h⟩
/-- No port is there twice. -/
theorem endsTo_ports {K L : Nat} {ls : Nat → Lk} (R : RightL K L ls) (lv : Nat → Bool) (i : Nat) : ∀ n, n ≤ L → (endsTo ls lv i n).Pairwise (fun x y => x.port ≠ y.port)
  | 0, _ => List.Pairwise.nil
  | n + 1, hn => by
    simp only [endsTo]
    rw [List.pairwise_append]
    refine ⟨endsTo_ports R lv i n (by omega), ?_, ?_⟩
    · have := (R.ok n (by omega)).2.2.1
      unfold endsAt
      by_cases h1 : (ls n).a = (i : Int) <;> by_cases h2 : (ls n).b = (i : Int) <;> simp [h1, h2]
      omega
    · intro x hx y hy
      obtain ⟨k, hk, hx⟩ := endsTo_mem.1 hx
      obtain ⟨o1, o2⟩ := R.one k n (by omega) (by omega)
      unfold isEnd at o1 o2
      simp only [Bool.or_eq_false_iff, decide_eq_false_iff_not] at o1 o2
      rcases endsAt_mem.1 hx with ⟨a1, rfl⟩ | ⟨a1, rfl⟩ <;> rcases endsAt_mem.1 hy with ⟨b1, rfl⟩ | ⟨b1, rfl⟩ <;> simp only <;> intro e
      · exact o1.1 ⟨by omega, e⟩
      · exact o2.1 ⟨by omega, e⟩
      · exact o1.2 ⟨by omega, e⟩
      · exact o2.2 ⟨by omega, e⟩
theorem ends_sorted {K L : Nat} {ls : Nat → Lk} (R : RightL K L ls) (lv : Nat → Bool) (i : Nat) : (ends ls lv L i).Pairwise (fun x y => x.port < y.port) := by
  have h1 : (ends ls lv L i).Pairwise (fun x y => leP x y = true) := List.pairwise_mergeSort (fun a b c h1 h2 => by simp [leP] at *; omega) (fun a b => by simp [leP]; omega) _
  have h2 : (ends ls lv L i).Pairwise (fun x y => x.port ≠ y.port) := ((ends_perm ls lv L i).pairwise_iff (fun {a b} (h : a.port ≠ b.port) => h.symm)).2 (endsTo_ports R lv i L (Nat.le_refl _))
  have := h1.and h2
  exact this.imp (fun {a b} ⟨q1, q2⟩ => by simp [leP] at q1; omega)
/-- What is sorted by ports is this. -/
theorem ends_unique {K L : Nat} {ls : Nat → Lk} (R : RightL K L ls) (lv : Nat → Bool) (i : Nat) {l : List En} (hp : l.Perm (endsTo ls lv i L)) (h : l.Pairwise (fun x y => ¬ y.port < x.port)) : l = ends ls lv L i := by
  have h2 : l.Pairwise (fun x y => x.port ≠ y.port) := (hp.pairwise_iff (fun {a b} (h : a.port ≠ b.port) => h.symm)).2 (endsTo_ports R lv i L (Nat.le_refl _))
  exact sorted_unique (hp.trans (ends_perm ls lv L i).symm) ((h.and h2).imp (fun {a b} ⟨q1, q2⟩ => by omega)) (ends_sorted R lv i)
theorem good {K L : Nat} {ls : Nat → Lk} (R : RightL K L ls) (hK : K ≤ 12) (ids : Nat → Int) (lv : Nat → Bool) : Good ids (fun i => ends ls lv L i) K := by
  refine ⟨hK, fun i hi e he _ => ?_⟩
  obtain ⟨k, hk, h⟩ := ends_mem.1 he
  obtain ⟨o1, o2, o3, o4, o5, o6⟩ := R.ok k hk
  rcases h with ⟨_, rfl⟩ | ⟨_, rfl⟩ <;> simp only <;> omega
/-- The port of a bridge has one link. -/
theorem ends_one {K L : Nat} {ls : Nat → Lk} (R : RightL K L ls) (lv : Nat → Bool) {i : Nat} {x y : En} (hx : x ∈ ends ls lv L i) (hy : y ∈ ends ls lv L i) (h : x.port = y.port) : x = y := by
  have S := ends_sorted R lv i
  obtain ⟨a, ha, ea⟩ := List.getElem_of_mem hx
  obtain ⟨b, hb, eb⟩ := List.getElem_of_mem hy
  have key := List.pairwise_iff_getElem.1 S
  by_cases e : a = b
  · subst e; rw [← ea, ← eb]
  · rcases Nat.lt_or_ge a b with q | q
    · have := key a b ha hb q
      rw [ea, eb] at this; omega
    · have := key b a hb ha (by omega)
      rw [ea, eb] at this; omega
end Pl
end Go.Proofs.YtcbpafpaimpfnaaGreatDoor

namespace Go.Proofs.YtcbpafpaimpfnaaGreatDoor
namespace Pl
open Vc (V Of)
section
variable {ids : Nat → Int} {E : Nat → List En} {K : Nat}
theorem fin_edge (G : Good ids E K) {i : Nat} (hi : i < K) {e : En} (he : e ∈ E i) (hl : e.live = true) : le2 (fin ids E K i).v (fin ids E K e.other.toNat).v.root ((fin ids E K e.other.toNat).v.cost + e.cost) := by
  obtain ⟨vs, hw⟩ := fin_real G e.other.toNat (toNat_lt (G.lt i hi e he hl).1)
  exact fin_up G hi (Walk.over i e vs _ _ hi he hl hw)
theorem fin_bridge (i : Nat) : (fin ids E K i).v.bridge = ids i ∧ (fin ids E K i).v.port = 0 := rounds_bridge ids E K K i
theorem fin_cost (G : Good ids E K) {i : Nat} (hi : i < K) : 0 ≤ (fin ids E K i).v.cost ∧ (fin ids E K i).v.cost ≤ 28800000 := by
  have h := (rounds_inv G K G.few).1 i hi
  have := G.few
  have h2 : (fin ids E K i).v.cost = (rounds ids E K K i).v.cost := rfl
  omega
/-- Who is the root, and by which port the others hear of it. -/
theorem fin_port (G : Good ids E K) {i : Nat} (hi : i < K) : ((fin ids E K i).rp = -1 ∧ (fin ids E K i).v.root = ids i ∧ (fin ids E K i).v.cost = 0) ∨
    (0 ≤ (fin ids E K i).rp ∧ (fin ids E K i).v.root < ids i ∧ ∃ e, e ∈ E i ∧ e.live = true ∧ e.port = (fin ids E K i).rp ∧ (fin ids E K i).v.root = (fin ids E K e.other.toNat).v.root ∧ (fin ids E K i).v.cost = (fin ids E K e.other.toNat).v.cost + e.cost ∧
      ∀ q, q ∈ E i → q.live = true → ¬ Vc.ahead (offerOf (fin ids E K) q) (offerOf (fin ids E K) e)) := by
  have hf := fin_fix G i hi
  obtain ⟨X, hX⟩ : ∃ X, X = fin ids E K := ⟨_, rfl⟩
  rw [← hX] at hf ⊢
  rcases chS_real (ids i) (offs (E i) X) with ⟨h, _⟩ | ⟨o, ho, hm, h, hn⟩
  · rw [h] at hf
    rw [hf]
    exact Or.inl ⟨rfl, rfl, rfl⟩
  · rw [h] at hf
    obtain ⟨e, h1, h2, rfl⟩ := offs_mem ho
    refine Or.inr ?_
    rw [hf]
    refine ⟨hm.2.1, hm.2.2.2, e, h1, h2, rfl, rfl, rfl, fun q hq hql => ?_⟩
    by_cases hmq : Vc.may (ids i) (offerOf X q)
    · exact hn _ (mem_offs hq hql) hmq
    · intro ha
      apply hmq
      have hB := (rounds_inv G K G.few).1
      have hk := G.few
      have hfit := fits G (x := X) (by rw [hX]; exact hB) (by omega) hi hq hql
      refine ⟨hfit, (G.lt i hi q hq hql).2.2, ⟨Int.le_refl _, show (0 : Int) < 20 by decide⟩, ?_⟩
      have hr : (offerOf X e).vec.root < ids i := hm.2.2.2
      have : (offerOf X q).v.root ≤ (offerOf X e).v.root := by
        rcases ha with ha | ⟨ha, _⟩
        · unfold Vc.lt at ha; omega
        · rw [ha]; exact Int.le_refl _
      have e1 : (offerOf X q).v.root = (offerOf X q).vec.root := rfl
      have e2 : (offerOf X e).v.root = (offerOf X e).vec.root := rfl
      omega
theorem Walk.last {i : Nat} {vs : List Nat} {ρ c : Int} (h : Walk ids E K i vs ρ c) : ∃ j, j < K ∧ ids j = ρ ∧ ∀ us ρ' c', Walk ids E K j us ρ' c' → ∃ ws d, Walk ids E K i ws ρ' d := by
  induction h with
  | here i hi => exact ⟨i, hi, rfl, fun us ρ' c' h => ⟨us, c', h⟩⟩
  | over i e vs ρ c hi he hl _ ih =>
    obtain ⟨j, hj, e1, h2⟩ := ih
    refine ⟨j, hj, e1, fun us ρ' c' h => ?_⟩
    obtain ⟨ws, d, hw⟩ := h2 us ρ' c' h
    exact ⟨_, _, Walk.over i e ws ρ' d hi he hl hw⟩
/-- The root is one of the bridges, and says so. -/
theorem fin_there (G : Good ids E K) {i : Nat} (hi : i < K) : ∃ k, k < K ∧ (fin ids E K k).v.root = (fin ids E K i).v.root ∧ (fin ids E K k).v.bridge = (fin ids E K k).v.root := by
  obtain ⟨vs, hw⟩ := fin_real G i hi
  obtain ⟨j, hj, e1, h2⟩ := hw.last
  obtain ⟨us, hu⟩ := fin_real G j hj
  obtain ⟨ws, d, h3⟩ := h2 us _ _ hu
  have a := fin_up G hi h3
  have b := fin_up G hj (Walk.here j hj)
  unfold le2 at a b
  have e : (fin ids E K j).v.root = (fin ids E K i).v.root := by omega
  exact ⟨j, hj, e, by rw [(fin_bridge j).1, e1, e]⟩
theorem someTo_iff {p : Nat → Bool} : ∀ {n : Nat}, Vc.someTo p n = true ↔ ∃ i, i < n ∧ p i = true
  | 0 => ⟨fun h => by simp [Vc.someTo] at h, fun ⟨i, hi, _⟩ => by omega⟩
  | n + 1 => by
    simp only [Vc.someTo, Bool.or_eq_true]
    rw [someTo_iff (n := n)]
    constructor
    · rintro (⟨i, hi, h⟩ | h)
      · exact ⟨i, by omega, h⟩
      · exact ⟨n, by omega, h⟩
    · rintro ⟨i, hi, h⟩
      by_cases e : i = n
      · subst e; exact Or.inr h
      · exact Or.inl ⟨i, by omega, h⟩
/-- What a port is, by the one link that is there. -/
theorem role_eq {i : Nat} {x : Nat → St} {l : List En} (one : ∀ p q, p ∈ l → q ∈ l → p.port = q.port → p = q) {e : En} (he : e ∈ l) (hl : e.live = true) :
    roleAt (x i) (offs l x) e = if e.port = (x i).rp then 1 else if Vc.lt ⟨(x e.other.toNat).v.root, (x e.other.toNat).v.cost, (x e.other.toNat).v.bridge, e.oport⟩ ⟨(x i).v.root, (x i).v.cost, (x i).v.bridge, e.port⟩ then 3 else 2 := by
  unfold roleAt Vc.role
  rw [if_pos hl]
  by_cases h : e.port = (x i).rp
  · rw [if_pos h, if_pos h]
  · rw [if_neg h, if_neg h]
    have key : Vc.someTo (fun j => decide (Vc.hears (x i).v e.port (lf (offs l x) j))) (offs l x).length = true ↔ Vc.lt ⟨(x e.other.toNat).v.root, (x e.other.toNat).v.cost, (x e.other.toNat).v.bridge, e.oport⟩ ⟨(x i).v.root, (x i).v.cost, (x i).v.bridge, e.port⟩ := by
      rw [someTo_iff]
      constructor
      · rintro ⟨j, hj, hh⟩
        have hh := of_decide_eq_true hh
        obtain ⟨q, q1, q2, q3⟩ := offs_mem (lf_mem hj)
        rw [q3] at hh
        obtain ⟨k1, _, k3⟩ := hh
        have := one q e q1 he k1
        subst this
        exact k3
      · intro hlt
        obtain ⟨j, hj, e1⟩ := lf_of_mem (mem_offs (x := x) he hl)
        refine ⟨j, hj, decide_eq_true ?_⟩
        rw [e1]
        exact ⟨rfl, ⟨Int.le_refl _, show (0 : Int) ≤ 20 by decide⟩, hlt⟩
    by_cases hlt : Vc.lt ⟨(x e.other.toNat).v.root, (x e.other.toNat).v.cost, (x e.other.toNat).v.bridge, e.oport⟩ ⟨(x i).v.root, (x i).v.cost, (x i).v.bridge, e.port⟩
    · rw [if_pos (key.2 hlt), if_pos hlt]
    · rw [if_neg (fun q => hlt (key.1 q)), if_neg hlt]
end
section
variable {K L : Nat} {ls : Nat → Lk}
theorem three_ways {p q : Prop} [Decidable p] [Decidable q] {r : Int} (h : r = if p then 1 else if q then 3 else 2) : (p ∧ r = 1) ∨ (¬ p ∧ q ∧ r = 3) ∨ (¬ p ∧ ¬ q ∧ r = 2) := by
  by_cases h1 : p
  · rw [if_pos h1] at h; exact Or.inl ⟨h1, h⟩
  · rw [if_neg h1] at h
    by_cases h2 : q
    · rw [if_pos h2] at h; exact Or.inr (Or.inl ⟨h1, h2, h⟩)
    · rw [if_neg h2] at h; exact Or.inr (Or.inr ⟨h1, h2, h⟩)
/-- A link's two ends. -/
def eA (l : Lk) (lv : Bool) : En := ⟨l.pa, l.cost, l.b, l.pb, lv⟩
def eB (l : Lk) (lv : Bool) : En := ⟨l.pb, l.cost, l.a, l.pa, lv⟩
theorem eA_mem (R : RightL K L ls) (lv : Nat → Bool) {k : Nat} (hk : k < L) : eA (ls k) (lv k) ∈ ends ls lv L (ls k).a.toNat :=
  ends_mem.2 ⟨k, hk, Or.inl ⟨by have := (R.ok k hk).1; omega, rfl⟩⟩
theorem eB_mem (R : RightL K L ls) (lv : Nat → Bool) {k : Nat} (hk : k < L) : eB (ls k) (lv k) ∈ ends ls lv L (ls k).b.toNat :=
  ends_mem.2 ⟨k, hk, Or.inr ⟨by have := (R.ok k hk).2.1; omega, rfl⟩⟩
/-- What all say. -/
def says (ids : Nat → Int) (ls : Nat → Lk) (lv : Nat → Bool) (K L : Nat) : Nat → St := fin ids (fun i => ends ls lv L i) K
/-- PlanRoot, PlanFar: over a live link. -/
theorem says_link (R : RightL K L ls) (hK : K ≤ 12) (ids : Nat → Int) (lv : Nat → Bool) {k : Nat} (hk : k < L) (hl : lv k = true) :
    (says ids ls lv K L (ls k).a.toNat).v.root = (says ids ls lv K L (ls k).b.toNat).v.root ∧
    (says ids ls lv K L (ls k).a.toNat).v.cost ≤ (says ids ls lv K L (ls k).b.toNat).v.cost + (ls k).cost ∧
    (says ids ls lv K L (ls k).b.toNat).v.cost ≤ (says ids ls lv K L (ls k).a.toNat).v.cost + (ls k).cost := by
  have G := good R hK ids lv
  obtain ⟨o1, o2, _⟩ := R.ok k hk
  have h1 := fin_edge G (i := (ls k).a.toNat) (by omega) (eA_mem R lv hk) hl
  have h2 := fin_edge G (i := (ls k).b.toNat) (by omega) (eB_mem R lv hk) hl
  unfold le2 eA at h1
  unfold le2 eB at h2
  simp only at h1 h2
  unfold says
  omega
/-- PlanEnds: of the two ends of a live link one is designated. -/
theorem says_roles (R : RightL K L ls) (hK : K ≤ 12) (ids : Nat → Int) (hids : ∀ i j, i < K → j < K → ids i = ids j → i = j) (lv : Nat → Bool) {k : Nat} (hk : k < L) (hl : lv k = true) (ra rb : Int)
    (ea : ra = roleAt (says ids ls lv K L (ls k).a.toNat) (offs (ends ls lv L (ls k).a.toNat) (says ids ls lv K L)) (eA (ls k) (lv k)))
    (eb : rb = roleAt (says ids ls lv K L (ls k).b.toNat) (offs (ends ls lv L (ls k).b.toNat) (says ids ls lv K L)) (eB (ls k) (lv k))) :
    (ra = 2 ∧ (rb = 1 ∨ rb = 3)) ∨ (rb = 2 ∧ (ra = 1 ∨ ra = 3)) := by
  have G := good R hK ids lv
  obtain ⟨o1, o2, o3, o4, o5, o6⟩ := R.ok k hk
  have hlink := says_link R hK ids lv hk hl
  rw [role_eq (fun p q hp hq h => ends_one R lv hp hq h) (eA_mem R lv hk) hl] at ea
  rw [role_eq (fun p q hp hq h => ends_one R lv hp hq h) (eB_mem R lv hk) hl] at eb
  have na : (ls k).a.toNat < K := by omega
  have nb : (ls k).b.toNat < K := by omega
  have hne : ids (ls k).a.toNat ≠ ids (ls k).b.toNat := fun e => by have := hids _ _ na nb e; omega
  have ba := (fin_bridge (ids := ids) (E := fun i => ends ls lv L i) (K := K) (ls k).a.toNat).1
  have bb := (fin_bridge (ids := ids) (E := fun i => ends ls lv L i) (K := K) (ls k).b.toNat).1
  have pa := fin_port G na
  have pb := fin_port G nb
  change (says ids ls lv K L _).v.bridge = _ at ba bb
  have ca : (ls k).pa = (says ids ls lv K L (ls k).a.toNat).rp → (says ids ls lv K L (ls k).a.toNat).v.cost = (says ids ls lv K L (ls k).b.toNat).v.cost + (ls k).cost := by
    intro e
    rcases pa with ⟨h, _⟩ | ⟨_, _, q, q1, q2, q3, q4, q5, _⟩
    · exfalso; change (says ids ls lv K L _).rp = -1 at h; omega
    · have := ends_one R lv q1 (eA_mem R lv hk) (by rw [q3]; exact e.symm)
      subst this
      exact q5
  have cb : (ls k).pb = (says ids ls lv K L (ls k).b.toNat).rp → (says ids ls lv K L (ls k).b.toNat).v.cost = (says ids ls lv K L (ls k).a.toNat).v.cost + (ls k).cost := by
    intro e
    rcases pb with ⟨h, _⟩ | ⟨_, _, q, q1, q2, q3, q4, q5, _⟩
    · exfalso; change (says ids ls lv K L _).rp = -1 at h; omega
    · have := ends_one R lv q1 (eB_mem R lv hk) (by rw [q3]; exact e.symm)
      subst this
      exact q5
  have fa := three_ways ea
  have fb := three_ways eb
  clear ea eb pa pb
  unfold eA Vc.lt at fa
  unfold eB Vc.lt at fb
  simp only at fa fb
  rcases fa with ⟨c1, fa⟩ | ⟨c1, d1, fa⟩ | ⟨c1, d1, fa⟩ <;> rcases fb with ⟨c2, fb⟩ | ⟨c2, d2, fb⟩ | ⟨c2, d2, fb⟩
  · have := ca c1; have := cb c2; omega
  · have := ca c1; omega
  · have := ca c1; omega
  · have := cb c2; omega
  · omega
  · omega
  · have := cb c2; omega
  · omega
  · omega
/-- PlanMore: with more that is live nothing is worse. -/
theorem Walk.more {ids : Nat → Int} {E E' : Nat → List En} (h : ∀ i, i < K → ∀ e, e ∈ E i → e.live = true → ∃ q, q ∈ E' i ∧ q.live = true ∧ q.other = e.other ∧ q.cost = e.cost) {i : Nat} {vs : List Nat} {ρ c : Int} (hw : Walk ids E K i vs ρ c) : Walk ids E' K i vs ρ c := by
  induction hw with
  | here i hi => exact Walk.here i hi
  | over i e vs ρ c hi he hl _ ih =>
    obtain ⟨q, q1, q2, q3, q4⟩ := h i hi e he hl
    rw [← q4]
    exact Walk.over i q vs ρ c hi q1 q2 (by rw [q3]; exact ih)
theorem says_more {ls' : Nat → Lk} (R : RightL K L ls) (R' : RightL K L ls') (hK : K ≤ 12) (ids : Nat → Int) (lv lv' : Nat → Bool) (hls : ∀ k, k < L → (ls' k).a = (ls k).a ∧ (ls' k).b = (ls k).b ∧ (ls' k).pa = (ls k).pa ∧ (ls' k).pb = (ls k).pb ∧ (ls' k).cost = (ls k).cost ∧ (lv k = true → lv' k = true)) {i : Nat} (hi : i < K) :
    le2 (says ids ls' lv' K L i).v (says ids ls lv K L i).v.root (says ids ls lv K L i).v.cost := by
  obtain ⟨vs, hw⟩ := fin_real (good R hK ids lv) i hi
  refine fin_up (good R' hK ids lv') hi (Walk.more (fun j hj e he hl => ?_) hw)
  obtain ⟨k, hk, h⟩ := ends_mem.1 he
  obtain ⟨a1, a2, a3, a4, a5, a6⟩ := hls k hk
  rcases h with ⟨h1, rfl⟩ | ⟨h1, rfl⟩
  · exact ⟨_, ends_mem.2 ⟨k, hk, Or.inl ⟨by rw [a1]; exact h1, rfl⟩⟩, a6 hl, a2, a5⟩
  · exact ⟨_, ends_mem.2 ⟨k, hk, Or.inr ⟨by rw [a2]; exact h1, rfl⟩⟩, a6 hl, a1, a5⟩
end
end Pl
end Go.Proofs.YtcbpafpaimpfnaaGreatDoor

namespace Go.Proofs.YtcbpafpaimpfnaaGreatDoor
namespace Pl
open Vc (V Of)
/-- Who is joined by the first k links, told by the least one; whether one of them made a ring. -/
def lab (es : Nat → Nat × Nat) : Nat → (Nat → Nat)
  | 0 => fun i => i
  | k + 1 => fun i => if lab es k i = lab es k (es k).1 ∨ lab es k i = lab es k (es k).2 then min (lab es k (es k).1) (lab es k (es k).2) else lab es k i
def ring (es : Nat → Nat × Nat) : Nat → Bool
  | 0 => false
  | k + 1 => ring es k || decide (lab es k (es k).1 = lab es k (es k).2)
theorem lab_edge (es : Nat → Nat × Nat) : ∀ k j, j < k → lab es k (es j).1 = lab es k (es j).2
  | 0, j, h => by omega
  | k + 1, j, h => by
    simp only [lab]
    by_cases e : j = k
    · subst e
      rw [if_pos (Or.inl rfl), if_pos (Or.inr rfl)]
    · rw [lab_edge es k j (by omega)]
theorem lab_hit {es : Nat → Nat × Nat} {k i : Nat} (h : lab es k i = lab es k (es k).1 ∨ lab es k i = lab es k (es k).2) : lab es (k + 1) i = min (lab es k (es k).1) (lab es k (es k).2) := if_pos h
theorem lab_miss {es : Nat → Nat × Nat} {k i : Nat} (h : ¬ (lab es k i = lab es k (es k).1 ∨ lab es k i = lab es k (es k).2)) : lab es (k + 1) i = lab es k i := if_neg h
theorem lab_min (es : Nat → Nat × Nat) : ∀ k i, lab es k i ≤ i ∧ lab es k (lab es k i) = lab es k i
  | 0, i => ⟨Nat.le_refl _, rfl⟩
  | k + 1, i => by
    obtain ⟨h1, h2⟩ := lab_min es k i
    have ha := (lab_min es k (es k).1).2
    have hb := (lab_min es k (es k).2).2
    by_cases h : lab es k i = lab es k (es k).1 ∨ lab es k i = lab es k (es k).2
    · rw [lab_hit h]
      refine ⟨by rcases h with h | h <;> omega, lab_hit ?_⟩
      rcases Nat.le_total (lab es k (es k).1) (lab es k (es k).2) with q | q
      · rw [Nat.min_eq_left q]; exact Or.inl ha
      · rw [Nat.min_eq_right q]; exact Or.inr hb
    · rw [lab_miss h]
      exact ⟨h1, (lab_miss (by rw [h2]; exact h)).trans h2⟩
theorem lab_equiv (es : Nat → Nat × Nat) {R : Nat → Nat → Prop} (hr : ∀ u, R u u) (hs : ∀ u v, R u v → R v u) (ht : ∀ u v x, R u v → R v x → R u x) : ∀ k, (∀ j, j < k → R (es j).1 (es j).2) → ∀ u v, lab es k u = lab es k v → R u v
  | 0, _, u, v, h => by simp only [lab] at h; subst h; exact hr u
  | k + 1, hR, u, v, h => by
    have ih := lab_equiv es hr hs ht k (fun j hj => hR j (by omega))
    have hk := hR k (by omega)
    simp only [lab] at h
    have toE : ∀ x, lab es k x = lab es k (es k).1 ∨ lab es k x = lab es k (es k).2 → R x (es k).1 := fun x hx => by
      rcases hx with hx | hx
      · exact ih _ _ hx
      · exact ht _ _ _ (ih _ _ hx) (hs _ _ hk)
    by_cases h1 : lab es k u = lab es k (es k).1 ∨ lab es k u = lab es k (es k).2 <;> by_cases h2 : lab es k v = lab es k (es k).1 ∨ lab es k v = lab es k (es k).2
    · exact ht _ _ _ (toE u h1) (hs _ _ (toE v h2))
    · rw [if_pos h1, if_neg h2] at h
      exfalso
      apply h2
      rcases Nat.le_total (lab es k (es k).1) (lab es k (es k).2) with q | q
      · rw [Nat.min_eq_left q] at h; exact Or.inl h.symm
      · rw [Nat.min_eq_right q] at h; exact Or.inr h.symm
    · rw [if_neg h1, if_pos h2] at h
      exfalso
      apply h1
      rcases Nat.le_total (lab es k (es k).1) (lab es k (es k).2) with q | q
      · rw [Nat.min_eq_left q] at h; exact Or.inl h
      · rw [Nat.min_eq_right q] at h; exact Or.inr h
    · rw [if_neg h1, if_neg h2] at h
      exact ih u v h
theorem lab_same (es fs : Nat → Nat × Nat) (k m : Nat) (h1 : ∀ j, j < k → lab fs m (es j).1 = lab fs m (es j).2) (h2 : ∀ j, j < m → lab es k (fs j).1 = lab es k (fs j).2) (i : Nat) : lab es k i = lab fs m i := by
  have a : ∀ u v, lab es k u = lab es k v → lab fs m u = lab fs m v := lab_equiv es (R := fun u v => lab fs m u = lab fs m v) (fun _ => rfl) (fun _ _ h => h.symm) (fun _ _ _ h q => h.trans q) k h1
  have b : ∀ u v, lab fs m u = lab fs m v → lab es k u = lab es k v := lab_equiv fs (R := fun u v => lab es k u = lab es k v) (fun _ => rfl) (fun _ _ h => h.symm) (fun _ _ _ h q => h.trans q) m h2
  have x1 := lab_min es k i
  have x2 := lab_min fs m i
  have y1 := a _ _ x1.2
  have y2 := b _ _ x2.2
  have z1 := (lab_min fs m (lab es k i)).1
  have z2 := (lab_min es k (lab fs m i)).1
  omega
section
variable {K L : Nat} {ls : Nat → Lk} {ids : Nat → Int} {lv : Nat → Bool}
/-- A live link by which one of its two hears of the root. -/
def isOn (ids : Nat → Int) (ls : Nat → Lk) (lv : Nat → Bool) (K L k : Nat) : Prop := (ls k).pa = (says ids ls lv K L (ls k).a.toNat).rp ∨ (ls k).pb = (says ids ls lv K L (ls k).b.toNat).rp
def edge (ls : Nat → Lk) (k : Nat) : Nat × Nat := ((ls k).a.toNat, (ls k).b.toNat)
/-- Below c in the tree. -/
inductive Sub (ids : Nat → Int) (ls : Nat → Lk) (lv : Nat → Bool) (K L c : Nat) : Nat → Prop
  | self : Sub ids ls lv K L c c
  | up (v : Nat) (e : En) : v < K → e ∈ ends ls lv L v → e.live = true → e.port = (says ids ls lv K L v).rp → Sub ids ls lv K L c e.other.toNat → Sub ids ls lv K L c v
theorem up_cost (R : RightL K L ls) (hK : K ≤ 12) {v : Nat} (hv : v < K) {e : En} (he : e ∈ ends ls lv L v) (hl : e.live = true) (hp : e.port = (says ids ls lv K L v).rp) :
    (says ids ls lv K L v).v.cost = (says ids ls lv K L e.other.toNat).v.cost + e.cost ∧ (says ids ls lv K L v).v.root = (says ids ls lv K L e.other.toNat).v.root ∧ 1 ≤ e.cost ∧ e.other.toNat < K := by
  have G := good R hK ids lv
  obtain ⟨g1, g2, _⟩ := G.lt v hv e he hl
  rcases fin_port G hv with ⟨h, _⟩ | ⟨_, _, q, q1, q2, q3, q4, q5, _⟩
  · exfalso
    change (says ids ls lv K L v).rp = -1 at h
    obtain ⟨k, hk, hh⟩ := ends_mem.1 he
    obtain ⟨_, _, _, o4, o5, _⟩ := R.ok k hk
    rcases hh with ⟨_, rfl⟩ | ⟨_, rfl⟩ <;> simp only at hp <;> omega
  · have := ends_one R lv he q1 (by rw [q3]; exact hp)
    subst this
    exact ⟨q5, q4, g2.1, toNat_lt g1⟩
theorem Sub.cost (R : RightL K L ls) (hK : K ≤ 12) {c v : Nat} (h : Sub ids ls lv K L c v) : (says ids ls lv K L c).v.cost ≤ (says ids ls lv K L v).v.cost := by
  induction h with
  | self => exact Int.le_refl _
  | up v e hv he hl hp _ ih => have := up_cost R hK hv he hl hp; omega
theorem Sub.iff (R : RightL K L ls) {c v : Nat} (hv : v < K) {e : En} (he : e ∈ ends ls lv L v) (hl : e.live = true) (hp : e.port = (says ids ls lv K L v).rp) (hne : v ≠ c) : Sub ids ls lv K L c v ↔ Sub ids ls lv K L c e.other.toNat := by
  constructor
  · intro h
    cases h with
    | self => exact absurd rfl hne
    | up _ e' _ he' hl' hp' h =>
      have := ends_one R lv he he' (by rw [hp, hp'])
      rw [this]
      exact h
  · intro h
    exact Sub.up v e hv he hl hp h
/-- Two links by whose ends one and the same port hears are one. -/
theorem child_one (R : RightL K L ls) {k m : Nat} (hk : k < L) (hm : m < L) (h : isEnd (ls k) (ls m).a (ls m).pa = true ∨ isEnd (ls k) (ls m).b (ls m).pb = true) : k = m := by
  rcases Nat.lt_trichotomy k m with q | q | q
  · obtain ⟨h1, h2⟩ := R.one k m q hm
    rw [h1, h2] at h
    simp at h
  · exact q
  · obtain ⟨h1, h2⟩ := R.one m k q hk
    unfold isEnd at h h1 h2
    simp only [Bool.or_eq_false_iff, decide_eq_false_iff_not, Bool.or_eq_true, decide_eq_true_eq] at h h1 h2
    rcases h with (⟨a, b⟩ | ⟨a, b⟩) | (⟨a, b⟩ | ⟨a, b⟩)
    · exact absurd ⟨a.symm, b.symm⟩ h1.1
    · exact absurd ⟨a.symm, b.symm⟩ h2.1
    · exact absurd ⟨a.symm, b.symm⟩ h1.2
    · exact absurd ⟨a.symm, b.symm⟩ h2.2
theorem isEnd_a (l m : Lk) (h1 : l.a = m.a) (h2 : l.pa = m.pa) : isEnd l m.a m.pa = true := by simp [isEnd, h1, h2]
theorem isEnd_b (l m : Lk) (h1 : l.b = m.b) (h2 : l.pb = m.pb) : isEnd l m.b m.pb = true := by simp [isEnd, h1, h2]
/-- NO RING. -/
theorem no_ring (R : RightL K L ls) (hK : K ≤ 12) {n : Nat} {on : Nat → Nat} (hon : ∀ j, j < n → on j < L ∧ lv (on j) = true ∧ isOn ids ls lv K L (on j)) (hne : ∀ i j, i < j → j < n → on i ≠ on j) : ring (fun j => edge ls (on j)) n = false := by
  have key : ∀ j, j < n → lab (fun j => edge ls (on j)) j (edge ls (on j)).1 ≠ lab (fun j => edge ls (on j)) j (edge ls (on j)).2 := by
    intro j hj he
    obtain ⟨hk, hl, ho⟩ := hon j hj
    obtain ⟨o1, o2, o3, _⟩ := R.ok (on j) hk
    have step : ∀ c, (∀ i, i < j → (Sub ids ls lv K L c (edge ls (on i)).1 ↔ Sub ids ls lv K L c (edge ls (on i)).2)) → (Sub ids ls lv K L c (edge ls (on j)).1 ↔ Sub ids ls lv K L c (edge ls (on j)).2) := fun c hc =>
      lab_equiv (fun j => edge ls (on j)) (R := fun u v => (Sub ids ls lv K L c u ↔ Sub ids ls lv K L c v)) (fun _ => Iff.rfl) (fun _ _ h => h.symm) (fun _ _ _ h q => h.trans q) j hc _ _ he
    rcases ho with ho | ho
    · have S := step (ls (on j)).a.toNat (fun i hi => by
        obtain ⟨hk', hl', ho'⟩ := hon i (by omega)
        obtain ⟨p1, p2, p3, _⟩ := R.ok (on i) hk'
        have hd := hne i j hi hj
        rcases ho' with ho' | ho'
        · refine Sub.iff R (by omega) (eA_mem R lv hk') hl' ho' (fun e => hd ?_)
          refine child_one R hk' hk (Or.inl (isEnd_a _ _ (by omega) ?_))
          rw [ho', ho, e]
        · refine (Sub.iff R (by omega) (eB_mem R lv hk') hl' ho' (fun e => hd ?_)).symm
          refine child_one R hk' hk (Or.inl ?_)
          have : (ls (on i)).pb = (ls (on j)).pa := by rw [ho', ho, e]
          simp [isEnd, this, show (ls (on i)).b = (ls (on j)).a by omega])
      have c1 := (S.1 Sub.self).cost R hK
      have c2 := up_cost R hK (v := (ls (on j)).a.toNat) (by omega) (eA_mem R lv hk) hl ho
      simp only [edge, eA] at c1 c2
      omega
    · have S := step (ls (on j)).b.toNat (fun i hi => by
        obtain ⟨hk', hl', ho'⟩ := hon i (by omega)
        obtain ⟨p1, p2, p3, _⟩ := R.ok (on i) hk'
        have hd := hne i j hi hj
        rcases ho' with ho' | ho'
        · refine Sub.iff R (by omega) (eA_mem R lv hk') hl' ho' (fun e => hd ?_)
          refine child_one R hk' hk (Or.inr ?_)
          have : (ls (on i)).pa = (ls (on j)).pb := by rw [ho', ho, e]
          simp [isEnd, this, show (ls (on i)).a = (ls (on j)).b by omega]
        · refine (Sub.iff R (by omega) (eB_mem R lv hk') hl' ho' (fun e => hd ?_)).symm
          refine child_one R hk' hk (Or.inr (isEnd_b _ _ (by omega) ?_))
          rw [ho', ho, e])
      have c1 := (S.2 Sub.self).cost R hK
      have c2 := up_cost R hK (v := (ls (on j)).b.toNat) (by omega) (eB_mem R lv hk) hl ho
      simp only [edge, eB] at c1 c2
      omega
  have all : ∀ m, m ≤ n → ring (fun j => edge ls (on j)) m = false := by
    intro m
    induction m with
    | zero => intro _; rfl
    | succ m ih =>
      intro hm
      simp only [ring]
      rw [ih (by omega), decide_eq_false (key m (by omega))]
      rfl
  exact all n (Nat.le_refl _)
/-- ALL ARE JOINED. -/
theorem tree_joins (R : RightL K L ls) (hK : K ≤ 12) (hids : ∀ i j, i < K → j < K → ids i = ids j → i = j) {n m : Nat} {on al : Nat → Nat} (hon : ∀ j, j < n → on j < L ∧ lv (on j) = true ∧ isOn ids ls lv K L (on j)) (hall : ∀ j, j < m → al j < L ∧ lv (al j) = true)
    (on_all : ∀ k, k < L → lv k = true → isOn ids ls lv K L k → ∃ j, j < n ∧ on j = k) (all_all : ∀ k, k < L → lv k = true → ∃ j, j < m ∧ al j = k) (i : Nat) : lab (fun j => edge ls (al j)) m i = lab (fun j => edge ls (on j)) n i := by
  have G := good R hK ids lv
  have root : ∀ (c : Nat) (i : Nat), i < K → (says ids ls lv K L i).v.cost.toNat ≤ c → ∃ r, r < K ∧ ids r = (says ids ls lv K L i).v.root ∧ lab (fun j => edge ls (on j)) n i = lab (fun j => edge ls (on j)) n r := by
    intro c
    induction c with
    | zero =>
      intro i hi hc
      rcases fin_port G hi with ⟨_, h, _⟩ | ⟨_, _, q, q1, q2, q3, q4, q5, _⟩
      · exact ⟨i, hi, h.symm, rfl⟩
      · exfalso
        have := up_cost R hK hi q1 q2 q3
        have := fin_cost G this.2.2.2
        change 0 ≤ (says ids ls lv K L _).v.cost ∧ _ at this
        omega
    | succ c ih =>
      intro i hi hc
      rcases fin_port G hi with ⟨_, h, _⟩ | ⟨_, _, q, q1, q2, q3, q4, q5, _⟩
      · exact ⟨i, hi, h.symm, rfl⟩
      · obtain ⟨u1, u2, u3, u4⟩ := up_cost R hK hi q1 q2 q3
        have uc := fin_cost G u4
        change 0 ≤ (says ids ls lv K L _).v.cost ∧ _ at uc
        obtain ⟨r, r1, r2, r3⟩ := ih q.other.toNat u4 (by omega)
        refine ⟨r, r1, by rw [r2, u2], ?_⟩
        rw [← r3]
        obtain ⟨k, hk, hh⟩ := ends_mem.1 q1
        rcases hh with ⟨a1, rfl⟩ | ⟨a1, rfl⟩
        · obtain ⟨j, hj, ej⟩ := on_all k hk q2 (Or.inl (by rw [show (ls k).a.toNat = i by omega]; exact q3))
          have := lab_edge (fun j => edge ls (on j)) n j hj
          simp only [ej, edge] at this
          rw [show (ls k).a.toNat = i by omega] at this
          exact this
        · obtain ⟨j, hj, ej⟩ := on_all k hk q2 (Or.inr (by rw [show (ls k).b.toNat = i by omega]; exact q3))
          have := lab_edge (fun j => edge ls (on j)) n j hj
          simp only [ej, edge] at this
          rw [show (ls k).b.toNat = i by omega] at this
          exact this.symm
  refine lab_same _ _ m n (fun j hj => ?_) (fun j hj => ?_) i
  · obtain ⟨hk, hl⟩ := hall j hj
    obtain ⟨o1, o2, _⟩ := R.ok (al j) hk
    obtain ⟨ra, a1, a2, a3⟩ := root _ (ls (al j)).a.toNat (by omega) (Nat.le_refl _)
    obtain ⟨rb, b1, b2, b3⟩ := root _ (ls (al j)).b.toNat (by omega) (Nat.le_refl _)
    have := (says_link R hK ids lv hk hl).1
    have e := hids ra rb a1 b1 (by rw [a2, b2, this])
    show lab (fun j => edge ls (on j)) n (ls (al j)).a.toNat = lab (fun j => edge ls (on j)) n (ls (al j)).b.toNat
    rw [a3, b3, e]
  · obtain ⟨hk, hl, _⟩ := hon j hj
    obtain ⟨q, hq, eq⟩ := all_all (on j) hk hl
    have := lab_edge (fun j => edge ls (al j)) m q hq
    simp only [eq] at this
    exact this
end
end Pl
end Go.Proofs.YtcbpafpaimpfnaaGreatDoor

namespace Go.Proofs.YtcbpafpaimpfnaaGreatDoor
namespace Tk
open Vc (V Of)
open Pl (Lk En St lf lf_mem lf_of_mem le2 Walk fin fin_real fin_up fin_fix fin_port fin_edge fin_bridge fin_cost offerOf offs toNat_lt)
/-- What a bridge has in mind: what it says, how old that is, its root port. -/
structure Md where
  v : V
  age : Int
  rp : Int
def heardOf (x : Nat → Md) (e : En) : Of := ⟨e.port, e.cost, (x e.other.toNat).age, ⟨(x e.other.toNat).v.root, (x e.other.toNat).v.cost, (x e.other.toNat).v.bridge, e.oport⟩⟩
def heard (E : List En) (x : Nat → Md) : List Of := (E.filter (·.live)).map (heardOf x)
def chM (id : Int) (l : List Of) : Md := ⟨Vc.chV id (lf l) l.length, Vc.chA id (lf l) l.length, Vc.chP id (lf l) l.length⟩
/-- A tick. -/
def tick (ids : Nat → Int) (E : Nat → List En) (x : Nat → Md) : Nat → Md := fun i => chM (ids i) (heard (E i) x)
def ticks (ids : Nat → Int) (E : Nat → List En) (x : Nat → Md) : Nat → (Nat → Md)
  | 0 => x
  | t + 1 => tick ids E (ticks ids E x t)
theorem heard_mem {l : List En} {x : Nat → Md} {o : Of} (h : o ∈ heard l x) : ∃ e, e ∈ l ∧ e.live = true ∧ o = heardOf x e := by
  unfold heard at h
  obtain ⟨e, he, rfl⟩ := List.mem_map.1 h
  obtain ⟨h1, h2⟩ := List.mem_filter.1 he
  exact ⟨e, h1, h2, rfl⟩
theorem mem_heard {l : List En} {x : Nat → Md} {e : En} (h : e ∈ l) (hl : e.live = true) : heardOf x e ∈ heard l x :=
  List.mem_map.2 ⟨e, List.mem_filter.2 ⟨h, hl⟩, rfl⟩
/-- WHERE A CHOICE COMES FROM. -/
theorem chM_real (id : Int) (l : List Of) : (chM id l = ⟨⟨id, 0, id, 0⟩, 0, -1⟩ ∧ ∀ o ∈ l, ¬ Vc.may id o) ∨ ∃ o ∈ l, Vc.may id o ∧ chM id l = ⟨⟨o.vec.root, o.vec.cost + o.cost, id, 0⟩, o.age + 1, o.port⟩ ∧ ∀ q ∈ l, Vc.may id q → ¬ Vc.ahead q o := by
  cases h : Vc.chTo id (lf l) l.length with
  | none =>
    refine Or.inl ⟨?_, fun o ho hm => ?_⟩
    · unfold chM Vc.chV Vc.chA Vc.chP
      rw [h]
    · obtain ⟨j, hj, e⟩ := lf_of_mem ho
      exact Vc.chTo_none id (lf l) l.length h j hj (by rw [e]; exact hm)
  | some i =>
    obtain ⟨h1, h2, h3⟩ := Vc.chTo_some id (lf l) l.length i h
    refine Or.inr ⟨lf l i, lf_mem h1, h2, ?_, fun q hq hm => ?_⟩
    · unfold chM Vc.chV Vc.chA Vc.chP
      rw [h]
      rfl
    · obtain ⟨j, hj, e⟩ := lf_of_mem hq
      rw [← e]
      exact h3 j hj (by rw [e]; exact hm)
/-- What comes of a choice, whatever was heard. -/
theorem chM_own (id : Int) (l : List Of) : (chM id l).v.bridge = id ∧ (chM id l).v.port = 0 ∧ (0 ≤ (chM id l).age ∧ (chM id l).age ≤ 20) ∧ ((chM id l).age = 0 ↔ (chM id l).rp < 0) ∧ ((chM id l).v.root = id ↔ (chM id l).rp < 0) ∧ (0 ≤ (chM id l).v.cost ∧ (chM id l).v.cost ≤ 1000000000) ∧ (chM id l).v.root ≤ id := by
  rcases chM_real id l with ⟨h, _⟩ | ⟨o, _, hm, h, _⟩
  · rw [h]; simp
  · rw [h]
    obtain ⟨⟨f1, f2, f3⟩, hp, ha, hr⟩ := hm
    simp only
    refine ⟨trivial, trivial, by omega, ⟨fun q => by omega, fun q => by omega⟩, ⟨fun q => by omega, fun q => by omega⟩, by omega, by omega⟩
section
variable {ids : Nat → Int} {E : Nat → List En} {K : Nat}
theorem ticks_own (x : Nat → Md) (t : Nat) (i : Nat) : (ticks ids E x (t + 1) i).v.bridge = ids i ∧ (ticks ids E x (t + 1) i).v.port = 0 ∧ (0 ≤ (ticks ids E x (t + 1) i).age ∧ (ticks ids E x (t + 1) i).age ≤ 20) := by
  have h := chM_own (ids i) (heard (E i) (ticks ids E x t))
  exact ⟨h.1, h.2.1, h.2.2.1⟩
/-- WHAT IS SO OLD was said so many ticks ago, along links as they are. -/
theorem real_of (G : Pl.Good ids E K) (x : Nat → Md) : ∀ t i, i < K → (ticks ids E x t i).age < t → 0 ≤ (ticks ids E x t i).age → ∃ vs, Walk ids E K i vs (ticks ids E x t i).v.root (ticks ids E x t i).v.cost ∧ (vs.length : Int) = (ticks ids E x t i).age + 1
  | 0, i, _, h, h0 => by omega
  | t + 1, i, hi, h, _ => by
    simp only [ticks, tick] at h ⊢
    rcases chM_real (ids i) (heard (E i) (ticks ids E x t)) with ⟨e, _⟩ | ⟨o, ho, hm, e, _⟩
    · rw [e]; exact ⟨_, Walk.here i hi, rfl⟩
    · rw [e] at h ⊢
      obtain ⟨q, q1, q2, rfl⟩ := heard_mem ho
      obtain ⟨_, _, ha, _⟩ := hm
      simp only [heardOf] at h ha ⊢
      obtain ⟨vs, h1, h2⟩ := real_of G x t q.other.toNat (toNat_lt (G.lt i hi q q1 q2).1) (by omega) ha.1
      exact ⟨_, Walk.over i q vs _ _ hi q1 q2 h1, by simp only [List.length_cons]; omega⟩
theorem real_late (G : Pl.Good ids E K) (x : Nat → Md) {t : Nat} (ht : 21 ≤ t) {i : Nat} (hi : i < K) : ∃ vs, Walk ids E K i vs (ticks ids E x t i).v.root (ticks ids E x t i).v.cost := by
  obtain ⟨s, rfl⟩ : ∃ s, t = s + 1 := ⟨t - 1, by omega⟩
  have h := ticks_own (ids := ids) (E := E) x s i
  obtain ⟨vs, h1, _⟩ := real_of G x (s + 1) i hi (by omega) h.2.2.1
  exact ⟨vs, h1⟩
/-- The way to the root, by root ports. -/
inductive Dep (ids : Nat → Int) (E : Nat → List En) (K : Nat) : Nat → List Nat → Prop
  | root (i : Nat) : i < K → (fin ids E K i).rp = -1 → Dep ids E K i [i]
  | step (i : Nat) (e : En) (vs : List Nat) : i < K → e ∈ E i → e.live = true → e.port = (fin ids E K i).rp → (fin ids E K i).v.root < ids i → (fin ids E K i).v.root = (fin ids E K e.other.toNat).v.root → (fin ids E K i).v.cost = (fin ids E K e.other.toNat).v.cost + e.cost →
      (∀ q, q ∈ E i → q.live = true → ¬ Vc.ahead (offerOf (fin ids E K) q) (offerOf (fin ids E K) e)) → Dep ids E K e.other.toNat vs → Dep ids E K i (i :: vs)
theorem dep_there (G : Pl.Good ids E K) : ∀ (c : Nat) (i : Nat), i < K → (fin ids E K i).v.cost.toNat ≤ c → ∃ vs, Dep ids E K i vs := by
  intro c
  induction c with
  | zero =>
    intro i hi hc
    rcases fin_port G hi with ⟨h, _⟩ | ⟨_, hr, e, h1, h2, h3, h4, h5, h6⟩
    · exact ⟨_, Dep.root i hi h⟩
    · exfalso
      obtain ⟨g1, g2, _⟩ := G.lt i hi e h1 h2
      have := fin_cost G (toNat_lt g1)
      omega
  | succ c ih =>
    intro i hi hc
    rcases fin_port G hi with ⟨h, _⟩ | ⟨_, hr, e, h1, h2, h3, h4, h5, h6⟩
    · exact ⟨_, Dep.root i hi h⟩
    · obtain ⟨g1, g2, _⟩ := G.lt i hi e h1 h2
      have := fin_cost G (toNat_lt g1)
      obtain ⟨vs, hv⟩ := ih e.other.toNat (toNat_lt g1) (by omega)
      exact ⟨_, Dep.step i e vs hi h1 h2 h3 hr h4 h5 h6 hv⟩
theorem Dep.near (G : Pl.Good ids E K) {i : Nat} {vs : List Nat} (h : Dep ids E K i vs) : (∀ v ∈ vs, v < K ∧ (fin ids E K v).v.cost ≤ (fin ids E K i).v.cost) ∧ vs.Nodup := by
  induction h with
  | root i hi _ => exact ⟨fun v hv => by rw [List.mem_singleton] at hv; subst hv; exact ⟨hi, Int.le_refl _⟩, by simp⟩
  | step i e vs hi h1 h2 _ _ _ h5 _ _ ih =>
    obtain ⟨_, g2, _⟩ := G.lt i hi e h1 h2
    refine ⟨fun v hv => ?_, List.nodup_cons.2 ⟨fun hm => ?_, ih.2⟩⟩
    · rcases List.mem_cons.1 hv with q | q
      · subst q; exact ⟨hi, Int.le_refl _⟩
      · have := ih.1 v q; exact ⟨this.1, by omega⟩
    · have := (ih.1 i hm).2; omega
theorem Dep.len (G : Pl.Good ids E K) {i : Nat} {vs : List Nat} (h : Dep ids E K i vs) : vs.length ≤ 12 :=
  Nat.le_trans (Pl.nodup_few K vs (h.near G).2 (fun v hv => ((h.near G).1 v hv).1)) G.few
theorem Dep.pos {i : Nat} {vs : List Nat} (h : Dep ids E K i vs) : 1 ≤ vs.length := by cases h <;> simp
/-- THEY COME TO AGREE, one link a tick, once no ghost is left. -/
theorem agree (G : Pl.Good ids E K) (one : ∀ i, i < K → ∀ p q, p ∈ E i → q ∈ E i → p.port = q.port → p = q) (x : Nat → Md) {i : Nat} {vs : List Nat} (h : Dep ids E K i vs) : ∀ t, 20 + vs.length ≤ t → ticks ids E x t i = ⟨(fin ids E K i).v, (vs.length : Int) - 1, (fin ids E K i).rp⟩ := by
  induction h with
  | root i hi hrp =>
    intro t ht
    simp only [List.length_singleton] at ht
    obtain ⟨s, rfl⟩ : ∃ s, t = s + 1 := ⟨t - 1, by omega⟩
    have hf : (fin ids E K i).v = ⟨ids i, 0, ids i, 0⟩ := by
      have hb := fin_bridge (ids := ids) (E := E) (K := K) i
      rcases fin_port G hi with ⟨_, h2, h3⟩ | ⟨h2, _⟩
      · exact Vc.V.eq h2 h3 hb.1 hb.2
      · omega
    obtain ⟨ws, hw⟩ := real_late G x (t := s + 1) (by omega) hi
    have hle := fin_up G hi hw
    simp only [ticks, tick] at hle ⊢
    rcases chM_real (ids i) (heard (E i) (ticks ids E x s)) with ⟨e, _⟩ | ⟨o, _, hm, e, _⟩
    · rw [e, hf, hrp]; simp
    · exfalso
      rw [e, hf] at hle
      have := hm.2.2.2
      unfold le2 at hle
      simp only at hle
      omega
  | step i e vs hi h1 h2 h3 hr h4 h5 h6 hd ih =>
    intro t ht
    simp only [List.length_cons] at ht
    have hlen := hd.len G
    have hpos := hd.pos
    obtain ⟨s, rfl⟩ : ∃ s, t = s + 1 := ⟨t - 1, by omega⟩
    obtain ⟨r, rfl⟩ : ∃ r, s = r + 1 := ⟨s - 1, by omega⟩
    obtain ⟨g1, g2, g3⟩ := G.lt i hi e h1 h2
    have hp := ih (r + 1) (by omega)
    have hc := fin_cost G (toNat_lt g1)
    have hb := fin_bridge (ids := ids) (E := E) (K := K) i
    have hbp := fin_bridge (ids := ids) (E := E) (K := K) e.other.toNat
    have ho : heardOf (ticks ids E x (r + 1)) e = ⟨e.port, e.cost, (vs.length : Int) - 1, (offerOf (fin ids E K) e).vec⟩ := by unfold heardOf; rw [hp]; rfl
    have hmay : Vc.may (ids i) (heardOf (ticks ids E x (r + 1)) e) := by
      rw [ho]
      refine ⟨?_, g3, ⟨?_, ?_⟩, ?_⟩
      · unfold Vc.fitsOver offerOf; simp only; omega
      · show (0 : Int) ≤ (vs.length : Int) - 1; omega
      · show (vs.length : Int) - 1 < 20; omega
      · show (fin ids E K e.other.toNat).v.root < ids i; omega
    have hnot : ∀ q, q ∈ E i → q.live = true → ¬ Vc.ahead (heardOf (ticks ids E x (r + 1)) q) (heardOf (ticks ids E x (r + 1)) e) := by
      intro q q1 q2 ha
      obtain ⟨k1, _, _⟩ := G.lt i hi q q1 q2
      obtain ⟨ws, hw⟩ := real_late G x (t := r + 1) (by omega) (toNat_lt k1)
      have l1 := fin_up G (toNat_lt k1) hw
      have l2 := fin_edge G hi q1 q2
      have own := ticks_own (ids := ids) (E := E) x r q.other.toNat
      have hbq := fin_bridge (ids := ids) (E := E) (K := K) q.other.toNat
      have hav : (heardOf (ticks ids E x (r + 1)) e).v = (offerOf (fin ids E K) e).v := by rw [ho]; rfl
      have hap : (heardOf (ticks ids E x (r + 1)) e).port = (offerOf (fin ids E K) e).port := rfl
      have e1 : (offerOf (fin ids E K) e).v.root = (fin ids E K i).v.root := by rw [h4]; rfl
      have e2 : (offerOf (fin ids E K) e).v.cost = (fin ids E K i).v.cost := by rw [h5]; rfl
      have hle : (heardOf (ticks ids E x (r + 1)) q).v.root < (fin ids E K i).v.root ∨ ((heardOf (ticks ids E x (r + 1)) q).v.root = (fin ids E K i).v.root ∧ (heardOf (ticks ids E x (r + 1)) q).v.cost ≤ (fin ids E K i).v.cost) := by
        rcases ha with ha | ⟨ha, _⟩
        · rw [hav] at ha
          unfold Vc.lt at ha
          omega
        · rw [ha, hav, e1, e2]; exact Or.inr ⟨rfl, Int.le_refl _⟩
      unfold heardOf Vc.Of.v Vc.add at hle
      unfold le2 at l1 l2
      simp only at hle
      have r1 : (ticks ids E x (r + 1) q.other.toNat).v.root = (fin ids E K q.other.toNat).v.root := by omega
      have r2 : (ticks ids E x (r + 1) q.other.toNat).v.cost = (fin ids E K q.other.toNat).v.cost := by omega
      have hqv : (heardOf (ticks ids E x (r + 1)) q).v = (offerOf (fin ids E K) q).v := by
        unfold heardOf offerOf Vc.Of.v Vc.add
        simp only
        rw [r1, r2, own.1, hbq.1]
      apply h6 q q1 q2
      unfold Vc.ahead at ha ⊢
      rw [hqv, hav] at ha
      exact ha
    simp only [ticks, tick]
    change chM (ids i) (heard (E i) (ticks ids E x (r + 1))) = _
    rcases chM_real (ids i) (heard (E i) (ticks ids E x (r + 1))) with ⟨_, hn⟩ | ⟨o, hom, hm, e', hn⟩
    · exact absurd hmay (hn _ (mem_heard h1 h2))
    · obtain ⟨q, q1, q2, rfl⟩ := heard_mem hom
      obtain ⟨_, z2⟩ := Vc.not_ahead (hnot q q1 q2) (hn _ (mem_heard h1 h2) hmay)
      have : q = e := one i hi q e q1 h1 z2
      subst this
      rw [e', ho]
      have hv : (fin ids E K i).v = ⟨(fin ids E K q.other.toNat).v.root, (fin ids E K q.other.toNat).v.cost + q.cost, ids i, 0⟩ := Vc.V.eq h4 h5 hb.1 hb.2
      rw [hv, ← h3]
      simp only [offerOf, List.length_cons]
      congr 1
      omega
open Classical in
/-- From 32 ticks on all is said. -/
theorem settled (G : Pl.Good ids E K) (one : ∀ i, i < K → ∀ p q, p ∈ E i → q ∈ E i → p.port = q.port → p = q) (x : Nat → Md) : ∃ dep : Nat → Int, (∀ i, i < K → 0 ≤ dep i ∧ dep i ≤ 11) ∧ ∀ t, 32 ≤ t → ∀ i, i < K → ticks ids E x t i = ⟨(fin ids E K i).v, dep i, (fin ids E K i).rp⟩ := by
  refine ⟨fun i => if h : ∃ vs, Dep ids E K i vs then (h.choose.length : Int) - 1 else 0, fun i hi => ?_, fun t ht i hi => ?_⟩
  · have h := dep_there G _ i hi (Nat.le_refl _)
    simp only [dif_pos h]
    have h1 := h.choose_spec.len G
    have h2 := h.choose_spec.pos
    omega
  · have h := dep_there G _ i hi (Nat.le_refl _)
    simp only [dif_pos h]
    exact agree G one x h.choose_spec t (by have := h.choose_spec.len G; omega)
end
/-- Roles by what was heard. -/
def roleM (m : Md) (l : List Of) (e : En) : Int := if e.live = true then Vc.role m.v m.rp e.port (lf l) l.length else 0
section
variable {ids : Nat → Int} {E : Nat → List En} {K : Nat}
theorem someTo_congr {p q : Nat → Bool} : ∀ n, (∀ i, i < n → p i = q i) → Vc.someTo p n = Vc.someTo q n
  | 0, _ => rfl
  | n + 1, h => by simp only [Vc.someTo]; rw [someTo_congr n (fun i hi => h i (by omega)), h n (by omega)]
/-- Roles do not ask how old an offer is, if it is not too old. -/
theorem role_same (m : Md) (s : St) (hv : m.v = s.v) (hr : m.rp = s.rp) (l : List En) (x : Nat → Md) (y : Nat → St) (h : ∀ e, e ∈ l → e.live = true → (x e.other.toNat).v = (y e.other.toNat).v ∧ 0 ≤ (x e.other.toNat).age ∧ (x e.other.toNat).age ≤ 20) (e : En) : roleM m (heard l x) e = Pl.roleAt s (offs l y) e := by
  unfold roleM Pl.roleAt
  by_cases hl : e.live = true
  · rw [if_pos hl, if_pos hl, hv, hr]
    unfold Vc.role
    have hlen : (heard l x).length = (offs l y).length := by unfold heard offs; rw [List.length_map, List.length_map]
    rw [hlen]
    have key : Vc.someTo (fun i => decide (Vc.hears s.v e.port (lf (heard l x) i))) (offs l y).length = Vc.someTo (fun i => decide (Vc.hears s.v e.port (lf (offs l y) i))) (offs l y).length := by
      apply someTo_congr
      intro i hi
      have hi' : i < (l.filter (·.live)).length := by unfold offs at hi; rw [List.length_map] at hi; exact hi
      have hm := List.getElem_mem hi'
      obtain ⟨m1, m2⟩ := List.mem_filter.1 hm
      obtain ⟨k1, k2, k3⟩ := h _ m1 m2
      have a1 : lf (heard l x) i = heardOf x ((l.filter (·.live))[i]) := by
        unfold lf heard
        rw [List.getD_eq_getElem?_getD, List.getElem?_map, List.getElem?_eq_getElem hi']
        rfl
      have a2 : lf (offs l y) i = offerOf y ((l.filter (·.live))[i]) := by
        unfold lf offs
        rw [List.getD_eq_getElem?_getD, List.getElem?_map, List.getElem?_eq_getElem hi']
        rfl
      rw [a1, a2]
      apply decide_eq_decide.2
      unfold Vc.hears heardOf offerOf
      simp only
      rw [k1]
      constructor
      · rintro ⟨p1, p2, p3⟩; exact ⟨p1, ⟨by omega, by omega⟩, p3⟩
      · rintro ⟨p1, p2, p3⟩; exact ⟨p1, ⟨k2, k3⟩, p3⟩
    rw [key]
  · rw [if_neg hl, if_neg hl]
end
end Tk
end Go.Proofs.YtcbpafpaimpfnaaGreatDoor


