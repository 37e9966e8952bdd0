/- What package vec's functions come to: plain functions. -/
import Derived.Test.YtcbpafpaimpfnaaGreatDoorGG
namespace Go.Proofs.YtcbpafpaimpfnaaGreatDoor
namespace Vc
/-- A vector. -/
structure V where
  root : Int
  cost : Int
  bridge : Int
  port : Int
theorem V.eq {a b : V} (h0 : a.root = b.root) (h1 : a.cost = b.cost) (h2 : a.bridge = b.bridge) (h3 : a.port = b.port) : a = b := by
  cases a; cases b; simp_all
theorem V.eq_iff {a b : V} : a = b ↔ a.root = b.root ∧ a.cost = b.cost ∧ a.bridge = b.bridge ∧ a.port = b.port :=
  ⟨fun h => by subst h; exact ⟨rfl, rfl, rfl, rfl⟩, fun ⟨h0, h1, h2, h3⟩ => V.eq h0 h1 h2 h3⟩
instance (a b : V) : Decidable (a = b) := decidable_of_iff _ V.eq_iff.symm
/-- Better. -/
def lt (a b : V) : Prop := a.root < b.root ∨ (a.root = b.root ∧ (a.cost < b.cost ∨ (a.cost = b.cost ∧ (a.bridge < b.bridge ∨ (a.bridge = b.bridge ∧ a.port < b.port)))))
instance (a b : V) : Decidable (lt a b) := by unfold lt; infer_instance
theorem lt_irrefl (a : V) : ¬ lt a a := by unfold lt; omega
theorem lt_trans {a b c : V} (h : lt a b) (k : lt b c) : lt a c := by unfold lt at *; omega
theorem lt_asymm {a b : V} (h : lt a b) : ¬ lt b a := fun k => lt_irrefl a (lt_trans h k)
theorem lt_total (a b : V) : lt a b ∨ a = b ∨ lt b a := by
  rw [V.eq_iff]
  unfold lt
  omega
theorem eq_of {a b : V} (h : ¬ lt a b) (k : ¬ lt b a) : a = b := by
  rcases lt_total a b with e | e | e
  · exact absurd e h
  · exact e
  · exact absurd e k
def cmp (a b : V) : Int := if lt a b then -1 else if lt b a then 1 else 0
theorem cmp_lt {a b : V} : cmp a b < 0 ↔ lt a b := by
  unfold cmp
  by_cases h : lt a b
  · simp [h]
  · by_cases k : lt b a
    · simp [h, k]
    · simp [h, k]
theorem cmp_gt {a b : V} : cmp a b > 0 ↔ lt b a := by
  unfold cmp
  by_cases h : lt a b
  · simp [h, lt_asymm h]
  · by_cases k : lt b a
    · simp [h, k]
    · simp [h, k]
theorem cmp_zero {a b : V} : cmp a b = 0 ↔ a = b := by
  unfold cmp
  by_cases h : lt a b
  · simp only [h, if_true]
    constructor
    · intro e; omega
    · intro e; subst e; exact absurd h (lt_irrefl _)
  · by_cases k : lt b a
    · simp only [h, k, if_true, if_false]
      constructor
      · intro e; omega
      · intro e; subst e; exact absurd k (lt_irrefl _)
    · simp only [h, k, if_false, true_iff]
      exact eq_of h k
/-- A vector over a link. -/
def fitsOver (v : V) (c : Int) : Prop := (0 ≤ v.cost ∧ v.cost ≤ 1000000000) ∧ (0 ≤ c ∧ c ≤ 1000000000) ∧ v.cost + c ≤ 1000000000
instance (v : V) (c : Int) : Decidable (fitsOver v c) := by unfold fitsOver; infer_instance
def add (v : V) (c : Int) : V := ⟨v.root, v.cost + c, v.bridge, v.port⟩
def v0 : V := ⟨0, 0, 0, 0⟩
def overV (v : V) (c : Int) : V := if fitsOver v c then add v c else v0
theorem cmp_add (a b : V) (x : Int) : cmp (add a x) (add b x) = cmp a b := by
  have h1 : lt (add a x) (add b x) ↔ lt a b := by unfold lt add; simp only; omega
  have h2 : lt (add b x) (add a x) ↔ lt b a := by unfold lt add; simp only; omega
  unfold cmp
  simp only [h1, h2]
theorem cmp_farther (a : V) (x : Int) (h : 0 < x) : cmp (add a x) a = 1 := by
  unfold cmp
  have h2 : lt a (add a x) := by
    unfold lt add
    exact Or.inr ⟨rfl, Or.inl (by show a.cost < a.cost + x; omega)⟩
  rw [if_neg (lt_asymm h2), if_pos h2]
theorem add_add (a : V) (x y : Int) : add (add a x) y = add a (x + y) := by
  unfold add; simp only [Int.add_assoc]
/-- An offer. -/
structure Of where
  port : Int
  cost : Int
  age : Int
  vec : V
/-- A bridge may take it. -/
def may (id : Int) (o : Of) : Prop := fitsOver o.vec o.cost ∧ 0 ≤ o.port ∧ (0 ≤ o.age ∧ o.age < 20) ∧ o.vec.root < id
instance (id : Int) (o : Of) : Decidable (may id o) := by unfold may; infer_instance
def Of.v (o : Of) : V := add o.vec o.cost
/-- Offer o (vector v) goes ahead of offer p. -/
def ahead (o p : Of) : Prop := lt o.v p.v ∨ (o.v = p.v ∧ o.port < p.port)
instance (o p : Of) : Decidable (ahead o p) := by unfold ahead; infer_instance
/-- The best of the first n offers. -/
def chTo (id : Int) (os : Nat → Of) : Nat → Option Nat
  | 0 => none
  | k + 1 => if may id (os k) then (match chTo id os k with | none => some k | some i => if ahead (os k) (os i) then some k else some i) else chTo id os k
theorem chTo_none (id : Int) (os : Nat → Of) : ∀ n, chTo id os n = none → ∀ j, j < n → ¬ may id (os j)
  | 0, _, j, hj => by omega
  | k + 1, h, j, hj => by
    simp only [chTo] at h
    by_cases hm : may id (os k)
    · rw [if_pos hm] at h
      cases hc : chTo id os k with
      | none => rw [hc] at h; cases h
      | some i =>
        rw [hc] at h
        simp only at h
        by_cases ha : ahead (os k) (os i)
        · rw [if_pos ha] at h; cases h
        · rw [if_neg ha] at h; cases h
    · rw [if_neg hm] at h
      by_cases e : j = k
      · subst e; exact hm
      · exact chTo_none id os k h j (by omega)
theorem ahead_irrefl (a : Of) : ¬ ahead a a := by
  rintro (h | ⟨_, h⟩)
  · exact lt_irrefl _ h
  · omega
theorem ahead_trans {a b c : Of} (h : ahead a b) (k : ahead b c) : ahead a c := by
  rcases h with h | ⟨h, h2⟩ <;> rcases k with k | ⟨k, k2⟩
  · exact Or.inl (lt_trans h k)
  · exact Or.inl (by rw [← k]; exact h)
  · exact Or.inl (by rw [h]; exact k)
  · exact Or.inr ⟨h.trans k, by omega⟩
theorem chTo_some (id : Int) (os : Nat → Of) : ∀ n i, chTo id os n = some i → i < n ∧ may id (os i) ∧ ∀ j, j < n → may id (os j) → ¬ ahead (os j) (os i)
  | 0, i, h => by cases h
  | k + 1, i, h => by
    simp only [chTo] at h
    by_cases hm : may id (os k)
    · rw [if_pos hm] at h
      cases hc : chTo id os k with
      | none =>
        rw [hc] at h
        simp only [Option.some.injEq] at h
        subst h
        refine ⟨by omega, hm, fun j hj hmj => ?_⟩
        by_cases e : j = k
        · subst e; exact ahead_irrefl _
        · exact absurd hmj (chTo_none id os k hc j (by omega))
      | some i' =>
        rw [hc] at h
        simp only at h
        obtain ⟨h1, h2, h3⟩ := chTo_some id os k i' hc
        by_cases ha : ahead (os k) (os i')
        · rw [if_pos ha] at h
          simp only [Option.some.injEq] at h
          subst h
          refine ⟨by omega, hm, fun j hj hmj => ?_⟩
          by_cases e : j = k
          · subst e; exact ahead_irrefl _
          · exact fun q => h3 j (by omega) hmj (ahead_trans q ha)
        · rw [if_neg ha] at h
          simp only [Option.some.injEq] at h
          subst h
          refine ⟨by omega, h2, fun j hj hmj => ?_⟩
          by_cases e : j = k
          · subst e; exact ha
          · exact h3 j (by omega) hmj
    · rw [if_neg hm] at h
      obtain ⟨h1, h2, h3⟩ := chTo_some id os k i h
      refine ⟨by omega, h2, fun j hj hmj => ?_⟩
      by_cases e : j = k
      · subst e; exact absurd hmj hm
      · exact h3 j (by omega) hmj
/-- Two that none goes ahead of have the same vector and port. -/
theorem not_ahead {a b : Of} (h : ¬ ahead a b) (k : ¬ ahead b a) : a.v = b.v ∧ a.port = b.port := by
  have e : a.v = b.v := eq_of (fun q => h (Or.inl q)) (fun q => k (Or.inl q))
  have h1 : ¬ a.port < b.port := fun q => h (Or.inr ⟨e, q⟩)
  have h2 : ¬ b.port < a.port := fun q => k (Or.inr ⟨e.symm, q⟩)
  exact ⟨e, by omega⟩
/-- What a bridge says, how old it is, and its root port. -/
def chV (id : Int) (os : Nat → Of) (n : Nat) : V := match chTo id os n with | none => ⟨id, 0, id, 0⟩ | some i => ⟨(os i).v.root, (os i).v.cost, id, 0⟩
def chA (id : Int) (os : Nat → Of) (n : Nat) : Int := match chTo id os n with | none => 0 | some i => (os i).age + 1
def chP (id : Int) (os : Nat → Of) (n : Nat) : Int := match chTo id os n with | none => -1 | some i => (os i).port
/-- NO MATTER IN WHICH ORDER. -/
theorem ch_back (id : Int) (os ps : Nat → Of) (n : Nat) (h : ∀ j, j < n → ∃ i, i < n ∧ ps j = os i) (k : ∀ i, i < n → ∃ j, j < n ∧ os i = ps j) : chV id ps n = chV id os n ∧ chP id ps n = chP id os n := by
  cases h1 : chTo id os n with
  | none =>
    have e : chTo id ps n = none := by
      cases h2 : chTo id ps n with
      | none => rfl
      | some j =>
        obtain ⟨q1, q2, _⟩ := chTo_some id ps n j h2
        obtain ⟨i, hi, e⟩ := h j q1
        rw [e] at q2
        exact absurd q2 (chTo_none id os n h1 i hi)
    unfold chV chP
    rw [h1, e]
    exact ⟨rfl, rfl⟩
  | some i =>
    obtain ⟨p1, p2, p3⟩ := chTo_some id os n i h1
    cases h2 : chTo id ps n with
    | none =>
      obtain ⟨j, hj, e⟩ := k i p1
      rw [e] at p2
      exact absurd p2 (chTo_none id ps n h2 j hj)
    | some j =>
      obtain ⟨q1, q2, q3⟩ := chTo_some id ps n j h2
      obtain ⟨j', hj', e⟩ := h j q1
      obtain ⟨i', hi', e'⟩ := k i p1
      have r1 : ¬ ahead (ps j) (os i) := by rw [e]; exact p3 j' hj' (by rw [← e]; exact q2)
      have r2 : ¬ ahead (os i) (ps j) := by rw [e']; exact q3 i' hi' (by rw [← e']; exact p2)
      obtain ⟨z1, z2⟩ := not_ahead r1 r2
      unfold chV chP
      rw [h1, h2]
      simp only
      rw [z1, z2]
      exact ⟨rfl, rfl⟩
/-- What a port is. -/
def hears (says : V) (port : Int) (o : Of) : Prop := o.port = port ∧ (0 ≤ o.age ∧ o.age ≤ 20) ∧ lt o.vec ⟨says.root, says.cost, says.bridge, port⟩
instance (says : V) (port : Int) (o : Of) : Decidable (hears says port o) := by unfold hears; infer_instance
def someTo (p : Nat → Bool) : Nat → Bool
  | 0 => false
  | k + 1 => someTo p k || p k
def role (says : V) (root port : Int) (os : Nat → Of) (n : Nat) : Int := if port = root then 1 else if someTo (fun i => decide (hears says port (os i))) n = true then 3 else 2
/-- The best of n vectors. -/
def bestTo (vs : Nat → V) : Nat → Int
  | 0 => -1
  | k + 1 => if bestTo vs k < 0 ∨ lt (vs k) (vs (bestTo vs k).toNat) then (k : Int) else bestTo vs k
theorem bestTo_range (vs : Nat → V) : ∀ n, -1 ≤ bestTo vs n ∧ bestTo vs n < n ∧ (0 < n → 0 ≤ bestTo vs n)
  | 0 => ⟨by simp [bestTo], by simp [bestTo], fun h => by omega⟩
  | k + 1 => by
    have h := bestTo_range vs k
    simp only [bestTo]
    by_cases c : bestTo vs k < 0 ∨ lt (vs k) (vs (bestTo vs k).toNat)
    · rw [if_pos c]; exact ⟨by omega, by omega, fun _ => by omega⟩
    · rw [if_neg c]
      have : ¬ bestTo vs k < 0 := fun q => c (Or.inl q)
      exact ⟨by omega, by omega, fun _ => by omega⟩
theorem bestTo_least (vs : Nat → V) : ∀ n i, i < n → ¬ lt (vs i) (vs (bestTo vs n).toNat)
  | 0, i, h => by omega
  | k + 1, i, h => by
    have hr := bestTo_range vs k
    simp only [bestTo]
    by_cases c : bestTo vs k < 0 ∨ lt (vs k) (vs (bestTo vs k).toNat)
    · rw [if_pos c, Int.toNat_natCast]
      by_cases e : i = k
      · subst e; exact lt_irrefl _
      · rcases c with c | c
        · have := hr.2.2 (by omega); omega
        · exact fun q => bestTo_least vs k i (by omega) (lt_trans q c)
    · rw [if_neg c]
      by_cases e : i = k
      · subst e; exact fun q => c (Or.inr q)
      · exact bestTo_least vs k i (by omega)
/-- The better ones first. -/
def Sorted : List V → Prop
  | [] => True
  | a :: l => (∀ b ∈ l, ¬ lt b a) ∧ Sorted l
theorem sorted_unique : ∀ {l m : List V}, Sorted l → Sorted m → l.Perm m → l = m
  | [], m, _, _, h => by simpa using h.symm.eq_nil.symm
  | a :: l, [], _, _, h => by simpa using h.eq_nil
  | a :: l, b :: m, hl, hm, h => by
    have e : a = b := by
      have h1 : a ∈ b :: m := h.subset (List.mem_cons_self ..)
      have h2 : b ∈ a :: l := h.symm.subset (List.mem_cons_self ..)
      rcases List.mem_cons.1 h1 with h1 | h1
      · exact h1
      · rcases List.mem_cons.1 h2 with h2 | h2
        · exact h2.symm
        · exact eq_of (hm.1 a h1) (hl.1 b h2)
    subst e
    rw [sorted_unique hl.2 hm.2 (List.Perm.cons_inv h)]
/-- What k comes to, from the right, for v to go in. -/
def spot (v : V) (vs : Nat → V) : Nat → Nat
  | 0 => 0
  | k + 1 => if lt v (vs k) then spot v vs k else k + 1
theorem spot_le (v : V) (vs : Nat → V) : ∀ k, spot v vs k ≤ k
  | 0 => Nat.le_refl _
  | k + 1 => by
    simp only [spot]
    by_cases c : lt v (vs k)
    · rw [if_pos c]; have := spot_le v vs k; omega
    · rw [if_neg c]; omega
end Vc
end Go.Proofs.YtcbpafpaimpfnaaGreatDoor
