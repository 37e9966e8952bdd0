/- What package book's functions come to: plain functions on lists of entries. -/
import Derived.Test.YtgkmaihleilchaaRows
namespace Go.Proofs.Ytgkmaihleilchaa
namespace Bk
/-- An entry. -/
structure E where
  vid : Int
  addr : Int
  port : Int
  age : Int
theorem E.eq {a b : E} (h0 : a.vid = b.vid) (h1 : a.addr = b.addr) (h2 : a.port = b.port) (h3 : a.age = b.age) : a = b := by
  cases a; cases b; simp_all
theorem E.eq_iff {a b : E} : a = b ↔ a.vid = b.vid ∧ a.addr = b.addr ∧ a.port = b.port ∧ a.age = b.age :=
  ⟨fun h => by subst h; exact ⟨rfl, rfl, rfl, rfl⟩, fun ⟨h0, h1, h2, h3⟩ => E.eq h0 h1 h2 h3⟩
instance (a b : E) : Decidable (a = b) := decidable_of_iff _ E.eq_iff.symm
def e0 : E := ⟨0, 0, 0, 0⟩
/-- Entry i. -/
def at' (l : List E) (i : Nat) : E := l.getD i e0
theorem at_get (l : List E) (i : Nat) (h : i < l.length) : at' l i = l[i] := by simp [at', h]
theorem at_mem (l : List E) (i : Nat) (h : i < l.length) : at' l i ∈ l := by rw [at_get l i h]; exact List.getElem_mem h
theorem mem_at {l : List E} {e : E} (h : e ∈ l) : ∃ i, i < l.length ∧ at' l i = e := by
  obtain ⟨i, hi, rfl⟩ := List.getElem_of_mem h
  exact ⟨i, hi, at_get l i hi⟩
theorem at_append_left (l m : List E) (i : Nat) (h : i < l.length) : at' (l ++ m) i = at' l i := by
  simp [at', h, List.getElem?_append_left]
theorem at_append_right (l m : List E) (i : Nat) (h : l.length ≤ i) : at' (l ++ m) i = at' m (i - l.length) := by
  simp [at', h, List.getElem?_append_right]
theorem at_take (l : List E) (k i : Nat) (h : i < k) : at' (l.take k) i = at' l i := by
  simp [at', h]
theorem at_drop (l : List E) (k i : Nat) : at' (l.drop k) i = at' l (k + i) := by
  simp [at', List.getElem?_drop]
theorem list_ext {l m : List E} (hn : l.length = m.length) (h : ∀ i, i < l.length → at' l i = at' m i) : l = m := by
  apply List.ext_getElem hn
  intro i h1 h2
  have := h i h1
  rwa [at_get l i h1, at_get m i h2] at this
/-- The first k entries of a function. -/
def listOf (n : Nat) (f : Nat → E) : List E := (List.range n).map f
theorem listOf_length (n : Nat) (f : Nat → E) : (listOf n f).length = n := by simp [listOf]
theorem listOf_at (n : Nat) (f : Nat → E) (i : Nat) (h : i < n) : at' (listOf n f) i = f i := by simp [at', listOf, h]
theorem take_succ (l : List E) (k : Nat) (h : k < l.length) : l.take (k + 1) = l.take k ++ [at' l k] := by
  rw [at_get l k h, List.take_succ_eq_append_getElem h]
/-- Ahead: by the way, then by the address. -/
def lt (a b : E) : Prop := a.vid < b.vid ∨ (a.vid = b.vid ∧ a.addr < b.addr)
instance (a b : E) : Decidable (lt a b) := by unfold lt; infer_instance
def ltb (a b : E) : Bool := decide (lt a b)
theorem ltb_iff {a b : E} : ltb a b = true ↔ lt a b := decide_eq_true_iff
theorem lt_irrefl (a : E) : ¬ lt a a := by unfold lt; omega
theorem lt_trans {a b c : E} (h : lt a b) (k : lt b c) : lt a c := by unfold lt at *; omega
theorem lt_asymm {a b : E} (h : lt a b) : ¬ lt b a := fun k => lt_irrefl a (lt_trans h k)
/-- The same way and address. -/
def key (a b : E) : Prop := a.vid = b.vid ∧ a.addr = b.addr
instance (a b : E) : Decidable (key a b) := by unfold key; infer_instance
theorem key_iff {a b : E} : key a b ↔ ¬ lt a b ∧ ¬ lt b a := by unfold key lt; omega
theorem key.symm {a b : E} (h : key a b) : key b a := ⟨h.1.symm, h.2.symm⟩
theorem key.lt_left {a b c : E} (h : key a b) : lt a c ↔ lt b c := by unfold key at h; unfold lt; omega
theorem key.lt_right {a b c : E} (h : key a b) : lt c a ↔ lt c b := by unfold key at h; unfold lt; omega
def cmp (a b : E) : Int := if lt a b then -1 else if lt b a then 1 else 0
theorem cmp_lt {a b : E} : cmp a b < 0 ↔ lt a b := by
  unfold cmp
  by_cases h : lt a b
  · simp [h]
  · by_cases k : lt b a <;> simp [h, k]
theorem cmp_zero {a b : E} : cmp a b = 0 ↔ key a b := by
  unfold cmp
  rw [key_iff]
  by_cases h : lt a b
  · simp [h]
  · by_cases k : lt b a <;> simp [h, k]
/-- In range. -/
def rng (e : E) : Prop := (1 ≤ e.vid ∧ e.vid ≤ 4094) ∧ e.addr ≤ 281474976710655 ∧ (0 ≤ e.port ∧ e.port ≤ 30) ∧ (0 ≤ e.age ∧ e.age ≤ 300)
instance (e : E) : Decidable (rng e) := by unfold rng; infer_instance
/-- What is wrong at entry i. -/
def errAt (f : Nat → E) (i : Nat) : Int := if ¬ rng (f i) then 3 else if 0 < i ∧ ¬ lt (f (i - 1)) (f i) then 2 else 0
/-- The first that is wrong. -/
def firstTo (g : Nat → Int) : Nat → Int × Int
  | 0 => (0, 0)
  | k + 1 => if (firstTo g k).1 ≠ 0 then firstTo g k else if g k ≠ 0 then (g k, k) else (0, 0)
theorem firstTo_stay (g : Nat → Int) (k : Nat) (h0 : (firstTo g k).1 = 0) (h : g k ≠ 0) : ∀ n, k < n → firstTo g n = (g k, (k : Int))
  | 0, hn => by omega
  | n + 1, hn => by
    simp only [firstTo]
    by_cases e : k = n
    · subst e; rw [if_neg (by simp [h0]), if_pos h]
    · rw [firstTo_stay g k h0 h n (by omega), if_pos h]
theorem firstTo_zero (g : Nat → Int) : ∀ n, (firstTo g n).1 = 0 → firstTo g n = (0, 0) ∧ ∀ i, i < n → g i = 0
  | 0, _ => ⟨rfl, fun i hi => by omega⟩
  | n + 1, h => by
    simp only [firstTo] at h ⊢
    by_cases h1 : (firstTo g n).1 = 0
    · rw [if_neg (by simp [h1])] at h ⊢
      by_cases h2 : g n = 0
      · rw [if_neg (by simp [h2])]
        refine ⟨rfl, fun i hi => ?_⟩
        by_cases e : i = n
        · subst e; exact h2
        · exact (firstTo_zero g n h1).2 i (by omega)
      · rw [if_pos h2] at h; exact absurd h h2
    · rw [if_pos h1] at h; exact absurd h h1
theorem firstTo_none (g : Nat → Int) (n : Nat) (h : ∀ i, i < n → g i = 0) : firstTo g n = (0, 0) := by
  induction n with
  | zero => rfl
  | succ n ih =>
    simp only [firstTo]
    rw [ih (fun i hi => h i (by omega)), if_neg (by simp), if_neg (by simp [h n (by omega)])]
def wrong (f : Nat → E) (n : Nat) : Int × Int := if 30 < n then (5, 0) else firstTo (errAt f) n
/-- A book. -/
structure Book (l : List E) : Prop where
  many : l.length ≤ 30
  rng : ∀ e ∈ l, rng e
  asc : l.Pairwise lt
theorem errAt_zero {f : Nat → E} {i : Nat} : errAt f i = 0 ↔ rng (f i) ∧ (0 < i → lt (f (i - 1)) (f i)) := by
  unfold errAt
  by_cases h : rng (f i)
  · simp only [h, not_true_eq_false, if_false, true_and]
    by_cases k : 0 < i ∧ ¬ lt (f (i - 1)) (f i)
    · rw [if_pos k]
      constructor
      · intro e; omega
      · intro e; exact absurd (e k.1) k.2
    · rw [if_neg k]
      refine ⟨fun _ hi => ?_, fun _ => rfl⟩
      by_cases q : lt (f (i - 1)) (f i)
      · exact q
      · exact absurd ⟨hi, q⟩ k
  · simp [h]
theorem asc_of {l : List E} (h : ∀ i, 0 < i → i < l.length → lt (at' l (i - 1)) (at' l i)) : l.Pairwise lt := by
  have H : ∀ d i, i + (d + 1) < l.length → lt (at' l i) (at' l (i + (d + 1))) := by
    intro d
    induction d with
    | zero => intro i hi; have := h (i + 1) (by omega) hi; simpa using this
    | succ d ih =>
      intro i hi
      have h1 := ih i (by omega)
      have h2 := h (i + (d + 1 + 1)) (by omega) hi
      rw [show i + (d + 1 + 1) - 1 = i + (d + 1) by omega] at h2
      exact lt_trans h1 h2
  rw [List.pairwise_iff_getElem]
  intro i j hi hj hij
  have := H (j - i - 1) i (by omega)
  rw [show i + (j - i - 1 + 1) = j by omega, at_get l i hi, at_get l j hj] at this
  exact this
theorem Book.less {l : List E} (h : Book l) {i j : Nat} (hij : i < j) (hj : j < l.length) : lt (at' l i) (at' l j) := by
  have := List.pairwise_iff_getElem.1 h.asc i j (by omega) hj hij
  rwa [at_get l i (by omega), at_get l j hj]
theorem wrong_book {l : List E} : (wrong (at' l) l.length).1 = 0 ↔ Book l := by
  unfold wrong
  constructor
  · intro h
    by_cases k : 30 < l.length
    · rw [if_pos k] at h; simp at h
    · rw [if_neg k] at h
      have := (firstTo_zero _ _ h).2
      refine ⟨by omega, fun e he => ?_, asc_of (fun i h0 hi => (errAt_zero.1 (this i hi)).2 h0)⟩
      obtain ⟨i, hi, rfl⟩ := mem_at he
      exact (errAt_zero.1 (this i hi)).1
  · intro h
    rw [if_neg (by have := h.many; omega), firstTo_none]
    intro i hi
    exact errAt_zero.2 ⟨h.rng _ (at_mem l i hi), fun h0 => h.less (by omega) hi⟩
theorem wrong_zero {l : List E} (h : Book l) : wrong (at' l) l.length = (0, 0) := by
  unfold wrong
  rw [if_neg (by have := h.many; omega), firstTo_none]
  intro i hi
  exact errAt_zero.2 ⟨h.rng _ (at_mem l i hi), fun h0 => h.less (by omega) hi⟩
theorem wrong_congr {f g : Nat → E} {n : Nat} (h : ∀ i, i < n → f i = g i) : wrong f n = wrong g n := by
  unfold wrong
  by_cases k : 30 < n
  · rw [if_pos k, if_pos k]
  · rw [if_neg k, if_neg k]
    clear k
    induction n with
    | zero => rfl
    | succ n ih =>
      simp only [firstTo]
      rw [ih (fun i hi => h i (by omega))]
      have e : errAt f n = errAt g n := by
        unfold errAt
        rw [h n (by omega)]
        by_cases k : 0 < n
        · rw [h (n - 1) (by omega)]
        · simp [k]
      rw [e]
/-- Where s stands, or should. -/
def Spot (l : List E) (s : E) (k : Nat) : Prop := k ≤ l.length ∧ (∀ i, i < k → lt (at' l i) s) ∧ (∀ i, k ≤ i → i < l.length → ¬ lt (at' l i) s)
def lo (l : List E) (s : E) : List E := l.filter (fun e => ltb e s)
def hi (l : List E) (s : E) : List E := l.filter (fun e => ltb s e)
theorem filter_all {p : E → Bool} {l : List E} (h : ∀ e ∈ l, p e = true) : l.filter p = l := List.filter_eq_self.2 h
theorem filter_no {p : E → Bool} {l : List E} (h : ∀ e ∈ l, p e = false) : l.filter p = [] := List.filter_eq_nil_iff.2 (fun e he => by simp [h e he])
theorem mem_take {l : List E} {k : Nat} {e : E} (h : e ∈ l.take k) : ∃ i, i < k ∧ i < l.length ∧ at' l i = e := by
  obtain ⟨i, hi, rfl⟩ := mem_at h
  rw [List.length_take] at hi
  exact ⟨i, by omega, by omega, (at_take l k i (by omega)).symm⟩
theorem mem_drop {l : List E} {k : Nat} {e : E} (h : e ∈ l.drop k) : ∃ i, k ≤ i ∧ i < l.length ∧ at' l i = e := by
  obtain ⟨i, hi, rfl⟩ := mem_at h
  rw [List.length_drop] at hi
  exact ⟨k + i, by omega, by omega, (at_drop l k i).symm⟩
theorem Spot.lo {l : List E} {s : E} {k : Nat} (h : Spot l s k) : Bk.lo l s = l.take k := by
  unfold Bk.lo
  conv => lhs; rw [← List.take_append_drop k l]
  rw [List.filter_append, filter_all, filter_no, List.append_nil]
  · intro e he
    obtain ⟨i, h1, h2, rfl⟩ := mem_drop he
    exact decide_eq_false (h.2.2 i h1 h2)
  · intro e he
    obtain ⟨i, h1, h2, rfl⟩ := mem_take he
    exact decide_eq_true (h.2.1 i h1)
/-- Whether s is there. -/
def Known (l : List E) (s : E) : Prop := ∃ e ∈ l, key e s
theorem Spot.known {l : List E} {s : E} {k : Nat} (hb : Book l) (h : Spot l s k) : Known l s ↔ k < l.length ∧ key (at' l k) s := by
  constructor
  · rintro ⟨e, he, hk⟩
    obtain ⟨i, hi, rfl⟩ := mem_at he
    have h1 : k ≤ i := by
      rcases Nat.lt_or_ge i k with q | q
      · exact absurd (h.2.1 i q) (key_iff.1 hk).1
      · exact q
    rcases Nat.eq_or_lt_of_le h1 with q | q
    · subst q; exact ⟨hi, hk⟩
    · have := hb.less q hi
      exact absurd ((hk.lt_right).1 this) (h.2.2 k (Nat.le_refl _) (by omega))
  · rintro ⟨h1, h2⟩
    exact ⟨_, at_mem l k h1, h2⟩
theorem Spot.hi_new {l : List E} {s : E} {k : Nat} (h : Spot l s k) (hn : ¬ Known l s) : Bk.hi l s = l.drop k := by
  unfold Bk.hi
  conv => lhs; rw [← List.take_append_drop k l]
  rw [List.filter_append, filter_no, filter_all, List.nil_append]
  · intro e he
    obtain ⟨i, h1, h2, rfl⟩ := mem_drop he
    apply decide_eq_true
    have q1 := h.2.2 i h1 h2
    by_cases q : lt s (at' l i)
    · exact q
    · exact absurd ⟨_, at_mem l i h2, key_iff.2 ⟨q1, q⟩⟩ hn
  · intro e he
    obtain ⟨i, h1, h2, rfl⟩ := mem_take he
    exact decide_eq_false (lt_asymm (h.2.1 i h1))
theorem Spot.hi_old {l : List E} {s : E} {k : Nat} (hb : Book l) (h : Spot l s k) (hn : Known l s) : Bk.hi l s = l.drop (k + 1) := by
  obtain ⟨h1, h2⟩ := (h.known hb).1 hn
  unfold Bk.hi
  conv => lhs; rw [← List.take_append_drop (k + 1) l]
  rw [List.filter_append, filter_no, filter_all, List.nil_append]
  · intro e he
    obtain ⟨i, q1, q2, rfl⟩ := mem_drop he
    apply decide_eq_true
    exact (h2.lt_left).1 (hb.less (show k < i by omega) q2)
  · intro e he
    obtain ⟨i, q1, q2, rfl⟩ := mem_take he
    apply decide_eq_false
    by_cases q : i = k
    · subst q; exact (key_iff.1 h2).2
    · exact lt_asymm (h.2.1 i (by omega))
/-- May be learnt. -/
def may (s : E) : Prop := rng s ∧ s.addr / 1099511627776 % 2 = 0
instance (e : E) : Decidable (may e) := by unfold may; infer_instance
instance (l : List E) (s : E) : Decidable (Known l s) := by unfold Known; infer_instance
/-- What is learnt. -/
def learn (l : List E) (s : E) : List E := if ¬ may s ∨ (¬ Known l s ∧ 30 ≤ l.length) then l else lo l s ++ s :: hi l s
/-- Where it was seen. -/
def look (l : List E) (s : E) : Option E := l.find? (fun e => decide (key e s))
theorem look_some {l : List E} {s : E} (hb : Book l) {e : E} (he : e ∈ l) (hk : key e s) : look l s = some e := by
  unfold look
  cases q : l.find? (fun e => decide (key e s)) with
  | none => exact absurd hk (by simpa using List.find?_eq_none.1 q e he)
  | some e' =>
    have h1 := List.find?_some q
    have h2 := List.mem_of_find?_eq_some q
    simp at h1
    obtain ⟨i, hi, rfl⟩ := mem_at he
    obtain ⟨j, hj, rfl⟩ := mem_at h2
    have hk2 : key (at' l i) (at' l j) := ⟨hk.1.trans h1.1.symm, hk.2.trans h1.2.symm⟩
    rcases Nat.lt_trichotomy i j with r | r | r
    · exact absurd (hb.less r hj) (key_iff.1 hk2).1
    · subst r; rfl
    · exact absurd (hb.less r hi) (key_iff.1 hk2).2
theorem look_none {l : List E} {s : E} (h : ¬ Known l s) : look l s = none := by
  unfold look
  rw [List.find?_eq_none]
  intro e he
  simp
  exact fun k => h ⟨e, he, k⟩
theorem look_is {l : List E} {s : E} : (look l s).isSome = true ↔ Known l s := by
  unfold look Known
  rw [List.find?_isSome]
  simp
/-- So much later. -/
def stays (later : Int) (e : E) : Bool := decide (0 ≤ later ∧ later ≤ 300 - e.age)
def older (later : Int) (e : E) : E := ⟨e.vid, e.addr, e.port, e.age + later⟩
def old (l : List E) (later : Int) : List E := (l.filter (stays later)).map (older later)
/-- What is flushed stays not. -/
def left (port : Int) (ways : List Int) (e : E) : Bool := !(decide (e.port = port) && ways.contains e.vid)
def flush (l : List E) (port : Int) (ways : List Int) : List E := l.filter (left port ways)
end Bk
end Go.Proofs.Ytgkmaihleilchaa
