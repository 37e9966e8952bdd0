/- What Go's stable sort does: plain functions. -/
import Derived.Test.YthnklbcaodhbfaaVMs
namespace Go.Proofs.Ythnklbcaodhbfaa
namespace Vc
/-- Two places, changed for each other. -/
def swp (f : Nat → V) (i j : Nat) (x : Nat) : V := if x = i then f j else if x = j then f i else f x
theorem swp_perm (f : Nat → V) (i j n : Nat) (hi : i < n) (hj : j < n) : (listOf n (swp f i j)).Perm (listOf n f) := by
  have hs : (listOf n f).toArray.size = n := by simp [listOf]
  have h := Array.swap_perm (xs := (listOf n f).toArray) (i := i) (j := j) (by rw [hs]; exact hi) (by rw [hs]; exact hj)
  have h2 := Array.perm_iff_toList_perm.1 h
  refine List.Perm.trans (List.Perm.of_eq ?_) h2
  apply List.ext_getElem
  · simp [listOf]
  · intro x h3 h4
    conv => rhs; rw [Array.getElem_toList, Array.getElem_swap]
    simp only [listOf, List.getElem_toArray, List.getElem_map, List.getElem_range, swp]
/-- What is changed within a and b alone. -/
inductive Pm (a b : Nat) (f : Nat → V) : (Nat → V) → Prop
  | refl : Pm a b f f
  | swap {g : Nat → V} (i j : Nat) (hi : a ≤ i ∧ i < b) (hj : a ≤ j ∧ j < b) (h : Pm a b f g) : Pm a b f (swp g i j)
theorem Pm.trans {a b : Nat} {f g h : Nat → V} (p : Pm a b f g) (q : Pm a b g h) : Pm a b f h := by
  induction q with
  | refl => exact p
  | swap i j hi hj _ ih => exact Pm.swap i j hi hj ih
theorem Pm.mono {a b c d : Nat} {f g : Nat → V} (p : Pm a b f g) (h1 : c ≤ a) (h2 : b ≤ d) : Pm c d f g := by
  induction p with
  | refl => exact Pm.refl
  | swap i j hi hj _ ih => exact Pm.swap i j ⟨by omega, by omega⟩ ⟨by omega, by omega⟩ ih
theorem Pm.out {a b : Nat} {f g : Nat → V} (p : Pm a b f g) : ∀ x, x < a ∨ b ≤ x → g x = f x := by
  induction p with
  | refl => intro x _; rfl
  | swap i j hi hj _ ih =>
    intro x hx
    unfold swp
    rw [if_neg (by omega), if_neg (by omega)]
    exact ih x hx
theorem Pm.comes {a b : Nat} {f g : Nat → V} (p : Pm a b f g) : ∀ x, a ≤ x → x < b → ∃ y, a ≤ y ∧ y < b ∧ g x = f y := by
  induction p with
  | refl => intro x h1 h2; exact ⟨x, h1, h2, rfl⟩
  | swap i j hi hj _ ih =>
    intro x h1 h2
    unfold swp
    by_cases e : x = i
    · rw [if_pos e]; exact ih j hj.1 hj.2
    · rw [if_neg e]
      by_cases e2 : x = j
      · rw [if_pos e2]; exact ih i hi.1 hi.2
      · rw [if_neg e2]; exact ih x h1 h2
theorem Pm.perm {a b : Nat} {f g : Nat → V} (p : Pm a b f g) (n : Nat) (h : b ≤ n) : (listOf n g).Perm (listOf n f) := by
  induction p with
  | refl => exact List.Perm.refl _
  | swap i j hi hj _ ih => exact (swp_perm _ i j n (by omega) (by omega)).trans ih
/-- The better ones first, from a to b. -/
def SIn (a b : Nat) (f : Nat → V) : Prop := ∀ i j, a ≤ i → i < j → j < b → ¬ lt (f j) (f i)
theorem SIn.sub {a b c d : Nat} {f : Nat → V} (h : SIn a b f) (h1 : a ≤ c) (h2 : d ≤ b) : SIn c d f := fun i j hi hij hj => h i j (by omega) hij (by omega)
theorem SIn.congr {a b : Nat} {f g : Nat → V} (h : SIn a b f) (e : ∀ x, a ≤ x → x < b → g x = f x) : SIn a b g := fun i j hi hij hj => by
  rw [e i (by omega) (by omega), e j (by omega) (by omega)]
  exact h i j hi hij hj
theorem SIn.short {a b : Nat} (f : Nat → V) (h : b ≤ a + 1) : SIn a b f := fun i j hi hij hj => by omega
/-- Insertion: what stands at j goes down. -/
def Ins (a i j : Nat) (g : Nat → V) : Prop := (∀ p q, a ≤ p → p < q → q ≤ i → p ≠ j → q ≠ j → ¬ lt (g q) (g p)) ∧ ∀ q, j < q → q ≤ i → ¬ lt (g q) (g j)
theorem Ins.start {a i : Nat} {g : Nat → V} (h : SIn a i g) : Ins a i i g := ⟨fun p q hp hpq hq _ hqi => h p q hp hpq (by omega), fun q h1 h2 => by omega⟩
theorem Ins.step {a i j : Nat} {g : Nat → V} (h : Ins a i j g) (hj : a < j) (hi : j ≤ i) (hl : lt (g j) (g (j - 1))) : Ins a i (j - 1) (swp g j (j - 1)) := by
  obtain ⟨h1, h2⟩ := h
  have e1 : swp g j (j - 1) j = g (j - 1) := if_pos rfl
  have e2 : swp g j (j - 1) (j - 1) = g j := by unfold swp; rw [if_neg (by omega), if_pos rfl]
  have e3 : ∀ x, x ≠ j → x ≠ j - 1 → swp g j (j - 1) x = g x := fun x q1 q2 => by unfold swp; rw [if_neg q1, if_neg q2]
  refine ⟨fun p q hp hpq hq np nq => ?_, fun q q1 q2 => ?_⟩
  · by_cases c : q = j
    · subst c
      rw [e1, e3 p (by omega) np]
      exact h1 p (q - 1) hp (by omega) (by omega) (by omega) (by omega)
    · rw [e3 q c nq]
      by_cases c2 : p = j
      · subst c2
        rw [e1]
        exact h1 (p - 1) q (by omega) (by omega) hq (by omega) c
      · rw [e3 p c2 np]
        exact h1 p q hp hpq hq c2 c
  · rw [e2]
    by_cases c : q = j
    · subst c; rw [e1]; exact lt_asymm hl
    · rw [e3 q c (by omega)]; exact h2 q (by omega) q2
theorem Ins.done {a i j : Nat} {g : Nat → V} (h : Ins a i j g) (hj : a ≤ j) (hi : j ≤ i) (hl : a < j → ¬ lt (g j) (g (j - 1))) : SIn a (i + 1) g := by
  obtain ⟨h1, h2⟩ := h
  intro p q hp hpq hq
  by_cases c : q = j
  · subst c
    have hq1 := hl (by omega)
    by_cases c2 : p = q - 1
    · subst c2; exact hq1
    · exact not_lt_trans (h1 p (q - 1) hp (by omega) (by omega) (by omega) (by omega)) hq1
  · by_cases c2 : p = j
    · subst c2; exact h2 q hpq (by omega)
    · exact h1 p q hp hpq (by omega) c2 c
/-- What stands at a goes up to k. -/
def shL (a k : Nat) (f : Nat → V) (x : Nat) : V := if a ≤ x ∧ x < k then f (x + 1) else if x = k then f a else f x
theorem shL_start (a : Nat) (f : Nat → V) : shL a a f = f := by
  funext x
  unfold shL
  rw [if_neg (by omega)]
  by_cases e : x = a
  · rw [if_pos e, e]
  · rw [if_neg e]
theorem shL_step (a k : Nat) (f : Nat → V) (h : a ≤ k) : swp (shL a k f) k (k + 1) = shL a (k + 1) f := by
  funext x
  unfold swp shL
  by_cases e : x = k
  · subst e
    rw [if_pos rfl, if_neg (by omega), if_neg (by omega), if_pos (by omega)]
  · rw [if_neg e]
    by_cases e2 : x = k + 1
    · rw [if_pos e2, if_neg (by omega), if_pos rfl, if_neg (by omega), if_pos e2]
    · rw [if_neg e2]
      by_cases e3 : a ≤ x ∧ x < k
      · rw [if_pos e3, if_pos (by omega)]
      · rw [if_neg e3, if_neg e, if_neg (by omega), if_neg e2]
theorem shL_sorted (a i b : Nat) (f : Nat → V) (h : SIn (a + 1) b f) (hi : a + 1 ≤ i) (hib : i ≤ b) (h1 : ∀ x, a + 1 ≤ x → x < i → lt (f x) (f a)) (h2 : ∀ x, i ≤ x → x < b → ¬ lt (f x) (f a)) : SIn a b (shL a (i - 1) f) := by
  intro p q hp hpq hq
  unfold shL
  by_cases c1 : q < i - 1
  · rw [if_pos (by omega), if_pos (by omega)]; exact h _ _ (by omega) (by omega) (by omega)
  · rw [if_neg (by omega)]
    by_cases c2 : q = i - 1
    · rw [if_pos c2, if_pos (by omega)]; exact lt_asymm (h1 _ (by omega) (by omega))
    · rw [if_neg c2]
      by_cases c3 : p < i - 1
      · rw [if_pos (by omega)]; exact h _ _ (by omega) (by omega) (by omega)
      · rw [if_neg (by omega)]
        by_cases c4 : p = i - 1
        · rw [if_pos c4]; exact h2 q (by omega) hq
        · rw [if_neg c4]; exact h _ _ (by omega) (by omega) (by omega)
/-- What stands at m goes down to k. -/
def shR (m k : Nat) (f : Nat → V) (x : Nat) : V := if k < x ∧ x ≤ m then f (x - 1) else if x = k then f m else f x
theorem shR_start (m : Nat) (f : Nat → V) : shR m m f = f := by
  funext x
  unfold shR
  rw [if_neg (by omega)]
  by_cases e : x = m
  · rw [if_pos e, e]
  · rw [if_neg e]
theorem shR_step (m k : Nat) (f : Nat → V) (h : k ≤ m) (h0 : 0 < k) : swp (shR m k f) k (k - 1) = shR m (k - 1) f := by
  funext x
  unfold swp shR
  by_cases e : x = k
  · subst e
    rw [if_pos rfl, if_neg (by omega), if_neg (by omega), if_pos (by omega)]
  · rw [if_neg e]
    by_cases e2 : x = k - 1
    · rw [if_pos e2, if_neg (by omega), if_pos rfl, if_neg (by omega), if_pos e2]
    · rw [if_neg e2]
      by_cases e3 : k < x ∧ x ≤ m
      · rw [if_pos e3, if_pos (by omega)]
      · rw [if_neg e3, if_neg e, if_neg (by omega), if_neg e2]
theorem shR_sorted (a i m : Nat) (f : Nat → V) (h : SIn a m f) (hi : a ≤ i) (him : i ≤ m) (h1 : ∀ x, a ≤ x → x < i → ¬ lt (f m) (f x)) (h2 : ∀ x, i ≤ x → x < m → lt (f m) (f x)) : SIn a (m + 1) (shR m i f) := by
  intro p q hp hpq hq
  unfold shR
  by_cases c1 : p < i
  · rw [if_neg (c := i < p ∧ p ≤ m) (by omega), if_neg (c := p = i) (by omega)]
    by_cases c2 : q < i
    · rw [if_neg (by omega), if_neg (by omega)]; exact h _ _ hp hpq (by omega)
    · by_cases c3 : q = i
      · rw [if_neg (by omega), if_pos c3]; exact h1 p hp c1
      · rw [if_pos (by omega)]; exact h _ _ hp (by omega) (by omega)
  · rw [if_pos (c := i < q ∧ q ≤ m) (by omega)]
    by_cases c2 : p = i
    · rw [if_neg (by omega), if_pos c2]; exact lt_asymm (h2 _ (by omega) (by omega))
    · rw [if_pos (by omega)]; exact h _ _ (by omega) (by omega) (by omega)
/-- c places from a on, changed for those from b on. -/
def swr (a b c : Nat) (f : Nat → V) (x : Nat) : V := if a ≤ x ∧ x < a + c then f (x - a + b) else if b ≤ x ∧ x < b + c then f (x - b + a) else f x
theorem swr_zero (a b : Nat) (f : Nat → V) : swr a b 0 f = f := by
  funext x; unfold swr; rw [if_neg (by omega), if_neg (by omega)]
theorem swr_step (a b c : Nat) (f : Nat → V) (h : a + (c + 1) ≤ b) : swp (swr a b c f) (a + c) (b + c) = swr a b (c + 1) f := by
  funext x
  unfold swp swr
  by_cases e : x = a + c
  · rw [if_pos e, if_neg (by omega), if_neg (by omega), if_pos (by omega)]; congr 1; omega
  · rw [if_neg e]
    by_cases e2 : x = b + c
    · rw [if_pos e2, if_neg (by omega), if_neg (by omega), if_neg (by omega), if_pos (by omega)]; congr 1; omega
    · rw [if_neg e2]
      by_cases e3 : a ≤ x ∧ x < a + c
      · rw [if_pos e3, if_pos (by omega)]
      · rw [if_neg e3]
        by_cases e4 : b ≤ x ∧ x < b + c
        · rw [if_pos e4, if_neg (by omega), if_pos (by omega)]
        · rw [if_neg e4, if_neg (by omega), if_neg (by omega)]
theorem swr_pm (a b : Nat) (f : Nat → V) : ∀ c, a + c ≤ b → Pm a (b + c) f (swr a b c f)
  | 0, _ => by rw [swr_zero]; exact Pm.refl
  | c + 1, h => by
    rw [← swr_step a b c f h]
    exact Pm.swap _ _ ⟨by omega, by omega⟩ ⟨by omega, by omega⟩ ((swr_pm a b f c (by omega)).mono (Nat.le_refl _) (by omega))
/-- The places from s to m, changed for those from m to e. -/
def rot (s m e : Nat) (f : Nat → V) (x : Nat) : V := if s ≤ x ∧ x < s + (e - m) then f (x - s + m) else if s + (e - m) ≤ x ∧ x < e then f (x - (e - m)) else f x
theorem rot_more (m i j : Nat) (g : Nat → V) (hi : i ≤ m) (hj : 0 < j) (h : j < i) : rot (m - (i - j)) m (m + j) (swr (m - i) m j g) = rot (m - i) m (m + j) g := by
  funext x
  unfold rot swr
  repeat' split
  all_goals first | rfl | omega | (congr 1; omega)
theorem rot_less (m i j : Nat) (g : Nat → V) (hi : i ≤ m) (h0 : 0 < i) (h : i < j) : rot (m - i) m (m + (j - i)) (swr (m - i) (m + j - i) i g) = rot (m - i) m (m + j) g := by
  funext x
  unfold rot swr
  repeat' split
  all_goals first | rfl | omega | (congr 1; omega)
theorem rot_same (m i : Nat) (g : Nat → V) (hi : i ≤ m) : swr (m - i) m i g = rot (m - i) m (m + i) g := by
  funext x
  unfold rot swr
  repeat' split
  all_goals first | rfl | omega | (congr 1; omega)
theorem rot_none1 (m e : Nat) (f : Nat → V) (h : m ≤ e) : rot m m e f = f := by
  funext x
  unfold rot
  repeat' split
  all_goals first | rfl | omega | (congr 1; omega)
theorem rot_none2 (s m : Nat) (f : Nat → V) : rot s m m f = f := by
  funext x
  unfold rot
  repeat' split
  all_goals first | rfl | omega | (congr 1; omega)
/-- What is merged, cut in two: each half of two sorted parts, and none of the left worse than one of the right. -/
theorem rot_parts (a s m e b : Nat) (f : Nat → V) (h0 : a ≤ s) (h1 : s ≤ m) (h2 : m ≤ e) (h3 : e ≤ b) (ha : SIn a m f) (hb : SIn m b f) (hx : a < s → e < b → ¬ lt (f e) (f (s - 1))) (hy : s < m → m < e → lt (f (e - 1)) (f s)) :
    SIn a s (rot s m e f) ∧ SIn s (s + (e - m)) (rot s m e f) ∧ SIn (s + (e - m)) e (rot s m e f) ∧ SIn e b (rot s m e f) ∧ ∀ x y, a ≤ x → x < s + (e - m) → s + (e - m) ≤ y → y < b → ¬ lt (rot s m e f y) (rot s m e f x) := by
  have e1 : ∀ x, x < s → rot s m e f x = f x := fun x h => by unfold rot; rw [if_neg (by omega), if_neg (by omega)]
  have e2 : ∀ x, s ≤ x → x < s + (e - m) → rot s m e f x = f (x - s + m) := fun x h k => by unfold rot; rw [if_pos ⟨h, k⟩]
  have e3 : ∀ x, s + (e - m) ≤ x → x < e → rot s m e f x = f (x - (e - m)) := fun x h k => by unfold rot; rw [if_neg (by omega), if_pos ⟨h, k⟩]
  have e4 : ∀ x, e ≤ x → rot s m e f x = f x := fun x h => by unfold rot; rw [if_neg (by omega), if_neg (by omega)]
  refine ⟨fun i j hi hij hj => ?_, fun i j hi hij hj => ?_, fun i j hi hij hj => ?_, fun i j hi hij hj => ?_, fun x y q1 q2 q3 q4 => ?_⟩
  · rw [e1 i (by omega), e1 j hj]; exact ha i j hi hij (by omega)
  · rw [e2 i hi (by omega), e2 j (by omega) hj]; exact hb _ _ (by omega) (by omega) (by omega)
  · rw [e3 i hi (by omega), e3 j (by omega) hj]; exact ha _ _ (by omega) (by omega) (by omega)
  · rw [e4 i hi, e4 j (by omega)]; exact hb i j (by omega) hij hj
  · by_cases c1 : x < s
    · rw [e1 x c1]
      by_cases c2 : y < e
      · rw [e3 y q3 c2]; exact ha _ _ q1 (by omega) (by omega)
      · rw [e4 y (by omega)]
        have hz := hx (by omega) (by omega)
        have u1 : ¬ lt (f (s - 1)) (f x) := by
          by_cases c : x = s - 1
          · subst c; exact lt_irrefl _
          · exact ha _ _ q1 (by omega) (by omega)
        have u2 : ¬ lt (f y) (f e) := by
          by_cases c : y = e
          · subst c; exact lt_irrefl _
          · exact hb _ _ (by omega) (by omega) q4
        exact not_lt_trans u1 (not_lt_trans hz u2)
    · rw [e2 x (by omega) q2]
      by_cases c2 : y < e
      · rw [e3 y q3 c2]
        have hz := hy (by omega) (by omega)
        have u1 : ¬ lt (f (e - 1)) (f (x - s + m)) := by
          by_cases c : x - s + m = e - 1
          · rw [c]; exact lt_irrefl _
          · exact hb _ _ (by omega) (by omega) (by omega)
        have u2 : ¬ lt (f (y - (e - m))) (f s) := by
          by_cases c : y - (e - m) = s
          · rw [c]; exact lt_irrefl _
          · exact ha _ _ (by omega) (by omega) (by omega)
        exact not_lt_trans u1 (not_lt_trans (lt_asymm hz) u2)
      · rw [e4 y (by omega)]; exact hb _ _ (by omega) (by omega) q4
/-- Both halves sorted: all is. -/
theorem halves (a d b : Nat) (f g h : Nat → V) (p1 : Pm a d f g) (p2 : Pm d b g h) (s1 : SIn a d g) (s2 : SIn d b h) (hc : ∀ x y, a ≤ x → x < d → d ≤ y → y < b → ¬ lt (f y) (f x)) : SIn a b h := by
  intro i j hi hij hj
  by_cases c1 : j < d
  · rw [p2.out i (by omega), p2.out j (by omega)]; exact s1 i j hi hij c1
  · by_cases c2 : d ≤ i
    · exact s2 i j c2 hij hj
    · obtain ⟨y, y1, y2, ey⟩ := p2.comes j (by omega) hj
      obtain ⟨x, x1, x2, ex⟩ := p1.comes i hi (by omega)
      rw [ey, p1.out y (by omega), p2.out i (by omega), ex]
      exact hc x y x1 x2 y1 y2
end Vc
end Go.Proofs.Ythnklbcaodhbfaa
