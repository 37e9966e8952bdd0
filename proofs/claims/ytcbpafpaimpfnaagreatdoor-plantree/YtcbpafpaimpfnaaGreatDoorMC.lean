/- The ends of links by bridges, as they lie: rows of a row; one is appended; one is sorted -/
import Derived.Test.YtcbpafpaimpfnaaGreatDoorMA
import Derived.Test.YtcbpafpaimpfnaaGreatDoorVK
import Derived.Maps.AppendAt
namespace Go.Proofs.YtcbpafpaimpfnaaGreatDoor
namespace Ec
open Pl (En)
def lt (a b : En) : Prop := a.port < b.port
instance (a b : En) : Decidable (lt a b) := by unfold lt; infer_instance
theorem lt_irrefl (a : En) : ¬ lt a a := by unfold lt; omega
theorem lt_asymm {a b : En} (h : lt a b) : ¬ lt b a := by unfold lt at *; omega
theorem not_lt_trans {a b c : En} (h : ¬ lt b a) (k : ¬ lt c b) : ¬ lt c a := by unfold lt at *; omega
def listOf (n : Nat) (f : Nat → En) : List En := (List.range n).map f
/-- Two places, changed for each other. -/
def swp (f : Nat → En) (i j : Nat) (x : Nat) : En := if x = i then f j else if x = j then f i else f x
theorem swp_perm (f : Nat → En) (i j n : Nat) (hi : i < n) (hj : j < n) : (listOf n (swp f i j)).Perm (listOf n f) := by
  have hs : (listOf n f).toArray.size = n := by simp [listOf]
  have h := Array.swap_perm (xs := (listOf n f).toArray) (i := i) (j := j) (by rw [hs]; exact hi) (by rw [hs]; exact hj)
  have h2 := Array.perm_iff_toList_perm.1 h
  refine List.Perm.trans (List.Perm.of_eq ?_) h2
  apply List.ext_getElem
  · simp [listOf]
  · intro x h3 h4
    conv => rhs; rw [Array.getElem_toList, Array.getElem_swap]
    simp only [listOf, List.getElem_toArray, List.getElem_map, List.getElem_range, swp]
/-- What is changed within a and b alone. -/
inductive Pm (a b : Nat) (f : Nat → En) : (Nat → En) → Prop
  | refl : Pm a b f f
  | swap {g : Nat → En} (i j : Nat) (hi : a ≤ i ∧ i < b) (hj : a ≤ j ∧ j < b) (h : Pm a b f g) : Pm a b f (swp g i j)
theorem Pm.trans {a b : Nat} {f g h : Nat → En} (p : Pm a b f g) (q : Pm a b g h) : Pm a b f h := by
  induction q with
  | refl => exact p
  | swap i j hi hj _ ih => exact Pm.swap i j hi hj ih
theorem Pm.mono {a b c d : Nat} {f g : Nat → En} (p : Pm a b f g) (h1 : c ≤ a) (h2 : b ≤ d) : Pm c d f g := by
  induction p with
  | refl => exact Pm.refl
  | swap i j hi hj _ ih => exact Pm.swap i j ⟨by omega, by omega⟩ ⟨by omega, by omega⟩ ih
theorem Pm.out {a b : Nat} {f g : Nat → En} (p : Pm a b f g) : ∀ x, x < a ∨ b ≤ x → g x = f x := by
  induction p with
  | refl => intro x _; rfl
  | swap i j hi hj _ ih =>
    intro x hx
    unfold swp
    rw [if_neg (by omega), if_neg (by omega)]
    exact ih x hx
theorem Pm.comes {a b : Nat} {f g : Nat → En} (p : Pm a b f g) : ∀ x, a ≤ x → x < b → ∃ y, a ≤ y ∧ y < b ∧ g x = f y := by
  induction p with
  | refl => intro x h1 h2; exact ⟨x, h1, h2, rfl⟩
  | swap i j hi hj _ ih =>
    intro x h1 h2
    unfold swp
    by_cases e : x = i
    · rw [if_pos e]; exact ih j hj.1 hj.2
    · rw [if_neg e]
      by_cases e2 : x = j
      · rw [if_pos e2]; exact ih i hi.1 hi.2
      · rw [if_neg e2]; exact ih x h1 h2
theorem Pm.perm {a b : Nat} {f g : Nat → En} (p : Pm a b f g) (n : Nat) (h : b ≤ n) : (listOf n g).Perm (listOf n f) := by
  induction p with
  | refl => exact List.Perm.refl _
  | swap i j hi hj _ ih => exact (swp_perm _ i j n (by omega) (by omega)).trans ih
/-- The better ones first, from a to b. -/
def SIn (a b : Nat) (f : Nat → En) : Prop := ∀ i j, a ≤ i → i < j → j < b → ¬ lt (f j) (f i)
theorem SIn.sub {a b c d : Nat} {f : Nat → En} (h : SIn a b f) (h1 : a ≤ c) (h2 : d ≤ b) : SIn c d f := fun i j hi hij hj => h i j (by omega) hij (by omega)
theorem SIn.congr {a b : Nat} {f g : Nat → En} (h : SIn a b f) (e : ∀ x, a ≤ x → x < b → g x = f x) : SIn a b g := fun i j hi hij hj => by
  rw [e i (by omega) (by omega), e j (by omega) (by omega)]
  exact h i j hi hij hj
theorem SIn.short {a b : Nat} (f : Nat → En) (h : b ≤ a + 1) : SIn a b f := fun i j hi hij hj => by omega
/-- Insertion: what stands at j goes down. -/
def Ins (a i j : Nat) (g : Nat → En) : Prop := (∀ p q, a ≤ p → p < q → q ≤ i → p ≠ j → q ≠ j → ¬ lt (g q) (g p)) ∧ ∀ q, j < q → q ≤ i → ¬ lt (g q) (g j)
theorem Ins.start {a i : Nat} {g : Nat → En} (h : SIn a i g) : Ins a i i g := ⟨fun p q hp hpq hq _ hqi => h p q hp hpq (by omega), fun q h1 h2 => by omega⟩
theorem Ins.step {a i j : Nat} {g : Nat → En} (h : Ins a i j g) (hj : a < j) (hi : j ≤ i) (hl : lt (g j) (g (j - 1))) : Ins a i (j - 1) (swp g j (j - 1)) := by
  obtain ⟨h1, h2⟩ := h
  have e1 : swp g j (j - 1) j = g (j - 1) := if_pos rfl
  have e2 : swp g j (j - 1) (j - 1) = g j := by unfold swp; rw [if_neg (by omega), if_pos rfl]
  have e3 : ∀ x, x ≠ j → x ≠ j - 1 → swp g j (j - 1) x = g x := fun x q1 q2 => by unfold swp; rw [if_neg q1, if_neg q2]
  refine ⟨fun p q hp hpq hq np nq => ?_, fun q q1 q2 => ?_⟩
  · by_cases c : q = j
    · subst c
      rw [e1, e3 p (by omega) np]
      exact h1 p (q - 1) hp (by omega) (by omega) (by omega) (by omega)
    · rw [e3 q c nq]
      by_cases c2 : p = j
      · subst c2
        rw [e1]
        exact h1 (p - 1) q (by omega) (by omega) hq (by omega) c
      · rw [e3 p c2 np]
        exact h1 p q hp hpq hq c2 c
  · rw [e2]
    by_cases c : q = j
    · subst c; rw [e1]; exact lt_asymm hl
    · rw [e3 q c (by omega)]; exact h2 q (by omega) q2
theorem Ins.done {a i j : Nat} {g : Nat → En} (h : Ins a i j g) (hj : a ≤ j) (hi : j ≤ i) (hl : a < j → ¬ lt (g j) (g (j - 1))) : SIn a (i + 1) g := by
  obtain ⟨h1, h2⟩ := h
  intro p q hp hpq hq
  by_cases c : q = j
  · subst c
    have hq1 := hl (by omega)
    by_cases c2 : p = q - 1
    · subst c2; exact hq1
    · exact not_lt_trans (h1 p (q - 1) hp (by omega) (by omega) (by omega) (by omega)) hq1
  · by_cases c2 : p = j
    · subst c2; exact h2 q hpq (by omega)
    · exact h1 p q hp hpq (by omega) c2 c
/-- What stands at a goes up to k. -/
def shL (a k : Nat) (f : Nat → En) (x : Nat) : En := if a ≤ x ∧ x < k then f (x + 1) else if x = k then f a else f x
theorem shL_start (a : Nat) (f : Nat → En) : shL a a f = f := by
  funext x
  unfold shL
  rw [if_neg (by omega)]
  by_cases e : x = a
  · rw [if_pos e, e]
  · rw [if_neg e]
theorem shL_step (a k : Nat) (f : Nat → En) (h : a ≤ k) : swp (shL a k f) k (k + 1) = shL a (k + 1) f := by
  funext x
  unfold swp shL
  by_cases e : x = k
  · subst e
    rw [if_pos rfl, if_neg (by omega), if_neg (by omega), if_pos (by omega)]
  · rw [if_neg e]
    by_cases e2 : x = k + 1
    · rw [if_pos e2, if_neg (by omega), if_pos rfl, if_neg (by omega), if_pos e2]
    · rw [if_neg e2]
      by_cases e3 : a ≤ x ∧ x < k
      · rw [if_pos e3, if_pos (by omega)]
      · rw [if_neg e3, if_neg e, if_neg (by omega), if_neg e2]
theorem shL_sorted (a i b : Nat) (f : Nat → En) (h : SIn (a + 1) b f) (hi : a + 1 ≤ i) (hib : i ≤ b) (h1 : ∀ x, a + 1 ≤ x → x < i → lt (f x) (f a)) (h2 : ∀ x, i ≤ x → x < b → ¬ lt (f x) (f a)) : SIn a b (shL a (i - 1) f) := by
  intro p q hp hpq hq
  unfold shL
  by_cases c1 : q < i - 1
  · rw [if_pos (by omega), if_pos (by omega)]; exact h _ _ (by omega) (by omega) (by omega)
  · rw [if_neg (by omega)]
    by_cases c2 : q = i - 1
    · rw [if_pos c2, if_pos (by omega)]; exact lt_asymm (h1 _ (by omega) (by omega))
    · rw [if_neg c2]
      by_cases c3 : p < i - 1
      · rw [if_pos (by omega)]; exact h _ _ (by omega) (by omega) (by omega)
      · rw [if_neg (by omega)]
        by_cases c4 : p = i - 1
        · rw [if_pos c4]; exact h2 q (by omega) hq
        · rw [if_neg c4]; exact h _ _ (by omega) (by omega) (by omega)
/-- What stands at m goes down to k. -/
def shR (m k : Nat) (f : Nat → En) (x : Nat) : En := if k < x ∧ x ≤ m then f (x - 1) else if x = k then f m else f x
theorem shR_start (m : Nat) (f : Nat → En) : shR m m f = f := by
  funext x
  unfold shR
  rw [if_neg (by omega)]
  by_cases e : x = m
  · rw [if_pos e, e]
  · rw [if_neg e]
theorem shR_step (m k : Nat) (f : Nat → En) (h : k ≤ m) (h0 : 0 < k) : swp (shR m k f) k (k - 1) = shR m (k - 1) f := by
  funext x
  unfold swp shR
  by_cases e : x = k
  · subst e
    rw [if_pos rfl, if_neg (by omega), if_neg (by omega), if_pos (by omega)]
  · rw [if_neg e]
    by_cases e2 : x = k - 1
    · rw [if_pos e2, if_neg (by omega), if_pos rfl, if_neg (by omega), if_pos e2]
    · rw [if_neg e2]
      by_cases e3 : k < x ∧ x ≤ m
      · rw [if_pos e3, if_pos (by omega)]
      · rw [if_neg e3, if_neg e, if_neg (by omega), if_neg e2]
theorem shR_sorted (a i m : Nat) (f : Nat → En) (h : SIn a m f) (hi : a ≤ i) (him : i ≤ m) (h1 : ∀ x, a ≤ x → x < i → ¬ lt (f m) (f x)) (h2 : ∀ x, i ≤ x → x < m → lt (f m) (f x)) : SIn a (m + 1) (shR m i f) := by
  intro p q hp hpq hq
  unfold shR
  by_cases c1 : p < i
  · rw [if_neg (c := i < p ∧ p ≤ m) (by omega), if_neg (c := p = i) (by omega)]
    by_cases c2 : q < i
    · rw [if_neg (by omega), if_neg (by omega)]; exact h _ _ hp hpq (by omega)
    · by_cases c3 : q = i
      · rw [if_neg (by omega), if_pos c3]; exact h1 p hp c1
      · rw [if_pos (by omega)]; exact h _ _ hp (by omega) (by omega)
  · rw [if_pos (c := i < q ∧ q ≤ m) (by omega)]
    by_cases c2 : p = i
    · rw [if_neg (by omega), if_pos c2]; exact lt_asymm (h2 _ (by omega) (by omega))
    · rw [if_pos (by omega)]; exact h _ _ (by omega) (by omega) (by omega)
/-- c places from a on, changed for those from b on. -/
def swr (a b c : Nat) (f : Nat → En) (x : Nat) : En := if a ≤ x ∧ x < a + c then f (x - a + b) else if b ≤ x ∧ x < b + c then f (x - b + a) else f x
theorem swr_zero (a b : Nat) (f : Nat → En) : swr a b 0 f = f := by
  funext x; unfold swr; rw [if_neg (by omega), if_neg (by omega)]
theorem swr_step (a b c : Nat) (f : Nat → En) (h : a + (c + 1) ≤ b) : swp (swr a b c f) (a + c) (b + c) = swr a b (c + 1) f := by
  funext x
  unfold swp swr
  by_cases e : x = a + c
  · rw [if_pos e, if_neg (by omega), if_neg (by omega), if_pos (by omega)]; congr 1; omega
  · rw [if_neg e]
    by_cases e2 : x = b + c
    · rw [if_pos e2, if_neg (by omega), if_neg (by omega), if_neg (by omega), if_pos (by omega)]; congr 1; omega
    · rw [if_neg e2]
      by_cases e3 : a ≤ x ∧ x < a + c
      · rw [if_pos e3, if_pos (by omega)]
      · rw [if_neg e3]
        by_cases e4 : b ≤ x ∧ x < b + c
        · rw [if_pos e4, if_neg (by omega), if_pos (by omega)]
        · rw [if_neg e4, if_neg (by omega), if_neg (by omega)]
theorem swr_pm (a b : Nat) (f : Nat → En) : ∀ c, a + c ≤ b → Pm a (b + c) f (swr a b c f)
  | 0, _ => by rw [swr_zero]; exact Pm.refl
  | c + 1, h => by
    rw [← swr_step a b c f h]
    exact Pm.swap _ _ ⟨by omega, by omega⟩ ⟨by omega, by omega⟩ ((swr_pm a b f c (by omega)).mono (Nat.le_refl _) (by omega))
/-- The places from s to m, changed for those from m to e. -/
def rot (s m e : Nat) (f : Nat → En) (x : Nat) : En := if s ≤ x ∧ x < s + (e - m) then f (x - s + m) else if s + (e - m) ≤ x ∧ x < e then f (x - (e - m)) else f x
theorem rot_more (m i j : Nat) (g : Nat → En) (hi : i ≤ m) (hj : 0 < j) (h : j < i) : rot (m - (i - j)) m (m + j) (swr (m - i) m j g) = rot (m - i) m (m + j) g := by
  funext x
  unfold rot swr
  repeat' split
  all_goals first | rfl | omega | (congr 1; omega)
theorem rot_less (m i j : Nat) (g : Nat → En) (hi : i ≤ m) (h0 : 0 < i) (h : i < j) : rot (m - i) m (m + (j - i)) (swr (m - i) (m + j - i) i g) = rot (m - i) m (m + j) g := by
  funext x
  unfold rot swr
  repeat' split
  all_goals first | rfl | omega | (congr 1; omega)
theorem rot_same (m i : Nat) (g : Nat → En) (hi : i ≤ m) : swr (m - i) m i g = rot (m - i) m (m + i) g := by
  funext x
  unfold rot swr
  repeat' split
  all_goals first | rfl | omega | (congr 1; omega)
theorem rot_none1 (m e : Nat) (f : Nat → En) (h : m ≤ e) : rot m m e f = f := by
  funext x
  unfold rot
  repeat' split
  all_goals first | rfl | omega | (congr 1; omega)
theorem rot_none2 (s m : Nat) (f : Nat → En) : rot s m m f = f := by
  funext x
  unfold rot
  repeat' split
  all_goals first | rfl | omega | (congr 1; omega)
/-- What is merged, cut in two: each half of two sorted parts, and none of the left worse than one of the right. -/
theorem rot_parts (a s m e b : Nat) (f : Nat → En) (h0 : a ≤ s) (h1 : s ≤ m) (h2 : m ≤ e) (h3 : e ≤ b) (ha : SIn a m f) (hb : SIn m b f) (hx : a < s → e < b → ¬ lt (f e) (f (s - 1))) (hy : s < m → m < e → lt (f (e - 1)) (f s)) :
    SIn a s (rot s m e f) ∧ SIn s (s + (e - m)) (rot s m e f) ∧ SIn (s + (e - m)) e (rot s m e f) ∧ SIn e b (rot s m e f) ∧ ∀ x y, a ≤ x → x < s + (e - m) → s + (e - m) ≤ y → y < b → ¬ lt (rot s m e f y) (rot s m e f x) := by
  have e1 : ∀ x, x < s → rot s m e f x = f x := fun x h => by unfold rot; rw [if_neg (by omega), if_neg (by omega)]
  have e2 : ∀ x, s ≤ x → x < s + (e - m) → rot s m e f x = f (x - s + m) := fun x h k => by unfold rot; rw [if_pos ⟨h, k⟩]
  have e3 : ∀ x, s + (e - m) ≤ x → x < e → rot s m e f x = f (x - (e - m)) := fun x h k => by unfold rot; rw [if_neg (by omega), if_pos ⟨h, k⟩]
  have e4 : ∀ x, e ≤ x → rot s m e f x = f x := fun x h => by unfold rot; rw [if_neg (by omega), if_neg (by omega)]
  refine ⟨fun i j hi hij hj => ?_, fun i j hi hij hj => ?_, fun i j hi hij hj => ?_, fun i j hi hij hj => ?_, fun x y q1 q2 q3 q4 => ?_⟩
  · rw [e1 i (by omega), e1 j hj]; exact ha i j hi hij (by omega)
  · rw [e2 i hi (by omega), e2 j (by omega) hj]; exact hb _ _ (by omega) (by omega) (by omega)
  · rw [e3 i hi (by omega), e3 j (by omega) hj]; exact ha _ _ (by omega) (by omega) (by omega)
  · rw [e4 i hi, e4 j (by omega)]; exact hb i j (by omega) hij hj
  · by_cases c1 : x < s
    · rw [e1 x c1]
      by_cases c2 : y < e
      · rw [e3 y q3 c2]; exact ha _ _ q1 (by omega) (by omega)
      · rw [e4 y (by omega)]
        have hz := hx (by omega) (by omega)
        have u1 : ¬ lt (f (s - 1)) (f x) := by
          by_cases c : x = s - 1
          · subst c; exact lt_irrefl _
          · exact ha _ _ q1 (by omega) (by omega)
        have u2 : ¬ lt (f y) (f e) := by
          by_cases c : y = e
          · subst c; exact lt_irrefl _
          · exact hb _ _ (by omega) (by omega) q4
        exact not_lt_trans u1 (not_lt_trans hz u2)
    · rw [e2 x (by omega) q2]
      by_cases c2 : y < e
      · rw [e3 y q3 c2]
        have hz := hy (by omega) (by omega)
        have u1 : ¬ lt (f (e - 1)) (f (x - s + m)) := by
          by_cases c : x - s + m = e - 1
          · rw [c]; exact lt_irrefl _
          · exact hb _ _ (by omega) (by omega) (by omega)
        have u2 : ¬ lt (f (y - (e - m))) (f s) := by
          by_cases c : y - (e - m) = s
          · rw [c]; exact lt_irrefl _
          · exact ha _ _ (by omega) (by omega) (by omega)
        exact not_lt_trans u1 (not_lt_trans (lt_asymm hz) u2)
      · rw [e4 y (by omega)]; exact hb _ _ (by omega) (by omega) q4
/-- Both halves sorted: all is. -/
theorem halves (a d b : Nat) (f g h : Nat → En) (p1 : Pm a d f g) (p2 : Pm d b g h) (s1 : SIn a d g) (s2 : SIn d b h) (hc : ∀ x y, a ≤ x → x < d → d ≤ y → y < b → ¬ lt (f y) (f x)) : SIn a b h := by
  intro i j hi hij hj
  by_cases c1 : j < d
  · rw [p2.out i (by omega), p2.out j (by omega)]; exact s1 i j hi hij c1
  · by_cases c2 : d ≤ i
    · exact s2 i j c2 hij hj
    · obtain ⟨y, y1, y2, ey⟩ := p2.comes j (by omega) hj
      obtain ⟨x, x1, x2, ex⟩ := p1.comes i hi (by omega)
      rw [ey, p1.out y (by omega), p2.out i (by omega), ex]
      exact hc x y x1 x2 y1 y2
end Ec
end Go.Proofs.YtcbpafpaimpfnaaGreatDoor

namespace Go.Proofs.YtcbpafpaimpfnaaGreatDoor
namespace Ec
open Pl (En)
/-- All blocks of bs are sorted. -/
def Blks (bs n : Nat) (G : Nat → En) : Prop := ∀ q, SIn (q * bs) (min ((q + 1) * bs) n) G
/-- The first t blocks of twice bs are, and behind them those of bs. -/
def Half (bs n t : Nat) (G : Nat → En) : Prop := (∀ q, q < t → SIn (q * (2 * bs)) ((q + 1) * (2 * bs)) G) ∧ ∀ q, 2 * t ≤ q → SIn (q * bs) (min ((q + 1) * bs) n) G
theorem mul_up {q t bs : Nat} (h : q < t) : (q + 1) * bs ≤ t * bs := Nat.mul_le_mul_right bs h
theorem first_step {t A : Nat} {G H : Nat → En} (hA : A = t * 20) (h : ∀ q, q < t → SIn (q * 20) ((q + 1) * 20) G) (p : Pm A (A + 20) G H) (s : SIn A (A + 20) H) : ∀ q, q < t + 1 → SIn (q * 20) ((q + 1) * 20) H := by
  intro q hq
  by_cases e : q = t
  · subst e; rw [Nat.add_mul, ← hA]; exact s
  · exact (h q (by omega)).congr (fun x h1 h2 => p.out x (by omega))
theorem first_done {t A n : Nat} {G H : Nat → En} (hA : A = t * 20) (hn : n < A + 20) (h : ∀ q, q < t → SIn (q * 20) ((q + 1) * 20) G) (p : Pm A n G H) (s : SIn A n H) : Blks 20 n H := by
  intro q
  by_cases e : q = t
  · subst e; rw [← hA]; exact s.sub (Nat.le_refl _) (by omega)
  · by_cases c : q < t
    · exact ((h q c).congr (fun x h1 h2 => p.out x (by omega))).sub (Nat.le_refl _) (by omega)
    · exact SIn.short _ (by omega)
theorem half_start {bs n : Nat} {G : Nat → En} (h : Blks bs n G) : Half bs n 0 G := ⟨fun q hq => by omega, fun q _ => h q⟩
theorem half_parts {bs n t A : Nat} {G : Nat → En} (h : Half bs n t G) (hA : A = t * (2 * bs)) : SIn A (min (A + bs) n) G ∧ SIn (A + bs) (min (A + 2 * bs) n) G := by
  have e : 2 * t * bs = A := by rw [hA, Nat.mul_comm 2 t, Nat.mul_assoc]
  have h1 := h.2 (2 * t) (Nat.le_refl _)
  have h2 := h.2 (2 * t + 1) (by omega)
  rw [Nat.add_mul, Nat.one_mul, e] at h1
  rw [Nat.add_mul (2 * t + 1) 1 bs, Nat.add_mul (2 * t) 1 bs, Nat.one_mul, e] at h2
  exact ⟨h1, by rw [show A + 2 * bs = A + bs + bs by omega]; exact h2⟩
theorem half_step {bs n t A : Nat} {G H : Nat → En} (h : Half bs n t G) (hA : A = t * (2 * bs)) (p : Pm A (A + 2 * bs) G H) (s : SIn A (A + 2 * bs) H) : Half bs n (t + 1) H := by
  refine ⟨fun q hq => ?_, fun q hq => ?_⟩
  · by_cases e : q = t
    · subst e; rw [Nat.add_mul, Nat.one_mul, ← hA]; exact s
    · have hm : (q + 1) * (2 * bs) ≤ A := by rw [hA]; exact mul_up (by omega)
      exact (h.1 q (by omega)).congr (fun x h1 h2 => p.out x (by omega))
  · have hm : A + 2 * bs ≤ q * bs := by
      have : (2 * (t + 1)) * bs ≤ q * bs := Nat.mul_le_mul_right bs hq
      rw [Nat.mul_comm 2 (t + 1), Nat.mul_assoc, Nat.add_mul, Nat.one_mul, ← hA] at this
      exact this
    exact (h.2 q (by omega)).congr (fun x h1 h2 => p.out x (by omega))
theorem half_done {bs n t A : Nat} {G H : Nat → En} (h : Half bs n t G) (hA : A = t * (2 * bs)) (hn : n < A + 2 * bs) (p : Pm A n G H) (s : SIn A n H) : Blks (2 * bs) n H := by
  intro q
  by_cases e : q = t
  · subst e; rw [← hA]; exact s.sub (Nat.le_refl _) (by omega)
  · by_cases c : q < t
    · have hm : (q + 1) * (2 * bs) ≤ A := by rw [hA]; exact mul_up c
      exact ((h.1 q c).congr (fun x h1 h2 => p.out x (by omega))).sub (Nat.le_refl _) (by omega)
    · have hm : A + 2 * bs ≤ q * (2 * bs) := by
        have := mul_up (bs := 2 * bs) (show t < q by omega)
        rw [Nat.add_mul, Nat.one_mul, ← hA] at this
        exact this
      exact SIn.short _ (by omega)
theorem blks_all {bs n : Nat} {G : Nat → En} (h : Blks bs n G) (hb : n ≤ bs) : SIn 0 n G := by
  have := h 0
  rw [Nat.zero_mul, Nat.zero_add, Nat.one_mul] at this
  exact this.sub (Nat.le_refl _) (by omega)
end Ec
end Go.Proofs.YtcbpafpaimpfnaaGreatDoor

namespace Go.Proofs.YtcbpafpaimpfnaaGreatDoor
open Go.RowKit
open Pl (En)
namespace Ec
def cmp (a b : En) : Int := sg a.port b.port
theorem cmp_lt {a b : En} : cmp a b < 0 ↔ lt a b := by
  unfold cmp sg lt
  by_cases h1 : a.port < b.port
  · simp [h1]
  · by_cases h2 : b.port < a.port <;> simp [h1, h2]
end Ec
namespace Es
set_option maxHeartbeats 1000000 in
theorem ecmp_any (x y : En) (W : World) : Calls Tryz.prog 56 #[.agg #[.int .i64 x.port, .int .i64 x.cost, .int .i64 x.other, .int .i64 x.oport, .bool x.live], .agg #[.int .i64 y.port, .int .i64 y.cost, .int .i64 y.other, .int .i64 y.oport, .bool y.live]] W fun e w' => e = .returned (.int .i64 (Ec.cmp x y)) ∧ Below W.heap.size W w' := by
  have hcon := fun W' => ccmpi_any x.port y.port W'
  unfold Ec.cmp
  generalize sg x.port y.port = r at hcon ⊢
  go_enter Tryz.func56, Tryz.ntmps56
  go_wp2_with (go_at_call 57; refine (hcon _).mono ?_; rintro e w' ⟨rfl, rfl⟩)
  go_ret
  exact ⟨rfl, below_alloc2 _ _ _⟩
/-- n ends, and what is behind. -/
def rowE (sp : Array Value) (n : Nat) (f : Nat → En) : Array Value := rowC n 5 (fun i => enC (f i)) ++ sp
theorem rowE_get (sp : Array Value) (n : Nat) (f : Nat → En) (k j : Nat) (hk : k < n) (hj : j < 5) : (rowE sp n f)[k * 5 + j]? = some (enC (f k) j) := by
  have h := mul_add_lt hk hj
  unfold rowE
  rw [Array.getElem?_append_left (by rw [rowC_size]; exact h)]
  exact rowC_get _ hk hj
theorem rowE_put1 (sp : Array Value) (n : Nat) (c : Nat → Nat → Value) (k j : Nat) (v : Value) (hk : k < n) (hj : j < 5) : (rowC n 5 c ++ sp).setIfInBounds (k * 5 + j) v = rowC n 5 (updC c k j v) ++ sp := by
  have h := mul_add_lt hk hj
  rw [← rowC_put c hk hj]
  apply Array.ext_getElem?
  intro x
  have s1 := rowC_size n 5 c
  rw [Array.getElem?_setIfInBounds]
  by_cases hx : x < n * 5
  · rw [Array.getElem?_append_left (by rw [s1]; exact hx), Array.getElem?_append_left (by rw [Array.size_setIfInBounds, s1]; exact hx), Array.getElem?_setIfInBounds]
    by_cases q : k * 5 + j = x
    · rw [if_pos q, if_pos q, if_pos (by rw [Array.size_append, s1]; omega), if_pos (by rw [s1]; omega)]
    · rw [if_neg q, if_neg q]
  · rw [if_neg (by omega), Array.getElem?_append_right (by rw [s1]; omega), Array.getElem?_append_right (by rw [Array.size_setIfInBounds, s1]; omega), Array.size_setIfInBounds]
theorem rowE_congr (sp : Array Value) (n : Nat) (f g : Nat → En) (h : ∀ i, i < n → f i = g i) : rowE sp n f = rowE sp n g := by
  unfold rowE
  rw [rowC_congr (d := fun i => enC (g i)) (fun i hi => by rw [h i hi])]
section
variable {sp : Array Value} {w : World} {g n : Nat} {f : Nat → En} {ty : TypeId}
theorem rowE_cells (h : w.heap[g]? = some (.cells (rowE sp n f) ty (0, 0))) {k : Nat} (hk : k < n) :
    w.cell? ⟨g, k * 5, none⟩ = some (.int .i64 (f k).port) ∧ w.cell? ⟨g, k * 5 + 1, none⟩ = some (.int .i64 (f k).cost) ∧ w.cell? ⟨g, k * 5 + 2, none⟩ = some (.int .i64 (f k).other) ∧ w.cell? ⟨g, k * 5 + 3, none⟩ = some (.int .i64 (f k).oport) ∧ w.cell? ⟨g, k * 5 + 4, none⟩ = some (.bool (f k).live) := by
  have H : ∀ j, j < 5 → w.cell? ⟨g, k * 5 + j, none⟩ = some (enC (f k) j) := fun j hj => (cell_of_row w g _ _ _ _ h).trans (rowE_get sp n f k j hk hj)
  exact ⟨H 0 (by omega), H 1 (by omega), H 2 (by omega), H 3 (by omega), H 4 (by omega)⟩
theorem rowE_free (h : w.heap[g]? = some (.cells (rowE sp n f) ty (0, 0))) (k : Nat) :
    w.frozen? ⟨g, k * 5, none⟩ = false ∧ w.frozen? ⟨g, k * 5 + 1, none⟩ = false ∧ w.frozen? ⟨g, k * 5 + 2, none⟩ = false ∧ w.frozen? ⟨g, k * 5 + 3, none⟩ = false ∧ w.frozen? ⟨g, k * 5 + 4, none⟩ = false :=
  ⟨frozen_of_row _ _ _ _ _ h, frozen_of_row _ _ _ _ _ h, frozen_of_row _ _ _ _ _ h, frozen_of_row _ _ _ _ _ h, frozen_of_row _ _ _ _ _ h⟩
theorem rowE_set (h : w.heap[g]? = some (.cells (rowE sp n f) ty (0, 0))) {k : Nat} (hk : k < n) (v : En) :
    (((((w.setCell ⟨g, k * 5, none⟩ (.int .i64 v.port)).setCell ⟨g, k * 5 + 1, none⟩ (.int .i64 v.cost)).setCell ⟨g, k * 5 + 2, none⟩ (.int .i64 v.other)).setCell ⟨g, k * 5 + 3, none⟩ (.int .i64 v.oport)).setCell ⟨g, k * 5 + 4, none⟩ (.bool v.live)).heap[g]? = some (.cells (rowE sp n (fun i => if i = k then v else f i)) ty (0, 0)) := by
  rw [heap_setCell_same _ _ _ _ _ _ (heap_setCell_same _ _ _ _ _ _ (heap_setCell_same _ _ _ _ _ _ (heap_setCell_same _ _ _ _ _ _ (heap_setCell_same _ _ _ _ _ _ h))))]
  have e0 := rowE_put1 sp n (fun i => enC (f i)) k 0 (.int .i64 v.port) hk (by omega)
  rw [Nat.add_zero] at e0
  unfold rowE
  rw [e0, rowE_put1 sp n _ k 1 _ hk (by omega), rowE_put1 sp n _ k 2 _ hk (by omega), rowE_put1 sp n _ k 3 _ hk (by omega), rowE_put1 sp n _ k 4 _ hk (by omega)]
  rw [rowC_congr2 (d := fun i => enC (if i = k then v else f i)) (fun i _ m hm => ?_)]
  unfold updC
  by_cases q : i = k
  · subst q
    rcases (by omega : m = 0 ∨ m = 1 ∨ m = 2 ∨ m = 3 ∨ m = 4) with e | e | e | e | e <;> subst e <;> simp [enC]
  · simp [q]
/-- Two ends, changed for each other: ten stores. -/
theorem rowE_swap (h : w.heap[g]? = some (.cells (rowE sp n f) ty (0, 0))) {i j : Nat} (hi : i < n) (hj : j < n) (hne : i ≠ j) :
    ((((((((((w.setCell ⟨g, i * 5, none⟩ (.int .i64 (f j).port)).setCell ⟨g, i * 5 + 1, none⟩ (.int .i64 (f j).cost)).setCell ⟨g, i * 5 + 2, none⟩ (.int .i64 (f j).other)).setCell ⟨g, i * 5 + 3, none⟩ (.int .i64 (f j).oport)).setCell ⟨g, i * 5 + 4, none⟩ (.bool (f j).live)).setCell ⟨g, j * 5, none⟩ (.int .i64 (f i).port)).setCell ⟨g, j * 5 + 1, none⟩ (.int .i64 (f i).cost)).setCell ⟨g, j * 5 + 2, none⟩ (.int .i64 (f i).other)).setCell ⟨g, j * 5 + 3, none⟩ (.int .i64 (f i).oport)).setCell ⟨g, j * 5 + 4, none⟩ (.bool (f i).live)).heap[g]? = some (.cells (rowE sp n (Ec.swp f i j)) ty (0, 0)) := by
  rw [rowE_set (rowE_set h hi (f j)) hj (f i)]
  congr 2
  apply rowE_congr
  intro x _
  unfold Ec.swp
  by_cases e : x = j
  · rw [if_pos e]
    by_cases e2 : x = i
    · omega
    · rw [if_neg e2, if_pos e]
  · rw [if_neg e, if_neg e]
/-- Nothing but block g and new ones has changed. -/
def But (g : Nat) (u w : World) : Prop := u.grownBy w (some g)
theorem But.refl (g : Nat) (w : World) : But g w w := ⟨rfl, rfl, rfl, Nat.le_refl _, fun _ _ _ => rfl⟩
theorem But.trans {g : Nat} {a b c : World} (h : But g a b) (k : But g b c) : But g a c :=
  ⟨k.os.trans h.os, k.tape.trans h.tape, k.output.trans h.output, Nat.le_trans h.size k.size, fun q hq hne => (k.block q (Nat.lt_of_lt_of_le hq h.size) hne).trans (h.block q hq hne)⟩
theorem But.low {g : Nat} {a b c : World} (h : But g a b) (k : Below b.heap.size b c) : But g a c :=
  h.trans ⟨k.os, k.tape, k.output, k.size, fun q hq _ => k.block q hq⟩
theorem But.drewN {g : Nat} {a b : World} (h : But g a b) (m : Nat) : But g a (b.drewN m) := h.low (below_drewN (Below.refl _ _) m)
theorem But.drew {g : Nat} {a b : World} (h : But g a b) : But g a b.drew := h.low (Below.drew (Below.refl _ _))
theorem But.setCell {g : Nat} {a b : World} (h : But g a b) (o : Nat) (v : Value) : But g a (b.setCell ⟨g, o, none⟩ v) :=
  h.trans ⟨by first | rfl | simp, by first | rfl | simp, by first | rfl | simp, by first | exact Nat.le_refl _ | simp, fun q _ hne => heap_setCell_other _ _ _ _ (by intro e; exact hne (by rw [e]))⟩
theorem but_set5 {u w : World} (h : But g u w) {o1 o2 o3 o4 o5 : Nat} {v1 v2 v3 v4 v5 : Value} :
    But g u (((((w.setCell ⟨g, o1, none⟩ v1).setCell ⟨g, o2, none⟩ v2).setCell ⟨g, o3, none⟩ v3).setCell ⟨g, o4, none⟩ v4).setCell ⟨g, o5, none⟩ v5) :=
  ((((h.setCell _ _).setCell _ _).setCell _ _).setCell _ _).setCell _ _
theorem swap_fin {u : World} (h : w.heap[g]? = some (.cells (rowE sp n f) ty (0, 0))) (hb : But g u w) (_ : g ≤ g) {i j : Nat} (hi : i < n) (hj : j < n) (hne : i ≠ j) {F : Nat → En} (e : Ec.swp f i j = F) :
    ((((((((((w.setCell ⟨g, i * 5, none⟩ (.int .i64 (f j).port)).setCell ⟨g, i * 5 + 1, none⟩ (.int .i64 (f j).cost)).setCell ⟨g, i * 5 + 2, none⟩ (.int .i64 (f j).other)).setCell ⟨g, i * 5 + 3, none⟩ (.int .i64 (f j).oport)).setCell ⟨g, i * 5 + 4, none⟩ (.bool (f j).live)).setCell ⟨g, j * 5, none⟩ (.int .i64 (f i).port)).setCell ⟨g, j * 5 + 1, none⟩ (.int .i64 (f i).cost)).setCell ⟨g, j * 5 + 2, none⟩ (.int .i64 (f i).other)).setCell ⟨g, j * 5 + 3, none⟩ (.int .i64 (f i).oport)).setCell ⟨g, j * 5 + 4, none⟩ (.bool (f i).live)).drew.heap[g]? = some (.cells (rowE sp n F) ty (0, 0)) ∧
      But g u ((((((((((w.setCell ⟨g, i * 5, none⟩ (.int .i64 (f j).port)).setCell ⟨g, i * 5 + 1, none⟩ (.int .i64 (f j).cost)).setCell ⟨g, i * 5 + 2, none⟩ (.int .i64 (f j).other)).setCell ⟨g, i * 5 + 3, none⟩ (.int .i64 (f j).oport)).setCell ⟨g, i * 5 + 4, none⟩ (.bool (f j).live)).setCell ⟨g, j * 5, none⟩ (.int .i64 (f i).port)).setCell ⟨g, j * 5 + 1, none⟩ (.int .i64 (f i).cost)).setCell ⟨g, j * 5 + 2, none⟩ (.int .i64 (f i).other)).setCell ⟨g, j * 5 + 3, none⟩ (.int .i64 (f i).oport)).setCell ⟨g, j * 5 + 4, none⟩ (.bool (f i).live)).drew := by
  subst e
  exact ⟨drew_row (rowE_swap h hi hj hne), (but_set5 (but_set5 hb)).drew⟩
end
end Es
end Go.Proofs.YtcbpafpaimpfnaaGreatDoor

namespace Go.Proofs.YtcbpafpaimpfnaaGreatDoor
open Go.RowKit
open Pl (En)
namespace Es

set_option maxRecDepth 100000 in
set_option maxHeartbeats 4000000 in
theorem sswapRange_any (sp : Array Value) (g n cap a b c : Nat) (f : Nat → En) (cv : Value) (w : World) (hA : w.heap[g]? = some (.cells (rowE sp n f) 111 (0, 0))) (hn : n ≤ 4398046511104) (h1 : a + c ≤ b) (h2 : b + c ≤ n) :
    Calls Tryz.prog 123 #[.slice (some ⟨g, 0, none⟩) n cap, .int .i64 a, .int .i64 b, .int .i64 c, cv] w fun e w' => e = .returned (.tuple #[]) ∧ w'.heap[g]? = some (.cells (rowE sp n (Ec.swr a b c f)) 111 (0, 0)) ∧ But g w w' := by
  have HA : Hid (w.heap[g]? = some (.cells (rowE sp n f) 111 (0, 0))) := hA
  clear hA
  go_enter Tryz.func123, Tryz.ntmps123
  go_wp2_with fail
  go_loopw [10] (fun i wr => ∃ k : Nat, k ≤ c ∧ i = .int .i64 k ∧ Hid (wr.heap[g]? = some (.cells (rowE sp n (Ec.swr a b k f)) 111 (0, 0)) ∧ But g w wr)) (fun i _ => c - (intOf i).toNat)
  case atStart => exact ⟨0, by omega, rfl, by rw [Ec.swr_zero]; exact HA.out, But.refl _ _⟩
  case round =>
    obtain ⟨k, hk, rfl, hX⟩ := hrel
    by_cases hlt : k < c
    · obtain ⟨i, hi⟩ : ∃ i, i = a + k := ⟨_, rfl⟩
      obtain ⟨j, hj⟩ : ∃ j, j = b + k := ⟨_, rfl⟩
      have wi : IntKind.i64.wrap ((a : Int) + (k : Int)) = (i : Int) := by rw [wraps_i64 _ (by omega) (by omega)]; omega
      have wj : IntKind.i64.wrap ((b : Int) + (k : Int)) = (j : Int) := by rw [wraps_i64 _ (by omega) (by omega)]; omega
      have ii : (0 : Int) ≤ (i : Int) := by omega
      have ij : (0 : Int) ≤ (j : Int) := by omega
      have ni : (i : Int) < (n : Int) := by omega
      have nj : (j : Int) < (n : Int) := by omega
      obtain ⟨c0, c1, c2, c3, c4⟩ := rowE_cells hX.out.1 (show i < n by omega)
      obtain ⟨d0, d1, d2, d3, d4⟩ := rowE_cells hX.out.1 (show j < n by omega)
      obtain ⟨f0, f1, f2, f3, f4⟩ := rowE_free hX.out.1 i
      obtain ⟨e0, e1, e2, e3, e4⟩ := rowE_free hX.out.1 j
      have HFN : Hid _ := swap_fin (F := Ec.swr a b (k + 1) f) hX.out.1 hX.out.2 (Nat.le_refl _) (show i < n by omega) (show j < n by omega) (show i ≠ j by omega) (by rw [hi, hj]; exact Ec.swr_step a b k f (by omega))
      generalize Ec.swr a b k f = F at *
      generalize F i = x at *
      generalize F j = y at *
      have hne : i * 5 ≠ j * 5 := by omega
      clear hX HA hi hj
      go_wp2_with fail
      go_region
      all_goals go_wp2_with fail
      all_goals exact ⟨⟨k + 1, by omega, by go_num, HFN⟩, by simp [intOf]; omega⟩
    · obtain rfl : k = c := by omega
      go_wp2_with fail
      exact bodyPost_end (results_none Tryz.results123 _ _ _) rfl ⟨rfl, hX.out⟩
end Es
end Go.Proofs.YtcbpafpaimpfnaaGreatDoor

namespace Go.Proofs.YtcbpafpaimpfnaaGreatDoor
open Go.RowKit
open Pl (En)
namespace Es

set_option maxRecDepth 100000 in
set_option maxHeartbeats 4000000 in
theorem srotate_any (sp : Array Value) (g n cap s m e : Nat) (f : Nat → En) (cv : Value) (w : World) (hA : w.heap[g]? = some (.cells (rowE sp n f) 111 (0, 0))) (hn : n ≤ 4398046511104) (h1 : s < m) (h2 : m < e) (h3 : e ≤ n) :
    Calls Tryz.prog 106 #[.slice (some ⟨g, 0, none⟩) n cap, .int .i64 s, .int .i64 m, .int .i64 e, cv] w fun x w' => x = .returned (.tuple #[]) ∧ w'.heap[g]? = some (.cells (rowE sp n (Ec.rot s m e f)) 111 (0, 0)) ∧ Ec.Pm s e f (Ec.rot s m e f) ∧ But g w w' := by
  have HA : Hid (w.heap[g]? = some (.cells (rowE sp n f) 111 (0, 0))) := hA
  have HSW : Hid (∀ (a b c : Nat) (A B C : Int) (G : Nat → En) (W : World), A = a → B = b → C = c → W.heap[g]? = some (.cells (rowE sp n G) 111 (0, 0)) → a + c ≤ b → b + c ≤ n → Calls Tryz.prog 123 #[.slice (some ⟨g, 0, none⟩) n cap, .int .i64 A, .int .i64 B, .int .i64 C, cv] W fun e w' => e = .returned (.tuple #[]) ∧ w'.heap[g]? = some (.cells (rowE sp n (Ec.swr a b c G)) 111 (0, 0)) ∧ But g W w') := fun a b c A B C G W eA eB eC hW q1 q2 => by
    subst eA; subst eB; subst eC
    exact sswapRange_any sp g n cap a b c G cv W hW hn q1 q2
  have hi0 : IntKind.i64.wrap ((m : Int) - (s : Int)) = ((m - s : Nat) : Int) := by rw [wraps_i64 _ (by omega) (by omega)]; omega
  have hj0 : IntKind.i64.wrap ((e : Int) - (m : Int)) = ((e - m : Nat) : Int) := by rw [wraps_i64 _ (by omega) (by omega)]; omega
  clear hA
  go_enter Tryz.func106, Tryz.ntmps106
  go_wp2_with fail
  go_loopw [10, 11] (fun vi vj wr => ∃ i j : Nat, 0 < i ∧ 0 < j ∧ i + s ≤ m ∧ j + m ≤ e ∧ vi = .int .i64 i ∧ vj = .int .i64 j ∧ Hid (∃ G, wr.heap[g]? = some (.cells (rowE sp n G) 111 (0, 0)) ∧ Ec.Pm s e f G ∧ Ec.rot (m - i) m (m + j) G = Ec.rot s m e f ∧ But g w wr)) (fun i j _ => (intOf i).toNat + (intOf j).toNat)
  case atStart => exact ⟨m - s, e - m, by omega, by omega, by omega, by omega, by first | rfl | (congr 1; omega), by first | rfl | (congr 1; omega), f, HA.out, Ec.Pm.refl, by rw [show m - (m - s) = s by omega, show m + (e - m) = e by omega], But.refl _ _⟩
  case round =>
    obtain ⟨i, j, pi, pj, li, lj, rfl, rfl, hX⟩ := hrel
    obtain ⟨G, hG, hP, hR, hB⟩ := hX.out
    have HG : Hid (wr.heap[g]? = some (.cells (rowE sp n G) 111 (0, 0))) := hG
    have HP : Hid (Ec.Pm s e f G) := hP
    have HR : Hid (Ec.rot (m - i) m (m + j) G = Ec.rot s m e f) := hR
    have HB : Hid (But g w wr) := hB
    clear hX hG hP hR hB HA hi0 hj0
    by_cases q : i = j
    · subst q
      have HC : Hid (Calls Tryz.prog 123 #[.slice (some ⟨g, 0, none⟩) n cap, .int .i64 ((m : Int) - (i : Int)), .int .i64 (m : Int), .int .i64 (i : Int), cv] wr fun e w' => e = .returned (.tuple #[]) ∧ w'.heap[g]? = some (.cells (rowE sp n (Ec.swr (m - i) m i G)) 111 (0, 0)) ∧ But g wr w') := HSW.out (m - i) m i _ _ _ G wr (by omega) rfl rfl HG.out (by omega) (by omega)
      clear HSW
      go_wp2_with fail
      refine HC.out.mono ?_
      rintro x w1 ⟨rfl, k1, k2⟩
      have HF : Hid (w1.heap[g]? = some (.cells (rowE sp n (Ec.rot s m e f)) 111 (0, 0)) ∧ Ec.Pm s e f (Ec.rot s m e f) ∧ But g w w1) := by
        have e1 := Ec.rot_same m i G (by omega)
        rw [HR.out] at e1
        rw [e1] at k1
        refine ⟨k1, ?_, HB.out.trans k2⟩
        have := HP.out.trans ((Ec.swr_pm (m - i) m G i (by omega)).mono (c := s) (d := e) (by omega) (by omega))
        rw [e1] at this
        exact this
      clear k1 k2
      go_wp2_with fail
      exact bodyPost_end (results_none Tryz.results106 _ _ _) rfl ⟨rfl, HF.out⟩
    · have dq : ((i : Int) != (j : Int)) = true := by simp; omega
      have dn : ¬ ((i : Int) = (j : Int)) := by omega
      by_cases r : j < i
      · have HC : Hid (Calls Tryz.prog 123 #[.slice (some ⟨g, 0, none⟩) n cap, .int .i64 ((m : Int) - (i : Int)), .int .i64 (m : Int), .int .i64 (j : Int), cv] wr fun e w' => e = .returned (.tuple #[]) ∧ w'.heap[g]? = some (.cells (rowE sp n (Ec.swr (m - i) m j G)) 111 (0, 0)) ∧ But g wr w') := HSW.out (m - i) m j _ _ _ G wr (by omega) rfl rfl HG.out (by omega) (by omega)
        have ri : (j : Int) < (i : Int) := by omega
        clear HSW
        go_wp2_with fail
        refine HC.out.mono ?_
        rintro x w1 ⟨rfl, k1, k2⟩
        have HF : Hid (∃ G, w1.heap[g]? = some (.cells (rowE sp n G) 111 (0, 0)) ∧ Ec.Pm s e f G ∧ Ec.rot (m - (i - j)) m (m + j) G = Ec.rot s m e f ∧ But g w w1) :=
          ⟨_, k1, HP.out.trans ((Ec.swr_pm (m - i) m G j (by omega)).mono (by omega) (by omega)), (Ec.rot_more m i j G (by omega) pj r).trans HR.out, HB.out.trans k2⟩
        clear k1 k2
        go_wp2_with fail
        exact ⟨⟨i - j, j, by omega, pj, by omega, lj, by congr 1; omega, rfl, HF⟩, by simp [intOf]; omega⟩
      · have HC : Hid (Calls Tryz.prog 123 #[.slice (some ⟨g, 0, none⟩) n cap, .int .i64 ((m : Int) - (i : Int)), .int .i64 ((m : Int) + (j : Int) - (i : Int)), .int .i64 (i : Int), cv] wr fun e w' => e = .returned (.tuple #[]) ∧ w'.heap[g]? = some (.cells (rowE sp n (Ec.swr (m - i) (m + j - i) i G)) 111 (0, 0)) ∧ But g wr w') := HSW.out (m - i) (m + j - i) i _ _ _ G wr (by omega) (by omega) rfl HG.out (by omega) (by omega)
        have ri : (i : Int) < (j : Int) := by omega
        clear HSW
        go_wp2_with fail
        refine HC.out.mono ?_
        rintro x w1 ⟨rfl, k1, k2⟩
        have HF : Hid (∃ G, w1.heap[g]? = some (.cells (rowE sp n G) 111 (0, 0)) ∧ Ec.Pm s e f G ∧ Ec.rot (m - i) m (m + (j - i)) G = Ec.rot s m e f ∧ But g w w1) :=
          ⟨_, k1, HP.out.trans ((Ec.swr_pm (m - i) (m + j - i) G i (by omega)).mono (by omega) (by omega)), (Ec.rot_less m i j G (by omega) pi (by omega)).trans HR.out, HB.out.trans k2⟩
        clear k1 k2
        go_wp2_with fail
        exact ⟨⟨i, j - i, pi, by omega, li, by omega, rfl, by congr 1; omega, HF⟩, by simp [intOf]; omega⟩
end Es
end Go.Proofs.YtcbpafpaimpfnaaGreatDoor

namespace Go.Proofs.YtcbpafpaimpfnaaGreatDoor
open Go.RowKit
open Pl (En)
namespace Es

theorem cmp_say (x y : En) (X W : World) (hW : Below X.heap.size X W) :
    Calls Tryz.prog 56 #[.agg #[.int .i64 x.port, .int .i64 x.cost, .int .i64 x.other, .int .i64 x.oport, .bool x.live], .agg #[.int .i64 y.port, .int .i64 y.cost, .int .i64 y.other, .int .i64 y.oport, .bool y.live]] W fun e w' => e = .returned (.int .i64 (Ec.cmp x y)) ∧ Hid (Below X.heap.size X w') :=
  (ecmp_any x y W).mono (fun _ _ h => ⟨h.1, hW.trans (h.2.mono hW.size)⟩)
set_option maxRecDepth 100000 in
set_option maxHeartbeats 4000000 in
theorem sinsertion_any (sp : Array Value) (g n cap a b : Nat) (f : Nat → En) (w : World) (hA : w.heap[g]? = some (.cells (rowE sp n f) 111 (0, 0))) (hn : n ≤ 4398046511104) (ha : a ≤ n) (hb : b ≤ n) :
    Calls Tryz.prog 84 #[.slice (some ⟨g, 0, none⟩) n cap, .int .i64 a, .int .i64 b, .func (.func 56) #[] #[]] w fun x w' => x = .returned (.tuple #[]) ∧ ∃ G, w'.heap[g]? = some (.cells (rowE sp n G) 111 (0, 0)) ∧ Ec.Pm a b f G ∧ Ec.SIn a b G ∧ But g w w' := by
  have HA : Hid (w.heap[g]? = some (.cells (rowE sp n f) 111 (0, 0))) := hA
  clear hA
  go_enter Tryz.func84, Tryz.ntmps84
  go_wp2_with fail
  go_loopw [8] (fun vi wr => ∃ i : Nat, a + 1 ≤ i ∧ (i ≤ b ∨ i = a + 1) ∧ vi = .int .i64 i ∧ Hid (∃ G, wr.heap[g]? = some (.cells (rowE sp n G) 111 (0, 0)) ∧ Ec.Pm a b f G ∧ Ec.SIn a i G ∧ But g w wr)) (fun i _ => b - (intOf i).toNat)
  case atStart => exact ⟨a + 1, by omega, Or.inr rfl, by go_num, f, HA.out, Ec.Pm.refl, Ec.SIn.short f (by omega), But.refl _ _⟩
  case round =>
    obtain ⟨i, li, ui, rfl, hX⟩ := hrel
    have HX : Hid (∃ G, wr.heap[g]? = some (.cells (rowE sp n G) 111 (0, 0)) ∧ Ec.Pm a b f G ∧ Ec.SIn a i G ∧ But g w wr) := hX
    clear hX HA
    by_cases hlt : i < b
    · have hlt2 : (i : Int) < (b : Int) := by omega
      go_wp2_with fail
      go_loopw [9] (fun vj wi => ∃ j : Nat, a ≤ j ∧ j ≤ i ∧ vj = .int .i64 j ∧ Hid (∃ G, wi.heap[g]? = some (.cells (rowE sp n G) 111 (0, 0)) ∧ Ec.Pm a b f G ∧ Ec.Ins a i j G ∧ But g w wi)) (fun j _ => (intOf j).toNat)
      case atStart =>
        obtain ⟨G, h1, h2, h3, h4⟩ := HX.out
        exact ⟨i, by omega, by omega, rfl, G, h1, h2, Ec.Ins.start h3, h4⟩
      case round =>
        obtain ⟨j, lj, uj, rfl, hY⟩ := hrel
        obtain ⟨G, hG, hP, hI, hB⟩ := hY.out
        have HG : Hid (wr.heap[g]? = some (.cells (rowE sp n G) 111 (0, 0))) := hG
        have HP : Hid (Ec.Pm a b f G) := hP
        have HI : Hid (Ec.Ins a i j G) := hI
        have HB : Hid (But g w wr) := hB
        clear hY hG hP hI hB HX
        by_cases hj : a < j
        · obtain ⟨p, hp⟩ : ∃ p, p = j - 1 := ⟨_, rfl⟩
          have wp : IntKind.i64.wrap ((j : Int) - 1) = (p : Int) := by rw [wraps_i64 _ (by omega) (by omega)]; omega
          have hj2 : (a : Int) < (j : Int) := by omega
          have ip : (0 : Int) ≤ (p : Int) := by omega
          have ij : (0 : Int) ≤ (j : Int) := by omega
          have np : (p : Int) < (n : Int) := by omega
          have nj : (j : Int) < (n : Int) := by omega
          have HCC : Hid (∀ W, Below wr.heap.size wr W → (W.cell? ⟨g, j * 5, none⟩ = some (.int .i64 (G j).port) ∧ W.cell? ⟨g, j * 5 + 1, none⟩ = some (.int .i64 (G j).cost) ∧ W.cell? ⟨g, j * 5 + 2, none⟩ = some (.int .i64 (G j).other) ∧ W.cell? ⟨g, j * 5 + 3, none⟩ = some (.int .i64 (G j).oport) ∧ W.cell? ⟨g, j * 5 + 4, none⟩ = some (.bool (G j).live)) ∧ W.cell? ⟨g, p * 5, none⟩ = some (.int .i64 (G p).port) ∧ W.cell? ⟨g, p * 5 + 1, none⟩ = some (.int .i64 (G p).cost) ∧ W.cell? ⟨g, p * 5 + 2, none⟩ = some (.int .i64 (G p).other) ∧ W.cell? ⟨g, p * 5 + 3, none⟩ = some (.int .i64 (G p).oport) ∧ W.cell? ⟨g, p * 5 + 4, none⟩ = some (.bool (G p).live)) := fun W hW => ⟨rowE_cells (keep HG.out hW) (show j < n by omega), rowE_cells (keep HG.out hW) (show p < n by omega)⟩
          have HFR : Hid (∀ W, Below wr.heap.size wr W → (W.frozen? ⟨g, j * 5, none⟩ = false ∧ W.frozen? ⟨g, j * 5 + 1, none⟩ = false ∧ W.frozen? ⟨g, j * 5 + 2, none⟩ = false ∧ W.frozen? ⟨g, j * 5 + 3, none⟩ = false ∧ W.frozen? ⟨g, j * 5 + 4, none⟩ = false) ∧ W.frozen? ⟨g, p * 5, none⟩ = false ∧ W.frozen? ⟨g, p * 5 + 1, none⟩ = false ∧ W.frozen? ⟨g, p * 5 + 2, none⟩ = false ∧ W.frozen? ⟨g, p * 5 + 3, none⟩ = false ∧ W.frozen? ⟨g, p * 5 + 4, none⟩ = false) := fun W hW => ⟨rowE_free (keep HG.out hW) j, rowE_free (keep HG.out hW) p⟩
          have HW0 : Hid (Below wr.heap.size wr wr) := Below.refl _ _
          have HCM : Hid (∀ W, Below wr.heap.size wr W → Calls Tryz.prog 56 #[.agg #[.int .i64 (G j).port, .int .i64 (G j).cost, .int .i64 (G j).other, .int .i64 (G j).oport, .bool (G j).live], .agg #[.int .i64 (G p).port, .int .i64 (G p).cost, .int .i64 (G p).other, .int .i64 (G p).oport, .bool (G p).live]] W fun e w' => e = .returned (.int .i64 (Ec.cmp (G j) (G p))) ∧ Hid (Below wr.heap.size wr w')) := fun W hW => cmp_say (G j) (G p) wr W hW
          have HSW : Hid (∀ W, Below wr.heap.size wr W → _) := fun W hW => swap_fin (F := Ec.swp G j p) (keep HG.out hW) (HB.out.low hW) (Nat.le_refl _) (show j < n by omega) (show p < n by omega) (show j ≠ p by omega) rfl
          have HLO : Hid (∀ W, Below wr.heap.size wr W → W.heap[g]? = some (.cells (rowE sp n G) 111 (0, 0)) ∧ But g w W) := fun W hW => ⟨keep HG.out hW, HB.out.low hW⟩
          have HYES : Hid (Ec.cmp (G j) (G p) < 0 → Ec.Pm a b f (Ec.swp G j p) ∧ Ec.Ins a i p (Ec.swp G j p)) := fun h => ⟨Ec.Pm.swap j p ⟨by omega, by omega⟩ ⟨by omega, by omega⟩ HP.out, by
            subst hp
            exact HI.out.step hj uj (Ec.cmp_lt.1 h)⟩
          have HNO : Hid (¬ Ec.cmp (G j) (G p) < 0 → Ec.SIn a (i + 1) G) := fun h => HI.out.done lj uj (fun _ q => h (Ec.cmp_lt.2 (by subst hp; exact q)))
          obtain ⟨⟨c0, c1, c2, c3, c4⟩, d0, d1, d2, d3, d4⟩ := HCC.out wr HW0.out
          have hpj : p < j := by omega
          have hap : a ≤ p := by omega
          clear hp HI HG HB
          obtain ⟨CV, hCV⟩ : ∃ CV, Ec.cmp (G j) (G p) = CV := ⟨_, rfl⟩
          rw [hCV] at HCM HYES HNO
          clear hCV
          obtain ⟨x, hx⟩ : ∃ x, G j = x := ⟨_, rfl⟩
          obtain ⟨y, hy⟩ : ∃ y, G p = y := ⟨_, rfl⟩
          rw [hx, hy] at HCC HCM HSW
          rw [hx] at c0 c1 c2 c3 c4
          rw [hy] at d0 d1 d2 d3 d4
          clear hx hy
          go_wp2_with fail
          go_region_held3 (fun W => (W.cell? ⟨g, j * 5, none⟩ = some (.int .i64 x.port) ∧ W.cell? ⟨g, j * 5 + 1, none⟩ = some (.int .i64 x.cost) ∧ W.cell? ⟨g, j * 5 + 2, none⟩ = some (.int .i64 x.other) ∧ W.cell? ⟨g, j * 5 + 3, none⟩ = some (.int .i64 x.oport) ∧ W.cell? ⟨g, j * 5 + 4, none⟩ = some (.bool x.live)) ∧ W.cell? ⟨g, p * 5, none⟩ = some (.int .i64 y.port) ∧ W.cell? ⟨g, p * 5 + 1, none⟩ = some (.int .i64 y.cost) ∧ W.cell? ⟨g, p * 5 + 2, none⟩ = some (.int .i64 y.other) ∧ W.cell? ⟨g, p * 5 + 3, none⟩ = some (.int .i64 y.oport) ∧ W.cell? ⟨g, p * 5 + 4, none⟩ = some (.bool y.live))
            (first | (exact HCC.out _ (Below.drew HW0.out)) | (exact HCC.out _ (Hid.out (by assumption))))
            (first | (go_at_call 56; refine (HCM.out _ (Below.drew HW0.out)).mono ?_; rintro e w3 ⟨rfl, HB3⟩))
          clear c0 c1 c2 c3 c4 d0 d1 d2 d3 d4
          by_cases hc : CV < 0
          · obtain ⟨k1, k2⟩ := HYES.out hc
            have HFN : Hid (_ ∧ _) := HSW.out w3 HB3.out
            have HPI : Hid (Ec.Pm a b f (Ec.swp G j p) ∧ Ec.Ins a i p (Ec.swp G j p)) := ⟨k1, k2⟩
            obtain ⟨⟨c0, c1, c2, c3, c4⟩, d0, d1, d2, d3, d4⟩ := HCC.out w3 HB3.out
            obtain ⟨⟨e0, e1, e2, e3, e4⟩, f0, f1, f2, f3, f4⟩ := HFR.out w3 HB3.out
            have hne : j * 5 ≠ p * 5 := by omega
            clear HSW HCC HCM HFR HYES HNO HLO k1 k2 HW0 HB3
            go_wp2_with fail
            go_region
            all_goals go_wp2_with fail
            all_goals exact ⟨⟨p, hap, by omega, rfl, Ec.swp G j p, HFN.out.1, HPI.out.1, HPI.out.2, HFN.out.2⟩, by simp [intOf]; omega⟩
          · have HOUT : Hid (∃ G, w3.heap[g]? = some (.cells (rowE sp n G) 111 (0, 0)) ∧ Ec.Pm a b f G ∧ Ec.SIn a (i + 1) G ∧ But g w w3) := ⟨G, (HLO.out w3 HB3.out).1, HP.out, HNO.out (by omega), (HLO.out w3 HB3.out).2⟩
            have hc2 : decide (CV < 0) = false := decide_eq_false hc
            clear HSW HCC HCM HFR HYES HNO HLO HW0 HB3
            go_wp2_with fail
            exact ⟨⟨i + 1, by omega, by omega, by go_num, HOUT⟩, by simp [intOf]; omega⟩
        · have hja : j = a := by omega
          have HOUT : Hid (∀ m, ∃ G, (wr.drewN m).heap[g]? = some (.cells (rowE sp n G) 111 (0, 0)) ∧ Ec.Pm a b f G ∧ Ec.SIn a (i + 1) G ∧ But g w (wr.drewN m)) := fun m => ⟨G, HG.out, HP.out, HI.out.done lj uj (fun q => by omega), HB.out.drewN m⟩
          have hd : decide ((a : Int) < (j : Int)) = false := decide_eq_false (by omega)
          clear HG HP HI HB hja
          go_wp2_with fail
          go_quiet (fail)
          go_wp2_with fail
          exact ⟨⟨i + 1, by omega, by omega, by go_num, HOUT.out _⟩, by simp [intOf]; omega⟩
    · have HF : Hid (∃ G, wr.heap[g]? = some (.cells (rowE sp n G) 111 (0, 0)) ∧ Ec.Pm a b f G ∧ Ec.SIn a b G ∧ But g w wr) := by
        obtain ⟨G, h1, h2, h3, h4⟩ := HX.out
        exact ⟨G, h1, h2, h3.sub (Nat.le_refl _) (by omega), h4⟩
      clear HX
      go_wp2_with fail
      exact bodyPost_end (results_none Tryz.results84 _ _ _) rfl ⟨rfl, HF.out⟩
end Es
end Go.Proofs.YtcbpafpaimpfnaaGreatDoor

namespace Go.Proofs.YtcbpafpaimpfnaaGreatDoor
open Go.RowKit
open Pl (En)
namespace Es

theorem lt_of_le_lt {x y z : En} (h : ¬ Ec.lt y x) (k : Ec.lt y z) : Ec.lt x z := by unfold Ec.lt at *; omega
theorem lt_of_lt_le {x y z : En} (h : Ec.lt x y) (k : ¬ Ec.lt z y) : Ec.lt x z := by unfold Ec.lt at *; omega
/-- The cells of two vectors of a row, wherever it stands as it did. -/
theorem two_cells {sp : Array Value} {X : World} {g n : Nat} {G : Nat → En} {ty : TypeId} (hG : X.heap[g]? = some (.cells (rowE sp n G) ty (0, 0))) {i j : Nat} (hi : i < n) (hj : j < n) (W : World) (hW : Below X.heap.size X W) :
    (W.cell? ⟨g, i * 5, none⟩ = some (.int .i64 (G i).port) ∧ W.cell? ⟨g, i * 5 + 1, none⟩ = some (.int .i64 (G i).cost) ∧ W.cell? ⟨g, i * 5 + 2, none⟩ = some (.int .i64 (G i).other) ∧ W.cell? ⟨g, i * 5 + 3, none⟩ = some (.int .i64 (G i).oport) ∧ W.cell? ⟨g, i * 5 + 4, none⟩ = some (.bool (G i).live)) ∧ W.cell? ⟨g, j * 5, none⟩ = some (.int .i64 (G j).port) ∧ W.cell? ⟨g, j * 5 + 1, none⟩ = some (.int .i64 (G j).cost) ∧ W.cell? ⟨g, j * 5 + 2, none⟩ = some (.int .i64 (G j).other) ∧ W.cell? ⟨g, j * 5 + 3, none⟩ = some (.int .i64 (G j).oport) ∧ W.cell? ⟨g, j * 5 + 4, none⟩ = some (.bool (G j).live) :=
  ⟨rowE_cells (keep hG hW) hi, rowE_cells (keep hG hW) hj⟩
theorem row_stay {sp : Array Value} {X w : World} {g n : Nat} {G : Nat → En} {ty : TypeId} (hG : X.heap[g]? = some (.cells (rowE sp n G) ty (0, 0))) (hB : But g w X) (W : World) (hW : Below X.heap.size X W) : W.heap[g]? = some (.cells (rowE sp n G) ty (0, 0)) ∧ But g w W :=
  ⟨keep hG hW, hB.low hW⟩
set_option maxRecDepth 100000 in
set_option maxHeartbeats 4000000 in
theorem smergeA (sp : Array Value) (g n cap a m b : Nat) (f : Nat → En) (w : World) (hA : w.heap[g]? = some (.cells (rowE sp n f) 111 (0, 0))) (hn : n ≤ 4398046511104) (hm : m = a + 1) (h1 : m < b) (h2 : b ≤ n) (hs : Ec.SIn m b f) :
    Calls Tryz.prog 85 #[.slice (some ⟨g, 0, none⟩) n cap, .int .i64 a, .int .i64 m, .int .i64 b, .func (.func 56) #[] #[]] w fun x w' => x = .returned (.tuple #[]) ∧ ∃ G, w'.heap[g]? = some (.cells (rowE sp n G) 111 (0, 0)) ∧ Ec.Pm a b f G ∧ Ec.SIn a b G ∧ But g w w' := by
  have HA : Hid (w.heap[g]? = some (.cells (rowE sp n f) 111 (0, 0))) := hA
  have HS : Hid (Ec.SIn m b f) := hs
  have HM : Hid (m = a + 1) := hm
  have wm : IntKind.i64.wrap ((m : Int) - (a : Int)) = 1 := by rw [wraps_i64 _ (by omega) (by omega)]; omega
  have am : a < m := by omega
  clear hA hs hm
  go_enter Tryz.func85, Tryz.ntmps85
  go_wp2_with fail
  go_loopw [10, 11] (fun x y wr => ∃ i j : Nat, m ≤ i ∧ i ≤ j ∧ j ≤ b ∧ x = .int .i64 i ∧ y = .int .i64 j ∧ Hid ((∀ q, m ≤ q → q < i → Ec.lt (f q) (f a)) ∧ ∀ q, j ≤ q → q < b → ¬ Ec.lt (f q) (f a)) ∧ Hid (wr.heap[g]? = some (.cells (rowE sp n f) 111 (0, 0)) ∧ But g w wr)) (fun x y _ => (intOf y - intOf x).toNat)
  case atStart => exact ⟨m, b, by omega, by omega, by omega, rfl, rfl, ⟨fun q q1 q2 => by omega, fun q q1 q2 => by omega⟩, HA.out, But.refl _ _⟩
  case round =>
    obtain ⟨i, j, li, lij, uj, rfl, rfl, hQ, hX⟩ := hrel
    clear HA
    by_cases hlt : i < j
    · obtain ⟨h, hh⟩ : ∃ h, h = (i + j) / 2 := ⟨_, rfl⟩
      have eh : ((i : Int) + (j : Int)) / 2 = (h : Int) := by omega
      have l1 : i ≤ h := by omega
      have l2 : h < j := by omega
      clear hh
      have hlt2 : (i : Int) < (j : Int) := by omega
      have ia : (0 : Int) ≤ (a : Int) := by omega
      have ih : (0 : Int) ≤ (h : Int) := by omega
      have na : (a : Int) < (n : Int) := by omega
      have nh : (h : Int) < (n : Int) := by omega
      have HCC : Hid (∀ W, Below wr.heap.size wr W → _) := two_cells hX.out.1 (show h < n by omega) (show a < n by omega)
      have HLO : Hid (∀ W, Below wr.heap.size wr W → W.heap[g]? = some (.cells (rowE sp n f) 111 (0, 0)) ∧ But g w W) := row_stay hX.out.1 hX.out.2
      have HW0 : Hid (Below wr.heap.size wr wr) := Below.refl _ _
      have HCM : Hid (∀ W, Below wr.heap.size wr W → Calls Tryz.prog 56 #[.agg #[.int .i64 (f h).port, .int .i64 (f h).cost, .int .i64 (f h).other, .int .i64 (f h).oport, .bool (f h).live], .agg #[.int .i64 (f a).port, .int .i64 (f a).cost, .int .i64 (f a).other, .int .i64 (f a).oport, .bool (f a).live]] W fun e w' => e = .returned (.int .i64 (Ec.cmp (f h) (f a))) ∧ Hid (Below wr.heap.size wr w')) := fun W hW => cmp_say (f h) (f a) wr W hW
      have HYES : Hid (Ec.cmp (f h) (f a) < 0 → (∀ q, m ≤ q → q < h + 1 → Ec.lt (f q) (f a)) ∧ ∀ q, j ≤ q → q < b → ¬ Ec.lt (f q) (f a)) := fun c => by
        have c' := Ec.cmp_lt.1 c
        refine ⟨fun q q1 q2 => ?_, hQ.out.2⟩
        by_cases e : q = h
        · subst e; exact c'
        · exact lt_of_le_lt (HS.out q h q1 (by omega) (by omega)) c'
      have HNO : Hid (¬ Ec.cmp (f h) (f a) < 0 → (∀ q, m ≤ q → q < i → Ec.lt (f q) (f a)) ∧ ∀ q, h ≤ q → q < b → ¬ Ec.lt (f q) (f a)) := fun c => by
        have c' : ¬ Ec.lt (f h) (f a) := fun q => c (Ec.cmp_lt.2 q)
        refine ⟨hQ.out.1, fun q q1 q2 => ?_⟩
        by_cases e : q = h
        · subst e; exact c'
        · exact Ec.not_lt_trans c' (HS.out h q (by omega) (by omega) q2)
      obtain ⟨⟨c0, c1, c2, c3, c4⟩, d0, d1, d2, d3, d4⟩ := HCC.out wr HW0.out
      obtain ⟨CV, hCV⟩ : ∃ CV, Ec.cmp (f h) (f a) = CV := ⟨_, rfl⟩
      rw [hCV] at HCM HYES HNO
      clear hCV hQ hX HS
      obtain ⟨x, hx⟩ : ∃ x, f h = x := ⟨_, rfl⟩
      obtain ⟨y, hy⟩ : ∃ y, f a = y := ⟨_, rfl⟩
      rw [hx, hy] at HCC HCM
      rw [hx] at c0 c1 c2 c3 c4
      rw [hy] at d0 d1 d2 d3 d4
      clear hx hy
      go_wp2_with fail
      go_region_held3 (fun W => (W.cell? ⟨g, h * 5, none⟩ = some (.int .i64 x.port) ∧ W.cell? ⟨g, h * 5 + 1, none⟩ = some (.int .i64 x.cost) ∧ W.cell? ⟨g, h * 5 + 2, none⟩ = some (.int .i64 x.other) ∧ W.cell? ⟨g, h * 5 + 3, none⟩ = some (.int .i64 x.oport) ∧ W.cell? ⟨g, h * 5 + 4, none⟩ = some (.bool x.live)) ∧ W.cell? ⟨g, a * 5, none⟩ = some (.int .i64 y.port) ∧ W.cell? ⟨g, a * 5 + 1, none⟩ = some (.int .i64 y.cost) ∧ W.cell? ⟨g, a * 5 + 2, none⟩ = some (.int .i64 y.other) ∧ W.cell? ⟨g, a * 5 + 3, none⟩ = some (.int .i64 y.oport) ∧ W.cell? ⟨g, a * 5 + 4, none⟩ = some (.bool y.live))
        (first | (exact HCC.out _ (Below.drew HW0.out)) | (exact HCC.out _ (Hid.out (by assumption))))
        (first | (go_at_call 56; refine (HCM.out _ (Below.drew HW0.out)).mono ?_; rintro e w3 ⟨rfl, HB3⟩))
      clear c0 c1 c2 c3 c4 d0 d1 d2 d3 d4
      by_cases hc : CV < 0
      · have HQ2 := HYES.out (by omega)
        have HX2 : Hid _ := HLO.out w3 HB3.out
        clear HYES HNO HLO HCC HCM HW0 HB3
        go_wp2_with fail
        exact ⟨⟨h + 1, j, by omega, by omega, uj, by go_num, rfl, HQ2, HX2⟩, by simp [intOf]; omega⟩
      · have HQ2 := HNO.out (by omega)
        have HX2 : Hid _ := HLO.out w3 HB3.out
        have hc2 : decide (CV < 0) = false := decide_eq_false hc
        clear HYES HNO HLO HCC HCM HW0 HB3
        go_wp2_with fail
        exact ⟨⟨i, h, li, l1, by omega, rfl, rfl, HQ2, HX2⟩, by simp [intOf]; omega⟩
    · obtain rfl : i = j := by omega
      obtain ⟨p, hp⟩ : ∃ p, p = i - 1 := ⟨_, rfl⟩
      have wp : IntKind.i64.wrap ((i : Int) - 1) = (p : Int) := by rw [wraps_i64 _ (by omega) (by omega)]; omega
      have HSO : Hid (Ec.SIn a b (Ec.shL a p f)) := by
        have hm := HM.out
        subst hm
        subst hp
        exact Ec.shL_sorted a i b f HS.out li uj hQ.out.1 hQ.out.2
      have pb : p < b := by omega
      have ap : a ≤ p := by omega
      have HX : Hid (wr.heap[g]? = some (.cells (rowE sp n f) 111 (0, 0)) ∧ But g w wr) := hX
      clear hp hQ HS hX
      go_wp2_with fail
      go_loopw [13] (fun vk wi => ∃ k : Nat, a ≤ k ∧ k ≤ p ∧ vk = .int .i64 k ∧ Hid (wi.heap[g]? = some (.cells (rowE sp n (Ec.shL a k f)) 111 (0, 0)) ∧ Ec.Pm a b f (Ec.shL a k f) ∧ But g w wi)) (fun k _ => p - (intOf k).toNat)
      case atStart => exact ⟨a, by omega, ap, rfl, by rw [Ec.shL_start]; exact ⟨HX.out.1, Ec.Pm.refl, HX.out.2⟩⟩
      case round =>
        obtain ⟨k, lk, uk, rfl, hY⟩ := hrel
        clear HX
        by_cases hk : k < p
        · obtain ⟨q, hq⟩ : ∃ q, q = k + 1 := ⟨_, rfl⟩
          have wq : IntKind.i64.wrap ((k : Int) + 1) = (q : Int) := by rw [wraps_i64 _ (by omega) (by omega)]; omega
          have ik : (0 : Int) ≤ (k : Int) := by omega
          have iq : (0 : Int) ≤ (q : Int) := by omega
          have nk : (k : Int) < (n : Int) := by omega
          have nq' : (q : Int) < (n : Int) := by omega
          have hk2 : (k : Int) < (p : Int) := by omega
          obtain ⟨c0, c1, c2, c3, c4⟩ := rowE_cells hY.out.1 (show k < n by omega)
          obtain ⟨d0, d1, d2, d3, d4⟩ := rowE_cells hY.out.1 (show q < n by omega)
          obtain ⟨f0, f1, f2, f3, f4⟩ := rowE_free hY.out.1 k
          obtain ⟨e0, e1, e2, e3, e4⟩ := rowE_free hY.out.1 q
          have HFN : Hid _ := swap_fin (F := Ec.shL a q f) hY.out.1 hY.out.2.2 (Nat.le_refl _) (show k < n by omega) (show q < n by omega) (show k ≠ q by omega) (by rw [hq]; exact Ec.shL_step a k f lk)
          have HPM : Hid (Ec.Pm a b f (Ec.shL a q f)) := by rw [hq, ← Ec.shL_step a k f lk]; exact Ec.Pm.swap _ _ ⟨by omega, by omega⟩ ⟨by omega, by omega⟩ hY.out.2.1
          have hne : k * 5 ≠ q * 5 := by omega
          have qp : q ≤ p := by omega
          have kq : k < q := by omega
          generalize Ec.shL a k f = F at *
          generalize F k = x at *
          generalize F q = y at *
          clear hY hq
          go_wp2_with fail
          go_region
          all_goals go_wp2_with fail
          all_goals exact ⟨⟨q, by omega, qp, rfl, HFN.out.1, HPM.out, HFN.out.2⟩, by simp [intOf]; omega⟩
        · obtain rfl : k = p := by omega
          have HF : Hid _ := hY.out
          clear hY
          go_wp2_with fail
          exact bodyPost_ret (results_none Tryz.results85 _ _ _) rfl ⟨rfl, _, HF.out.1, HF.out.2.1, HSO.out, HF.out.2.2⟩
end Es
end Go.Proofs.YtcbpafpaimpfnaaGreatDoor

namespace Go.Proofs.YtcbpafpaimpfnaaGreatDoor
open Go.RowKit
open Pl (En)
namespace Es

set_option maxRecDepth 100000 in
set_option maxHeartbeats 4000000 in
theorem smergeB (sp : Array Value) (g n cap a m b : Nat) (f : Nat → En) (w : World) (hA : w.heap[g]? = some (.cells (rowE sp n f) 111 (0, 0))) (hn : n ≤ 4398046511104) (hm : b = m + 1) (h1 : a + 1 < m) (h2 : b ≤ n) (hs : Ec.SIn a m f) :
    Calls Tryz.prog 85 #[.slice (some ⟨g, 0, none⟩) n cap, .int .i64 a, .int .i64 m, .int .i64 b, .func (.func 56) #[] #[]] w fun x w' => x = .returned (.tuple #[]) ∧ ∃ G, w'.heap[g]? = some (.cells (rowE sp n G) 111 (0, 0)) ∧ Ec.Pm a b f G ∧ Ec.SIn a b G ∧ But g w w' := by
  have HA : Hid (w.heap[g]? = some (.cells (rowE sp n f) 111 (0, 0))) := hA
  have HS : Hid (Ec.SIn a m f) := hs
  have HM : Hid (b = m + 1) := hm
  obtain ⟨d, hd⟩ : ∃ d, d = m - a := ⟨_, rfl⟩
  have wd : IntKind.i64.wrap ((m : Int) - (a : Int)) = (d : Int) := by rw [wraps_i64 _ (by omega) (by omega)]; omega
  have d1 : ((d : Int) == 1) = false := by simp; omega
  have wm : IntKind.i64.wrap ((b : Int) - (m : Int)) = 1 := by rw [wraps_i64 _ (by omega) (by omega)]; omega
  have am : a < m := by omega
  have mb : m < b := by omega
  have mn : m < n := by omega
  clear hA hs hm hd
  go_enter Tryz.func85, Tryz.ntmps85
  go_wp2_with fail
  go_loopw [14, 15] (fun x y wr => ∃ i j : Nat, a ≤ i ∧ i ≤ j ∧ j ≤ m ∧ x = .int .i64 i ∧ y = .int .i64 j ∧ Hid ((∀ q, a ≤ q → q < i → ¬ Ec.lt (f m) (f q)) ∧ ∀ q, j ≤ q → q < m → Ec.lt (f m) (f q)) ∧ Hid (wr.heap[g]? = some (.cells (rowE sp n f) 111 (0, 0)) ∧ But g w wr)) (fun x y _ => (intOf y - intOf x).toNat)
  case atStart => exact ⟨a, m, by omega, by omega, by omega, rfl, rfl, ⟨fun q q1 q2 => by omega, fun q q1 q2 => by omega⟩, HA.out, But.refl _ _⟩
  case round =>
    obtain ⟨i, j, li, lij, uj, rfl, rfl, hQ, hX⟩ := hrel
    clear HA
    by_cases hlt : i < j
    · obtain ⟨h, hh⟩ : ∃ h, h = (i + j) / 2 := ⟨_, rfl⟩
      have eh : ((i : Int) + (j : Int)) / 2 = (h : Int) := by omega
      have l1 : i ≤ h := by omega
      have l2 : h < j := by omega
      clear hh
      have hlt2 : (i : Int) < (j : Int) := by omega
      have ia : (0 : Int) ≤ (m : Int) := by omega
      have ih : (0 : Int) ≤ (h : Int) := by omega
      have na : (m : Int) < (n : Int) := by omega
      have nh : (h : Int) < (n : Int) := by omega
      have HCC : Hid (∀ W, Below wr.heap.size wr W → _) := two_cells hX.out.1 (show m < n by omega) (show h < n by omega)
      have HLO : Hid (∀ W, Below wr.heap.size wr W → W.heap[g]? = some (.cells (rowE sp n f) 111 (0, 0)) ∧ But g w W) := row_stay hX.out.1 hX.out.2
      have HW0 : Hid (Below wr.heap.size wr wr) := Below.refl _ _
      have HCM : Hid (∀ W, Below wr.heap.size wr W → Calls Tryz.prog 56 #[.agg #[.int .i64 (f m).port, .int .i64 (f m).cost, .int .i64 (f m).other, .int .i64 (f m).oport, .bool (f m).live], .agg #[.int .i64 (f h).port, .int .i64 (f h).cost, .int .i64 (f h).other, .int .i64 (f h).oport, .bool (f h).live]] W fun e w' => e = .returned (.int .i64 (Ec.cmp (f m) (f h))) ∧ Hid (Below wr.heap.size wr w')) := fun W hW => cmp_say (f m) (f h) wr W hW
      have HYES : Hid (Ec.cmp (f m) (f h) < 0 → (∀ q, a ≤ q → q < i → ¬ Ec.lt (f m) (f q)) ∧ ∀ q, h ≤ q → q < m → Ec.lt (f m) (f q)) := fun c => by
        have c' := Ec.cmp_lt.1 c
        refine ⟨hQ.out.1, fun q q1 q2 => ?_⟩
        by_cases e : q = h
        · subst e; exact c'
        · exact lt_of_lt_le c' (HS.out h q (by omega) (by omega) q2)
      have HNO : Hid (¬ Ec.cmp (f m) (f h) < 0 → (∀ q, a ≤ q → q < h + 1 → ¬ Ec.lt (f m) (f q)) ∧ ∀ q, j ≤ q → q < m → Ec.lt (f m) (f q)) := fun c => by
        have c' : ¬ Ec.lt (f m) (f h) := fun q => c (Ec.cmp_lt.2 q)
        refine ⟨fun q q1 q2 => ?_, hQ.out.2⟩
        by_cases e : q = h
        · subst e; exact c'
        · exact Ec.not_lt_trans (HS.out q h q1 (by omega) (by omega)) c'
      obtain ⟨⟨c0, c1, c2, c3, c4⟩, d0, d1', d2, d3, d4⟩ := HCC.out wr HW0.out
      obtain ⟨CV, hCV⟩ : ∃ CV, Ec.cmp (f m) (f h) = CV := ⟨_, rfl⟩
      rw [hCV] at HCM HYES HNO
      clear hCV hQ hX HS
      obtain ⟨x, hx⟩ : ∃ x, f m = x := ⟨_, rfl⟩
      obtain ⟨y, hy⟩ : ∃ y, f h = y := ⟨_, rfl⟩
      rw [hx, hy] at HCC HCM
      rw [hx] at c0 c1 c2 c3 c4
      rw [hy] at d0 d1' d2 d3 d4
      clear hx hy
      by_cases hc : CV < 0
      · have HQ2 := HYES.out (by omega)
        have hc2 : decide (CV < 0) = true := decide_eq_true hc
        clear HYES HNO
        go_wp2_with fail
        go_region_held3 (fun W => (W.cell? ⟨g, m * 5, none⟩ = some (.int .i64 x.port) ∧ W.cell? ⟨g, m * 5 + 1, none⟩ = some (.int .i64 x.cost) ∧ W.cell? ⟨g, m * 5 + 2, none⟩ = some (.int .i64 x.other) ∧ W.cell? ⟨g, m * 5 + 3, none⟩ = some (.int .i64 x.oport) ∧ W.cell? ⟨g, m * 5 + 4, none⟩ = some (.bool x.live)) ∧ W.cell? ⟨g, h * 5, none⟩ = some (.int .i64 y.port) ∧ W.cell? ⟨g, h * 5 + 1, none⟩ = some (.int .i64 y.cost) ∧ W.cell? ⟨g, h * 5 + 2, none⟩ = some (.int .i64 y.other) ∧ W.cell? ⟨g, h * 5 + 3, none⟩ = some (.int .i64 y.oport) ∧ W.cell? ⟨g, h * 5 + 4, none⟩ = some (.bool y.live))
          (first | (exact HCC.out _ (Below.drew HW0.out)) | (exact HCC.out _ (Hid.out (by assumption))))
          (first | (go_at_call 56; refine (HCM.out _ (Below.drew HW0.out)).mono ?_; rintro e w3 ⟨rfl, HB3⟩))
        clear c0 c1 c2 c3 c4 d0 d1' d2 d3 d4
        have HX2 : Hid _ := HLO.out w3 HB3.out
        clear HLO HCC HCM HW0 HB3
        go_wp2_with fail
        exact ⟨⟨i, h, li, l1, by omega, rfl, rfl, HQ2, HX2⟩, by simp [intOf]; omega⟩
      · have HQ2 := HNO.out (by omega)
        have hc2 : decide (CV < 0) = false := decide_eq_false hc
        clear HYES HNO
        go_wp2_with fail
        go_region_held3 (fun W => (W.cell? ⟨g, m * 5, none⟩ = some (.int .i64 x.port) ∧ W.cell? ⟨g, m * 5 + 1, none⟩ = some (.int .i64 x.cost) ∧ W.cell? ⟨g, m * 5 + 2, none⟩ = some (.int .i64 x.other) ∧ W.cell? ⟨g, m * 5 + 3, none⟩ = some (.int .i64 x.oport) ∧ W.cell? ⟨g, m * 5 + 4, none⟩ = some (.bool x.live)) ∧ W.cell? ⟨g, h * 5, none⟩ = some (.int .i64 y.port) ∧ W.cell? ⟨g, h * 5 + 1, none⟩ = some (.int .i64 y.cost) ∧ W.cell? ⟨g, h * 5 + 2, none⟩ = some (.int .i64 y.other) ∧ W.cell? ⟨g, h * 5 + 3, none⟩ = some (.int .i64 y.oport) ∧ W.cell? ⟨g, h * 5 + 4, none⟩ = some (.bool y.live))
          (first | (exact HCC.out _ (Below.drew HW0.out)) | (exact HCC.out _ (Hid.out (by assumption))))
          (first | (go_at_call 56; refine (HCM.out _ (Below.drew HW0.out)).mono ?_; rintro e w3 ⟨rfl, HB3⟩))
        clear c0 c1 c2 c3 c4 d0 d1' d2 d3 d4
        have HX2 : Hid _ := HLO.out w3 HB3.out
        clear HLO HCC HCM HW0 HB3
        go_wp2_with fail
        exact ⟨⟨h + 1, j, by omega, by omega, uj, by go_num, rfl, HQ2, HX2⟩, by simp [intOf]; omega⟩
    · obtain rfl : i = j := by omega
      have HSO : Hid (Ec.SIn a b (Ec.shR m i f)) := by
        have hm := HM.out
        subst hm
        exact Ec.shR_sorted a i m f HS.out li uj hQ.out.1 hQ.out.2
      have HX : Hid (wr.heap[g]? = some (.cells (rowE sp n f) 111 (0, 0)) ∧ But g w wr) := hX
      clear hQ HS hX
      go_wp2_with fail
      go_loopw [17] (fun vk wi => ∃ k : Nat, i ≤ k ∧ k ≤ m ∧ vk = .int .i64 k ∧ Hid (wi.heap[g]? = some (.cells (rowE sp n (Ec.shR m k f)) 111 (0, 0)) ∧ Ec.Pm a b f (Ec.shR m k f) ∧ But g w wi)) (fun k _ => (intOf k).toNat)
      case atStart => exact ⟨m, uj, by omega, rfl, by rw [Ec.shR_start]; exact ⟨HX.out.1, Ec.Pm.refl, HX.out.2⟩⟩
      case round =>
        obtain ⟨k, lk, uk, rfl, hY⟩ := hrel
        clear HX
        by_cases hk : i < k
        · obtain ⟨q, hq⟩ : ∃ q, q = k - 1 := ⟨_, rfl⟩
          have wq : IntKind.i64.wrap ((k : Int) - 1) = (q : Int) := by rw [wraps_i64 _ (by omega) (by omega)]; omega
          have ik : (0 : Int) ≤ (k : Int) := by omega
          have iq : (0 : Int) ≤ (q : Int) := by omega
          have nk : (k : Int) < (n : Int) := by omega
          have nq' : (q : Int) < (n : Int) := by omega
          have hk2 : (i : Int) < (k : Int) := by omega
          obtain ⟨c0, c1, c2, c3, c4⟩ := rowE_cells hY.out.1 (show k < n by omega)
          obtain ⟨d0, d1', d2, d3, d4⟩ := rowE_cells hY.out.1 (show q < n by omega)
          obtain ⟨f0, f1, f2, f3, f4⟩ := rowE_free hY.out.1 k
          obtain ⟨e0, e1, e2, e3, e4⟩ := rowE_free hY.out.1 q
          have HFN : Hid _ := swap_fin (F := Ec.shR m q f) hY.out.1 hY.out.2.2 (Nat.le_refl _) (show k < n by omega) (show q < n by omega) (show k ≠ q by omega) (by rw [hq]; exact Ec.shR_step m k f uk (by omega))
          have HPM : Hid (Ec.Pm a b f (Ec.shR m q f)) := by rw [hq, ← Ec.shR_step m k f uk (by omega)]; exact Ec.Pm.swap _ _ ⟨by omega, by omega⟩ ⟨by omega, by omega⟩ hY.out.2.1
          have hne : k * 5 ≠ q * 5 := by omega
          have qi : i ≤ q := by omega
          have kq : q < k := by omega
          generalize Ec.shR m k f = F at *
          generalize F k = x at *
          generalize F q = y at *
          clear hY hq
          go_wp2_with fail
          go_region
          all_goals go_wp2_with fail
          all_goals exact ⟨⟨q, qi, by omega, rfl, HFN.out.1, HPM.out, HFN.out.2⟩, by simp [intOf]; omega⟩
        · obtain rfl : k = i := by omega
          have HF : Hid _ := hY.out
          clear hY
          go_wp2_with fail
          exact bodyPost_ret (results_none Tryz.results85 _ _ _) rfl ⟨rfl, _, HF.out.1, HF.out.2.1, HSO.out, HF.out.2.2⟩
end Es
end Go.Proofs.YtcbpafpaimpfnaaGreatDoor

namespace Go.Proofs.YtcbpafpaimpfnaaGreatDoor
open Go.RowKit
open Pl (En)
namespace Es

/-- What symMerge does. -/
def MergeOut (sp : Array Value) (g n a b : Nat) (f : Nat → En) (w : World) (x : Ending) (w' : World) : Prop :=
  x = .returned (.tuple #[]) ∧ ∃ G, w'.heap[g]? = some (.cells (rowE sp n G) 111 (0, 0)) ∧ Ec.Pm a b f G ∧ Ec.SIn a b G ∧ But g w w'
set_option maxRecDepth 100000 in
set_option maxHeartbeats 8000000 in
theorem smergeG (sp : Array Value) (g n cap a m b : Nat) (f : Nat → En) (w : World) (hA : w.heap[g]? = some (.cells (rowE sp n f) 111 (0, 0))) (hn : n ≤ 4398046511104) (h0 : a + 1 < m) (h1 : m + 1 < b) (h2 : b ≤ n) (hs1 : Ec.SIn a m f) (hs2 : Ec.SIn m b f)
    (ih : ∀ (a' m' b' : Nat) (F : Nat → En) (W : World), b' - a' < b - a → W.heap[g]? = some (.cells (rowE sp n F) 111 (0, 0)) → a' < m' → m' < b' → b' ≤ n → Ec.SIn a' m' F → Ec.SIn m' b' F → Calls Tryz.prog 85 #[.slice (some ⟨g, 0, none⟩) n cap, .int .i64 a', .int .i64 m', .int .i64 b', .func (.func 56) #[] #[]] W (MergeOut sp g n a' b' F W)) :
    Calls Tryz.prog 85 #[.slice (some ⟨g, 0, none⟩) n cap, .int .i64 a, .int .i64 m, .int .i64 b, .func (.func 56) #[] #[]] w (MergeOut sp g n a b f w) := by
  have HA : Hid (w.heap[g]? = some (.cells (rowE sp n f) 111 (0, 0))) := hA
  have HS1 : Hid (Ec.SIn a m f) := hs1
  have HS2 : Hid (Ec.SIn m b f) := hs2
  have HIH : Hid (∀ (a' m' b' : Nat) (F : Nat → En) (W : World), b' - a' < b - a → W.heap[g]? = some (.cells (rowE sp n F) 111 (0, 0)) → a' < m' → m' < b' → b' ≤ n → Ec.SIn a' m' F → Ec.SIn m' b' F → Calls Tryz.prog 85 #[.slice (some ⟨g, 0, none⟩) n cap, .int .i64 a', .int .i64 m', .int .i64 b', .func (.func 56) #[] #[]] W (MergeOut sp g n a' b' F W)) := ih
  obtain ⟨d1, hd1⟩ : ∃ d, d = m - a := ⟨_, rfl⟩
  have w1 : IntKind.i64.wrap ((m : Int) - (a : Int)) = (d1 : Int) := by rw [wraps_i64 _ (by omega) (by omega)]; omega
  have k1 : ((d1 : Int) == 1) = false := by simp; omega
  obtain ⟨d2, hd2⟩ : ∃ d, d = b - m := ⟨_, rfl⟩
  have w2 : IntKind.i64.wrap ((b : Int) - (m : Int)) = (d2 : Int) := by rw [wraps_i64 _ (by omega) (by omega)]; omega
  have k2 : ((d2 : Int) == 1) = false := by simp; omega
  obtain ⟨mid, hmid⟩ : ∃ mid, mid = (a + b) / 2 := ⟨_, rfl⟩
  have emid : ((a : Int) + (b : Int)) / 2 = (mid : Int) := by omega
  have m1 : a + b ≤ 2 * mid + 1 := by omega
  have m2 : 2 * mid ≤ a + b := by omega
  obtain ⟨N, hN⟩ : ∃ N, N = mid + m := ⟨_, rfl⟩
  have eN : IntKind.i64.wrap ((mid : Int) + (m : Int)) = (N : Int) := by rw [wraps_i64 _ (by omega) (by omega)]; omega
  obtain ⟨p, hp⟩ : ∃ p, p = N - 1 := ⟨_, rfl⟩
  have ep : IntKind.i64.wrap ((N : Int) - 1) = (p : Int) := by rw [wraps_i64 _ (by omega) (by omega)]; omega
  have HN : Hid (N = mid + m) := hN
  have HP : Hid (p = N - 1) := hp
  obtain ⟨lo, hi, hcase⟩ : ∃ lo hi : Nat, (mid < m ∧ lo + b = N ∧ hi = mid) ∨ (m ≤ mid ∧ lo = a ∧ hi = m) := by
    by_cases q : mid < m
    · exact ⟨N - b, mid, Or.inl ⟨q, by omega, rfl⟩⟩
    · exact ⟨a, m, Or.inr ⟨by omega, rfl, rfl⟩⟩
  have HCASE : Hid ((mid < m ∧ lo + b = N ∧ hi = mid) ∨ (m ≤ mid ∧ lo = a ∧ hi = m)) := hcase
  have HR : Hid (a ≤ lo ∧ lo ≤ hi ∧ hi ≤ m ∧ hi ≤ mid ∧ N ≤ lo + b ∧ ∀ c, lo ≤ c → c < hi → a ≤ c ∧ c < m ∧ m ≤ p - c ∧ p - c < b ∧ c ≤ p) := by
    rcases hcase with ⟨q1, q2, q3⟩ | ⟨q1, q2, q3⟩
    · exact ⟨by omega, by omega, by omega, by omega, by omega, fun c c1 c2 => ⟨by omega, by omega, by omega, by omega, by omega⟩⟩
    · exact ⟨by omega, by omega, by omega, by omega, by omega, fun c c1 c2 => ⟨by omega, by omega, by omega, by omega, by omega⟩⟩
  have m3 : mid < b := by omega
  have m4 : a < mid := by omega
  clear hA hs1 hs2 ih hd1 hd2 hmid hN hp hcase
  go_enter Tryz.func85, Tryz.ntmps85
  go_upto_if 140 with fail
  go_cut [20, 21] (fun s20 s21 wx => s20 = .int .i64 lo ∧ s21 = .int .i64 hi ∧ Hid (wx.heap[g]? = some (.cells (rowE sp n f) 111 (0, 0)) ∧ But g w wx))
  case first =>
    as_aux_lemma =>
      rcases HCASE.out with ⟨q1, q2, q3⟩ | ⟨q1, q2, q3⟩
      · have q1' : (mid : Int) < (m : Int) := by omega
        have hNN := HN.out
        have el : IntKind.i64.wrap ((N : Int) - (b : Int)) = (lo : Int) := by rw [wraps_i64 _ (by omega) (by omega)]; omega
        have HI : Hid (hi = mid) := q3
        clear q2 q3 HCASE HR HN HP hNN
        go_wp2_with fail
        go_meet
        exact ⟨rfl, by rw [HI.out], HA.out, But.refl _ _⟩
      · have q1' : ¬ (mid : Int) < (m : Int) := by omega
        have q1b : decide ((mid : Int) < (m : Int)) = false := decide_eq_false q1'
        have HI : Hid (hi = m) := q3
        have HL : Hid (lo = a) := q2
        clear q2 q3 HCASE HR HN HP
        go_wp2_with fail
        go_meet
        exact ⟨by rw [HL.out], by rw [HI.out], HA.out, But.refl _ _⟩
  case rest =>
  obtain ⟨rfl, rfl, HX0⟩ := hcut
  clear HA
  go_wp2_with fail
  go_loopw [20, 21] (fun x y wr => ∃ i j : Nat, lo ≤ i ∧ i ≤ j ∧ j ≤ hi ∧ x = .int .i64 i ∧ y = .int .i64 j ∧ Hid ((∀ c, lo ≤ c → c < i → ¬ Ec.lt (f (p - c)) (f c)) ∧ ∀ c, j ≤ c → c < hi → Ec.lt (f (p - c)) (f c)) ∧ Hid (wr.heap[g]? = some (.cells (rowE sp n f) 111 (0, 0)) ∧ But g w wr)) (fun x y _ => (intOf y - intOf x).toNat)
  case atStart => exact ⟨lo, hi, by omega, HR.out.2.1, by omega, rfl, rfl, ⟨fun q q1 q2 => by omega, fun q q1 q2 => by omega⟩, HX0.out⟩
  case round =>
    obtain ⟨i, j, li, lij, uj, rfl, rfl, hQ, hX⟩ := hrel
    clear HX0
    by_cases hlt : i < j
    · as_aux_lemma =>
        obtain ⟨h, hh⟩ : ∃ h, h = (i + j) / 2 := ⟨_, rfl⟩
        have eh : ((i : Int) + (j : Int)) / 2 = (h : Int) := by omega
        have l1 : i ≤ h := by omega
        have l2 : h < j := by omega
        clear hh
        obtain ⟨r1, r2, r3, r4, r5⟩ := HR.out.2.2.2.2.2 h (by omega) (by omega)
        obtain ⟨q, hq⟩ : ∃ q, q = p - h := ⟨_, rfl⟩
        have wq : IntKind.i64.wrap ((p : Int) - (h : Int)) = (q : Int) := by rw [wraps_i64 _ (by omega) (by have := HP.out; have := HN.out; omega)]; omega
        have hlt2 : (i : Int) < (j : Int) := by omega
        have iq : (0 : Int) ≤ (q : Int) := by omega
        have ih : (0 : Int) ≤ (h : Int) := by omega
        have nq' : (q : Int) < (n : Int) := by omega
        have nh : (h : Int) < (n : Int) := by omega
        have HCC : Hid (∀ W, Below wr.heap.size wr W → _) := two_cells hX.out.1 (show q < n by omega) (show h < n by omega)
        have HLO : Hid (∀ W, Below wr.heap.size wr W → W.heap[g]? = some (.cells (rowE sp n f) 111 (0, 0)) ∧ But g w W) := row_stay hX.out.1 hX.out.2
        have HW0 : Hid (Below wr.heap.size wr wr) := Below.refl _ _
        have HCM : Hid (∀ W, Below wr.heap.size wr W → Calls Tryz.prog 56 #[.agg #[.int .i64 (f q).port, .int .i64 (f q).cost, .int .i64 (f q).other, .int .i64 (f q).oport, .bool (f q).live], .agg #[.int .i64 (f h).port, .int .i64 (f h).cost, .int .i64 (f h).other, .int .i64 (f h).oport, .bool (f h).live]] W fun e w' => e = .returned (.int .i64 (Ec.cmp (f q) (f h))) ∧ Hid (Below wr.heap.size wr w')) := fun W hW => cmp_say (f q) (f h) wr W hW
        have HYES : Hid (Ec.cmp (f q) (f h) < 0 → (∀ c, lo ≤ c → c < i → ¬ Ec.lt (f (p - c)) (f c)) ∧ ∀ c, h ≤ c → c < hi → Ec.lt (f (p - c)) (f c)) := fun c => by
          have c' := Ec.cmp_lt.1 c
          refine ⟨hQ.out.1, fun x q1 q2 => ?_⟩
          by_cases e : x = h
          · subst e; rw [← hq]; exact c'
          · obtain ⟨t1, t2, t3, t4, t5⟩ := HR.out.2.2.2.2.2 x (by omega) q2
            refine lt_of_lt_le (lt_of_le_lt (HS2.out (p - x) q t3 (by omega) (by omega)) c') (HS1.out h x r1 (by omega) t2)
        have HNO : Hid (¬ Ec.cmp (f q) (f h) < 0 → (∀ c, lo ≤ c → c < h + 1 → ¬ Ec.lt (f (p - c)) (f c)) ∧ ∀ c, j ≤ c → c < hi → Ec.lt (f (p - c)) (f c)) := fun c => by
          have c' : ¬ Ec.lt (f q) (f h) := fun z => c (Ec.cmp_lt.2 z)
          refine ⟨fun x q1 q2 => ?_, hQ.out.2⟩
          by_cases e : x = h
          · subst e; rw [← hq]; exact c'
          · obtain ⟨t1, t2, t3, t4, t5⟩ := HR.out.2.2.2.2.2 x q1 (by omega)
            exact Ec.not_lt_trans (HS1.out x h t1 (by omega) r2) (Ec.not_lt_trans c' (HS2.out q (p - x) (by omega) (by omega) t4))
        obtain ⟨⟨c0, c1, c2, c3, c4⟩, d0, d1', d2', d3, d4⟩ := HCC.out wr HW0.out
        obtain ⟨CV, hCV⟩ : ∃ CV, Ec.cmp (f q) (f h) = CV := ⟨_, rfl⟩
        rw [hCV] at HCM HYES HNO
        clear hCV hQ hX hq r1 r2 r3 r4 r5
        obtain ⟨x, hx⟩ : ∃ x, f q = x := ⟨_, rfl⟩
        obtain ⟨y, hy⟩ : ∃ y, f h = y := ⟨_, rfl⟩
        rw [hx, hy] at HCC HCM
        rw [hx] at c0 c1 c2 c3 c4
        rw [hy] at d0 d1' d2' d3 d4
        clear hx hy
        by_cases hc : CV < 0
        · have HQ2 := HYES.out (by omega)
          have hc2 : decide (CV < 0) = true := decide_eq_true hc
          clear HYES HNO
          go_wp2_with fail
          go_region_held3 (fun W => (W.cell? ⟨g, q * 5, none⟩ = some (.int .i64 x.port) ∧ W.cell? ⟨g, q * 5 + 1, none⟩ = some (.int .i64 x.cost) ∧ W.cell? ⟨g, q * 5 + 2, none⟩ = some (.int .i64 x.other) ∧ W.cell? ⟨g, q * 5 + 3, none⟩ = some (.int .i64 x.oport) ∧ W.cell? ⟨g, q * 5 + 4, none⟩ = some (.bool x.live)) ∧ W.cell? ⟨g, h * 5, none⟩ = some (.int .i64 y.port) ∧ W.cell? ⟨g, h * 5 + 1, none⟩ = some (.int .i64 y.cost) ∧ W.cell? ⟨g, h * 5 + 2, none⟩ = some (.int .i64 y.other) ∧ W.cell? ⟨g, h * 5 + 3, none⟩ = some (.int .i64 y.oport) ∧ W.cell? ⟨g, h * 5 + 4, none⟩ = some (.bool y.live))
            (first | (exact HCC.out _ (Below.drew HW0.out)) | (exact HCC.out _ (Hid.out (by assumption))))
            (first | (go_at_call 56; refine (HCM.out _ (Below.drew HW0.out)).mono ?_; rintro e w3 ⟨rfl, HB3⟩))
          clear c0 c1 c2 c3 c4 d0 d1' d2' d3 d4
          have HX2 : Hid _ := HLO.out w3 HB3.out
          clear HLO HCC HCM HW0 HB3
          go_wp2_with fail
          exact ⟨⟨i, h, li, l1, by omega, rfl, rfl, HQ2, HX2⟩, by simp [intOf]; omega⟩
        · have HQ2 := HNO.out (by omega)
          have hc2 : decide (CV < 0) = false := decide_eq_false hc
          clear HYES HNO
          go_wp2_with fail
          go_region_held3 (fun W => (W.cell? ⟨g, q * 5, none⟩ = some (.int .i64 x.port) ∧ W.cell? ⟨g, q * 5 + 1, none⟩ = some (.int .i64 x.cost) ∧ W.cell? ⟨g, q * 5 + 2, none⟩ = some (.int .i64 x.other) ∧ W.cell? ⟨g, q * 5 + 3, none⟩ = some (.int .i64 x.oport) ∧ W.cell? ⟨g, q * 5 + 4, none⟩ = some (.bool x.live)) ∧ W.cell? ⟨g, h * 5, none⟩ = some (.int .i64 y.port) ∧ W.cell? ⟨g, h * 5 + 1, none⟩ = some (.int .i64 y.cost) ∧ W.cell? ⟨g, h * 5 + 2, none⟩ = some (.int .i64 y.other) ∧ W.cell? ⟨g, h * 5 + 3, none⟩ = some (.int .i64 y.oport) ∧ W.cell? ⟨g, h * 5 + 4, none⟩ = some (.bool y.live))
            (first | (exact HCC.out _ (Below.drew HW0.out)) | (exact HCC.out _ (Hid.out (by assumption))))
            (first | (go_at_call 56; refine (HCM.out _ (Below.drew HW0.out)).mono ?_; rintro e w3 ⟨rfl, HB3⟩))
          clear c0 c1 c2 c3 c4 d0 d1' d2' d3 d4
          have HX2 : Hid _ := HLO.out w3 HB3.out
          clear HLO HCC HCM HW0 HB3
          go_wp2_with fail
          exact ⟨⟨h + 1, j, by omega, by omega, uj, by go_num, rfl, HQ2, HX2⟩, by simp [intOf]; omega⟩
    · obtain rfl : i = j := by omega
      obtain ⟨z1, z2, z3, z4, z5, _⟩ := HR.out
      have hNN := HN.out
      have hPP := HP.out
      obtain ⟨e, he⟩ : ∃ e, e = N - i := ⟨_, rfl⟩
      have we : IntKind.i64.wrap ((N : Int) - (i : Int)) = (e : Int) := by rw [wraps_i64 _ (by omega) (by omega)]; omega
      have y1 : a ≤ i := by omega
      have y2 : i ≤ m := by omega
      have y3 : m ≤ e := by omega
      have y4 : e ≤ b := by omega
      have y5 : mid = i + (e - m) := by omega
      have y6 : i ≤ mid := by omega
      have y7 : mid ≤ e := by omega
      have HPT : Hid _ := Ec.rot_parts a i m e b f y1 y2 y3 y4 HS1.out HS2.out
        (fun q1 q2 => by
          by_cases c : lo < i
          · have := hQ.out.1 (i - 1) (by omega) (by omega)
            rw [show p - (i - 1) = e by omega] at this
            exact this
          · rcases HCASE.out with ⟨t1, t2, t3⟩ | ⟨t1, t2, t3⟩
            · omega
            · omega)
        (fun q1 q2 => by
          by_cases c : i < hi
          · have := hQ.out.2 i (by omega) c
            rw [show p - i = e - 1 by omega] at this
            exact this
          · rcases HCASE.out with ⟨t1, t2, t3⟩ | ⟨t1, t2, t3⟩
            · omega
            · omega)
      rw [← y5] at HPT
      clear y5
      have HX : Hid (wr.heap[g]? = some (.cells (rowE sp n f) 111 (0, 0)) ∧ But g w wr) := hX
      have HROT : Hid (i < m → m < e → Calls Tryz.prog 106 #[.slice (some ⟨g, 0, none⟩) n cap, .int .i64 i, .int .i64 m, .int .i64 e, .func (.func 56) #[] #[]] wr fun x w' => x = .returned (.tuple #[]) ∧ w'.heap[g]? = some (.cells (rowE sp n (Ec.rot i m e f)) 111 (0, 0)) ∧ Ec.Pm i e f (Ec.rot i m e f) ∧ But g wr w') := fun q1 q2 => srotate_any sp g n cap i m e f _ wr HX.out.1 hn q1 q2 (by omega)
      have HNR : Hid (¬ (i < m ∧ m < e) → Ec.rot i m e f = f) := fun q => by
        by_cases c : i = m
        · subst c; exact Ec.rot_none1 i e f y3
        · have : e = m := by omega
          subst this; exact Ec.rot_none2 i e f
      clear hQ hX he hNN hPP z1 z2 z3 z4 z5 HR HCASE HN HP HS1 HS2 li uj hlt
      generalize Ec.rot i m e f = G0 at *
      go_upto_region 39 with fail
      go_cut [185] (fun v wx => v = .bool (decide (i < m ∧ m < e)) ∧ Hid (wx.heap[g]? = some (.cells (rowE sp n f) 111 (0, 0)) ∧ wx = wr))
      case first =>
        as_aux_lemma =>
          by_cases q1 : i < m
          · have q1' : (i : Int) < (m : Int) := by omega
            by_cases q2 : m < e
            · have q2' : (m : Int) < (e : Int) := by omega
              have HD : Hid (decide (i < m ∧ m < e) = true) := decide_eq_true ⟨q1, q2⟩
              go_wp2_with fail
              go_meet
              exact ⟨by rw [HD.out], HX.out.1, rfl⟩
            · have q2' : decide ((m : Int) < (e : Int)) = false := decide_eq_false (by omega)
              have HD : Hid (decide (i < m ∧ m < e) = false) := decide_eq_false (fun q => q2 q.2)
              go_wp2_with fail
              go_meet
              exact ⟨by rw [HD.out], HX.out.1, rfl⟩
          · have q1' : decide ((i : Int) < (m : Int)) = false := decide_eq_false (by omega)
            have HD : Hid (decide (i < m ∧ m < e) = false) := decide_eq_false (fun q => q1 q.1)
            go_wp2_with fail
            go_meet
            exact ⟨by rw [HD.out], HX.out.1, rfl⟩
      case rest =>
      obtain ⟨rfl, HXC⟩ := hcut
      go_upto_if 185 with fail
      go_cut [191] (fun _ wx => Hid (wx.heap[g]? = some (.cells (rowE sp n G0) 111 (0, 0)) ∧ Ec.Pm a b f G0 ∧ But g w wx))
      case first =>
        as_aux_lemma =>
          have hw := HXC.out.2
          clear HXC
          subst hw
          by_cases q : i < m ∧ m < e
          · have dq : decide (i < m ∧ m < e) = true := decide_eq_true q
            have HC := HROT.out q.1 q.2
            clear HROT HNR HIH
            rw [dq]
            go_wp2_with fail
            refine HC.mono ?_
            rintro x w5 ⟨rfl, k1, k2, k3⟩
            have HF : Hid (w5.heap[g]? = some (.cells (rowE sp n G0) 111 (0, 0)) ∧ Ec.Pm a b f G0 ∧ But g w w5) := ⟨k1, k2.mono y1 y4, HX.out.2.trans k3⟩
            clear k1 k2 k3
            go_wp2_with fail
            go_meet
            exact HF
          · have dq : decide (i < m ∧ m < e) = false := decide_eq_false q
            have HF : Hid (wc.heap[g]? = some (.cells (rowE sp n G0) 111 (0, 0)) ∧ Ec.Pm a b f G0 ∧ But g w wc) := by
              have hq := HNR.out q
              rw [hq]
              exact ⟨HX.out.1, Ec.Pm.refl, HX.out.2⟩
            clear HROT HNR HIH
            rw [dq]
            go_wp2_with fail
            go_meet
            exact HF
      case rest =>
      have HX1 : Hid (wc.heap[g]? = some (.cells (rowE sp n G0) 111 (0, 0)) ∧ Ec.Pm a b f G0 ∧ But g w wc) := hcut
      have HPM0 : Hid (Ec.Pm a b f G0) := HX1.out.2.1
      clear hcut HROT HNR HX HXC
      go_upto_region 41 with fail
      go_cut [199] (fun v wx => v = .bool (decide (a < i ∧ i < mid)) ∧ Hid (wx.heap[g]? = some (.cells (rowE sp n G0) 111 (0, 0)) ∧ But g w wx))
      case first =>
        as_aux_lemma =>
          have HX2 : Hid (wc.heap[g]? = some (.cells (rowE sp n G0) 111 (0, 0)) ∧ But g w wc) := ⟨HX1.out.1, HX1.out.2.2⟩
          clear HX1 HIH HPT
          by_cases q1 : a < i
          · have q1' : (a : Int) < (i : Int) := by omega
            by_cases q2 : i < mid
            · have q2' : (i : Int) < (mid : Int) := by omega
              have HD : Hid (decide (a < i ∧ i < mid) = true) := decide_eq_true ⟨q1, q2⟩
              go_wp2_with fail
              go_meet
              exact ⟨by rw [HD.out], HX2⟩
            · have q2' : decide ((i : Int) < (mid : Int)) = false := decide_eq_false (by omega)
              have HD : Hid (decide (a < i ∧ i < mid) = false) := decide_eq_false (fun q => q2 q.2)
              go_wp2_with fail
              go_meet
              exact ⟨by rw [HD.out], HX2⟩
          · have q1' : decide ((a : Int) < (i : Int)) = false := decide_eq_false (by omega)
            have HD : Hid (decide (a < i ∧ i < mid) = false) := decide_eq_false (fun q => q1 q.1)
            go_wp2_with fail
            go_meet
            exact ⟨by rw [HD.out], HX2⟩
      case rest =>
      clear HX1
      obtain ⟨rfl, HX1⟩ := hcut
      go_upto_if 199 with fail
      go_cut [205] (fun _ wx => Hid (∃ G1, wx.heap[g]? = some (.cells (rowE sp n G1) 111 (0, 0)) ∧ Ec.Pm a mid G0 G1 ∧ Ec.SIn a mid G1 ∧ But g w wx))
      case first =>
        as_aux_lemma =>
          by_cases q : a < i ∧ i < mid
          · have dq : decide (a < i ∧ i < mid) = true := decide_eq_true q
            have HC := HIH.out a i mid G0 _ (by omega) HX1.out.1 q.1 q.2 (by omega) HPT.out.1 HPT.out.2.1
            clear HIH HPT
            rw [dq]
            go_wp2_with fail
            refine HC.mono ?_
            rintro x w5 ⟨rfl, G1, k1, k2, k3, k4⟩
            have HF : Hid (∃ G1, w5.heap[g]? = some (.cells (rowE sp n G1) 111 (0, 0)) ∧ Ec.Pm a mid G0 G1 ∧ Ec.SIn a mid G1 ∧ But g w w5) := ⟨G1, k1, k2, k3, HX1.out.2.trans k4⟩
            clear k1 k2 k3 k4
            go_wp2_with fail
            go_meet
            exact HF
          · have dq : decide (a < i ∧ i < mid) = false := decide_eq_false q
            have HF : Hid (∃ G1, wc.heap[g]? = some (.cells (rowE sp n G1) 111 (0, 0)) ∧ Ec.Pm a mid G0 G1 ∧ Ec.SIn a mid G1 ∧ But g w wc) := ⟨G0, HX1.out.1, Ec.Pm.refl, by
              by_cases c : a = i
              · rw [c]; exact HPT.out.2.1
              · rw [show mid = i by omega]; exact HPT.out.1, HX1.out.2⟩
            clear HIH HPT
            rw [dq]
            go_wp2_with fail
            go_meet
            exact HF
      case rest =>
      clear HX1
      obtain ⟨G1, k1, k2, k3, k4⟩ := hcut.out
      have HX1 : Hid (wc.heap[g]? = some (.cells (rowE sp n G1) 111 (0, 0)) ∧ But g w wc) := ⟨k1, k4⟩
      have HP1 : Hid (Ec.Pm a mid G0 G1 ∧ Ec.SIn a mid G1) := ⟨k2, k3⟩
      have HS3 : Hid (Ec.SIn mid e G1 ∧ Ec.SIn e b G1) := ⟨HPT.out.2.2.1.congr (fun x q1 _ => k2.out x (by omega)), HPT.out.2.2.2.1.congr (fun x q1 _ => k2.out x (by omega))⟩
      have HCR : Hid (∀ G2, Ec.Pm mid b G1 G2 → Ec.SIn mid b G2 → Ec.Pm a b f G2 ∧ Ec.SIn a b G2) := fun G2 t1 t2 => ⟨(HPM0.out.trans (HP1.out.1.mono (Nat.le_refl _) (by omega))).trans (t1.mono (by omega) (Nat.le_refl _)), Ec.halves a mid b G0 G1 G2 HP1.out.1 t1 HP1.out.2 t2 HPT.out.2.2.2.2⟩
      clear hcut k1 k2 k3 k4 HPT HPM0 HP1
      go_upto_region 43 with fail
      go_cut [213] (fun v wx => v = .bool (decide (mid < e ∧ e < b)) ∧ Hid (wx.heap[g]? = some (.cells (rowE sp n G1) 111 (0, 0)) ∧ But g w wx))
      case first =>
        as_aux_lemma =>
          clear HIH HCR HS3
          by_cases q1 : mid < e
          · have q1' : (mid : Int) < (e : Int) := by omega
            by_cases q2 : e < b
            · have q2' : (e : Int) < (b : Int) := by omega
              have HD : Hid (decide (mid < e ∧ e < b) = true) := decide_eq_true ⟨q1, q2⟩
              go_wp2_with fail
              go_meet
              exact ⟨by rw [HD.out], HX1⟩
            · have q2' : decide ((e : Int) < (b : Int)) = false := decide_eq_false (by omega)
              have HD : Hid (decide (mid < e ∧ e < b) = false) := decide_eq_false (fun q => q2 q.2)
              go_wp2_with fail
              go_meet
              exact ⟨by rw [HD.out], HX1⟩
          · have q1' : decide ((mid : Int) < (e : Int)) = false := decide_eq_false (by omega)
            have HD : Hid (decide (mid < e ∧ e < b) = false) := decide_eq_false (fun q => q1 q.1)
            go_wp2_with fail
            go_meet
            exact ⟨by rw [HD.out], HX1⟩
      case rest =>
      clear HX1
      obtain ⟨rfl, HX1⟩ := hcut
      by_cases q : mid < e ∧ e < b
      · as_aux_lemma =>
          have dq : decide (mid < e ∧ e < b) = true := decide_eq_true q
          have HC := HIH.out mid e b G1 _ (by omega) HX1.out.1 q.1 q.2 (by omega) HS3.out.1 HS3.out.2
          clear HIH
          rw [dq]
          go_wp2_with fail
          refine HC.mono ?_
          rintro x w5 ⟨rfl, G2, k1, k2, k3, k4⟩
          have HF : Hid (MergeOut sp g n a b f w (.returned (.tuple #[])) w5) := ⟨rfl, G2, k1, (HCR.out G2 k2 k3).1, (HCR.out G2 k2 k3).2, HX1.out.2.trans k4⟩
          clear k1 k2 k3 k4
          go_wp2_with fail
          exact bodyPost_end (results_none Tryz.results85 _ _ _) rfl HF.out
      · as_aux_lemma =>
          have dq : decide (mid < e ∧ e < b) = false := decide_eq_false q
          have HT : Hid (Ec.Pm a b f G1 ∧ Ec.SIn a b G1) := HCR.out G1 Ec.Pm.refl (by
            by_cases c : mid = e
            · rw [c]; exact HS3.out.2
            · have hE : e = b := by omega
              rw [← hE]; exact HS3.out.1)
          clear HIH HCR
          rw [dq]
          go_wp2_with fail
          exact bodyPost_end (results_none Tryz.results85 _ _ _) rfl ⟨rfl, G1, HX1.out.1, HT.out.1, HT.out.2, HX1.out.2⟩
theorem smerge_any (sp : Array Value) (g n cap : Nat) (hn : n ≤ 4398046511104) : ∀ (d a m b : Nat) (f : Nat → En) (w : World), b - a ≤ d → w.heap[g]? = some (.cells (rowE sp n f) 111 (0, 0)) → a < m → m < b → b ≤ n → Ec.SIn a m f → Ec.SIn m b f →
    Calls Tryz.prog 85 #[.slice (some ⟨g, 0, none⟩) n cap, .int .i64 a, .int .i64 m, .int .i64 b, .func (.func 56) #[] #[]] w (MergeOut sp g n a b f w) := by
  intro d
  induction d with
  | zero => intro a m b f w hd _ h1 h2; omega
  | succ d ih =>
    intro a m b f w hd hA h1 h2 h3 s1 s2
    by_cases c1 : m = a + 1
    · exact smergeA sp g n cap a m b f w hA hn c1 h2 h3 s2
    · by_cases c2 : b = m + 1
      · exact smergeB sp g n cap a m b f w hA hn c2 (by omega) h3 s1
      · exact smergeG sp g n cap a m b f w hA hn (by omega) (by omega) h3 s1 s2 (fun a' m' b' F W q1 q2 q3 q4 q5 q6 q7 => ih a' m' b' F W (by omega) q2 q3 q4 q5 q6 q7)
end Es
end Go.Proofs.YtcbpafpaimpfnaaGreatDoor

namespace Go.Proofs.YtcbpafpaimpfnaaGreatDoor
open Go.RowKit
open Pl (En)
namespace Es

/-- What is there while it is sorted. -/
def At (sp : Array Value) (g n : Nat) (f : Nat → En) (w : World) (G : Nat → En) (w' : World) : Prop :=
  w'.heap[g]? = some (.cells (rowE sp n G) 111 (0, 0)) ∧ Ec.Pm 0 n f G ∧ But g w w'
theorem At.next {sp : Array Value} {g n : Nat} {f G H : Nat → En} {w w1 w2 : World} (h : At sp g n f w G w1) (h1 : w2.heap[g]? = some (.cells (rowE sp n H) 111 (0, 0))) (h2 : Ec.Pm 0 n G H) (h3 : But g w1 w2) : At sp g n f w H w2 :=
  ⟨h1, h.2.1.trans h2, h.2.2.trans h3⟩
set_option maxRecDepth 100000 in
set_option maxHeartbeats 4000000 in
theorem sstable_any (sp : Array Value) (g n cap : Nat) (f : Nat → En) (w : World) (hA : w.heap[g]? = some (.cells (rowE sp n f) 111 (0, 0))) (hn : n ≤ 4398046511104) :
    Calls Tryz.prog 71 #[.slice (some ⟨g, 0, none⟩) n cap, .int .i64 n, .func (.func 56) #[] #[]] w fun x w' => x = .returned (.tuple #[]) ∧ ∃ G, At sp g n f w G w' ∧ Ec.SIn 0 n G := by
  have HA : Hid (At sp g n f w f w) := ⟨hA, Ec.Pm.refl, But.refl _ _⟩
  have HIN : Hid (∀ (a b : Nat) (G : Nat → En) (W : World), At sp g n f w G W → a ≤ n → b ≤ n → Calls Tryz.prog 84 #[.slice (some ⟨g, 0, none⟩) n cap, .int .i64 a, .int .i64 b, .func (.func 56) #[] #[]] W fun x w' => x = .returned (.tuple #[]) ∧ ∃ H, At sp g n f w H w' ∧ Ec.Pm a b G H ∧ Ec.SIn a b H) := fun a b G W hW q1 q2 => (sinsertion_any sp g n cap a b G W hW.1 hn q1 q2).mono (fun x w' h => by
    obtain ⟨e, H, k1, k2, k3, k4⟩ := h
    exact ⟨e, H, hW.next k1 (k2.mono (by omega) q2) k4, k2, k3⟩)
  have HME : Hid (∀ (a m b : Nat) (G : Nat → En) (W : World), At sp g n f w G W → a < m → m < b → b ≤ n → Ec.SIn a m G → Ec.SIn m b G → Calls Tryz.prog 85 #[.slice (some ⟨g, 0, none⟩) n cap, .int .i64 a, .int .i64 m, .int .i64 b, .func (.func 56) #[] #[]] W fun x w' => x = .returned (.tuple #[]) ∧ ∃ H, At sp g n f w H w' ∧ Ec.Pm a b G H ∧ Ec.SIn a b H) := fun a m b G W hW q1 q2 q3 q4 q5 => (smerge_any sp g n cap hn (b - a) a m b G W (Nat.le_refl _) hW.1 q1 q2 q3 q4 q5).mono (fun x w' h => by
    obtain ⟨e, H, k1, k2, k3, k4⟩ := h
    exact ⟨e, H, hW.next k1 (k2.mono (by omega) q3) k4, k2, k3⟩)
  clear hA
  go_enter Tryz.func71, Tryz.ntmps71
  go_wp2_with fail
  go_loopw [7, 8] (fun va vb wr => ∃ A B : Nat, B = A + 20 ∧ A ≤ n ∧ va = .int .i64 A ∧ vb = .int .i64 B ∧ Hid (∃ t G, A = t * 20 ∧ At sp g n f w G wr ∧ ∀ q, q < t → Ec.SIn (q * 20) ((q + 1) * 20) G)) (fun va _ _ => n - (intOf va).toNat)
  case atStart => exact ⟨0, 20, rfl, by omega, rfl, rfl, 0, f, rfl, HA.out, fun q hq => by omega⟩
  case round =>
    obtain ⟨A, B, hB, lA, rfl, rfl, hX⟩ := hrel
    obtain ⟨t, G, hAt, hG, hS⟩ := hX.out
    clear hX HA
    by_cases hlt : B ≤ n
    · have HC := HIN.out A B G wr hG lA hlt
      obtain ⟨B2, hB2⟩ : ∃ B2, B2 = B + 20 := ⟨_, rfl⟩
      have wB : IntKind.i64.wrap ((B : Int) + 20) = (B2 : Int) := by rw [wraps_i64 _ (by omega) (by omega)]; omega
      have lB : (B : Int) ≤ (n : Int) := by omega
      have HST : Hid (∀ H, Ec.Pm A B G H → Ec.SIn A B H → B = (t + 1) * 20 ∧ ∀ q, q < t + 1 → Ec.SIn (q * 20) ((q + 1) * 20) H) := fun H k1 k2 => by
        subst hB
        exact ⟨by omega, Ec.first_step hAt hS k1 k2⟩
      have HB2 : Hid (B2 = B + 20) := hB2
      have HBA : Hid (B = A + 20) := hB
      clear hAt hG hS HIN HME hB2 hB
      go_wp2_with fail
      refine HC.mono ?_
      rintro x w1 ⟨rfl, H, k1, k2, k3⟩
      have HF : Hid (∃ t G, B = t * 20 ∧ At sp g n f w G w1 ∧ ∀ q, q < t → Ec.SIn (q * 20) ((q + 1) * 20) G) := ⟨t + 1, H, (HST.out H k2 k3).1, k1, (HST.out H k2 k3).2⟩
      clear k1 k2 k3 HST HC
      go_wp2_with fail
      exact ⟨⟨B, B2, HB2.out, hlt, rfl, rfl, HF⟩, by have := HBA.out; simp [intOf]; omega⟩
    · have HC := HIN.out A n G wr hG lA (Nat.le_refl _)
      have HFD : Hid (∀ H, Ec.Pm A n G H → Ec.SIn A n H → Ec.Blks 20 n H) := fun H k1 k2 => Ec.first_done hAt (by omega) hS k1 k2
      have lB : ¬ (B : Int) ≤ (n : Int) := by omega
      have lB2 : decide ((B : Int) ≤ (n : Int)) = false := decide_eq_false lB
      clear hAt hG hS HIN hB
      go_wp2_with fail
      refine HC.mono ?_
      rintro x w1 ⟨rfl, H, k1, k2, k3⟩
      have H0 : Hid (∃ G, At sp g n f w G w1 ∧ Ec.Blks 20 n G) := ⟨H, k1, HFD.out H k2 k3⟩
      clear k1 k2 k3 HFD HC lB lB2 hlt
      go_wp2_with fail
      go_loopw [6] (fun vb wr => ∃ bs : Nat, 0 < bs ∧ bs ≤ 2 * n + 20 ∧ vb = .int .i64 bs ∧ Hid (∃ G, At sp g n f w G wr ∧ Ec.Blks bs n G)) (fun vb _ => n - (intOf vb).toNat)
      case atStart => exact ⟨20, by omega, by omega, rfl, H0⟩
      case round =>
        obtain ⟨bs, pb, ub, rfl, hX⟩ := hrel
        clear H0
        by_cases hbn : bs < n
        · obtain ⟨D, hD⟩ : ∃ D, D = 2 * bs := ⟨_, rfl⟩
          have eD : IntKind.i64.wrap (2 * (bs : Int)) = (D : Int) := by rw [wraps_i64 _ (by omega) (by omega)]; omega
          have eD2 : IntKind.i64.wrap ((bs : Int) * 2) = (D : Int) := by rw [wraps_i64 _ (by omega) (by omega)]; omega
          have hbn2 : (bs : Int) < (n : Int) := by omega
          have HDD : Hid (D = 2 * bs) := hD
          have uD : D ≤ 8796093022208 := by omega
          have uD2 : D ≤ 2 * n := by omega
          have pD : bs < D := by omega
          have HX : Hid (∃ G, At sp g n f w G wr ∧ Ec.Blks bs n G) := hX
          clear hX hD
          go_wp2_with fail
          go_loopw [7, 8] (fun va vb wi => ∃ A B : Nat, B = A + D ∧ A ≤ n ∧ va = .int .i64 A ∧ vb = .int .i64 B ∧ Hid (∃ t G, A = t * (2 * bs) ∧ At sp g n f w G wi ∧ Ec.Half bs n t G)) (fun va _ _ => n - (intOf va).toNat)
          case atStart =>
            obtain ⟨G, k1, k2⟩ := HX.out
            exact ⟨0, D, by omega, by omega, rfl, rfl, 0, G, by omega, k1, Ec.half_start k2⟩
          case round =>
            obtain ⟨A, B, hB, lA, rfl, rfl, hY⟩ := hrel
            obtain ⟨t, G, hAt, hG, hH⟩ := hY.out
            clear hY HX
            obtain ⟨s1, s2⟩ := Ec.half_parts hH hAt
            obtain ⟨M, hM⟩ : ∃ M, M = A + bs := ⟨_, rfl⟩
            have wM : IntKind.i64.wrap ((A : Int) + (bs : Int)) = (M : Int) := by rw [wraps_i64 _ (by omega) (by omega)]; omega
            have hDD := HDD.out
            by_cases hlt : B ≤ n
            · have HC := HME.out A M B G wr hG (by omega) (by omega) hlt (s1.sub (Nat.le_refl _) (by omega)) (s2.sub (by omega) (by omega))
              obtain ⟨B2, hB2⟩ : ∃ B2, B2 = B + D := ⟨_, rfl⟩
              have wB : IntKind.i64.wrap ((B : Int) + (D : Int)) = (B2 : Int) := by rw [wraps_i64 _ (by omega) (by omega)]; omega
              have lB : (B : Int) ≤ (n : Int) := by omega
              have HST : Hid (∀ H, Ec.Pm A B G H → Ec.SIn A B H → B = (t + 1) * (2 * bs) ∧ Ec.Half bs n (t + 1) H) := fun H k1 k2 => by
                have e : B = A + 2 * bs := by omega
                rw [e] at k1 k2
                refine ⟨?_, Ec.half_step hH hAt k1 k2⟩
                rw [Nat.add_mul, Nat.one_mul, ← hAt]; exact e
              have HB2 : Hid (B2 = B + D) := hB2
              have hAB : A < B := by omega
              clear hAt hG hH s1 s2 hM hDD HME hB2 hB
              go_wp2_with fail
              refine HC.mono ?_
              rintro x w2 ⟨rfl, H, k1, k2, k3⟩
              have HF : Hid (∃ t G, B = t * (2 * bs) ∧ At sp g n f w G w2 ∧ Ec.Half bs n t G) := ⟨t + 1, H, (HST.out H k2 k3).1, k1, (HST.out H k2 k3).2⟩
              clear k1 k2 k3 HST HC
              go_wp2_with fail
              exact ⟨⟨B, B2, HB2.out, hlt, rfl, rfl, HF⟩, by simp [intOf]; omega⟩
            · have lB : decide ((B : Int) ≤ (n : Int)) = false := decide_eq_false (by omega)
              have lB0 : ¬ (B : Int) ≤ (n : Int) := by omega
              have HFD : Hid (∀ H, Ec.Pm A n G H → Ec.SIn A n H → Ec.Blks D n H) := fun H k1 k2 => by rw [hDD]; exact Ec.half_done hH hAt (by omega) k1 k2
              by_cases hmn : M < n
              · have HC := HME.out A M n G wr hG (by omega) hmn (Nat.le_refl _) (s1.sub (Nat.le_refl _) (by omega)) (s2.sub (by omega) (by omega))
                have hmn2 : (M : Int) < (n : Int) := by omega
                clear hAt hG hH s1 s2 hM hDD HME hB hlt
                go_wp2_with fail
                refine HC.mono ?_
                rintro x w2 ⟨rfl, H, k1, k2, k3⟩
                have HF : Hid (∃ G, At sp g n f w G w2 ∧ Ec.Blks D n G) := ⟨H, k1, HFD.out H k2 k3⟩
                clear k1 k2 k3 HFD HC
                go_wp2_with fail
                exact ⟨⟨D, by omega, by omega, rfl, HF⟩, by simp [intOf]; omega⟩
              · have HF : Hid (∃ G, At sp g n f w G wr ∧ Ec.Blks D n G) := ⟨G, hG, HFD.out G Ec.Pm.refl (s1.sub (Nat.le_refl _) (by omega))⟩
                have hmn2 : decide ((M : Int) < (n : Int)) = false := decide_eq_false (by omega)
                have hmn3 : ¬ (M : Int) < (n : Int) := by omega
                clear hAt hG hH s1 s2 hM hDD HME hB hlt HFD
                go_wp2_with fail
                exact ⟨⟨D, by omega, by omega, rfl, HF⟩, by simp [intOf]; omega⟩
        · have HF : Hid (∃ G, At sp g n f w G wr ∧ Ec.SIn 0 n G) := by
            obtain ⟨G, k1, k2⟩ := hX.out
            exact ⟨G, k1, Ec.blks_all k2 (by omega)⟩
          have hbn2 : decide ((bs : Int) < (n : Int)) = false := decide_eq_false (by omega)
          have hbn3 : ¬ (bs : Int) < (n : Int) := by omega
          clear hX HME
          go_wp2_with fail
          exact bodyPost_end (results_none Tryz.results71 _ _ _) rfl ⟨rfl, HF.out⟩
end Es
end Go.Proofs.YtcbpafpaimpfnaaGreatDoor

namespace Go.Proofs.YtcbpafpaimpfnaaGreatDoor
open Go.RowKit
open Pl (Br Net Pc Lk En St)

instance : Inhabited En := ⟨⟨0, 0, 0, 0, false⟩⟩
/-- An end's five cells. -/
def encE (e : En) : List Value := [.int .i64 e.port, .int .i64 e.cost, .int .i64 e.other, .int .i64 e.oport, .bool e.live]
/-- A list of ends lies in a row. -/
abbrev EL (l : List En) (j : Nat) : En := l.getD j default
namespace Es
/-- At no end nothing turns. -/
theorem eins_none (fv : Value) (w : World) : Calls Tryz.prog 84 #[.slice none 0 0, .int .i64 0, .int .i64 0, fv] w fun e w' => e = .returned (.tuple #[]) ∧ w' = w := by
  go_enter Tryz.func84, Tryz.ntmps84
  go_wp2
  refine wp_loop_rounds 1 ?_
  rw [rounds_succ]
  go_wp2
  go_end0
  exact ⟨rfl, rfl⟩
theorem estable_none (fv : Value) (w : World) : Calls Tryz.prog 71 #[.slice none 0 0, .int .i64 0, fv] w fun e w' => e = .returned (.tuple #[]) ∧ w' = w := by
  have hi := fun W => eins_none fv W
  go_enter Tryz.func71, Tryz.ntmps71
  go_wp2
  refine wp_loop_rounds 1 ?_
  rw [rounds_succ]
  go_wp2_with (go_at_call 84; refine (hi _).mono ?_; rintro e w' ⟨rfl, rfl⟩)
  refine wp_loop_rounds 1 ?_
  rw [rounds_succ]
  go_wp2
  go_end0
  exact ⟨rfl, rfl⟩
theorem esort_none (fv : Value) (w : World) : Calls Tryz.prog 55 #[.slice none 0 0, fv] w fun e w' => e = .returned (.tuple #[]) ∧ w' = w := by
  have hp := fun W => estable_none fv W
  go_enter Tryz.func55, Tryz.ntmps55
  go_wp2_with (go_at_call 71; refine (hp _).mono ?_; rintro e w' ⟨rfl, rfl⟩)
  go_end0
  exact ⟨rfl, rfl⟩
set_option maxHeartbeats 1000000 in
theorem ssort_any (sp : Array Value) (g n cap : Nat) (f : Nat → En) (w : World) (hA : w.heap[g]? = some (.cells (rowE sp n f) 111 (0, 0))) (hn : n ≤ 4398046511104) :
    Calls Tryz.prog 55 #[.slice (some ⟨g, 0, none⟩) n cap, .func (.func 56) #[] #[]] w fun x w' => x = .returned (.tuple #[]) ∧ ∃ G, At sp g n f w G w' ∧ Ec.SIn 0 n G := by
  have HC : Hid (Calls Tryz.prog 71 #[.slice (some ⟨g, 0, none⟩) n cap, .int .i64 n, .func (.func 56) #[] #[]] w fun x w' => x = .returned (.tuple #[]) ∧ ∃ G, At sp g n f w G w' ∧ Ec.SIn 0 n G) := sstable_any sp g n cap f w hA hn
  clear hA
  go_enter Tryz.func55, Tryz.ntmps55
  go_wp2_with fail
  refine HC.out.mono ?_
  rintro x w1 ⟨rfl, hG⟩
  have HF : Hid (∃ G, At sp g n f w G w1 ∧ Ec.SIn 0 n G) := hG
  clear hG
  go_wp2_with fail
  exact bodyPost_end (results_none Tryz.results55 _ _ _) rfl ⟨rfl, HF.out⟩
end Es
theorem listOf_EL (l : List En) : Ec.listOf l.length (EL l) = l := by
  unfold Ec.listOf
  apply List.ext_getElem
  · simp
  · intro i h1 h2
    simp [EL, List.getD, List.getElem?_eq_getElem h2]
set_option maxHeartbeats 1000000 in
/-- THE SORT. -/
theorem psort_any (base : Nat) (v : Value) (l : List En) (w : World) (hl : l.length ≤ 1000) (ho : w.ownsRow base 111 5 v l.length (cellsL l.length 5 (fun j => enC (EL l j)))) :
    Calls Tryz.prog 55 #[v, .func (.func 56) #[] #[]] w fun e w' => e = .returned (.tuple #[]) ∧ ∃ l' : List En, l'.Perm l ∧ l'.Pairwise (fun x y => ¬ y.port < x.port) ∧ (∃ ao cap, v = .slice ao l'.length cap ∧ ERow w' ao l'.length cap (EL l')) ∧ w.grownBy w' v.ownBlock ∧ ∀ q, v.ownBlock = some q → ∃ cur, w'.heap[q]? = some (.cells cur 111 (0, 0)) := by
  obtain ⟨_, h2⟩ := ho
  rcases h2 with ⟨rfl, h0⟩ | ⟨g, cap, cur, rfl, hg, hh, hn, hm, hs, hx⟩
  · have e0 : l = [] := List.eq_nil_of_length_eq_zero h0
    subst e0
    refine (Es.esort_none (.func (.func 56) #[] #[]) w).mono ?_
    rintro e w' ⟨rfl, rfl⟩
    exact ⟨rfl, [], List.Perm.refl _, List.Pairwise.nil, ⟨none, 0, rfl, CRow.none _ _ _ _ _⟩, ⟨rfl, rfl, rfl, Nat.le_refl _, fun _ _ _ => rfl⟩, fun q hq => by simp [Value.ownBlock] at hq⟩
  · have e1 : cur = Es.rowE (cur.toList.drop (l.length * 5)).toArray l.length (EL l) := by
      apply Array.ext'
      unfold Es.rowE rowC
      rw [Array.toList_append]
      simp only
      rw [← hx, List.take_append_drop]
    rw [e1] at hh
    refine (Es.ssort_any _ g l.length cap (EL l) w hh (by omega)).mono ?_
    rintro e w' ⟨rfl, G, ⟨h1, h2, h3⟩, hS⟩
    have hp := h2.perm l.length (Nat.le_refl _)
    rw [listOf_EL] at hp
    have hlen : (Ec.listOf l.length G).length = l.length := by simp [Ec.listOf]
    have hget : ∀ i, i < l.length → EL (Ec.listOf l.length G) i = G i := fun i hi => by
      simp [EL, Ec.listOf, List.getD, hi]
    refine ⟨rfl, Ec.listOf l.length G, hp, ?_, ⟨_, cap, by rw [hlen], ?_⟩, h3, fun q hq => by simp [Value.ownBlock] at hq; subst hq; exact ⟨_, h1⟩⟩
    · rw [List.pairwise_iff_getElem]
      intro i j hi hj hij
      have := hS i j (Nat.zero_le _) hij (by rw [← hlen]; exact hj)
      simpa [Ec.listOf, Ec.lt] using this
    · rw [hlen]
      refine ⟨hn, fun _ => ⟨g, 0, rfl, (Array.getElem?_eq_some_iff.1 h1).1, fun i hi j hj => ?_⟩⟩
      rw [Nat.zero_add]
      show _ = some (enC (EL (Ec.listOf l.length G) i) j)
      rw [hget i hi]
      exact (cell_of_row w' g _ _ _ _ h1).trans (Es.rowE_get _ _ G i j hi hj)
end Go.Proofs.YtcbpafpaimpfnaaGreatDoor

namespace Go.Proofs.YtcbpafpaimpfnaaGreatDoor
open Go.RowKit
open Pl (Br Net Pc Lk En St)

theorem infoE : (Tryz.prog.info? 111).map (fun i => (i.zero, i.size, i.bytes)) = some (some (.agg #[.int .i64 0, .int .i64 0, .int .i64 0, .int .i64 0, .bool false]), 5, 40) := by kernel_rfl
theorem infoEs : (Tryz.prog.info? 79).map (fun i => (i.zero, i.size, i.bytes)) = some (some (.slice none 0 0), 1, 24) := by kernel_rfl
/-- The cells of a row of ends. -/
abbrev eCells (l : List En) : List Value := cellsL l.length 5 (fun j => enC (EL l j))
theorem eCells_snoc (l : List En) (e : En) : eCells l ++ encE e = eCells (l ++ [e]) := by
  have h1 : encE e = cellsL 1 5 (fun _ => enC e) := by
    simp [encE, cellsL, enC, List.range_succ]
  unfold eCells
  rw [h1, cellsL_cat _ _ _ (by omega), List.length_append]
  apply cellsL_congr
  intro i hi
  simp only [catC]
  by_cases q : i < l.length
  · rw [if_pos q]
    simp [EL, List.getD, List.getElem?_append_left q]
  · rw [if_neg q]
    obtain rfl : i = l.length := by omega
    simp [EL, List.getD]
/-- The ends by bridges, while they are gathered. -/
structure EnAt (w : World) (G K : Nat) (v : Nat → Value) (L : Nat → List En) : Prop where
  blk : w.heap[G]? = some (.cells (rowC K 1 (fun i _ => v i)) 79 (0, 0))
  own : ∀ i, i < K → w.ownsRow (G + 1) 111 5 (v i) (L i).length (eCells (L i))
  apart : ∀ i j, i < K → j < K → i ≠ j → ∀ q, (v i).ownBlock = some q → (v j).ownBlock ≠ some q
theorem EnAt.below {w w' : World} {G K : Nat} {v : Nat → Value} {L : Nat → List En} (h : EnAt w G K v L) (hb : Below w.heap.size w w') : EnAt w' G K v L :=
  ⟨keep h.blk hb, fun i hi => ownsC_below (h.own i hi) hb, h.apart⟩
theorem grown_owns {w w' : World} {base n : Nat} {v : Value} {xs : List Value} {r : Option Nat} (h : w.ownsRow base 111 5 v n xs) (hg : w.grownBy w' r) (hne : ∀ q, v.ownBlock = some q → r ≠ some q) : w'.ownsRow base 111 5 v n xs := by
  refine h.kept hg ?_
  cases hv : v.ownBlock with
  | none => exact Or.inl rfl
  | some q => exact Or.inr (fun e => hne q hv e.symm)
set_option maxHeartbeats 1000000 in
/-- ONE END MORE at bridge i: what 'append' does, and the store behind it. -/
theorem en_append {Z : World} {G K : Nat} {v : Nat → Value} {L : Nat → List En} (hE : EnAt Z G K v L) (i : Nat) (hi : i < K) (e : En) (hlen : (L i).length ≤ 1000) :
    ∃ v' w2, (Builtin.append_ #[79, 79] 79 #[v i, .slice (some ⟨Z.heap.size, 0, none⟩) 1 1]).run Tryz.prog (Z.drew.alloc (.cells #[.int .i64 e.port, .int .i64 e.cost, .int .i64 e.other, .int .i64 e.oport, .bool e.live] 111)) = .ok v' w2 ∧
      w2.cell? ⟨G, i, none⟩ = some (v i) ∧ w2.frozen? ⟨G, i, none⟩ = false ∧ EnAt (w2.setCell ⟨G, i, none⟩ v') G K (fun j => if j = i then v' else v j) (fun j => if j = i then L i ++ [e] else L j) ∧
      Below G Z (w2.setCell ⟨G, i, none⟩ v') ∧ (v'.ownBlock = (v i).ownBlock ∨ v'.ownBlock = some (Z.heap.size + 1)) ∧ (∀ q, q < Z.heap.size → (v i).ownBlock ≠ some q → w2.heap[q]? = Z.heap[q]?) ∧ Z.heap.size ≤ w2.heap.size := by
  obtain ⟨i0, hi0, hz0, hz1, hz2⟩ := info_parts infoE
  have hGl : G < Z.heap.size := (Array.getElem?_eq_some_iff.1 hE.blk).1
  obtain ⟨C, hC⟩ : ∃ C, C = Z.drew.alloc (.cells #[.int .i64 e.port, .int .i64 e.cost, .int .i64 e.other, .int .i64 e.oport, .bool e.live] 111) := ⟨_, rfl⟩
  have hCb : Below Z.heap.size Z C := by rw [hC]; exact (Below.drew (Below.refl _ _)).alloc (Nat.le_refl _) _
  have hCs : C.heap.size = Z.heap.size + 1 := by rw [hC]; simp
  have hCl : C.heap[Z.heap.size]? = some (.cells #[.int .i64 e.port, .int .i64 e.cost, .int .i64 e.other, .int .i64 e.oport, .bool e.live] 111 (0, 0)) := by rw [hC]; exact heap_alloc_last Z.drew _
  have hEC := hE.below hCb
  have hsrc : ∀ j u, (encE e)[j]? = some u → C.cell? ((⟨Z.heap.size, 0, none⟩ : Addr).add j) = some u := by
    intro j u hj
    have hl : j < 5 := by
      have := (List.getElem?_eq_some_iff.1 hj).1
      simpa [encE] using this
    rw [add_row, Nat.zero_add]
    rcases (by omega : j = 0 ∨ j = 1 ∨ j = 2 ∨ j = 3 ∨ j = 4) with q | q | q | q | q <;> subst q <;> (have := cell_of_row C Z.heap.size 0 _ _ _ hCl; simp [encE] at hj; subst hj; exact cell_of_row C Z.heap.size _ _ _ _ hCl)
  obtain ⟨v', w2, hrun, h1, h2, _, h3⟩ := run_append_own_at (P := Tryz.prog) C (G + 1) 79 79 111 i0 _ 5 40 Tryz.underlying79 hi0 hz0 hz1 hz2 rfl (by omega) (v i) (L i).length (eCells (L i)) (hEC.own i hi) ⟨Z.heap.size, 0, none⟩ 1 1 (encE e) rfl hsrc (fun u hu => by simp [encE] at hu; rcases hu with rfl | rfl | rfl | rfl | rfl <;> rfl) (by unfold maxLen; omega) (by omega) (by omega)
  rw [eCells_snoc] at h1
  have hG1 : (v i).ownBlock ≠ some G := fun q => by have := (ownsC_block (hEC.own i hi) G q).1; omega
  have hw2G : w2.heap[G]? = some (.cells (rowC K 1 (fun i _ => v i)) 79 (0, 0)) := (h2.block G (by omega) (fun q => hG1 q.symm)).trans hEC.blk
  have hsame : ∀ q, q < C.heap.size → (v i).ownBlock ≠ some q → w2.heap[q]? = C.heap[q]? := fun q hq hne => h2.block q hq (fun p => hne p.symm)
  have hv'G : v'.ownBlock ≠ some G := fun q => by rcases h3 with h3 | h3 <;> rw [h3] at q; exact hG1 q; injection q with q; omega
  have eC : (⟨G, i, none⟩ : Addr) = ⟨G, i * 1 + 0, none⟩ := by simp
  have oth : ∀ q, q ≠ G → (w2.setCell ⟨G, i, none⟩ v').heap[q]? = w2.heap[q]? := fun q hq => heap_setCell_other _ _ _ _ (by exact hq)
  have hgs : w2.grownBy (w2.setCell ⟨G, i, none⟩ v') (some G) := ⟨by first | rfl | simp, by first | rfl | simp, by first | rfl | simp, by first | exact Nat.le_refl _ | simp, fun q _ hne => oth q (fun p => hne (by rw [p]))⟩
  refine ⟨v', w2, by rw [← hC]; exact hrun, ?_, frozen_of_row _ _ _ _ _ hw2G, ⟨?_, fun j hj => ?_, fun j k hj hk hjk q hq => ?_⟩, ?_, ?_, fun q hq hne => ?_, ?_⟩
  · rw [eC]; exact rowC_cell hw2G hi (by omega)
  · rw [eC, rowC_set hw2G hi (by omega), rowC_congr2 (d := fun j _ => if j = i then v' else v j) (fun j _ m hm => by
      unfold updC
      by_cases q : j = i
      · rw [if_pos ⟨q, by omega⟩, if_pos q]
      · rw [if_neg (fun p => q p.1), if_neg q])]
  · by_cases q : j = i
    · subst q
      simp only [if_true]
      rw [List.length_append]
      exact grown_owns h1 hgs (fun q hq p => hv'G (by rw [hq]; exact p.symm))
    · simp only [if_neg q]
      refine grown_owns (grown_owns (hEC.own j hj) h2 (fun p hp r => hE.apart j i hj hi q p hp r)) hgs (fun p hp r => ?_)
      have := (ownsC_block (hEC.own j hj) p hp).1
      injection r with r
      omega
  · by_cases c1 : j = i <;> by_cases c2 : k = i
    · exact absurd (c1.trans c2.symm) hjk
    · simp only [if_pos c1] at hq
      simp only [if_neg c2]
      intro r
      rcases h3 with h3 | h3
      · exact hE.apart i k hi hk (fun p => c2 p.symm) q (by rw [← h3]; exact hq) r
      · have := (ownsC_block (hE.own k hk) q r).2
        rw [h3] at hq
        injection hq with hq
        omega
    · simp only [if_neg c1] at hq
      simp only [if_pos c2]
      intro r
      rcases h3 with h3 | h3
      · exact hE.apart j i hj hi c1 q hq (by rw [← h3]; exact r)
      · have := (ownsC_block (hE.own j hj) q hq).2
        rw [h3] at r
        injection r with r
        omega
    · simp only [if_neg c1] at hq
      simp only [if_neg c2]
      exact hE.apart j k hj hk hjk q hq
  · have b1 : Below G Z C := hCb.mono (Nat.le_of_lt hGl)
    have b2 : Below G C w2 := (Below.refl _ _).grown h2 (by omega) (fun q hq => by have := (ownsC_block (hEC.own i hi) q hq).1; omega)
    exact (b1.trans b2).setCell (Nat.le_refl _) _
  · rcases h3 with h3 | h3
    · exact Or.inl h3
    · exact Or.inr (by rw [h3, hCs])
  · rw [hsame q (by omega) hne]
    exact hCb.block q hq
  · have := h2.size; omega
/-- The ends by bridges, as they lie in the end. -/
structure EndsOk (w : World) (G K : Nat) (v : Nat → Value) (E : Nat → List En) : Prop where
  blk : w.heap[G]? = some (.cells (rowC K 1 (fun i _ => v i)) 79 (0, 0))
  row : ∀ i, i < K → ∃ ao cap, v i = .slice ao (E i).length cap ∧ ERow w ao (E i).length cap (EL (E i))
  ty : ∀ i, i < K → ∀ q, (v i).ownBlock = some q → ∃ cur, w.heap[q]? = some (.cells cur 111 (0, 0))
theorem EndsOk.below {w w' : World} {G K : Nat} {v : Nat → Value} {E : Nat → List En} (h : EndsOk w G K v E) (hb : Below w.heap.size w w') : EndsOk w' G K v E :=
  ⟨keep h.blk hb, fun i hi => by
    obtain ⟨ao, cap, e, h1⟩ := h.row i hi
    exact ⟨ao, cap, e, CRow.below h1 hb⟩, fun i hi q hq => by
    obtain ⟨cur, hc⟩ := h.ty i hi q hq
    exact ⟨cur, keep hc hb⟩⟩
/-- .. while they are being sorted: the first k are. -/
structure SrtAt (w : World) (G K : Nat) (v : Nat → Value) (L E : Nat → List En) (k : Nat) : Prop where
  blk : w.heap[G]? = some (.cells (rowC K 1 (fun i _ => v i)) 79 (0, 0))
  own : ∀ i, i < K → k ≤ i → w.ownsRow (G + 1) 111 5 (v i) (L i).length (eCells (L i))
  row : ∀ i, i < k → ∃ ao cap, v i = .slice ao (E i).length cap ∧ ERow w ao (E i).length cap (EL (E i))
  ty : ∀ i, i < k → ∀ q, (v i).ownBlock = some q → ∃ cur, w.heap[q]? = some (.cells cur 111 (0, 0))
  apart : ∀ i j, i < K → j < K → i ≠ j → ∀ q, (v i).ownBlock = some q → (v j).ownBlock ≠ some q
theorem srt_next {w w' : World} {G K : Nat} {v : Nat → Value} {L E : Nat → List En} {k : Nat} (h : SrtAt w G K v L E k) (hk : k < K) (hg : w.grownBy w' (v k).ownBlock) (hr : ∃ ao cap, v k = .slice ao (E k).length cap ∧ ERow w' ao (E k).length cap (EL (E k))) (hty : ∀ q, (v k).ownBlock = some q → ∃ cur, w'.heap[q]? = some (.cells cur 111 (0, 0))) : SrtAt w' G K v L E (k + 1) := by
  have hGl : G < w.heap.size := (Array.getElem?_eq_some_iff.1 h.blk).1
  have hG1 : (v k).ownBlock ≠ some G := fun q => by have := (ownsC_block (h.own k hk (Nat.le_refl _)) G q).1; omega
  refine ⟨(hg.block G hGl (fun q => hG1 q.symm)).trans h.blk, fun i hi hki => grown_owns (h.own i hi (by omega)) hg (fun q hq p => h.apart i k hi hk (by omega) q hq p), fun i hi => ?_, fun i hi q hq => ?_, h.apart⟩
  rotate_left
  · by_cases e : i = k
    · subst e; exact hty q hq
    · obtain ⟨cur, hc⟩ := h.ty i (by omega) q hq
      exact ⟨cur, (hg.block q (Array.getElem?_eq_some_iff.1 hc).1 (fun p => h.apart i k (by omega) hk e q hq p.symm)).trans hc⟩
  by_cases e : i = k
  · subst e; exact hr
  · obtain ⟨ao, cap, e1, h1⟩ := h.row i (by omega)
    refine ⟨ao, cap, e1, CRow.other h1 (fun b off hb hlt => hg.block b hlt (fun q => ?_)) hg.size⟩
    subst hb
    exact h.apart i k (by omega) hk e b (by rw [e1]; rfl) q.symm
end Go.Proofs.YtcbpafpaimpfnaaGreatDoor
