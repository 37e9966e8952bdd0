/- What Sorted comes to: plain functions. -/
import Derived.Test.YthnklbcaodhbfaaVMd
namespace Go.Proofs.Ythnklbcaodhbfaa
namespace Vc
theorem spot_behind (v : V) (xs : Nat → V) : ∀ m j, spot v xs m ≤ j → j < m → lt v (xs j)
  | 0, j, _, h => by omega
  | k + 1, j, h, hj => by
    simp only [spot] at h
    by_cases c : lt v (xs k)
    · rw [if_pos c] at h
      by_cases e : j = k
      · subst e; exact c
      · exact spot_behind v xs k j h (by omega)
    · rw [if_neg c] at h; omega
theorem spot_ahead (v : V) (xs : Nat → V) : ∀ m, 0 < spot v xs m → ¬ lt v (xs (spot v xs m - 1))
  | 0, h => by simp [spot] at h
  | k + 1, h => by
    simp only [spot] at h ⊢
    by_cases c : lt v (xs k)
    · rw [if_pos c] at h ⊢; exact spot_ahead v xs k h
    · rw [if_neg c]; exact c
/-- v put in. -/
def ins (v : V) (m : Nat) (xs : Nat → V) (i : Nat) : V := if i < spot v xs m then xs i else if i = spot v xs m then v else xs (i - 1)
def srt (vs : Nat → V) : Nat → Nat → V
  | 0 => fun _ => v0
  | k + 1 => ins (vs k) k (srt vs k)
def SortedF (n : Nat) (f : Nat → V) : Prop := ∀ i j, i < j → j < n → ¬ lt (f j) (f i)
theorem not_lt_trans {a b c : V} (h : ¬ lt b a) (k : ¬ lt c b) : ¬ lt c a := by
  intro q
  rcases lt_total b c with e | e | e
  · exact h (lt_trans e q)
  · subst e; exact h q
  · exact k e
theorem ins_sorted (v : V) (m : Nat) (xs : Nat → V) (h : SortedF m xs) : SortedF (m + 1) (ins v m xs) := by
  have hp := spot_le v xs m
  have hb := spot_behind v xs m
  have ha : ∀ i, i < spot v xs m → ¬ lt v (xs i) := by
    intro i hi
    have h1 := spot_ahead v xs m (by omega)
    by_cases e : i = spot v xs m - 1
    · subst e; exact h1
    · exact not_lt_trans (h i (spot v xs m - 1) (by omega) (by omega)) h1
  intro i j hij hj
  unfold ins
  generalize spot v xs m = p at *
  by_cases j1 : j < p
  · rw [if_pos j1, if_pos (by omega)]; exact h i j hij (by omega)
  · rw [if_neg j1]
    by_cases j2 : j = p
    · rw [if_pos j2, if_pos (by omega)]; exact ha i (by omega)
    · rw [if_neg j2]
      by_cases i1 : i < p
      · rw [if_pos i1]; exact h i (j - 1) (by omega) (by omega)
      · rw [if_neg i1]
        by_cases i2 : i = p
        · rw [if_pos i2]; exact lt_asymm (hb (j - 1) (by omega) (by omega))
        · rw [if_neg i2]; exact h (i - 1) (j - 1) (by omega) (by omega)
theorem srt_sorted (vs : Nat → V) : ∀ n, SortedF n (srt vs n)
  | 0 => fun i j _ h => by omega
  | k + 1 => ins_sorted _ k _ (srt_sorted vs k)
def listOf (n : Nat) (f : Nat → V) : List V := (List.range n).map f
theorem listOf_succ (n : Nat) (f : Nat → V) : listOf (n + 1) f = listOf n f ++ [f n] := by simp [listOf, List.range_succ]
theorem listOf_congr {n : Nat} {f g : Nat → V} (h : ∀ i, i < n → f i = g i) : listOf n f = listOf n g := by
  unfold listOf
  exact List.map_congr_left fun i hi => h i (List.mem_range.1 hi)
theorem listOf_eq {n : Nat} {f g : Nat → V} (h : listOf n f = listOf n g) : ∀ i, i < n → f i = g i := by
  intro i hi
  have := congrArg (·[i]?) h
  simpa [listOf, hi] using this
/-- It is put in: nothing else is there. -/
theorem ins_perm (v : V) (xs : Nat → V) : ∀ m, (listOf (m + 1) (ins v m xs)).Perm (v :: listOf m xs) := by
  intro m
  have hp := spot_le v xs m
  have key : ∀ k, (k ≤ spot v xs m → listOf k (ins v m xs) = listOf k xs) ∧ (spot v xs m ≤ k → (listOf (k + 1) (ins v m xs)).Perm (v :: listOf k xs)) := by
    intro k
    induction k with
    | zero =>
      refine ⟨fun _ => rfl, fun h => ?_⟩
      have e : ins v m xs 0 = v := by unfold ins; rw [if_neg (by omega), if_pos (by omega)]
      simp [listOf, e]
    | succ k ih =>
      refine ⟨fun h => ?_, fun h => ?_⟩
      · rw [listOf_succ, listOf_succ, ih.1 (by omega)]
        have e : ins v m xs k = xs k := by unfold ins; rw [if_pos (by omega)]
        rw [e]
      · by_cases e : spot v xs m = k + 1
        · have e1 : listOf (k + 1) (ins v m xs) = listOf (k + 1) xs := by
            rw [listOf_succ, listOf_succ, ih.1 (by omega)]
            have e : ins v m xs k = xs k := by unfold ins; rw [if_pos (by omega)]
            rw [e]
          have e2 : ins v m xs (k + 1) = v := by unfold ins; rw [if_neg (by omega), if_pos (by omega)]
          rw [listOf_succ (k + 1), e1, e2]
          exact List.perm_append_comm (l₁ := listOf (k + 1) xs) (l₂ := [v])
        · have e2 : ins v m xs (k + 1) = xs k := by unfold ins; rw [if_neg (by omega), if_neg (by omega)]; rfl
          rw [listOf_succ (k + 1), e2, listOf_succ k xs]
          exact (ih.2 (by omega)).append_right [xs k]
  exact (key m).2 hp
theorem srt_perm (vs : Nat → V) : ∀ n, (listOf n (srt vs n)).Perm (listOf n vs)
  | 0 => List.Perm.refl _
  | k + 1 => by
    rw [listOf_succ k vs]
    exact ((ins_perm (vs k) (srt vs k) k).trans ((srt_perm vs k).cons (vs k))).trans (List.perm_append_comm (l₁ := [vs k]) (l₂ := listOf k vs))
theorem sorted_of : ∀ (l : List V), (∀ i j (hi : i < l.length) (hj : j < l.length), i < j → ¬ lt l[j] l[i]) → Sorted l
  | [], _ => trivial
  | a :: l, h => by
    refine ⟨fun b hb => ?_, sorted_of l fun i j hi hj hij => ?_⟩
    · obtain ⟨j, hj, rfl⟩ := List.getElem_of_mem hb
      exact h 0 (j + 1) (by simp) (by simpa using hj) (by omega)
    · exact h (i + 1) (j + 1) (by simpa using hi) (by simpa using hj) (by omega)
theorem sortedF_list {n : Nat} {f : Nat → V} (h : SortedF n f) : Sorted (listOf n f) := by
  refine sorted_of _ fun i j hi hj hij => ?_
  simp only [listOf, List.length_map, List.length_range] at hi hj
  simpa [listOf] using h i j hij hj
/-- ONE WAY TO SORT. -/
theorem sorted_same {n : Nat} {f g vs : Nat → V} (hf : SortedF n f) (pf : (listOf n f).Perm (listOf n vs)) (hg : SortedF n g) (pg : (listOf n g).Perm (listOf n vs)) : ∀ i, i < n → f i = g i :=
  listOf_eq (sorted_unique (sortedF_list hf) (sortedF_list hg) (pf.trans pg.symm))
end Vc
end Go.Proofs.Ythnklbcaodhbfaa
