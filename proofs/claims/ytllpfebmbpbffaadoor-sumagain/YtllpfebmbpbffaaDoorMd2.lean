/- What md5's functions come to: plain functions, second part. -/
import Derived.Test.YtllpfebmbpbffaaDoorMd
import Derived.Laws.CopyOwn
namespace Go.Proofs.YtllpfebmbpbffaaDoor
namespace Md
/-- A row of n bytes, f's. -/
def rowF (n : Nat) (f : Nat → Int) : Array Value := ((List.range n).map fun i => Value.int .u8 (f i)).toArray
theorem rowF_size (n : Nat) (f : Nat → Int) : (rowF n f).size = n := by simp [rowF]
theorem rowF_get (n : Nat) (f : Nat → Int) (j : Nat) (h : j < n) : (rowF n f)[j]? = some (.int .u8 (f j)) := by simp [rowF, h]
theorem rowF_set (n : Nat) (f : Nat → Int) (k : Nat) (v : Int) (h : k < n) : (rowF n f).setIfInBounds k (.int .u8 v) = rowF n (fun i => if i = k then v else f i) := by
  apply Array.ext_getElem?
  intro i
  by_cases hi : i < n
  · rw [rowF_get n _ i hi, Array.getElem?_setIfInBounds]
    by_cases e : k = i
    · subst e; simp [rowF_size, h]
    · rw [if_neg e, rowF_get n f i hi, if_neg (fun h => e h.symm)]
  · rw [Array.getElem?_eq_none (by simp [rowF_size]; omega), Array.getElem?_eq_none (by simp [rowF_size]; omega)]
theorem rowF_congr (n : Nat) (f g : Nat → Int) (h : ∀ i, i < n → f i = g i) : rowF n f = rowF n g := by
  unfold rowF
  congr 1
  apply List.map_congr_left
  intro i hi
  rw [h i (by simpa using hi)]
theorem rowF_all (n : Nat) (f : Nat → Int) : (rowF n f).all (·.oneCell') = true := by
  rw [Array.all_eq_true_iff_forall_mem]
  intro v hv
  simp [rowF] at hv
  obtain ⟨i, _, rfl⟩ := hv
  rfl
def bytesL (n : Nat) (f : Nat → Int) : List Value := (List.range n).map fun i => Value.int .u8 (f i)
theorem bytesL_length (n : Nat) (f : Nat → Int) : (bytesL n f).length = n := by simp [bytesL]
theorem bytesL_get (n : Nat) (f : Nat → Int) (j : Nat) (v : Value) (h : (bytesL n f)[j]? = some v) : j < n ∧ v = .int .u8 (f j) := by
  have hj : j < n := by
    have := (List.getElem?_eq_some_iff.1 h).1
    simpa [bytesL] using this
  refine ⟨hj, ?_⟩
  simp [bytesL, hj] at h
  exact h.symm
theorem bytesL_one (n : Nat) (f : Nat → Int) : ∀ v ∈ bytesL n f, v.oneCell' = true := by
  intro v hv
  simp [bytesL] at hv
  obtain ⟨i, _, rfl⟩ := hv
  rfl
/-- n bytes laid over the head of a row of m noughts. -/
theorem splice_row (m n : Nat) (f : Nat → Int) (h : n ≤ m) : (splice (bytesL m (fun _ => 0)) 0 (bytesL n f)).toArray = rowF m (fun i => if i < n then f i else 0) := by
  unfold splice rowF
  congr 1
  apply List.ext_getElem?
  intro i
  simp only [List.take_zero, List.nil_append, Nat.zero_add, bytesL_length]
  by_cases hi : i < n
  · rw [List.getElem?_append_left (by simpa [bytesL_length] using hi)]
    simp [bytesL, hi, show i < m by omega]
  · rw [List.getElem?_append_right (by simp [bytesL_length]; omega)]
    by_cases hm : i < m
    · simp [bytesL, List.getElem?_drop, hi, show n + (i - n) = i by omega, hm]
    · simp [bytesL, List.getElem?_drop, show n + (i - n) = i by omega, hm]

/-- The last bytes: rest (n of them), 0x80, noughts, and the eight bytes of the length at size - 8. -/
def lastN (n : Nat) : Nat := if n + 9 ≤ 64 then 1 else 2
def lastTo (n sz : Nat) (bs : Nat → Int) (bits : Int) (k i : Nat) : Int :=
  if i < n then bs i else if i = n then 128 else if sz - 8 ≤ i ∧ i < sz - 8 + k then bits / 2 ^ (8 * (i + 8 - sz)) % 256 else 0
def lastB (n : Nat) (bs : Nat → Int) (bits : Int) (i : Nat) : Int := lastTo n (64 * lastN n) bs bits 8 i
theorem lastTo_step (n sz : Nat) (bs : Nat → Int) (bits : Int) (k : Nat) (hsz : n + 9 ≤ sz) (i : Nat) : (if i = sz - 8 + k then bits / 2 ^ (8 * k) % 256 else lastTo n sz bs bits k i) = lastTo n sz bs bits (k + 1) i := by
  unfold lastTo
  by_cases h : i = sz - 8 + k
  · rw [if_pos h, if_neg (by omega), if_neg (by omega), if_pos (by omega), show i + 8 - sz = k by omega]
  · rw [if_neg h]
    by_cases h1 : i < n
    · simp [h1]
    · by_cases h2 : i = n
      · simp [h2]
      · simp only [h1, h2, if_false]
        have : (sz - 8 ≤ i ∧ i < sz - 8 + k) ↔ (sz - 8 ≤ i ∧ i < sz - 8 + (k + 1)) := by omega
        simp only [this]
theorem lastTo_zero (n sz : Nat) (bs : Nat → Int) (bits : Int) (i : Nat) : (if i = n then (128 : Int) else if i < n then bs i else 0) = lastTo n sz bs bits 0 i := by
  unfold lastTo
  by_cases h1 : i < n
  · rw [if_neg (by omega), if_pos h1, if_pos h1]
  · by_cases h2 : i = n
    · rw [if_pos h2, if_neg h1, if_pos h2]
    · rw [if_neg h2, if_neg h1, if_neg h1, if_neg h2, if_neg (by omega)]
end Md
end Go.Proofs.YtllpfebmbpbffaaDoor
