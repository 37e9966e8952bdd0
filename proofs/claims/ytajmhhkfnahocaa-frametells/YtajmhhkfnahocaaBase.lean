/- Rows of bytes, and what package frame's functions come to: plain functions. -/
import Derived.Test.YtajmhhkfnahocaaRows
import Derived.WalkSpells
import Derived.WalkLawsBesides
import Derived.BigRegion
import Derived.BigQuiet
import Derived.RegionTactic
import Derived.Deep.WholeRow
import Derived.Deep.RegionWith
import Derived.Laws.CopyOwn
import Derived.Laws.BitsLemmas
import Derived.Laws.Bits64b
namespace Go.Proofs.Ytajmhhkfnahocaa
open Go.RowKit

/-- A row of n bytes, f's. -/
def rowF (n : Nat) (f : Nat → Int) : Array Value := ((List.range n).map fun i => Value.int .u8 (f i)).toArray
theorem rowF_size (n : Nat) (f : Nat → Int) : (rowF n f).size = n := by simp [rowF]
theorem rowF_get (n : Nat) (f : Nat → Int) (j : Nat) (h : j < n) : (rowF n f)[j]? = some (.int .u8 (f j)) := by simp [rowF, h]
theorem rowF_set (n : Nat) (f : Nat → Int) (k : Nat) (v : Int) (h : k < n) : (rowF n f).setIfInBounds k (.int .u8 v) = rowF n (fun i => if i = k then v else f i) := by
  apply Array.ext_getElem?
  intro i
  by_cases hi : i < n
  · rw [rowF_get n _ i hi, Array.getElem?_setIfInBounds]
    by_cases e : k = i
    · subst e; simp [rowF_size, h]
    · rw [if_neg e, rowF_get n f i hi, if_neg (fun h => e h.symm)]
  · rw [Array.getElem?_eq_none (by simp [rowF_size]; omega), Array.getElem?_eq_none (by simp [rowF_size]; omega)]
theorem rowF_congr (n : Nat) (f g : Nat → Int) (h : ∀ i, i < n → f i = g i) : rowF n f = rowF n g := by
  unfold rowF
  congr 1
  apply List.map_congr_left
  intro i hi
  rw [h i (by simpa using hi)]
theorem rowF_all (n : Nat) (f : Nat → Int) : (rowF n f).all (·.oneCell') = true := by
  rw [Array.all_eq_true_iff_forall_mem]
  intro v hv
  simp [rowF] at hv
  obtain ⟨i, _, rfl⟩ := hv
  rfl
def bytesL (n : Nat) (f : Nat → Int) : List Value := (List.range n).map fun i => Value.int .u8 (f i)
theorem bytesL_length (n : Nat) (f : Nat → Int) : (bytesL n f).length = n := by simp [bytesL]
theorem bytesL_get (n : Nat) (f : Nat → Int) (j : Nat) (v : Value) (h : (bytesL n f)[j]? = some v) : j < n ∧ v = .int .u8 (f j) := by
  have hj : j < n := by
    have := (List.getElem?_eq_some_iff.1 h).1
    simpa [bytesL] using this
  refine ⟨hj, ?_⟩
  simp [bytesL, hj] at h
  exact h.symm
theorem bytesL_one (n : Nat) (f : Nat → Int) : ∀ v ∈ bytesL n f, v.oneCell' = true := by
  intro v hv
  simp [bytesL] at hv
  obtain ⟨i, _, rfl⟩ := hv
  rfl
theorem bytesL_congr (n : Nat) (f g : Nat → Int) (h : ∀ i, i < n → f i = g i) : bytesL n f = bytesL n g := by
  unfold bytesL
  apply List.map_congr_left
  intro i hi
  rw [h i (by simpa using hi)]
theorem bytesL_append (n m : Nat) (f g : Nat → Int) : bytesL n f ++ bytesL m g = bytesL (n + m) (fun i => if i < n then f i else g (i - n)) := by
  apply List.ext_getElem?
  intro i
  by_cases h : i < n
  · rw [List.getElem?_append_left (by rw [bytesL_length]; exact h)]
    simp [bytesL, h, show i < n + m by omega]
  · rw [List.getElem?_append_right (by rw [bytesL_length]; omega), bytesL_length]
    by_cases h2 : i < n + m
    · simp [bytesL, h, h2, show i - n < m by omega]
    · rw [List.getElem?_eq_none (by rw [bytesL_length]; omega), List.getElem?_eq_none (by rw [bytesL_length]; omega)]
/-- n bytes laid over the head of a row of m noughts. -/
theorem splice_row (m n : Nat) (f : Nat → Int) (h : n ≤ m) : (splice (bytesL m (fun _ => 0)) 0 (bytesL n f)).toArray = rowF m (fun i => if i < n then f i else 0) := by
  unfold splice rowF
  congr 1
  apply List.ext_getElem?
  intro i
  simp only [List.take_zero, List.nil_append, Nat.zero_add, bytesL_length]
  by_cases hi : i < n
  · rw [List.getElem?_append_left (by simpa [bytesL_length] using hi)]
    simp [bytesL, hi, show i < m by omega]
  · rw [List.getElem?_append_right (by simp [bytesL_length]; omega)]
    by_cases hm : i < m
    · simp [bytesL, List.getElem?_drop, hi, show n + (i - n) = i by omega, hm]
    · simp [bytesL, List.getElem?_drop, show n + (i - n) = i by omega, hm]

/-- A slice of n bytes: bs. -/
def ByteRow (w : World) (ao : Option Addr) (n cap : Nat) (bs : Nat → Int) : Prop :=
  n ≤ cap ∧ (0 < n → ∃ b off, ao = some ⟨b, off, none⟩ ∧ b < w.heap.size ∧ ∀ i, i < n → w.cell? ⟨b, off + i, none⟩ = some (.int .u8 (bs i)))
theorem ByteRow.below {w w' : World} {ao : Option Addr} {n cap : Nat} {bs : Nat → Int} (h : ByteRow w ao n cap bs) (hb : Below w.heap.size w w') : ByteRow w' ao n cap bs := by
  refine ⟨h.1, fun hp => ?_⟩
  obtain ⟨b, off, e, hlt, hc⟩ := h.2 hp
  exact ⟨b, off, e, Nat.lt_of_lt_of_le hlt hb.size, fun i hi => (hb.cell (by exact hlt)).trans (hc i hi)⟩
theorem ByteRow.congr {w : World} {ao : Option Addr} {n cap : Nat} {bs cs : Nat → Int} (h : ByteRow w ao n cap bs) (e : ∀ i, i < n → bs i = cs i) : ByteRow w ao n cap cs := by
  refine ⟨h.1, fun hp => ?_⟩
  obtain ⟨b, off, e1, hlt, hc⟩ := h.2 hp
  exact ⟨b, off, e1, hlt, fun i hi => by rw [← e i hi]; exact hc i hi⟩
theorem add_row (b off j : Nat) : (⟨b, off, none⟩ : Addr).add j = ⟨b, off + j, none⟩ := by unfold Addr.add; split <;> simp_all
theorem src_row {W : World} {ao : Option Addr} {n cap : Nat} {bs : Nat → Int} (h : ByteRow W ao n cap bs) {ad : Addr} (e : ao = some ad) : ∀ j v, (bytesL n bs)[j]? = some v → W.cell? (ad.add j) = some v := by
  intro j v hj
  obtain ⟨hj1, rfl⟩ := bytesL_get _ _ _ _ hj
  obtain ⟨b, off, e2, _, hc⟩ := h.2 (by omega)
  rw [e] at e2
  cases e2
  rw [add_row]
  exact hc j hj1

/-- What is wrong with a frame. -/
def wrong (d s : Int) (t : Bool) (p v y : Int) (n : Nat) : Int :=
  if 281474976710655 < d ∨ 281474976710655 < s then 3
  else if s / 1099511627776 % 2 = 1 then 8
  else if t = true ∧ ¬ ((0 ≤ v ∧ v ≤ 4094) ∧ 0 ≤ p ∧ p ≤ 7) then 3
  else if ¬ ((1536 ≤ y ∧ y ≤ 65535) ∧ y ≠ 33024) then 1
  else if 1500 < n then 4 else 0
/-- Byte i of k bytes of a number, the high ones first. -/
def be (k : Nat) (N : Int) (i : Nat) : Int := N / 2 ^ (8 * (k - 1 - i)) % 256
/-- The tag's two bytes, as a number. -/
def tag (p : Int) (dr : Bool) (v : Int) : Int := p * 8192 + v + (if dr = true then 4096 else 0)
/-- The bytes ahead of the data. -/
def headF (d s : Int) (t : Bool) (p : Int) (dr : Bool) (v y : Int) (i : Nat) : Int :=
  if i < 6 then be 6 d i else if i < 12 then be 6 s (i - 6)
  else if t = true then (if i < 14 then be 2 33024 (i - 12) else if i < 16 then be 2 (tag p dr v) (i - 14) else be 2 y (i - 16))
  else (if i < 14 then be 2 y (i - 12) else 0)
def headN (t : Bool) : Nat := if t = true then 18 else 14
/-- The number that the first k bytes are. -/
def num (f : Nat → Int) : Nat → Int
  | 0 => 0
  | k + 1 => num f k * 256 + f k
theorem num_range (f : Nat → Int) (hf : ∀ i, 0 ≤ f i ∧ f i ≤ 255) : ∀ k, 0 ≤ num f k ∧ num f k < 2 ^ (8 * k)
  | 0 => by simp [num]
  | k + 1 => by
    have h := num_range f hf k
    have := hf k
    have h2 : (2 : Int) ^ (8 * (k + 1)) = 2 ^ (8 * k) * 256 := by rw [Nat.mul_add, Int.pow_add]; rfl
    rw [h2]
    simp only [num]
    generalize (2 : Int) ^ (8 * k) = P at *
    omega
theorem be_range (k : Nat) (N : Int) (i : Nat) : 0 ≤ be k N i ∧ be k N i ≤ 255 := by unfold be; omega
theorem and40 (s : Int) (h0 : 0 ≤ s) (h1 : s < 18446744073709551616) : bits BinOp.and IntKind.u64 s 1099511627776 = s / 1099511627776 % 2 * 1099511627776 := by
  obtain ⟨a, rfl⟩ := Int.eq_ofNat_of_zero_le h0
  have h := bits_and_u64_nat a 1099511627776 (by omega) (by omega)
  rw [show ((1099511627776 : Nat) : Int) = 1099511627776 from rfl] at h
  rw [h]
  have h2 : a &&& 2 ^ 40 = a / 2 ^ 40 % 2 ^ 1 * 2 ^ 40 := by
    apply Nat.eq_of_testBit_eq
    intro i
    rw [Nat.testBit_and, Nat.testBit_two_pow, Nat.testBit_mul_two_pow, Nat.testBit_mod_two_pow, Nat.testBit_div_two_pow]
    by_cases e : 40 = i
    · subst e; simp
    · by_cases e2 : 40 ≤ i
      · simp [e, show ¬ (i - 40 < 1) by omega]
      · simp [e, e2]
  rw [show (2 : Nat) ^ 40 = 1099511627776 from rfl] at h2
  rw [h2]
  omega
end Go.Proofs.Ytajmhhkfnahocaa
