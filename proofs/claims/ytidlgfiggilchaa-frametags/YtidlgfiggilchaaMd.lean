/- What is written is read: plain facts. -/
import Derived.Test.YtidlgfiggilchaaW6
namespace Go.Proofs.Ytidlgfiggilchaa

theorem be2 (y : Int) (h : 0 ≤ y ∧ y ≤ 65535) : be 2 y 0 * 256 + be 2 y 1 = y := by
  unfold be
  simp only [Nat.reduceSub, Nat.reduceMul]
  rw [show (2 : Int) ^ 8 = 256 from rfl, show (2 : Int) ^ 0 = 1 from rfl]
  omega
theorem be6 (d : Int) (f : Nat → Int) (h : 0 ≤ d ∧ d ≤ 281474976710655) (hf : ∀ i, i < 6 → f i = be 6 d i) : num f 6 = d := by
  simp only [num]
  rw [hf 0 (by omega), hf 1 (by omega), hf 2 (by omega), hf 3 (by omega), hf 4 (by omega), hf 5 (by omega)]
  unfold be
  simp only [Nat.reduceSub, Nat.reduceMul]
  rw [show (2 : Int) ^ 40 = 1099511627776 from rfl, show (2 : Int) ^ 32 = 4294967296 from rfl, show (2 : Int) ^ 24 = 16777216 from rfl, show (2 : Int) ^ 16 = 65536 from rfl, show (2 : Int) ^ 8 = 256 from rfl, show (2 : Int) ^ 0 = 1 from rfl]
  omega
theorem tag_range (p : Int) (dr : Bool) (v : Int) (hp : 0 ≤ p ∧ p ≤ 7) (hv : 0 ≤ v ∧ v ≤ 4094) : 0 ≤ tag p dr v ∧ tag p dr v ≤ 65535 := by
  unfold tag
  cases dr <;> simp <;> omega
theorem bytF_head (d s : Int) (t : Bool) (p : Int) (dr : Bool) (v y : Int) (bs : Nat → Int) (i : Nat) (h : i < headN t) : bytF d s t p dr v y bs i = headF d s t p dr v y i := if_pos h
theorem headN_ge (t : Bool) : 14 ≤ headN t := by cases t <;> simp [headN]
/-- The type's place, in however many bytes. -/
theorem pT12 (d s : Int) (t : Bool) (p : Int) (dr : Bool) (v y : Int) (bs : Nat → Int) (m : Nat) (hm : 14 ≤ m) (hy : 0 ≤ y ∧ y ≤ 65535) : pT (pad m (bytF d s t p dr v y bs)) 12 = if t = true then 33024 else y := by
  have h14 := headN_ge t
  unfold pT pad
  simp only [Nat.reduceAdd]
  rw [if_pos (by omega), if_pos (by omega), bytF_head _ _ _ _ _ _ _ _ _ (by omega), bytF_head _ _ _ _ _ _ _ _ _ (by omega)]
  unfold headF
  cases t
  · simp [be2 y hy]
  · simp [be2 33024 (by omega)]
theorem size_back (d s : Int) (t : Bool) (p : Int) (dr : Bool) (v y : Int) (bs : Nat → Int) (m : Nat) (hm : 14 ≤ m) (hy : 0 ≤ y ∧ y ≤ 65535) (hne : y ≠ 33024) : sizeF (pad m (bytF d s t p dr v y bs)) = headN t := by
  have h := pT12 d s t p dr v y bs m hm hy
  unfold sizeF
  unfold pT at h
  simp only [Nat.reduceAdd] at h
  rw [h]
  cases t
  · simp [hne, headN]
  · simp [headN]
theorem tag_back (d s : Int) (t : Bool) (p : Int) (dr : Bool) (v y : Int) (bs : Nat → Int) (m : Nat) (hm : 14 ≤ m) (hy : 0 ≤ y ∧ y ≤ 65535) (hne : y ≠ 33024) : isTag (pad m (bytF d s t p dr v y bs)) = t := by
  have h := pT12 d s t p dr v y bs m hm hy
  unfold isTag
  rw [h]
  cases t
  · simp [hne]
  · simp
/-- A frame that is too short for its head has none. -/
theorem short_size (m : Nat) (f : Nat → Int) (h : m < 14) : m < sizeF (pad m f) := by
  have := sizeF_le (pad m f)
  omega
end Go.Proofs.Ytidlgfiggilchaa
