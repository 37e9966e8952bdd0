/- Rows of bytes, and what package frame's functions come to: plain functions. -/
import Derived.Test.YtgkmaihleilchaaG
import Derived.Test.YtgkmaihleilchaaA40
namespace Go.Proofs.Ytgkmaihleilchaa
open Go.RowKit

/-- What is wrong with a frame. -/
def wrong (d s : Int) (t : Bool) (p v y : Int) (n : Nat) : Int :=
  if 281474976710655 < d ∨ 281474976710655 < s then 3
  else if s / 1099511627776 % 2 = 1 then 8
  else if t = true ∧ ¬ ((0 ≤ v ∧ v ≤ 4094) ∧ 0 ≤ p ∧ p ≤ 7) then 3
  else if ¬ ((1536 ≤ y ∧ y ≤ 65535) ∧ y ≠ 33024) then 1
  else if 1500 < n then 4 else 0
/-- Byte i of k bytes of a number, the high ones first. -/
def be (k : Nat) (N : Int) (i : Nat) : Int := N / 2 ^ (8 * (k - 1 - i)) % 256
/-- The tag's two bytes, as a number. -/
def tag (p : Int) (dr : Bool) (v : Int) : Int := p * 8192 + v + (if dr = true then 4096 else 0)
/-- The bytes ahead of the data. -/
def headF (d s : Int) (t : Bool) (p : Int) (dr : Bool) (v y : Int) (i : Nat) : Int :=
  if i < 6 then be 6 d i else if i < 12 then be 6 s (i - 6)
  else if t = true then (if i < 14 then be 2 33024 (i - 12) else if i < 16 then be 2 (tag p dr v) (i - 14) else be 2 y (i - 16))
  else (if i < 14 then be 2 y (i - 12) else 0)
def headN (t : Bool) : Nat := if t = true then 18 else 14
/-- The number that the first k bytes are. -/
def num (f : Nat → Int) : Nat → Int
  | 0 => 0
  | k + 1 => num f k * 256 + f k
theorem num_range (f : Nat → Int) (hf : ∀ i, 0 ≤ f i ∧ f i ≤ 255) : ∀ k, 0 ≤ num f k ∧ num f k < 2 ^ (8 * k)
  | 0 => by simp [num]
  | k + 1 => by
    have h := num_range f hf k
    have := hf k
    have h2 : (2 : Int) ^ (8 * (k + 1)) = 2 ^ (8 * k) * 256 := by rw [Nat.mul_add, Int.pow_add]; rfl
    rw [h2]
    simp only [num]
    generalize (2 : Int) ^ (8 * k) = P at *
    omega
theorem be_range (k : Nat) (N : Int) (i : Nat) : 0 ≤ be k N i ∧ be k N i ≤ 255 := by unfold be; omega
end Go.Proofs.Ytgkmaihleilchaa
