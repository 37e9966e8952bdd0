/- What md5's functions come to: plain functions, second part. -/
import Derived.Test.YtcbpafpaimpfnaaGreatDoorDMd
import Derived.Laws.CopyOwn
namespace Go.Proofs.YtcbpafpaimpfnaaGreatDoor
namespace Md
/-- The last bytes: rest (n of them), 0x80, noughts, and the eight bytes of the length at size - 8. -/
def lastN (n : Nat) : Nat := if n + 9 ≤ 64 then 1 else 2
def lastTo (n sz : Nat) (bs : Nat → Int) (bits : Int) (k i : Nat) : Int :=
  if i < n then bs i else if i = n then 128 else if sz - 8 ≤ i ∧ i < sz - 8 + k then bits / 2 ^ (8 * (i + 8 - sz)) % 256 else 0
def lastB (n : Nat) (bs : Nat → Int) (bits : Int) (i : Nat) : Int := lastTo n (64 * lastN n) bs bits 8 i
theorem lastTo_step (n sz : Nat) (bs : Nat → Int) (bits : Int) (k : Nat) (hsz : n + 9 ≤ sz) (i : Nat) : (if i = sz - 8 + k then bits / 2 ^ (8 * k) % 256 else lastTo n sz bs bits k i) = lastTo n sz bs bits (k + 1) i := by
  unfold lastTo
  by_cases h : i = sz - 8 + k
  · rw [if_pos h, if_neg (by omega), if_neg (by omega), if_pos (by omega), show i + 8 - sz = k by omega]
  · rw [if_neg h]
    by_cases h1 : i < n
    · simp [h1]
    · by_cases h2 : i = n
      · simp [h2]
      · simp only [h1, h2, if_false]
        have : (sz - 8 ≤ i ∧ i < sz - 8 + k) ↔ (sz - 8 ≤ i ∧ i < sz - 8 + (k + 1)) := by omega
        simp only [this]
theorem lastTo_zero (n sz : Nat) (bs : Nat → Int) (bits : Int) (i : Nat) : (if i = n then (128 : Int) else if i < n then bs i else 0) = lastTo n sz bs bits 0 i := by
  unfold lastTo
  by_cases h1 : i < n
  · rw [if_neg (by omega), if_pos h1, if_pos h1]
  · by_cases h2 : i = n
    · rw [if_pos h2, if_neg h1, if_pos h2]
    · rw [if_neg h2, if_neg h1, if_neg h1, if_neg h2, if_neg (by omega)]
end Md
end Go.Proofs.YtcbpafpaimpfnaaGreatDoor
