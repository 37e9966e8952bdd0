/- The bit that tells an address of many -/
import Derived.Test.YtgkmaihleilchaaGG
namespace Go.Proofs.Ytgkmaihleilchaa
open Go.RowKit

theorem and40 (s : Int) (h0 : 0 ≤ s) (h1 : s < 18446744073709551616) : bits BinOp.and IntKind.u64 s 1099511627776 = s / 1099511627776 % 2 * 1099511627776 := by
  obtain ⟨a, rfl⟩ := Int.eq_ofNat_of_zero_le h0
  have h := bits_and_u64_nat a 1099511627776 (by omega) (by omega)
  rw [show ((1099511627776 : Nat) : Int) = 1099511627776 from rfl] at h
  rw [h]
  have h2 : a &&& 2 ^ 40 = a / 2 ^ 40 % 2 ^ 1 * 2 ^ 40 := by
    apply Nat.eq_of_testBit_eq
    intro i
    rw [Nat.testBit_and, Nat.testBit_two_pow, Nat.testBit_mul_two_pow, Nat.testBit_mod_two_pow, Nat.testBit_div_two_pow]
    by_cases e : 40 = i
    · subst e; simp
    · by_cases e2 : 40 ≤ i
      · simp [e, show ¬ (i - 40 < 1) by omega]
      · simp [e, e2]
  rw [show (2 : Nat) ^ 40 = 1099511627776 from rfl] at h2
  rw [h2]
  omega
end Go.Proofs.Ytgkmaihleilchaa
