/- What the document's own Sum comes to: the padded bytes; that both sums are the same. -/
import Derived.Test.YtconlnoolenhjaaDoorDW7
namespace Go.Proofs.YtconlnoolenhjaaDoor
namespace Md
def padM (n : Nat) : Nat := n / 64 + lastN (n % 64)
/-- The bytes of a message of n bytes, filled up. -/
def pad (n : Nat) (bs : Nat → Int) (i : Nat) : Int :=
  if i < n then bs i else if i = n then 128 else if i + 8 < 64 * padM n then 0 else (8 * (n : Int)) / 2 ^ (8 * (i + 8 - 64 * padM n)) % 256
theorem padM_ge (n : Nat) : n + 9 ≤ 64 * padM n ∧ 64 * padM n < n + 9 + 64 := by
  unfold padM lastN
  split <;> omega
theorem wd_congr (f g : Nat → Int) (i : Nat) (h : ∀ j, j < 64 → f j = g j) (hi : i < 16) : wd f i = wd g i := by
  unfold wd
  rw [h (4 * i) (by omega), h (4 * i + 1) (by omega), h (4 * i + 2) (by omega), h (4 * i + 3) (by omega)]
theorem runTo_congr (f g : Nat → Int) (h : ∀ j, j < 64 → f j = g j) (s : St) : ∀ k, runTo f k s = runTo g k s
  | 0 => rfl
  | k + 1 => by
    show stp f k (runTo f k s) = stp g k (runTo g k s)
    rw [runTo_congr f g h s k]
    unfold stp
    rw [wd_congr f g _ h (ksel_lt k)]
theorem mixS_congr (f g : Nat → Int) (h : ∀ j, j < 64 → f j = g j) (s : St) : mixS s f = mixS s g := by
  unfold mixS
  rw [runTo_congr f g h s 64]
theorem mixN_congr (f g : Nat → Int) (s : St) : ∀ m, (∀ j, j < 64 * m → f j = g j) → mixN s f m = mixN s g m
  | 0, _ => rfl
  | m + 1, h => by
    show mixS (mixN s f m) _ = mixS (mixN s g m) _
    rw [mixN_congr f g s m (fun j hj => h j (by omega))]
    exact mixS_congr _ _ (fun j hj => h (64 * m + j) (by omega)) _
theorem mixN_add (f : Nat → Int) (s : St) (a : Nat) : ∀ b, mixN s f (a + b) = mixN (mixN s f a) (fun i => f (64 * a + i)) b
  | 0 => rfl
  | b + 1 => by
    show mixS (mixN s f (a + b)) (fun i => f (64 * (a + b) + i)) = mixS (mixN (mixN s f a) (fun i => f (64 * a + i)) b) (fun i => f (64 * a + (64 * b + i)))
    rw [mixN_add f s a b]
    exact mixS_congr _ _ (fun j _ => by rw [show 64 * (a + b) + j = 64 * a + (64 * b + j) by omega]) _
theorem last_pad (n : Nat) (bs : Nat → Int) (i : Nat) (h : i < 64 * lastN (n % 64)) : pad n bs (64 * (n / 64) + i) = lastB (n % 64) (fun i => bs (64 * (n / 64) + i)) (((0 : Nat) : Int) + (n : Int) * 1 * 8) i := by
  unfold pad lastB lastTo
  have e : 64 * padM n = 64 * (n / 64) + 64 * lastN (n % 64) := by unfold padM; omega
  have h9 := (padM_ge n).1
  rw [e] at h9 ⊢
  by_cases h1 : i < n % 64
  · rw [if_pos (by omega), if_pos h1]
  · rw [if_neg (by omega), if_neg h1]
    by_cases h2 : i = n % 64
    · rw [if_pos (by omega), if_pos h2]
    · rw [if_neg (by omega), if_neg h2]
      by_cases h3 : i + 8 < 64 * lastN (n % 64)
      · rw [if_pos (by omega), if_neg (by omega)]
      · rw [if_neg (by omega), if_pos (by omega)]
        have e2 : 64 * (n / 64) + i + 8 - (64 * (n / 64) + 64 * lastN (n % 64)) = i + 8 - 64 * lastN (n % 64) := by omega
        rw [e2]
        congr 2
        omega
/-- BOTH SUMS ARE THE SAME. -/
theorem sum_same (n : Nat) (bs : Nat → Int) : mixN st0 (pad n bs) (padM n) = fin st0 0 n bs := by
  unfold padM fin
  rw [mixN_add, mixN_congr (pad n bs) bs st0 (n / 64) (fun j hj => by unfold pad; rw [if_pos (by omega)])]
  apply mixN_congr
  intro j hj
  have h := last_pad n bs j hj
  simp only [Int.mul_one] at h
  rw [h]
  congr 1
  simp
end Md
end Go.Proofs.YtconlnoolenhjaaDoor
