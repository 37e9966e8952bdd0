/- What Go's stable sort does: blocks. -/
import Derived.Test.YthnklbcaodhbfaaVSm
namespace Go.Proofs.Ythnklbcaodhbfaa
namespace Vc
/-- All blocks of bs are sorted. -/
def Blks (bs n : Nat) (G : Nat → V) : Prop := ∀ q, SIn (q * bs) (min ((q + 1) * bs) n) G
/-- The first t blocks of twice bs are, and behind them those of bs. -/
def Half (bs n t : Nat) (G : Nat → V) : Prop := (∀ q, q < t → SIn (q * (2 * bs)) ((q + 1) * (2 * bs)) G) ∧ ∀ q, 2 * t ≤ q → SIn (q * bs) (min ((q + 1) * bs) n) G
theorem mul_up {q t bs : Nat} (h : q < t) : (q + 1) * bs ≤ t * bs := Nat.mul_le_mul_right bs h
theorem first_step {t A : Nat} {G H : Nat → V} (hA : A = t * 20) (h : ∀ q, q < t → SIn (q * 20) ((q + 1) * 20) G) (p : Pm A (A + 20) G H) (s : SIn A (A + 20) H) : ∀ q, q < t + 1 → SIn (q * 20) ((q + 1) * 20) H := by
  intro q hq
  by_cases e : q = t
  · subst e; rw [Nat.add_mul, ← hA]; exact s
  · exact (h q (by omega)).congr (fun x h1 h2 => p.out x (by omega))
theorem first_done {t A n : Nat} {G H : Nat → V} (hA : A = t * 20) (hn : n < A + 20) (h : ∀ q, q < t → SIn (q * 20) ((q + 1) * 20) G) (p : Pm A n G H) (s : SIn A n H) : Blks 20 n H := by
  intro q
  by_cases e : q = t
  · subst e; rw [← hA]; exact s.sub (Nat.le_refl _) (by omega)
  · by_cases c : q < t
    · exact ((h q c).congr (fun x h1 h2 => p.out x (by omega))).sub (Nat.le_refl _) (by omega)
    · exact SIn.short _ (by omega)
theorem half_start {bs n : Nat} {G : Nat → V} (h : Blks bs n G) : Half bs n 0 G := ⟨fun q hq => by omega, fun q _ => h q⟩
theorem half_parts {bs n t A : Nat} {G : Nat → V} (h : Half bs n t G) (hA : A = t * (2 * bs)) : SIn A (min (A + bs) n) G ∧ SIn (A + bs) (min (A + 2 * bs) n) G := by
  have e : 2 * t * bs = A := by rw [hA, Nat.mul_comm 2 t, Nat.mul_assoc]
  have h1 := h.2 (2 * t) (Nat.le_refl _)
  have h2 := h.2 (2 * t + 1) (by omega)
  rw [Nat.add_mul, Nat.one_mul, e] at h1
  rw [Nat.add_mul (2 * t + 1) 1 bs, Nat.add_mul (2 * t) 1 bs, Nat.one_mul, e] at h2
  exact ⟨h1, by rw [show A + 2 * bs = A + bs + bs by omega]; exact h2⟩
theorem half_step {bs n t A : Nat} {G H : Nat → V} (h : Half bs n t G) (hA : A = t * (2 * bs)) (p : Pm A (A + 2 * bs) G H) (s : SIn A (A + 2 * bs) H) : Half bs n (t + 1) H := by
  refine ⟨fun q hq => ?_, fun q hq => ?_⟩
  · by_cases e : q = t
    · subst e; rw [Nat.add_mul, Nat.one_mul, ← hA]; exact s
    · have hm : (q + 1) * (2 * bs) ≤ A := by rw [hA]; exact mul_up (by omega)
      exact (h.1 q (by omega)).congr (fun x h1 h2 => p.out x (by omega))
  · have hm : A + 2 * bs ≤ q * bs := by
      have : (2 * (t + 1)) * bs ≤ q * bs := Nat.mul_le_mul_right bs hq
      rw [Nat.mul_comm 2 (t + 1), Nat.mul_assoc, Nat.add_mul, Nat.one_mul, ← hA] at this
      exact this
    exact (h.2 q (by omega)).congr (fun x h1 h2 => p.out x (by omega))
theorem half_done {bs n t A : Nat} {G H : Nat → V} (h : Half bs n t G) (hA : A = t * (2 * bs)) (hn : n < A + 2 * bs) (p : Pm A n G H) (s : SIn A n H) : Blks (2 * bs) n H := by
  intro q
  by_cases e : q = t
  · subst e; rw [← hA]; exact s.sub (Nat.le_refl _) (by omega)
  · by_cases c : q < t
    · have hm : (q + 1) * (2 * bs) ≤ A := by rw [hA]; exact mul_up c
      exact ((h.1 q c).congr (fun x h1 h2 => p.out x (by omega))).sub (Nat.le_refl _) (by omega)
    · have hm : A + 2 * bs ≤ q * (2 * bs) := by
        have := mul_up (bs := 2 * bs) (show t < q by omega)
        rw [Nat.add_mul, Nat.one_mul, ← hA] at this
        exact this
      exact SIn.short _ (by omega)
theorem blks_all {bs n : Nat} {G : Nat → V} (h : Blks bs n G) (hb : n ≤ bs) : SIn 0 n G := by
  have := h 0
  rw [Nat.zero_mul, Nat.zero_add, Nat.one_mul] at this
  exact this.sub (Nat.le_refl _) (by omega)
end Vc
end Go.Proofs.Ythnklbcaodhbfaa
