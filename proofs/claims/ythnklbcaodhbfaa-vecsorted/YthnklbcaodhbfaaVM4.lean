/- The map that counts: at the end each count is nought -/
import Derived.Test.YthnklbcaodhbfaaVM3
namespace Go.Proofs.Ythnklbcaodhbfaa
open Go.RowKit Go.Maps
open Vc (V Of)

theorem timesD_none (vkl : V → Lit) (s l : Nat → V) (kl : Lit) : ∀ k, (∀ i, i < k → kl ≠ vkl (s i) ∧ kl ≠ vkl (l i)) → (timesD vkl s l k).atKey kl (.lit (.int .i64 0)) = .lit (.int .i64 0)
  | 0, _ => rfl
  | k + 1, h => by
    have hk := h k (by omega)
    show (((timesD vkl s l k).put _ _).put _ _).atKey _ _ = _
    rw [atKey_put_other hk.2, atKey_put_other hk.1]
    exact timesD_none vkl s l kl k (fun i hi => h i (by omega))
/-- ALL THAT THERE WAS: each count is nought. -/
theorem timesD_zero {vkl : V → Lit} (hkf : KeyFn vkl) (s l : Nat → V) (n : Nat) (hs : ∀ i, i < n → VKey (s i)) (hl : ∀ i, i < n → VKey (l i)) (hp : (Vc.listOf n s).Perm (Vc.listOf n l)) (kl : Lit) : (timesD vkl s l n).atKey kl (.lit (.int .i64 0)) = .lit (.int .i64 0) := by
  have z : ∀ v, VKey v → kl = vkl v → (timesD vkl s l n).atKey kl (.lit (.int .i64 0)) = .lit (.int .i64 0) := fun v hv e => by
    rw [e, timesD_at hkf s l n hs hl v hv n (Nat.le_refl _)]
    unfold tms
    rw [Vc.cntTo_perm hp v, Int.sub_self]
  by_cases c : ∃ i, i < n ∧ (kl = vkl (s i) ∨ kl = vkl (l i))
  · obtain ⟨i, hi, e | e⟩ := c
    · exact z _ (hs i hi) e
    · exact z _ (hl i hi) e
  · exact timesD_none vkl s l kl n (fun i hi => ⟨fun e => c ⟨i, hi, Or.inl e⟩, fun e => c ⟨i, hi, Or.inr e⟩⟩)
theorem perm_key {n : Nat} {s l : Nat → V} (hl : ∀ i, i < n → VKey (l i)) (hp : (Vc.listOf n s).Perm (Vc.listOf n l)) : ∀ i, i < n → VKey (s i) := fun i hi => by
  have h1 : s i ∈ Vc.listOf n s := List.mem_map.2 ⟨i, List.mem_range.2 hi, rfl⟩
  obtain ⟨j, hj, e⟩ := List.mem_map.1 (hp.subset h1)
  rw [← e]
  exact hl j (List.mem_range.1 hj)
/-- The first of what is sorted is the best of what there was. -/
theorem best_first {n : Nat} {s l : Nat → V} (hn : 0 < n) (hs : Vc.SortedF n s) (hp : (Vc.listOf n s).Perm (Vc.listOf n l)) : l (Vc.bestTo l n).toNat = s 0 := by
  have hr := Vc.bestTo_range l n
  have hb := hr.2.2 hn
  obtain ⟨k, hk⟩ : ∃ k : Nat, Vc.bestTo l n = (k : Int) := ⟨(Vc.bestTo l n).toNat, by omega⟩
  have hkn : k < n := by omega
  have hleast := Vc.bestTo_least l n
  rw [hk, Int.toNat_natCast] at hleast ⊢
  refine Vc.eq_of ?_ ?_
  · have h1 : l k ∈ Vc.listOf n l := List.mem_map.2 ⟨k, List.mem_range.2 hkn, rfl⟩
    obtain ⟨j, hj, e⟩ := List.mem_map.1 (hp.symm.subset h1)
    rw [← e]
    rcases Nat.eq_zero_or_pos j with q | q
    · subst q; exact Vc.lt_irrefl _
    · exact hs 0 j q (List.mem_range.1 hj)
  · have h1 : s 0 ∈ Vc.listOf n s := List.mem_map.2 ⟨0, List.mem_range.2 hn, rfl⟩
    obtain ⟨j, hj, e⟩ := List.mem_map.1 (hp.subset h1)
    rw [← e]
    exact hleast j (List.mem_range.1 hj)
end Go.Proofs.Ythnklbcaodhbfaa
