/- How often each vector is among others; the map that counts them -/
import Derived.Test.YthnklbcaodhbfaaVM1
import Derived.Test.YthnklbcaodhbfaaVMs
import Derived.Maps.Views
namespace Go.Proofs.Ythnklbcaodhbfaa
open Go.RowKit Go.Maps
open Vc (V Of)

namespace Vc
def cntTo (v : V) (f : Nat → V) : Nat → Int
  | 0 => 0
  | k + 1 => cntTo v f k + if f k = v then 1 else 0
theorem cntTo_range (v : V) (f : Nat → V) : ∀ k : Nat, 0 ≤ cntTo v f k ∧ cntTo v f k ≤ k
  | 0 => ⟨Int.le_refl _, Int.le_refl _⟩
  | k + 1 => by
    have := cntTo_range v f k
    simp only [cntTo]
    split <;> omega
theorem cntTo_list (v : V) (f : Nat → V) : ∀ k : Nat, cntTo v f k = ((listOf k f).countP (fun x => decide (x = v)) : Nat)
  | 0 => rfl
  | k + 1 => by
    rw [listOf_succ, List.countP_append]
    simp only [cntTo, cntTo_list v f k]
    by_cases h : f k = v
    · simp [h]
    · simp [h]
theorem cntTo_perm {n : Nat} {f g : Nat → V} (h : (listOf n f).Perm (listOf n g)) (v : V) : cntTo v f n = cntTo v g n := by
  rw [cntTo_list, cntTo_list, h.countP_eq]
end Vc
/-- key tells each vector's key. -/
def KeyFn (key : V → Lit) : Prop := ∀ v, VKey v → keyOf Try.prog 27 (.agg (vA v)) = some (key v)
theorem keyFn : ∃ key, KeyFn key := ⟨fun v => (keyOf Try.prog 27 (.agg (vA v))).getD (.int .i64 0), fun v h => by
  obtain ⟨kl, e⟩ := h
  simp only [e]
  rfl⟩
section
variable {vkl : V → Lit} (hkf : KeyFn vkl)
include hkf
theorem vkl_inj {v u : V} (h : VKey v) (k : VKey u) (e : vkl v = vkl u) : v = u := by
  have h1 := hkf _ h
  rw [e] at h1
  have := vkeyed.inj h1 (hkf _ k)
  obtain ⟨a, b, c, d⟩ := v
  obtain ⟨a', b', c', d'⟩ := u
  simp only [vA, Value.agg.injEq, Array.mk.injEq, List.cons.injEq, Value.int.injEq, true_and, and_true] at this
  obtain ⟨e1, e2, e3, e4⟩ := this
  subst e1; subst e2; subst e3; subst e4
  rfl
theorem vkl_key {v : V} (h : VKey v) : WideAt.IsKeyLit (vkl v) := vkeyed.key (hkf _ h)
end
/-- How often v is among the first i of s, less how often it is among the first j of l. -/
def tms (s l : Nat → V) (i j : Nat) (v : V) : Int := Vc.cntTo v s i - Vc.cntTo v l j
/-- The map behind i rounds. -/
def timesD (vkl : V → Lit) (s l : Nat → V) : Nat → DataW Unit
  | 0 => .map []
  | k + 1 => ((timesD vkl s l k).put (vkl (s k)) (.lit (.int .i64 (tms s l (k + 1) k (s k))))).put (vkl (l k)) (.lit (.int .i64 (tms s l (k + 1) (k + 1) (l k))))
/-- .. and in the midst of one. -/
def timesM (vkl : V → Lit) (s l : Nat → V) (k : Nat) : DataW Unit := (timesD vkl s l k).put (vkl (s k)) (.lit (.int .i64 (tms s l (k + 1) k (s k))))
theorem timesD_map (vkl : V → Lit) (s l : Nat → V) : ∀ k, IsMap (timesD vkl s l k)
  | 0 => isMap_empty
  | k + 1 => ((timesD_map vkl s l k).put _ _).put _ _
theorem tms_s {s l : Nat → V} {i j : Nat} {v : V} (h : s i ≠ v) : tms s l (i + 1) j v = tms s l i j v := by unfold tms; simp only [Vc.cntTo]; rw [if_neg h, Int.add_zero]
theorem tms_l {s l : Nat → V} {i j : Nat} {v : V} (h : l j ≠ v) : tms s l i (j + 1) v = tms s l i j v := by unfold tms; simp only [Vc.cntTo]; rw [if_neg h, Int.add_zero]
theorem timesM_at {vkl : V → Lit} (hkf : KeyFn vkl) (s l : Nat → V) (k : Nat) (hs : VKey (s k)) (v : V) (hv : VKey v) (h : (timesD vkl s l k).atKey (vkl v) (.lit (.int .i64 0)) = .lit (.int .i64 (tms s l k k v))) :
    (timesM vkl s l k).atKey (vkl v) (.lit (.int .i64 0)) = .lit (.int .i64 (tms s l (k + 1) k v)) := by
  unfold timesM
  by_cases e : s k = v
  · subst e
    rw [atKey_put_same (timesD_map vkl s l k) (vkl_key hkf hs)]
  · rw [atKey_put_other (fun q => e (vkl_inj hkf hs hv q.symm)), h, tms_s e]
theorem timesD_at {vkl : V → Lit} (hkf : KeyFn vkl) (s l : Nat → V) (n : Nat) (hs : ∀ i, i < n → VKey (s i)) (hl : ∀ i, i < n → VKey (l i)) (v : V) (hv : VKey v) : ∀ k, k ≤ n → (timesD vkl s l k).atKey (vkl v) (.lit (.int .i64 0)) = .lit (.int .i64 (tms s l k k v))
  | 0, _ => rfl
  | k + 1, hk => by
    have hM := timesM_at hkf s l k (hs k (by omega)) v hv (timesD_at hkf s l n hs hl v hv k (by omega))
    show ((timesM vkl s l k).put (vkl (l k)) _).atKey _ _ = _
    by_cases e : l k = v
    · subst e
      have hM2 : IsMap (timesM vkl s l k) := (timesD_map vkl s l k).put _ _
      rw [atKey_put_same hM2 (vkl_key hkf hv)]
    · rw [atKey_put_other (fun q => e (vkl_inj hkf (hl k (by omega)) hv q.symm)), hM, tms_l e]
end Go.Proofs.Ythnklbcaodhbfaa
