/- walks: cmp.Compare, cmp.Or, number.Within, package vec's Compare and better -/
import Derived.Test.YtjdchfbianmmoaaDoorVB
import Derived.Test.YtjdchfbianmmoaaDoorHT
namespace Go.Proofs.YtjdchfbianmmoaaDoor
open Go.RowKit
open Vc (V Of)

def sg (a b : Int) : Int := if a < b then -1 else if b < a then 1 else 0
set_option maxHeartbeats 400000 in
theorem ccmpu_any (a b : Int) (w : World) : Calls Tryd.prog 77 #[.int .u64 a, .int .u64 b] w fun e w' => e = .returned (.int .i64 (sg a b)) ∧ w' = w := by
  unfold sg
  by_cases h1 : a < b
  · rw [if_pos h1]
    go_enter Tryd.func77, Tryd.ntmps77
    go_wp2
    go_ret
    exact ⟨rfl, rfl⟩
  · rw [if_neg h1]
    by_cases h2 : b < a
    · rw [if_pos h2]
      go_enter Tryd.func77, Tryd.ntmps77
      go_wp2
      go_ret
      exact ⟨rfl, rfl⟩
    · rw [if_neg h2]
      go_enter Tryd.func77, Tryd.ntmps77
      go_wp2
      go_ret
      exact ⟨rfl, rfl⟩
set_option maxHeartbeats 400000 in
theorem ccmpi_any (a b : Int) (w : World) : Calls Tryd.prog 24 #[.int .i64 a, .int .i64 b] w fun e w' => e = .returned (.int .i64 (sg a b)) ∧ w' = w := by
  unfold sg
  by_cases h1 : a < b
  · rw [if_pos h1]
    go_enter Tryd.func24, Tryd.ntmps24
    go_wp2
    go_ret
    exact ⟨rfl, rfl⟩
  · rw [if_neg h1]
    by_cases h2 : b < a
    · rw [if_pos h2]
      go_enter Tryd.func24, Tryd.ntmps24
      go_wp2
      go_ret
      exact ⟨rfl, rfl⟩
    · rw [if_neg h2]
      go_enter Tryd.func24, Tryd.ntmps24
      go_wp2
      go_ret
      exact ⟨rfl, rfl⟩
set_option maxHeartbeats 400000 in
theorem vwithin_any (n l m : Int) (w : World) :
    Calls Tryd.prog 9 #[.int .i64 n, .int .i64 l, .int .i64 m] w fun e w' => e = .returned (.bool (decide (l ≤ n ∧ n ≤ m))) ∧ w' = w := by
  by_cases h1 : l ≤ n <;> by_cases h2 : n ≤ m
  all_goals
    go_enter Tryd.func9, Tryd.ntmps9
    go_wp2
    go_ret
    exact ⟨by simp [h1, h2], rfl⟩
/-- The first that is not nought. -/
def orTo (f : Nat → Int) : Nat → Int
  | 0 => 0
  | k + 1 => if orTo f k = 0 then f k else orTo f k
theorem orTo_stay (f : Nat → Int) (k : Nat) (h0 : orTo f k = 0) (h : f k ≠ 0) : ∀ n, k < n → orTo f n = f k
  | 0, hn => by omega
  | n + 1, hn => by
    simp only [orTo]
    by_cases e : k = n
    · subst e; rw [if_pos h0]
    · rw [orTo_stay f k h0 h n (by omega), if_neg h]
set_option maxHeartbeats 400000 in
theorem cor_any (b off n cap : Nat) (f : Nat → Int) (w : World) (hn : n ≤ 9223372036854775807) (hcap : n ≤ cap) (hf : ∀ i, i < n → w.cell? ⟨b, off + i, none⟩ = some (.int .i64 (f i))) :
    Calls Tryd.prog 56 #[.slice (some ⟨b, off, none⟩) n cap] w fun e w' => e = .returned (.int .i64 (orTo f n)) ∧ w' = w := by
  have HF : Hid (∀ i, i < n → w.cell? ⟨b, off + i, none⟩ = some (.int .i64 (f i))) := hf
  clear hf
  go_enter Tryd.func56, Tryd.ntmps56
  go_wp2_with fail
  go_loopw [8] (fun i wr => ∃ k : Nat, k ≤ n ∧ i = .int .i64 k ∧ Hid (orTo f k = 0) ∧ wr = w) (fun i _ => n - (intOf i).toNat)
  case atStart => exact ⟨0, by omega, rfl, rfl, rfl⟩
  case round =>
    obtain ⟨k, hk, rfl, hS, rfl⟩ := hrel
    by_cases hlt : k < n
    · have c0 := HF.out k hlt
      by_cases h0 : f k = 0
      · have d0 : (f k != 0) = false := by simp [h0]
        have HS2 : Hid (orTo f (k + 1) = 0) := by show (if orTo f k = 0 then f k else orTo f k) = 0; rw [if_pos hS.out, h0]
        clear HF hS
        go_wp2_with fail
        exact ⟨⟨k + 1, by omega, by go_num, HS2, trivial⟩, by simp [intOf]; omega⟩
      · have d0 : (f k != 0) = true := by simp [h0]
        have HS2 : Hid (orTo f n = f k) := orTo_stay f k hS.out h0 n hlt
        clear HF hS h0
        go_wp2_with fail
        go_ret
        exact ⟨by rw [HS2.out]; rfl, rfl⟩
    · obtain rfl : k = n := by omega
      clear HF
      go_wp2_with fail
      go_ret
      exact ⟨by rw [hS.out]; rfl, rfl⟩
/-- The four signs, one behind the other. -/
def sg4 (a b : V) (i : Nat) : Int := if i = 0 then sg a.root b.root else if i = 1 then sg a.cost b.cost else if i = 2 then sg a.bridge b.bridge else sg a.port b.port
theorem sg_zero {a b : Int} : sg a b = 0 ↔ a = b := by
  unfold sg
  by_cases h : a < b
  · rw [if_pos h]; omega
  · rw [if_neg h]
    by_cases k : b < a
    · rw [if_pos k]; omega
    · rw [if_neg k]; omega
theorem orTo_sg4 (a b : V) : orTo (sg4 a b) 4 = Vc.cmp a b := by
  have e : orTo (sg4 a b) 4 = if sg a.root b.root = 0 then (if sg a.cost b.cost = 0 then (if sg a.bridge b.bridge = 0 then sg a.port b.port else sg a.bridge b.bridge) else sg a.cost b.cost) else sg a.root b.root := by
    have e1 : orTo (sg4 a b) 1 = sg a.root b.root := by simp [orTo, sg4]
    have e2 : orTo (sg4 a b) 2 = if sg a.root b.root = 0 then sg a.cost b.cost else sg a.root b.root := by
      show (if orTo (sg4 a b) 1 = 0 then sg4 a b 1 else orTo (sg4 a b) 1) = _
      rw [e1]; rfl
    have e3 : orTo (sg4 a b) 3 = if sg a.root b.root = 0 then (if sg a.cost b.cost = 0 then sg a.bridge b.bridge else sg a.cost b.cost) else sg a.root b.root := by
      show (if orTo (sg4 a b) 2 = 0 then sg4 a b 2 else orTo (sg4 a b) 2) = _
      rw [e2]
      by_cases h : sg a.root b.root = 0
      · rw [if_pos h, if_pos h]; rfl
      · rw [if_neg h, if_neg h, if_neg h]
    show (if orTo (sg4 a b) 3 = 0 then sg4 a b 3 else orTo (sg4 a b) 3) = _
    rw [e3]
    by_cases h : sg a.root b.root = 0
    · rw [if_pos h, if_pos h]
      by_cases h2 : sg a.cost b.cost = 0
      · rw [if_pos h2, if_pos h2]; rfl
      · rw [if_neg h2, if_neg h2, if_neg h2]
    · rw [if_neg h, if_neg h, if_neg h]
  rw [e]
  simp only [sg_zero]
  have L : Vc.lt a b → Vc.cmp a b = -1 := fun h => if_pos h
  have G : Vc.lt b a → Vc.cmp a b = 1 := fun h => by unfold Vc.cmp; rw [if_neg (Vc.lt_asymm h), if_pos h]
  have Z : a = b → Vc.cmp a b = 0 := fun h => Vc.cmp_zero.2 h
  unfold sg
  by_cases h0 : a.root = b.root
  · rw [if_pos h0]
    by_cases h1 : a.cost = b.cost
    · rw [if_pos h1]
      by_cases h2 : a.bridge = b.bridge
      · rw [if_pos h2]
        by_cases h3 : a.port < b.port
        · rw [if_pos h3, L (by unfold Vc.lt; omega)]
        · rw [if_neg h3]
          by_cases h4 : b.port < a.port
          · rw [if_pos h4, G (by unfold Vc.lt; omega)]
          · rw [if_neg h4, Z (Vc.V.eq h0 h1 h2 (by omega))]
      · rw [if_neg h2]
        by_cases h3 : a.bridge < b.bridge
        · rw [if_pos h3, L (by unfold Vc.lt; omega)]
        · rw [if_neg h3, if_pos (by omega), G (by unfold Vc.lt; omega)]
    · rw [if_neg h1]
      by_cases h3 : a.cost < b.cost
      · rw [if_pos h3, L (by unfold Vc.lt; omega)]
      · rw [if_neg h3, if_pos (by omega), G (by unfold Vc.lt; omega)]
  · rw [if_neg h0]
    by_cases h3 : a.root < b.root
    · rw [if_pos h3, L (by unfold Vc.lt; omega)]
    · rw [if_neg h3, if_pos (by omega), G (by unfold Vc.lt; omega)]
end Go.Proofs.YtjdchfbianmmoaaDoor
