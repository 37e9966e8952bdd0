/- walks: cmp.Compare, cmp.Or, number.Within -/
import Derived.Test.YtcbpafpaimpfnaaGreatDoorCR
import Derived.Test.YtcbpafpaimpfnaaGreatDoorHT
namespace Go.Proofs.YtcbpafpaimpfnaaGreatDoor
open Go.RowKit

def sg (a b : Int) : Int := if a < b then -1 else if b < a then 1 else 0
set_option maxHeartbeats 400000 in
theorem ccmpu_any (a b : Int) (w : World) : Calls Tryz.prog 108 #[.int .u64 a, .int .u64 b] w fun e w' => e = .returned (.int .i64 (sg a b)) ∧ w' = w := by
  unfold sg
  by_cases h1 : a < b
  · rw [if_pos h1]
    go_enter Tryz.func108, Tryz.ntmps108
    go_wp2
    go_ret
    exact ⟨rfl, rfl⟩
  · rw [if_neg h1]
    by_cases h2 : b < a
    · rw [if_pos h2]
      go_enter Tryz.func108, Tryz.ntmps108
      go_wp2
      go_ret
      exact ⟨rfl, rfl⟩
    · rw [if_neg h2]
      go_enter Tryz.func108, Tryz.ntmps108
      go_wp2
      go_ret
      exact ⟨rfl, rfl⟩
set_option maxHeartbeats 400000 in
theorem ccmpi_any (a b : Int) (w : World) : Calls Tryz.prog 57 #[.int .i64 a, .int .i64 b] w fun e w' => e = .returned (.int .i64 (sg a b)) ∧ w' = w := by
  unfold sg
  by_cases h1 : a < b
  · rw [if_pos h1]
    go_enter Tryz.func57, Tryz.ntmps57
    go_wp2
    go_ret
    exact ⟨rfl, rfl⟩
  · rw [if_neg h1]
    by_cases h2 : b < a
    · rw [if_pos h2]
      go_enter Tryz.func57, Tryz.ntmps57
      go_wp2
      go_ret
      exact ⟨rfl, rfl⟩
    · rw [if_neg h2]
      go_enter Tryz.func57, Tryz.ntmps57
      go_wp2
      go_ret
      exact ⟨rfl, rfl⟩
set_option maxHeartbeats 400000 in
theorem vwithin_any (n l m : Int) (w : World) :
    Calls Tryz.prog 28 #[.int .i64 n, .int .i64 l, .int .i64 m] w fun e w' => e = .returned (.bool (decide (l ≤ n ∧ n ≤ m))) ∧ w' = w := by
  by_cases h1 : l ≤ n <;> by_cases h2 : n ≤ m
  all_goals
    go_enter Tryz.func28, Tryz.ntmps28
    go_wp2
    go_ret
    exact ⟨by simp [h1, h2], rfl⟩
/-- The first that is not nought. -/
def orTo (f : Nat → Int) : Nat → Int
  | 0 => 0
  | k + 1 => if orTo f k = 0 then f k else orTo f k
theorem orTo_stay (f : Nat → Int) (k : Nat) (h0 : orTo f k = 0) (h : f k ≠ 0) : ∀ n, k < n → orTo f n = f k
  | 0, hn => by omega
  | n + 1, hn => by
    simp only [orTo]
    by_cases e : k = n
    · subst e; rw [if_pos h0]
    · rw [orTo_stay f k h0 h n (by omega), if_neg h]
set_option maxHeartbeats 400000 in
theorem cor_any (b off n cap : Nat) (f : Nat → Int) (w : World) (hn : n ≤ 9223372036854775807) (hcap : n ≤ cap) (hf : ∀ i, i < n → w.cell? ⟨b, off + i, none⟩ = some (.int .i64 (f i))) :
    Calls Tryz.prog 87 #[.slice (some ⟨b, off, none⟩) n cap] w fun e w' => e = .returned (.int .i64 (orTo f n)) ∧ w' = w := by
  have HF : Hid (∀ i, i < n → w.cell? ⟨b, off + i, none⟩ = some (.int .i64 (f i))) := hf
  clear hf
  go_enter Tryz.func87, Tryz.ntmps87
  go_wp2_with fail
  go_loopw [8] (fun i wr => ∃ k : Nat, k ≤ n ∧ i = .int .i64 k ∧ Hid (orTo f k = 0) ∧ wr = w) (fun i _ => n - (intOf i).toNat)
  case atStart => exact ⟨0, by omega, rfl, rfl, rfl⟩
  case round =>
    obtain ⟨k, hk, rfl, hS, rfl⟩ := hrel
    by_cases hlt : k < n
    · have c0 := HF.out k hlt
      by_cases h0 : f k = 0
      · have d0 : (f k != 0) = false := by simp [h0]
        have HS2 : Hid (orTo f (k + 1) = 0) := by show (if orTo f k = 0 then f k else orTo f k) = 0; rw [if_pos hS.out, h0]
        clear HF hS
        go_wp2_with fail
        exact ⟨⟨k + 1, by omega, by go_num, HS2, trivial⟩, by simp [intOf]; omega⟩
      · have d0 : (f k != 0) = true := by simp [h0]
        have HS2 : Hid (orTo f n = f k) := orTo_stay f k hS.out h0 n hlt
        clear HF hS h0
        go_wp2_with fail
        go_ret
        exact ⟨by rw [HS2.out]; rfl, rfl⟩
    · obtain rfl : k = n := by omega
      clear HF
      go_wp2_with fail
      go_ret
      exact ⟨by rw [hS.out]; rfl, rfl⟩
theorem sg_zero {a b : Int} : sg a b = 0 ↔ a = b := by
  unfold sg
  by_cases h : a < b
  · rw [if_pos h]; omega
  · rw [if_neg h]
    by_cases k : b < a
    · rw [if_pos k]; omega
    · rw [if_neg k]; omega
end Go.Proofs.YtcbpafpaimpfnaaGreatDoor
