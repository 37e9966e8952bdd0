/- walks: region.within, isName's closure, slices.IndexFunc and ContainsFunc at it, isName -/
import Derived.Test.YtcbpafpaimpfnaaGreatDoorGMd
namespace Go.Proofs.YtcbpafpaimpfnaaGreatDoor
open Go.RowKit

set_option maxHeartbeats 400000 in
theorem gwithin_any (n l m : Int) (w : World) :
    Calls Tryz.prog 28 #[.int .i64 n, .int .i64 l, .int .i64 m] w fun e w' => e = .returned (.bool (decide (l ≤ n ∧ n ≤ m))) ∧ w' = w := by
  by_cases h1 : l ≤ n <;> by_cases h2 : n ≤ m
  all_goals
    go_enter Tryz.func28, Tryz.ntmps28
    go_wp2
    go_ret
    exact ⟨by simp [h1, h2], rfl⟩
set_option maxHeartbeats 400000 in
theorem godd_any (c : Int) (w : World) :
    Calls Tryz.prog 101 #[.int .u8 c] w fun e w' => e = .returned (.bool (Rg.odd c)) ∧ w' = w := by
  unfold Rg.odd
  by_cases h1 : c < 32 <;> by_cases h2 : 126 < c
  all_goals
    go_enter Tryz.func101, Tryz.ntmps101
    go_wp2
    go_ret
    exact ⟨by simp [h1, h2], rfl⟩
set_option maxHeartbeats 400000 in
theorem gindex_any (ao : Option Addr) (n cap : Nat) (bs : Nat → Int) (w : World) (hn : n ≤ 32) (hr : ByteRow w ao n cap bs) :
    Calls Tryz.prog 117 #[.slice ao n cap, .func (.func 101) #[] #[]] w fun e w' => ∃ r : Int, e = .returned (.int .i64 r) ∧ decide (0 ≤ r) = Rg.anyOdd bs n ∧ w' = w := by
  have HR : Hid (ByteRow w ao n cap bs) := hr
  clear hr
  go_enter Tryz.func117, Tryz.ntmps117
  go_wp2_with fail
  go_loopw [8] (fun i wr => ∃ k : Nat, k ≤ n ∧ i = .int .i64 k ∧ Hid (Rg.anyOdd bs k = false) ∧ wr = w) (fun i _ => n - (intOf i).toNat)
  case atStart => exact ⟨0, by omega, rfl, rfl, rfl⟩
  case round =>
    obtain ⟨k, hk, rfl, hX, rfl⟩ := hrel
    by_cases hlt : k < n
    · obtain ⟨b, off, rfl, hb, hc⟩ := HR.out.2 (by omega)
      have hcap := HR.out.1
      have c4 : wr.cell? ⟨b, off + k, none⟩ = some (.int .u8 (bs k)) := hc k hlt
      have HS1 : Hid (Rg.odd (bs k) = true → Rg.anyOdd bs n = true) := fun h => Rg.anyOdd_here bs k n hlt h
      have HS2 : Hid (Rg.odd (bs k) = false → Rg.anyOdd bs (k + 1) = false) := fun h => Rg.anyOdd_next bs k hX.out h
      clear hc HR hX
      generalize bs k = c at *
      cases ho : Rg.odd c with
      | true =>
        have HO : Hid (Rg.odd c = true) := ho
        clear ho
        go_wp2_with (go_at_call 101; refine (godd_any _ _).mono ?_; rintro e w1 ⟨rfl, rfl⟩; rw [HO.out])
        go_ret
        exact ⟨_, rfl, by rw [HS1.out HO.out]; simp, rfl⟩
      | false =>
        have HO : Hid (Rg.odd c = false) := ho
        clear ho
        go_wp2_with (go_at_call 101; refine (godd_any _ _).mono ?_; rintro e w1 ⟨rfl, rfl⟩; rw [HO.out])
        exact ⟨⟨k + 1, by omega, by go_num, HS2.out HO.out, trivial⟩, by simp [intOf]; omega⟩
    · obtain rfl : k = n := by omega
      go_wp2
      go_ret
      exact ⟨_, rfl, by rw [hX.out]; decide, rfl⟩
set_option maxHeartbeats 400000 in
theorem gcontains_any (ao : Option Addr) (n cap : Nat) (bs : Nat → Int) (w : World) (hn : n ≤ 32) (hr : ByteRow w ao n cap bs) :
    Calls Tryz.prog 102 #[.slice ao n cap, .func (.func 101) #[] #[]] w fun e w' => e = .returned (.bool (Rg.anyOdd bs n)) ∧ w' = w := by
  have HR : Hid (ByteRow w ao n cap bs) := hr
  clear hr
  go_enter Tryz.func102, Tryz.ntmps102
  go_wp2_with (go_at_call 117; refine (gindex_any _ _ _ bs _ hn HR.out).mono ?_; rintro e w1 ⟨r, rfl, hq, rfl⟩; have HQ : Hid (decide (0 ≤ r) = Rg.anyOdd bs n) := hq; clear hq)
  go_ret
  exact ⟨by rw [HQ.out]; rfl, rfl⟩
end Go.Proofs.YtcbpafpaimpfnaaGreatDoor
