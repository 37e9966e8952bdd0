/- walks: the document's Wrong of frames -/
import Derived.Test.YtgkmaihleilchaaW1
namespace Go.Proofs.Ytgkmaihleilchaa
open Go.RowKit

set_option maxHeartbeats 2000000 in
theorem rwrong2_any (d s : Int) (t : Bool) (p : Int) (dr : Bool) (v y : Int) (ao : Option Addr) (n c : Nat) (w : World) (h0 : 0 ≤ s) :
    Calls Try.prog 20 #[.agg #[.int .u64 d, .int .u64 s, .bool t, .int .i64 p, .bool dr, .int .i64 v, .int .i64 y, .slice ao n c]] w fun e w' => e = .returned (.int .i64 (wrong d s t p v y n)) ∧ Below w.heap.size w w' := by
  unfold wrong
  by_cases c1 : 281474976710655 < d ∨ 281474976710655 < s
  · rw [if_pos c1]
    by_cases c2 : (281474976710656 : Int) ≤ d
    · clear c1
      go_enter Try.func20, Try.ntmps20
      go_wp2
      go_ret
      exact ⟨rfl, below_alloc1 _ _⟩
    · have c3 : (281474976710656 : Int) ≤ s := by omega
      clear c1
      go_enter Try.func20, Try.ntmps20
      go_wp2
      go_ret
      exact ⟨rfl, below_alloc1 _ _⟩
  · rw [if_neg c1]
    have c2 : ¬ (281474976710656 : Int) ≤ d := by omega
    have c3 : ¬ (281474976710656 : Int) ≤ s := by omega
    clear c1
    by_cases c4 : s / 1099511627776 % 2 = 1
    · rw [if_pos c4]
      go_enter Try.func20, Try.ntmps20
      go_wp2
      go_ret
      exact ⟨rfl, below_alloc1 _ _⟩
    · rw [if_neg c4]
      have c4b : (s / 1099511627776 % 2 == 1) = false := by simp [c4]
      by_cases c5 : t = true ∧ ¬ ((0 ≤ v ∧ v ≤ 4094) ∧ 0 ≤ p ∧ p ≤ 7)
      · rw [if_pos c5]
        obtain ⟨rfl, c6⟩ := c5
        by_cases v1 : v < 0
        · go_enter Try.func20, Try.ntmps20
          go_wp2
          go_ret
          exact ⟨rfl, below_alloc1 _ _⟩
        · by_cases v2 : 4094 < v
          · go_enter Try.func20, Try.ntmps20
            go_wp2
            go_ret
            exact ⟨rfl, below_alloc1 _ _⟩
          · by_cases v3 : p < 0
            · go_enter Try.func20, Try.ntmps20
              go_wp2
              go_ret
              exact ⟨rfl, below_alloc1 _ _⟩
            · have v4 : 7 < p := by omega
              go_enter Try.func20, Try.ntmps20
              go_wp2
              go_ret
              exact ⟨rfl, below_alloc1 _ _⟩
      · rw [if_neg c5]
        have ct : t = true → (¬ v < 0) ∧ (¬ 4094 < v) ∧ (¬ p < 0) ∧ (¬ 7 < p) := fun e => by
          by_cases q : (0 ≤ v ∧ v ≤ 4094) ∧ 0 ≤ p ∧ p ≤ 7
          · omega
          · exact absurd ⟨e, q⟩ c5
        clear c5
        by_cases c6 : (1536 ≤ y ∧ y ≤ 65535) ∧ y ≠ 33024
        · rw [if_neg (fun h => h c6)]
          have y1 : ¬ y < 1536 := by omega
          have y2 : ¬ 65535 < y := by omega
          have y3 : ¬ y = 33024 := by omega
          have y4 : (y == 33024) = false := by simp [y3]
          clear c6
          by_cases c8 : (1500 : Int) < n
          · have c9 : 1500 < n := by omega
            rw [if_pos c9]
            clear c9
            cases t with
            | false =>
              go_enter Try.func20, Try.ntmps20
              go_wp2
              go_ret
              exact ⟨rfl, below_alloc1 _ _⟩
            | true =>
              obtain ⟨t1, t2, t3, t4⟩ := ct rfl
              go_enter Try.func20, Try.ntmps20
              go_wp2
              go_ret
              exact ⟨rfl, below_alloc1 _ _⟩
          · have c9 : ¬ 1500 < n := by omega
            rw [if_neg c9]
            clear c9
            cases t with
            | false =>
              go_enter Try.func20, Try.ntmps20
              go_wp2
              go_ret
              exact ⟨rfl, below_alloc1 _ _⟩
            | true =>
              obtain ⟨t1, t2, t3, t4⟩ := ct rfl
              go_enter Try.func20, Try.ntmps20
              go_wp2
              go_ret
              exact ⟨rfl, below_alloc1 _ _⟩
        · rw [if_pos c6]
          cases t with
          | false =>
            by_cases y1 : y < 1536
            · go_enter Try.func20, Try.ntmps20
              go_wp2
              go_ret
              exact ⟨rfl, below_alloc1 _ _⟩
            · by_cases y2 : 65535 < y
              · go_enter Try.func20, Try.ntmps20
                go_wp2
                go_ret
                exact ⟨rfl, below_alloc1 _ _⟩
              · obtain rfl : y = 33024 := by omega
                go_enter Try.func20, Try.ntmps20
                go_wp2
                go_ret
                exact ⟨rfl, below_alloc1 _ _⟩
          | true =>
            obtain ⟨t1, t2, t3, t4⟩ := ct rfl
            by_cases y1 : y < 1536
            · go_enter Try.func20, Try.ntmps20
              go_wp2
              go_ret
              exact ⟨rfl, below_alloc1 _ _⟩
            · by_cases y2 : 65535 < y
              · go_enter Try.func20, Try.ntmps20
                go_wp2
                go_ret
                exact ⟨rfl, below_alloc1 _ _⟩
              · obtain rfl : y = 33024 := by omega
                go_enter Try.func20, Try.ntmps20
                go_wp2
                go_ret
                exact ⟨rfl, below_alloc1 _ _⟩
end Go.Proofs.Ytgkmaihleilchaa
