/- walks: within, OfMany, tagFits, isType, Wrong, tagOf -/
import Derived.Test.YtgkmaihleilchaaBase
import Derived.Test.YtgkmaihleilchaaOM
namespace Go.Proofs.Ytgkmaihleilchaa
open Go.RowKit

set_option maxHeartbeats 400000 in
theorem within_any (n l m : Int) (w : World) :
    Calls Try.prog 50 #[.int .i64 n, .int .i64 l, .int .i64 m] w fun e w' => e = .returned (.bool (decide (l ≤ n ∧ n ≤ m))) ∧ w' = w := by
  by_cases h1 : l ≤ n <;> by_cases h2 : n ≤ m
  all_goals
    go_enter Try.func50, Try.ntmps50
    go_wp2
    go_ret
    exact ⟨by simp [h1, h2], rfl⟩
set_option maxHeartbeats 400000 in
theorem tagFits_any (d s : Int) (t : Bool) (p : Int) (dr : Bool) (v y : Int) (ao : Option Addr) (n c : Nat) (w : World) :
    Calls Try.prog 56 #[.agg #[.int .u64 d, .int .u64 s, .bool t, .int .i64 p, .bool dr, .int .i64 v, .int .i64 y, .slice ao n c]] w fun e w' => e = .returned (.bool (decide ((0 ≤ v ∧ v ≤ 4094) ∧ 0 ≤ p ∧ p ≤ 7))) ∧ Below w.heap.size w w' := by
  by_cases h1 : 0 ≤ v ∧ v ≤ 4094
  all_goals
    go_enter Try.func56, Try.ntmps56
    go_wp2_with (go_at_call 50; refine (within_any _ _ _ _).mono ?_; rintro e w1 ⟨rfl, rfl⟩)
    go_ret
    exact ⟨by simp [h1], (Below.refl _ _).alloc (Nat.le_refl _) _⟩
set_option maxHeartbeats 400000 in
theorem isType_any (y : Int) (w : World) :
    Calls Try.prog 57 #[.int .i64 y] w fun e w' => e = .returned (.bool (decide ((1536 ≤ y ∧ y ≤ 65535) ∧ y ≠ 33024))) ∧ w' = w := by
  by_cases h1 : 1536 ≤ y ∧ y ≤ 65535
  all_goals
    go_enter Try.func57, Try.ntmps57
    go_wp2_with (go_at_call 50; refine (within_any _ _ _ _).mono ?_; rintro e w1 ⟨rfl, rfl⟩)
    go_ret
    exact ⟨by by_cases e : y = 33024 <;> simp [h1, e], rfl⟩
/-- A frame's fields, in a block of their own. -/
theorem fr_cells {w : World} {g : Nat} {a0 a1 a2 a3 a4 a5 a6 a7 : Value} {ty : TypeId} (h : w.heap[g]? = some (.cells #[a0, a1, a2, a3, a4, a5, a6, a7] ty (0, 0))) :
    w.cell? ⟨g, 0, none⟩ = some a0 ∧ w.cell? ⟨g, 1, none⟩ = some a1 ∧ w.cell? ⟨g, 2, none⟩ = some a2 ∧ w.cell? ⟨g, 3, none⟩ = some a3 ∧ w.cell? ⟨g, 4, none⟩ = some a4 ∧ w.cell? ⟨g, 5, none⟩ = some a5 ∧ w.cell? ⟨g, 6, none⟩ = some a6 ∧ w.cell? ⟨g, 7, none⟩ = some a7 :=
  ⟨cell_of_row w g 0 _ _ _ h, cell_of_row w g 1 _ _ _ h, cell_of_row w g 2 _ _ _ h, cell_of_row w g 3 _ _ _ h, cell_of_row w g 4 _ _ _ h, cell_of_row w g 5 _ _ _ h, cell_of_row w g 6 _ _ _ h, cell_of_row w g 7 _ _ _ h⟩
theorem fr_free {w : World} {g : Nat} {A : Array Value} {ty : TypeId} (h : w.heap[g]? = some (.cells A ty (0, 0))) :
    w.frozen? ⟨g, 0, none⟩ = false ∧ w.frozen? ⟨g, 1, none⟩ = false ∧ w.frozen? ⟨g, 2, none⟩ = false ∧ w.frozen? ⟨g, 3, none⟩ = false ∧ w.frozen? ⟨g, 4, none⟩ = false ∧ w.frozen? ⟨g, 5, none⟩ = false ∧ w.frozen? ⟨g, 6, none⟩ = false ∧ w.frozen? ⟨g, 7, none⟩ = false :=
  ⟨frozen_of_row _ _ _ _ _ h, frozen_of_row _ _ _ _ _ h, frozen_of_row _ _ _ _ _ h, frozen_of_row _ _ _ _ _ h, frozen_of_row _ _ _ _ _ h, frozen_of_row _ _ _ _ _ h, frozen_of_row _ _ _ _ _ h, frozen_of_row _ _ _ _ _ h⟩
set_option maxHeartbeats 1000000 in
theorem wrong_any (d s : Int) (t : Bool) (p : Int) (dr : Bool) (v y : Int) (ao : Option Addr) (n c : Nat) (w : World) (h0 : 0 ≤ s) (h1 : s < 18446744073709551616) :
    Calls Try.prog 29 #[.agg #[.int .u64 d, .int .u64 s, .bool t, .int .i64 p, .bool dr, .int .i64 v, .int .i64 y, .slice ao n c]] w fun e w' => e = .returned (.int .i64 (wrong d s t p v y n)) ∧ Below w.heap.size w w' := by
  unfold wrong
  have HM : Hid (∀ w, Calls Try.prog 55 #[.int .u64 s] w fun e w' => e = .returned (.bool (decide (s / 1099511627776 % 2 = 1))) ∧ w' = w) := fun w => ofMany_any s w h0 h1
  clear h0 h1
  by_cases c1 : 281474976710655 < d ∨ 281474976710655 < s
  · rw [if_pos c1]
    by_cases c2 : 281474976710655 < d
    · go_enter Try.func29, Try.ntmps29
      go_wp2_with fail
      go_ret
      exact ⟨rfl, (Below.refl _ _).alloc (Nat.le_refl _) _⟩
    · have c3 : 281474976710655 < s := by omega
      clear c1
      go_enter Try.func29, Try.ntmps29
      go_wp2_with fail
      go_ret
      exact ⟨rfl, (Below.refl _ _).alloc (Nat.le_refl _) _⟩
  · rw [if_neg c1]
    have c2 : ¬ 281474976710655 < d := by omega
    have c3 : ¬ 281474976710655 < s := by omega
    clear c1
    by_cases c4 : s / 1099511627776 % 2 = 1
    · rw [if_pos c4]
      go_enter Try.func29, Try.ntmps29
      go_wp2_with (go_at_call 55; refine (HM.out _).mono ?_; rintro e w1 ⟨rfl, rfl⟩)
      go_ret
      exact ⟨rfl, (Below.refl _ _).alloc (Nat.le_refl _) _⟩
    · rw [if_neg c4]
      by_cases c5 : t = true ∧ ¬ ((0 ≤ v ∧ v ≤ 4094) ∧ 0 ≤ p ∧ p ≤ 7)
      · rw [if_pos c5]
        obtain ⟨rfl, c6⟩ := c5
        go_enter Try.func29, Try.ntmps29
        go_wp2_with (first | (go_at_call 55; refine (HM.out _).mono ?_; rintro e w1 ⟨rfl, rfl⟩) | (go_at_call 56; refine (tagFits_any _ _ _ _ _ _ _ _ _ _ _).mono ?_; rintro e w1 ⟨rfl, hb⟩))
        go_ret
        exact ⟨rfl, (below_alloc1 _ _).trans (hb.mono (by simp))⟩
      · rw [if_neg c5]
        have HB : Hid (∀ w1 : World, ∀ a0 a1 a2 a3 a4 a5 a6 a7 : Value, Below (w.alloc (.cells #[a0, a1, a2, a3, a4, a5, a6, a7] 30)).heap.size (w.alloc (.cells #[a0, a1, a2, a3, a4, a5, a6, a7] 30)) w1 → w1.cell? ⟨w.heap.size, 6, none⟩ = some a6 ∧ w1.cell? ⟨w.heap.size, 7, none⟩ = some a7 ∧ Hid (Below w.heap.size w w1)) := by
          intro w1 a0 a1 a2 a3 a4 a5 a6 a7 hb
          have h := fr_cells ((hb.block _ (by simp)).trans (heap_alloc_last w (.cells #[a0, a1, a2, a3, a4, a5, a6, a7] 30)))
          exact ⟨h.2.2.2.2.2.2.1, h.2.2.2.2.2.2.2, (below_alloc1 w _).trans (hb.mono (by simp))⟩
        by_cases c6 : (1536 ≤ y ∧ y ≤ 65535) ∧ y ≠ 33024
        · rw [if_neg (fun h => h c6)]
          have c7 : decide ((1536 ≤ y ∧ y ≤ 65535) ∧ y ≠ 33024) = true := decide_eq_true c6
          clear c6
          cases t with
          | false =>
            clear c5
            by_cases c8 : (1500 : Int) < n
            · have c9 : 1500 < n := by omega
              rw [if_pos c9]
              clear c9
              go_enter Try.func29, Try.ntmps29
              go_wp2_with (first | (go_at_call 55; refine (HM.out _).mono ?_; rintro e w1 ⟨rfl, rfl⟩) | (go_at_call 57; refine (isType_any _ _).mono ?_; rintro e w1 ⟨rfl, rfl⟩))
              go_ret
              exact ⟨rfl, (below_alloc1 _ _)⟩
            · have c9 : ¬ 1500 < n := by omega
              rw [if_neg c9]
              clear c9
              go_enter Try.func29, Try.ntmps29
              go_wp2_with (first | (go_at_call 55; refine (HM.out _).mono ?_; rintro e w1 ⟨rfl, rfl⟩) | (go_at_call 57; refine (isType_any _ _).mono ?_; rintro e w1 ⟨rfl, rfl⟩))
              go_ret
              exact ⟨rfl, (below_alloc1 _ _)⟩
          | true =>
            have c10 : decide ((0 ≤ v ∧ v ≤ 4094) ∧ 0 ≤ p ∧ p ≤ 7) = true := decide_eq_true (by by_cases q : (0 ≤ v ∧ v ≤ 4094) ∧ 0 ≤ p ∧ p ≤ 7; exact q; exact absurd ⟨rfl, q⟩ c5)
            clear c5
            by_cases c8 : (1500 : Int) < n
            · have c9 : 1500 < n := by omega
              rw [if_pos c9]
              clear c9
              go_enter Try.func29, Try.ntmps29
              go_wp2_with (first | (go_at_call 55; refine (HM.out _).mono ?_; rintro e w1 ⟨rfl, rfl⟩) | (go_at_call 56; refine (tagFits_any _ _ _ _ _ _ _ _ _ _ _).mono ?_; rintro e w1 ⟨rfl, hb⟩; rw [c10]; obtain ⟨q6, q7, HBB⟩ := HB.out _ _ _ _ _ _ _ _ _ hb; clear hb) | (go_at_call 57; refine (isType_any _ _).mono ?_; rintro e w1 ⟨rfl, rfl⟩))
              go_ret
              exact ⟨rfl, HBB.out⟩
            · have c9 : ¬ 1500 < n := by omega
              rw [if_neg c9]
              clear c9
              go_enter Try.func29, Try.ntmps29
              go_wp2_with (first | (go_at_call 55; refine (HM.out _).mono ?_; rintro e w1 ⟨rfl, rfl⟩) | (go_at_call 56; refine (tagFits_any _ _ _ _ _ _ _ _ _ _ _).mono ?_; rintro e w1 ⟨rfl, hb⟩; rw [c10]; obtain ⟨q6, q7, HBB⟩ := HB.out _ _ _ _ _ _ _ _ _ hb; clear hb) | (go_at_call 57; refine (isType_any _ _).mono ?_; rintro e w1 ⟨rfl, rfl⟩))
              go_ret
              exact ⟨rfl, HBB.out⟩
        · rw [if_pos c6]
          have c7 : decide ((1536 ≤ y ∧ y ≤ 65535) ∧ y ≠ 33024) = false := decide_eq_false c6
          clear c6
          cases t with
          | false =>
            clear c5
            go_enter Try.func29, Try.ntmps29
            go_wp2_with (first | (go_at_call 55; refine (HM.out _).mono ?_; rintro e w1 ⟨rfl, rfl⟩) | (go_at_call 57; refine (isType_any _ _).mono ?_; rintro e w1 ⟨rfl, rfl⟩; rw [c7]))
            go_ret
            exact ⟨rfl, (below_alloc1 _ _)⟩
          | true =>
            have c10 : decide ((0 ≤ v ∧ v ≤ 4094) ∧ 0 ≤ p ∧ p ≤ 7) = true := decide_eq_true (by by_cases q : (0 ≤ v ∧ v ≤ 4094) ∧ 0 ≤ p ∧ p ≤ 7; exact q; exact absurd ⟨rfl, q⟩ c5)
            clear c5
            go_enter Try.func29, Try.ntmps29
            go_wp2_with (first | (go_at_call 55; refine (HM.out _).mono ?_; rintro e w1 ⟨rfl, rfl⟩) | (go_at_call 56; refine (tagFits_any _ _ _ _ _ _ _ _ _ _ _).mono ?_; rintro e w1 ⟨rfl, hb⟩; rw [c10]; obtain ⟨q6, q7, HBB⟩ := HB.out _ _ _ _ _ _ _ _ _ hb; clear hb) | (go_at_call 57; refine (isType_any _ _).mono ?_; rintro e w1 ⟨rfl, rfl⟩; rw [c7]))
            go_ret
            exact ⟨rfl, HBB.out⟩
end Go.Proofs.Ytgkmaihleilchaa
