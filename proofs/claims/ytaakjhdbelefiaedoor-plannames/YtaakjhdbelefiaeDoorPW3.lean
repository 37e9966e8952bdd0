/- walks: package plan's wrongLink, cmp.Or of errors, the closure of wrongLinks -/
import Derived.Test.YtaakjhdbelefiaeDoorPW2
import Derived.Test.YtaakjhdbelefiaeDoorVK2
namespace Go.Proofs.YtaakjhdbelefiaeDoor
open Go.RowKit Go.Maps
open Pl (Br Net Pc Lk En St)

theorem lk_cells {w : World} {g : Nat} {a0 a1 a2 a3 a4 a5 : Value} {ty : TypeId} (h : w.heap[g]? = some (.cells #[a0, a1, a2, a3, a4, a5] ty (0, 0))) :
    w.cell? ⟨g, 0, none⟩ = some a0 ∧ w.cell? ⟨g, 1, none⟩ = some a1 ∧ w.cell? ⟨g, 2, none⟩ = some a2 ∧ w.cell? ⟨g, 3, none⟩ = some a3 ∧ w.cell? ⟨g, 4, none⟩ = some a4 ∧ w.cell? ⟨g, 5, none⟩ = some a5 :=
  ⟨cell_of_row w g 0 _ _ _ h, cell_of_row w g 1 _ _ _ h, cell_of_row w g 2 _ _ _ h, cell_of_row w g 3 _ _ _ h, cell_of_row w g 4 _ _ _ h, cell_of_row w g 5 _ _ _ h⟩
def lkA (l : Lk) : Array Value := #[.int .i64 l.a, .int .i64 l.pa, .int .i64 l.b, .int .i64 l.pb, .int .i64 l.cost, .bool l.up]
set_option maxRecDepth 100000 in
set_option maxHeartbeats 2000000 in
theorem pwrongLink_any (K : Nat) (l : Lk) (w : World) (hK : K ≤ 12) :
    Calls Tryd.prog 36 #[.agg (lkA l), .int .i64 K] w fun e w' => e = .returned (.int .i64 (Pl.lkErr K l)) ∧ Below w.heap.size w w' := by
  obtain ⟨a, pa, b, pb, c, up⟩ := l
  simp only [lkA]
  have HA : Hid (∀ W, Calls Tryd.prog 12 #[.int .i64 a, .int .i64 0, .int .i64 ((K : Int) - 1)] W fun e w' => e = .returned (.bool (decide (0 ≤ a ∧ a ≤ (K : Int) - 1))) ∧ w' = W) := fun W => gwithin_any _ _ _ W
  have HB : Hid (∀ W, Calls Tryd.prog 12 #[.int .i64 b, .int .i64 0, .int .i64 ((K : Int) - 1)] W fun e w' => e = .returned (.bool (decide (0 ≤ b ∧ b ≤ (K : Int) - 1))) ∧ w' = W) := fun W => gwithin_any _ _ _ W
  have HP : Hid (∀ W, Calls Tryd.prog 12 #[.int .i64 pa, .int .i64 1, .int .i64 30] W fun e w' => e = .returned (.bool (decide (1 ≤ pa ∧ pa ≤ 30))) ∧ w' = W) := fun W => gwithin_any _ _ _ W
  have HQ : Hid (∀ W, Calls Tryd.prog 12 #[.int .i64 pb, .int .i64 1, .int .i64 30] W fun e w' => e = .returned (.bool (decide (1 ≤ pb ∧ pb ≤ 30))) ∧ w' = W) := fun W => gwithin_any _ _ _ W
  have HC : Hid (∀ W, Calls Tryd.prog 12 #[.int .i64 c, .int .i64 1, .int .i64 200000] W fun e w' => e = .returned (.bool (decide (1 ≤ c ∧ c ≤ 200000))) ∧ w' = W) := fun W => gwithin_any _ _ _ W
  have wk : IntKind.i64.wrap ((K : Int) - 1) = (K : Int) - 1 := by rw [IntKind.wrap_i64]; omega
  obtain ⟨c0, c1, c2, c3, c4, c5⟩ := lk_cells (heap_alloc_last w (.cells #[.int .i64 a, .int .i64 pa, .int .i64 b, .int .i64 pb, .int .i64 c, .bool up] 35))
  have HE : Hid (Pl.lkErr K ⟨a, pa, b, pb, c, up⟩ = if ¬ (0 ≤ a ∧ a ≤ (K : Int) - 1) ∨ ¬ (0 ≤ b ∧ b ≤ (K : Int) - 1) then 6 else if a = b then 8 else if ¬ (1 ≤ pa ∧ pa ≤ 30) ∨ ¬ (1 ≤ pb ∧ pb ≤ 30) ∨ ¬ (1 ≤ c ∧ c ≤ 200000) then 3 else 0) := rfl
  rw [HE.out]
  clear HE
  by_cases h1 : 0 ≤ a ∧ a ≤ (K : Int) - 1
  · rw [decide_eq_true h1] at HA
    by_cases h2 : 0 ≤ b ∧ b ≤ (K : Int) - 1
    · rw [decide_eq_true h2] at HB
      rw [if_neg (by simp only [not_or, Classical.not_not]; exact ⟨h1, h2⟩)]
      by_cases h3 : a = b
      · rw [if_pos h3]
        have d3 : (a == b) = true := by simp [h3]
        clear h1 h2 h3
        go_enter Tryd.func36, Tryd.ntmps36
        go_wp2_with (go_at_call 12; first | ((with_reducible refine (HA.out _).mono ?_); rintro e w1 ⟨rfl, rfl⟩) | ((with_reducible refine (HB.out _).mono ?_); rintro e w1 ⟨rfl, rfl⟩))
        go_ret
        exact ⟨rfl, below_alloc1 _ _⟩
      · rw [if_neg h3]
        have d3 : (a == b) = false := by simp [h3]
        by_cases h4 : 1 ≤ pa ∧ pa ≤ 30
        · rw [decide_eq_true h4] at HP
          by_cases h5 : 1 ≤ pb ∧ pb ≤ 30
          · rw [decide_eq_true h5] at HQ
            by_cases h6 : 1 ≤ c ∧ c ≤ 200000
            · rw [decide_eq_true h6] at HC
              rw [if_neg (by simp only [not_or, Classical.not_not]; exact ⟨h4, h5, h6⟩)]
              clear h1 h2 h3 h4 h5 h6
              go_enter Tryd.func36, Tryd.ntmps36
              go_wp2_with (go_at_call 12; first | ((with_reducible refine (HA.out _).mono ?_); rintro e w1 ⟨rfl, rfl⟩) | ((with_reducible refine (HB.out _).mono ?_); rintro e w1 ⟨rfl, rfl⟩) | ((with_reducible refine (HP.out _).mono ?_); rintro e w1 ⟨rfl, rfl⟩) | ((with_reducible refine (HQ.out _).mono ?_); rintro e w1 ⟨rfl, rfl⟩) | ((with_reducible refine (HC.out _).mono ?_); rintro e w1 ⟨rfl, rfl⟩))
              go_ret
              exact ⟨rfl, below_alloc1 _ _⟩
            · rw [decide_eq_false h6] at HC
              rw [if_pos (Or.inr (Or.inr h6))]
              clear h1 h2 h3 h4 h5 h6
              go_enter Tryd.func36, Tryd.ntmps36
              go_wp2_with (go_at_call 12; first | ((with_reducible refine (HA.out _).mono ?_); rintro e w1 ⟨rfl, rfl⟩) | ((with_reducible refine (HB.out _).mono ?_); rintro e w1 ⟨rfl, rfl⟩) | ((with_reducible refine (HP.out _).mono ?_); rintro e w1 ⟨rfl, rfl⟩) | ((with_reducible refine (HQ.out _).mono ?_); rintro e w1 ⟨rfl, rfl⟩) | ((with_reducible refine (HC.out _).mono ?_); rintro e w1 ⟨rfl, rfl⟩))
              go_ret
              exact ⟨rfl, below_alloc1 _ _⟩
          · rw [decide_eq_false h5] at HQ
            rw [if_pos (Or.inr (Or.inl h5))]
            clear h1 h2 h3 h4 h5
            go_enter Tryd.func36, Tryd.ntmps36
            go_wp2_with (go_at_call 12; first | ((with_reducible refine (HA.out _).mono ?_); rintro e w1 ⟨rfl, rfl⟩) | ((with_reducible refine (HB.out _).mono ?_); rintro e w1 ⟨rfl, rfl⟩) | ((with_reducible refine (HP.out _).mono ?_); rintro e w1 ⟨rfl, rfl⟩) | ((with_reducible refine (HQ.out _).mono ?_); rintro e w1 ⟨rfl, rfl⟩))
            go_ret
            exact ⟨rfl, below_alloc1 _ _⟩
        · rw [decide_eq_false h4] at HP
          rw [if_pos (Or.inl h4)]
          clear h1 h2 h3 h4
          go_enter Tryd.func36, Tryd.ntmps36
          go_wp2_with (go_at_call 12; first | ((with_reducible refine (HA.out _).mono ?_); rintro e w1 ⟨rfl, rfl⟩) | ((with_reducible refine (HB.out _).mono ?_); rintro e w1 ⟨rfl, rfl⟩) | ((with_reducible refine (HP.out _).mono ?_); rintro e w1 ⟨rfl, rfl⟩))
          go_ret
          exact ⟨rfl, below_alloc1 _ _⟩
    · rw [decide_eq_false h2] at HB
      rw [if_pos (Or.inr h2)]
      clear h1 h2
      go_enter Tryd.func36, Tryd.ntmps36
      go_wp2_with (go_at_call 12; first | ((with_reducible refine (HA.out _).mono ?_); rintro e w1 ⟨rfl, rfl⟩) | ((with_reducible refine (HB.out _).mono ?_); rintro e w1 ⟨rfl, rfl⟩))
      go_ret
      exact ⟨rfl, below_alloc1 _ _⟩
  · rw [decide_eq_false h1] at HA
    rw [if_pos (Or.inl h1)]
    clear h1
    go_enter Tryd.func36, Tryd.ntmps36
    go_wp2_with (go_at_call 12; refine (HA.out _).mono ?_; rintro e w1 ⟨rfl, rfl⟩)
    go_ret
    exact ⟨rfl, below_alloc1 _ _⟩
set_option maxHeartbeats 400000 in
theorem core_any (b off n cap : Nat) (f : Nat → Int) (w : World) (hn : n ≤ 9223372036854775807) (hcap : n ≤ cap) (hf : ∀ i, i < n → w.cell? ⟨b, off + i, none⟩ = some (.int .i64 (f i))) :
    Calls Tryd.prog 37 #[.slice (some ⟨b, off, none⟩) n cap] w fun e w' => e = .returned (.int .i64 (orTo f n)) ∧ w' = w := by
  have HF : Hid (∀ i, i < n → w.cell? ⟨b, off + i, none⟩ = some (.int .i64 (f i))) := hf
  clear hf
  go_enter Tryd.func37, Tryd.ntmps37
  go_wp2_with fail
  go_loopw [8] (fun i wr => ∃ k : Nat, k ≤ n ∧ i = .int .i64 k ∧ Hid (orTo f k = 0) ∧ wr = w) (fun i _ => n - (intOf i).toNat)
  case atStart => exact ⟨0, by omega, rfl, rfl, rfl⟩
  case round =>
    obtain ⟨k, hk, rfl, hS, rfl⟩ := hrel
    by_cases hlt : k < n
    · have c0 := HF.out k hlt
      by_cases h0 : f k = 0
      · have d0 : (f k != 0) = false := by simp [h0]
        have HS2 : Hid (orTo f (k + 1) = 0) := by show (if orTo f k = 0 then f k else orTo f k) = 0; rw [if_pos hS.out, h0]
        clear HF hS
        go_wp2_with fail
        exact ⟨⟨k + 1, by omega, by go_num, HS2, trivial⟩, by simp [intOf]; omega⟩
      · have d0 : (f k != 0) = true := by simp [h0]
        have HS2 : Hid (orTo f n = f k) := orTo_stay f k hS.out h0 n hlt
        clear HF hS h0
        go_wp2_with fail
        go_ret
        exact ⟨by rw [HS2.out]; rfl, rfl⟩
    · obtain rfl : k = n := by omega
      clear HF
      go_wp2_with fail
      go_ret
      exact ⟨by rw [hS.out]; rfl, rfl⟩
theorem core2 (x y : Int) (g : Nat) (ty : TypeId) (w : World) (h : w.heap[g]? = some (.cells #[.int .i64 x, .int .i64 y] ty (0, 0))) :
    Calls Tryd.prog 37 #[.slice (some ⟨g, 0, none⟩) 2 2] w fun e w' => e = .returned (.int .i64 (if x = 0 then y else x)) ∧ w' = w := by
  obtain ⟨c0, c1⟩ := two_cells2 h
  have := core_any g 0 2 2 (fun i => if i = 0 then x else y) w (by omega) (by omega) (fun i hi => by
    rcases (by omega : i = 0 ∨ i = 1) with e | e <;> subst e
    · exact c0
    · exact c1)
  have e : orTo (fun i => if i = 0 then x else y) 2 = if x = 0 then y else x := by
    have e1 : orTo (fun i => if i = 0 then x else y) 1 = x := by simp [orTo]
    show (if orTo (fun i => if i = 0 then x else y) 1 = 0 then y else orTo (fun i => if i = 0 then x else y) 1) = _
    rw [e1]
  rw [e] at this
  exact this
end Go.Proofs.YtaakjhdbelefiaeDoor
