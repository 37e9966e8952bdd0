/- walks: package book's inRange, mayLearn, order -/
import Derived.Test.YtgkmaihleilchaaBB
import Derived.Test.YtgkmaihleilchaaKC
import Derived.Test.YtgkmaihleilchaaOM
namespace Go.Proofs.Ytgkmaihleilchaa
open Go.RowKit
open Bk (E at')

set_option maxHeartbeats 400000 in
theorem binr_raw (vi ad po ag : Int) (w : World) :
    Calls Try.prog 53 #[.agg #[.int .i64 vi, .int .u64 ad, .int .i64 po, .int .i64 ag]] w fun e w' => e = .returned (.bool (decide ((1 ≤ vi ∧ vi ≤ 4094) ∧ ad ≤ 281474976710655 ∧ (0 ≤ po ∧ po ≤ 30) ∧ (0 ≤ ag ∧ ag ≤ 300)))) ∧ Below w.heap.size w w' := by
  by_cases h1 : 1 ≤ vi ∧ vi ≤ 4094
  · have d1 : decide (1 ≤ vi ∧ vi ≤ 4094) = true := decide_eq_true h1
    by_cases h2 : ad ≤ 281474976710655
    · by_cases h3 : 0 ≤ po ∧ po ≤ 30
      · have d3 : decide (0 ≤ po ∧ po ≤ 30) = true := decide_eq_true h3
        go_enter Try.func53, Try.ntmps53
        go_wp2_with (go_at_call 50; refine (vwithin_any _ _ _ _).mono ?_; rintro e w1 ⟨rfl, rfl⟩; first | rw [d1] | rw [d3] | skip)
        go_ret
        exact ⟨by simp [h1, h2, h3], (Below.refl _ _).alloc (Nat.le_refl _) _⟩
      · have d3 : decide (0 ≤ po ∧ po ≤ 30) = false := decide_eq_false h3
        go_enter Try.func53, Try.ntmps53
        go_wp2_with (go_at_call 50; refine (vwithin_any _ _ _ _).mono ?_; rintro e w1 ⟨rfl, rfl⟩; first | rw [d1] | rw [d3] | skip)
        go_ret
        exact ⟨by simp [h3], (Below.refl _ _).alloc (Nat.le_refl _) _⟩
    · have d2 : decide (ad ≤ 281474976710655) = false := decide_eq_false h2
      go_enter Try.func53, Try.ntmps53
      go_wp2_with (go_at_call 50; refine (vwithin_any _ _ _ _).mono ?_; rintro e w1 ⟨rfl, rfl⟩; first | rw [d1] | skip)
      go_ret
      exact ⟨by simp; intros; omega, (Below.refl _ _).alloc (Nat.le_refl _) _⟩
  · have d1 : decide (1 ≤ vi ∧ vi ≤ 4094) = false := decide_eq_false h1
    go_enter Try.func53, Try.ntmps53
    go_wp2_with (go_at_call 50; refine (vwithin_any _ _ _ _).mono ?_; rintro e w1 ⟨rfl, rfl⟩; first | rw [d1] | skip)
    go_ret
    exact ⟨by simp [h1], (Below.refl _ _).alloc (Nat.le_refl _) _⟩
theorem binr_any (x : E) (w : World) :
    Calls Try.prog 53 #[.agg #[.int .i64 x.vid, .int .u64 x.addr, .int .i64 x.port, .int .i64 x.age]] w fun e w' => e = .returned (.bool (decide (Bk.rng x))) ∧ Below w.heap.size w w' := binr_raw _ _ _ _ w
set_option maxHeartbeats 400000 in
theorem bmay_any (x : E) (w : World) (h0 : 0 ≤ x.addr) (h1 : x.addr < 18446744073709551616) :
    Calls Try.prog 60 #[.agg #[.int .i64 x.vid, .int .u64 x.addr, .int .i64 x.port, .int .i64 x.age]] w fun e w' => e = .returned (.bool (decide (Bk.may x))) ∧ Below w.heap.size w w' := by
  have HM : Hid (∀ w, Calls Try.prog 55 #[.int .u64 x.addr] w fun e w' => e = .returned (.bool (decide (x.addr / 1099511627776 % 2 = 1))) ∧ w' = w) := fun w => ofMany_any x.addr w h0 h1
  have HX : Hid (∀ W W', Below w.heap.size w W → Below W.heap.size W W' → Below w.heap.size w W') := fun W W' h h' => h.trans (h'.mono h.size)
  have HE : Hid (decide (Bk.may x) = (decide (Bk.rng x) && !decide (x.addr / 1099511627776 % 2 = 1))) := by
    show decide (Bk.rng x ∧ x.addr / 1099511627776 % 2 = 0) = (decide (Bk.rng x) && !decide (x.addr / 1099511627776 % 2 = 1))
    by_cases q : x.addr / 1099511627776 % 2 = 1
    · simp [q]
    · simp [show x.addr / 1099511627776 % 2 = 0 by omega]
  have HR : Hid (∀ W, Calls Try.prog 53 #[.agg #[.int .i64 x.vid, .int .u64 x.addr, .int .i64 x.port, .int .i64 x.age]] W fun e w' => e = .returned (.bool (decide (Bk.rng x))) ∧ Below W.heap.size W w') := fun W => binr_any x W
  obtain ⟨W0, HW0⟩ : ∃ W0, Hid (W0 = w.alloc (.cells #[.int .i64 x.vid, .int .u64 x.addr, .int .i64 x.port, .int .i64 x.age] 76)) := ⟨_, rfl⟩
  have HB0 : Hid (Below w.heap.size w W0) := by rw [HW0.out]; exact below_alloc1 _ _
  have HC : Hid (∀ W, Below W0.heap.size W0 W → W.cell? ⟨w.heap.size, 1, none⟩ = some (.int .u64 x.addr)) := fun W hW => by
    rw [HW0.out] at hW
    exact (en_cells (keep (heap_alloc_last w _) hW)).2.1
  clear h0 h1
  rw [HE.out]
  by_cases h : Bk.rng x
  · rw [decide_eq_true h] at HR
    rw [decide_eq_true h]
    go_enter Try.func60, Try.ntmps60
    go_wp2_with fail
    rw [← HW0.out]
    refine (HR.out _).mono ?_
    rintro e w1 ⟨rfl, hb1⟩
    have c1 := HC.out w1 hb1
    have HB1 : Hid (Below w.heap.size w w1) := HX.out _ _ HB0.out hb1
    clear hb1
    go_wp2_with (go_at_call 55; refine (HM.out _).mono ?_; rintro e w2 ⟨rfl, rfl⟩)
    go_ret
    exact ⟨by simp, HB1.out⟩
  · rw [decide_eq_false h] at HR
    rw [decide_eq_false h]
    go_enter Try.func60, Try.ntmps60
    go_wp2_with fail
    rw [← HW0.out]
    refine (HR.out _).mono ?_
    rintro e w1 ⟨rfl, hb1⟩
    have HB1 : Hid (Below w.heap.size w w1) := HX.out _ _ HB0.out hb1
    clear hb1
    go_wp2_with fail
    go_ret
    exact ⟨by simp, HB1.out⟩
/-- The two signs. -/
def sg2 (a b : E) (i : Nat) : Int := if i = 0 then sg a.vid b.vid else sg a.addr b.addr
theorem orTo_sg2 (a b : E) : orTo (sg2 a b) 2 = Bk.cmp a b := by
  have e1 : orTo (sg2 a b) 1 = sg a.vid b.vid := by simp [orTo, sg2]
  show (if orTo (sg2 a b) 1 = 0 then sg2 a b 1 else orTo (sg2 a b) 1) = _
  rw [e1]
  show (if sg a.vid b.vid = 0 then sg a.addr b.addr else sg a.vid b.vid) = _
  simp only [sg_zero]
  have L : Bk.lt a b → Bk.cmp a b = -1 := fun h => if_pos h
  have G : Bk.lt b a → Bk.cmp a b = 1 := fun h => by unfold Bk.cmp; rw [if_neg (Bk.lt_asymm h), if_pos h]
  have Z : Bk.key a b → Bk.cmp a b = 0 := fun h => Bk.cmp_zero.2 h
  unfold sg
  by_cases h0 : a.vid = b.vid
  · rw [if_pos h0]
    by_cases h1 : a.addr < b.addr
    · rw [if_pos h1, L (by unfold Bk.lt; omega)]
    · rw [if_neg h1]
      by_cases h2 : b.addr < a.addr
      · rw [if_pos h2, G (by unfold Bk.lt; omega)]
      · rw [if_neg h2, Z (by unfold Bk.key; omega)]
  · rw [if_neg h0]
    by_cases h1 : a.vid < b.vid
    · rw [if_pos h1, L (by unfold Bk.lt; omega)]
    · rw [if_neg h1, if_pos (by omega), G (by unfold Bk.lt; omega)]
theorem cor2y (a b : E) (g : Nat) (ty : TypeId) (w : World) (h : w.heap[g]? = some (.cells #[.int .i64 (sg a.vid b.vid), .int .i64 (sg a.addr b.addr)] ty (0, 0))) :
    Calls Try.prog 67 #[.slice (some ⟨g, 0, none⟩) 2 2] w fun e w' => e = .returned (.int .i64 (Bk.cmp a b)) ∧ w' = w := by
  rw [← orTo_sg2]
  refine cor_any g 0 2 2 (sg2 a b) w (by omega) (by omega) (fun i hi => ?_)
  rcases (by omega : i = 0 ∨ i = 1) with e | e <;> subst e
  · exact cell_of_row w g 0 _ _ _ h
  · exact cell_of_row w g 1 _ _ _ h
theorem below_drew_alloc' {n : Nat} {w w' : World} (h : Below n w w') (hn : n ≤ w'.heap.size) (o : Obj) : Below n w (w'.drew.alloc o) := (Below.drew h).alloc hn o
set_option maxHeartbeats 4000000 in
theorem border_any (a b : E) (w : World) :
    Calls Try.prog 54 #[.agg #[.int .i64 a.vid, .int .u64 a.addr, .int .i64 a.port, .int .i64 a.age], .agg #[.int .i64 b.vid, .int .u64 b.addr, .int .i64 b.port, .int .i64 b.age]] w fun e w' => e = .returned (.int .i64 (Bk.cmp a b)) ∧ Below w.heap.size w w' := by
  obtain ⟨W0, HW0⟩ : ∃ W0, Hid (W0 = (w.alloc (.cells #[.int .i64 a.vid, .int .u64 a.addr, .int .i64 a.port, .int .i64 a.age] 76)).alloc (.cells #[.int .i64 b.vid, .int .u64 b.addr, .int .i64 b.port, .int .i64 b.age] 76)) := ⟨_, rfl⟩
  have HB0 : Hid (Below w.heap.size w W0) := by rw [HW0.out]; exact below_alloc2 _ _ _
  have HBB : Hid (Below W0.heap.size W0 W0) := Below.refl _ _
  have HC : Hid (∀ W, Below W0.heap.size W0 W → W.cell? ⟨w.heap.size, 0, none⟩ = some (.int .i64 a.vid) ∧ W.cell? ⟨w.heap.size, 1, none⟩ = some (.int .u64 a.addr) ∧ W.cell? ⟨w.heap.size + 1, 0, none⟩ = some (.int .i64 b.vid) ∧ W.cell? ⟨w.heap.size + 1, 1, none⟩ = some (.int .u64 b.addr)) := fun W hW => by
    rw [HW0.out] at hW
    have h1 := en_cells (keep (heap_alloc2_old w _ _) hW)
    have h2 := en_cells (keep (heap_alloc2_new w _ _) hW)
    exact ⟨h1.1, h1.2.1, h2.1, h2.2.1⟩
  have HOR : Hid (∀ (g : Nat) (ty : TypeId) (W : World), W.heap[g]? = some (.cells #[.int .i64 (sg a.vid b.vid), .int .i64 (sg a.addr b.addr)] ty (0, 0)) → Calls Try.prog 67 #[.slice (some ⟨g, 0, none⟩) 2 2] W fun e w' => e = .returned (.int .i64 (Bk.cmp a b)) ∧ w' = W) := fun g ty W h => cor2y a b g ty W h
  have HL : Hid (∀ W, Below W0.heap.size W0 W → Below w.heap.size w W) := fun W hW => HB0.out.trans (hW.mono HB0.out.size)
  obtain ⟨c0, c1, d0, d1⟩ := HC.out W0 HBB.out
  go_enter Try.func54, Try.ntmps54
  go_wp2_with fail
  rw [← HW0.out]
  go_region_held3 (fun W => W.cell? ⟨w.heap.size, 0, none⟩ = some (.int .i64 a.vid) ∧ W.cell? ⟨w.heap.size, 1, none⟩ = some (.int .u64 a.addr) ∧ W.cell? ⟨w.heap.size + 1, 0, none⟩ = some (.int .i64 b.vid) ∧ W.cell? ⟨w.heap.size + 1, 1, none⟩ = some (.int .u64 b.addr))
    (first | (exact HC.out _ (Below.drew HBB.out)) | (exact HC.out _ (below_drew_alloc' HBB.out (Nat.le_refl _) _)))
    (first | (go_at_call 69; refine (ccmpu_any _ _ _).mono ?_; rintro e w1 ⟨rfl, rfl⟩) | (go_at_call 68; refine (ccmpi_any _ _ _).mono ?_; rintro e w1 ⟨rfl, rfl⟩) | (go_at_call 67; refine (HOR.out _ _ _ (heap_alloc_last W0.drew _)).mono ?_; rintro e w1 ⟨rfl, rfl⟩))
  go_wp2_with fail
  go_ret
  exact ⟨rfl, HL.out _ (below_drew_alloc' HBB.out (Nat.le_refl _) _)⟩
end Go.Proofs.Ytgkmaihleilchaa
