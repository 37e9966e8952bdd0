/- walks: VecOrder -/
import Derived.Test.YthnklbcaodhbfaaVLa
namespace Go.Proofs.Ythnklbcaodhbfaa
open Go.RowKit
open Vc (V Of)

set_option maxRecDepth 100000 in
set_option maxHeartbeats 2000000 in
theorem vorder_any (a b c : V) (w : World) :
    Calls Try.prog 4 #[.agg #[.int .u64 a.root, .int .i64 a.cost, .int .u64 a.bridge, .int .i64 a.port], .agg #[.int .u64 b.root, .int .i64 b.cost, .int .u64 b.bridge, .int .i64 b.port], .agg #[.int .u64 c.root, .int .i64 c.cost, .int .u64 c.bridge, .int .i64 c.port]] w fun e w' => e = .returned (.bool true) ∧ Below w.heap.size w w' := by
  obtain ⟨W0, HW0⟩ : ∃ W0, Hid (W0 = ((w.alloc (.cells #[.int .u64 a.root, .int .i64 a.cost, .int .u64 a.bridge, .int .i64 a.port] 27)).alloc (.cells #[.int .u64 b.root, .int .i64 b.cost, .int .u64 b.bridge, .int .i64 b.port] 27)).alloc (.cells #[.int .u64 c.root, .int .i64 c.cost, .int .u64 c.bridge, .int .i64 c.port] 27)) := ⟨_, rfl⟩
  have HC : Hid (∀ W, Below W0.heap.size W0 W → (W.cell? ⟨w.heap.size, 0, none⟩ = some (.int .u64 a.root) ∧ W.cell? ⟨w.heap.size, 1, none⟩ = some (.int .i64 a.cost) ∧ W.cell? ⟨w.heap.size, 2, none⟩ = some (.int .u64 a.bridge) ∧ W.cell? ⟨w.heap.size, 3, none⟩ = some (.int .i64 a.port)) ∧ (W.cell? ⟨w.heap.size + 1, 0, none⟩ = some (.int .u64 b.root) ∧ W.cell? ⟨w.heap.size + 1, 1, none⟩ = some (.int .i64 b.cost) ∧ W.cell? ⟨w.heap.size + 1, 2, none⟩ = some (.int .u64 b.bridge) ∧ W.cell? ⟨w.heap.size + 1, 3, none⟩ = some (.int .i64 b.port)) ∧ (W.cell? ⟨w.heap.size + 1 + 1, 0, none⟩ = some (.int .u64 c.root) ∧ W.cell? ⟨w.heap.size + 1 + 1, 1, none⟩ = some (.int .i64 c.cost) ∧ W.cell? ⟨w.heap.size + 1 + 1, 2, none⟩ = some (.int .u64 c.bridge) ∧ W.cell? ⟨w.heap.size + 1 + 1, 3, none⟩ = some (.int .i64 c.port))) := fun W hW => by
    obtain ⟨h1, h2, h3, _⟩ := alloc3 w (.cells #[.int .u64 a.root, .int .i64 a.cost, .int .u64 a.bridge, .int .i64 a.port] 27) (.cells #[.int .u64 b.root, .int .i64 b.cost, .int .u64 b.bridge, .int .i64 b.port] 27) (.cells #[.int .u64 c.root, .int .i64 c.cost, .int .u64 c.bridge, .int .i64 c.port] 27)
    rw [HW0.out] at hW
    exact ⟨vc_cells (keep h1 hW), vc_cells (keep h2 hW), vc_cells (keep h3 hW)⟩
  have HL : Hid (∀ W, Below W0.heap.size W0 W → Below w.heap.size w W) := fun W hW => by
    obtain ⟨_, _, _, h4⟩ := alloc3 w (.cells #[.int .u64 a.root, .int .i64 a.cost, .int .u64 a.bridge, .int .i64 a.port] 27) (.cells #[.int .u64 b.root, .int .i64 b.cost, .int .u64 b.bridge, .int .i64 b.port] 27) (.cells #[.int .u64 c.root, .int .i64 c.cost, .int .u64 c.bridge, .int .i64 c.port] 27)
    rw [HW0.out] at hW
    exact h4.trans (hW.mono h4.size)
  have HCM : Hid (∀ (x y : V) W, Below W0.heap.size W0 W → Calls Try.prog 9 #[.agg #[.int .u64 x.root, .int .i64 x.cost, .int .u64 x.bridge, .int .i64 x.port], .agg #[.int .u64 y.root, .int .i64 y.cost, .int .u64 y.bridge, .int .i64 y.port]] W fun e w' => e = .returned (.int .i64 (Vc.cmp x y)) ∧ Hid (Below W0.heap.size W0 w')) := fun x y W hW => by
    refine (vcompare_any x y W).mono ?_
    rintro e w' ⟨h1, h2⟩
    exact ⟨h1, hW.trans (h2.mono hW.size)⟩
  have heq : ∀ W : World, (binOp .eql 27 (.agg #[.int .u64 a.root, .int .i64 a.cost, .int .u64 a.bridge, .int .i64 a.port]) (.agg #[.int .u64 b.root, .int .i64 b.cost, .int .u64 b.bridge, .int .i64 b.port])).run Try.prog W = .ok (.bool (decide (a = b))) W := fun W => vec_eql a b W
  have KAB : Hid (∀ W, Below W0.heap.size W0 W → _) := fun W => HCM.out a b W
  have KBA : Hid (∀ W, Below W0.heap.size W0 W → _) := fun W => HCM.out b a W
  have KBC : Hid (∀ W, Below W0.heap.size W0 W → _) := fun W => HCM.out b c W
  have KAC : Hid (∀ W, Below W0.heap.size W0 W → _) := fun W => HCM.out a c W
  clear HCM
  rcases Vc.lt_total a b with h | h | h
  · have e1 : Vc.cmp a b = -1 := if_pos h
    have e2 : Vc.cmp b a = 1 := by unfold Vc.cmp; rw [if_neg (Vc.lt_asymm h), if_pos h]
    have e3 : decide (a = b) = false := decide_eq_false (fun e => Vc.lt_irrefl b (by rw [e] at h; exact h))
    have HTR : Hid (Vc.lt b c → Vc.cmp a c = -1) := fun q => if_pos (Vc.lt_trans h q)
    rw [e1] at KAB
    rw [e2] at KBA
    simp only [e3] at heq
    clear h e1 e2 e3
    by_cases h2 : Vc.lt b c
    · have e4 : Vc.cmp b c = -1 := if_pos h2
      have e5 := HTR.out h2
      rw [e4] at KBC
      rw [e5] at KAC
      clear HTR h2 e4 e5
      go_enter Try.func4, Try.ntmps4
      go_wp2_with fail
      rw [← HW0.out]
      refine (valive_any _).mono ?_
      rintro e w1 ⟨rfl, hb1⟩
      have HB1 : Hid (Below W0.heap.size W0 w1) := hb1
      clear hb1
      obtain ⟨⟨a0, a1, a2, a3⟩, ⟨b0, b1, b2, b3⟩, c0, c1, c2, c3⟩ := HC.out w1 HB1.out
      go_wp2_with fail
      go_region_held3 (fun W => (W.cell? ⟨w.heap.size, 0, none⟩ = some (.int .u64 a.root) ∧ W.cell? ⟨w.heap.size, 1, none⟩ = some (.int .i64 a.cost) ∧ W.cell? ⟨w.heap.size, 2, none⟩ = some (.int .u64 a.bridge) ∧ W.cell? ⟨w.heap.size, 3, none⟩ = some (.int .i64 a.port)) ∧ (W.cell? ⟨w.heap.size + 1, 0, none⟩ = some (.int .u64 b.root) ∧ W.cell? ⟨w.heap.size + 1, 1, none⟩ = some (.int .i64 b.cost) ∧ W.cell? ⟨w.heap.size + 1, 2, none⟩ = some (.int .u64 b.bridge) ∧ W.cell? ⟨w.heap.size + 1, 3, none⟩ = some (.int .i64 b.port)))
        (first | (with_reducible exact ⟨(HC.out _ HB3.out).1, (HC.out _ HB3.out).2.1⟩) | (with_reducible exact ⟨(HC.out _ HB2.out).1, (HC.out _ HB2.out).2.1⟩) | go_keep)
        (first | (go_at_call 9; (with_reducible refine (KAB.out _ (Below.drew HB1.out)).mono ?_); rintro e w2 ⟨rfl, HB2⟩) | (go_at_call 9; (with_reducible refine (KBA.out _ HB2.out).mono ?_); rintro e w3 ⟨rfl, HB3⟩))
      clear a0 a1 a2 a3 b0 b1 b2 b3 c0 c1 c2 c3
      obtain ⟨⟨a0, a1, a2, a3⟩, ⟨b0, b1, b2, b3⟩, c0, c1, c2, c3⟩ := HC.out w3 HB3.out
      go_wp2_with fail
      refine (KBC.out _ HB3.out).mono ?_
      rintro e w4 ⟨rfl, HB4⟩
      clear a0 a1 a2 a3 b0 b1 b2 b3 c0 c1 c2 c3
      obtain ⟨⟨a0, a1, a2, a3⟩, ⟨b0, b1, b2, b3⟩, c0, c1, c2, c3⟩ := HC.out w4 HB4.out
      go_wp2_with fail
      refine (KAC.out _ HB4.out).mono ?_
      rintro e w5 ⟨rfl, HB5⟩
      go_wp2_with fail
      go_ret
      exact ⟨rfl, HL.out _ HB5.out⟩
    · have e4 : ¬ Vc.cmp b c < 0 := fun q => h2 (Vc.cmp_lt.1 q)
      clear HTR h2 KAC
      generalize Vc.cmp b c = q at *
      go_enter Try.func4, Try.ntmps4
      go_wp2_with fail
      rw [← HW0.out]
      refine (valive_any _).mono ?_
      rintro e w1 ⟨rfl, hb1⟩
      have HB1 : Hid (Below W0.heap.size W0 w1) := hb1
      clear hb1
      obtain ⟨⟨a0, a1, a2, a3⟩, ⟨b0, b1, b2, b3⟩, c0, c1, c2, c3⟩ := HC.out w1 HB1.out
      go_wp2_with fail
      go_region_held3 (fun W => (W.cell? ⟨w.heap.size, 0, none⟩ = some (.int .u64 a.root) ∧ W.cell? ⟨w.heap.size, 1, none⟩ = some (.int .i64 a.cost) ∧ W.cell? ⟨w.heap.size, 2, none⟩ = some (.int .u64 a.bridge) ∧ W.cell? ⟨w.heap.size, 3, none⟩ = some (.int .i64 a.port)) ∧ (W.cell? ⟨w.heap.size + 1, 0, none⟩ = some (.int .u64 b.root) ∧ W.cell? ⟨w.heap.size + 1, 1, none⟩ = some (.int .i64 b.cost) ∧ W.cell? ⟨w.heap.size + 1, 2, none⟩ = some (.int .u64 b.bridge) ∧ W.cell? ⟨w.heap.size + 1, 3, none⟩ = some (.int .i64 b.port)))
        (first | (with_reducible exact ⟨(HC.out _ HB3.out).1, (HC.out _ HB3.out).2.1⟩) | (with_reducible exact ⟨(HC.out _ HB2.out).1, (HC.out _ HB2.out).2.1⟩) | go_keep)
        (first | (go_at_call 9; (with_reducible refine (KAB.out _ (Below.drew HB1.out)).mono ?_); rintro e w2 ⟨rfl, HB2⟩) | (go_at_call 9; (with_reducible refine (KBA.out _ HB2.out).mono ?_); rintro e w3 ⟨rfl, HB3⟩))
      clear a0 a1 a2 a3 b0 b1 b2 b3 c0 c1 c2 c3
      obtain ⟨⟨a0, a1, a2, a3⟩, ⟨b0, b1, b2, b3⟩, c0, c1, c2, c3⟩ := HC.out w3 HB3.out
      go_wp2_with fail
      refine (KBC.out _ HB3.out).mono ?_
      rintro e w4 ⟨rfl, HB4⟩
      go_wp2_with fail
      go_ret
      exact ⟨rfl, HL.out _ HB4.out⟩
  · have e1 : Vc.cmp a b = 0 := Vc.cmp_zero.2 h
    have e2 : Vc.cmp b a = 0 := Vc.cmp_zero.2 h.symm
    have e3 : decide (a = b) = true := decide_eq_true h
    rw [e1] at KAB
    rw [e2] at KBA
    simp only [e3] at heq
    clear h e1 e2 e3 KBC KAC
    go_enter Try.func4, Try.ntmps4
    go_wp2_with fail
    rw [← HW0.out]
    refine (valive_any _).mono ?_
    rintro e w1 ⟨rfl, hb1⟩
    have HB1 : Hid (Below W0.heap.size W0 w1) := hb1
    clear hb1
    obtain ⟨⟨a0, a1, a2, a3⟩, ⟨b0, b1, b2, b3⟩, c0, c1, c2, c3⟩ := HC.out w1 HB1.out
    go_wp2_with fail
    go_region_held3 (fun W => (W.cell? ⟨w.heap.size, 0, none⟩ = some (.int .u64 a.root) ∧ W.cell? ⟨w.heap.size, 1, none⟩ = some (.int .i64 a.cost) ∧ W.cell? ⟨w.heap.size, 2, none⟩ = some (.int .u64 a.bridge) ∧ W.cell? ⟨w.heap.size, 3, none⟩ = some (.int .i64 a.port)) ∧ (W.cell? ⟨w.heap.size + 1, 0, none⟩ = some (.int .u64 b.root) ∧ W.cell? ⟨w.heap.size + 1, 1, none⟩ = some (.int .i64 b.cost) ∧ W.cell? ⟨w.heap.size + 1, 2, none⟩ = some (.int .u64 b.bridge) ∧ W.cell? ⟨w.heap.size + 1, 3, none⟩ = some (.int .i64 b.port)))
      (first | (with_reducible exact ⟨(HC.out _ HB3.out).1, (HC.out _ HB3.out).2.1⟩) | (with_reducible exact ⟨(HC.out _ HB2.out).1, (HC.out _ HB2.out).2.1⟩) | go_keep)
      (first | (go_at_call 9; (with_reducible refine (KAB.out _ (Below.drew HB1.out)).mono ?_); rintro e w2 ⟨rfl, HB2⟩) | (go_at_call 9; (with_reducible refine (KBA.out _ HB2.out).mono ?_); rintro e w3 ⟨rfl, HB3⟩))
    clear a0 a1 a2 a3 b0 b1 b2 b3 c0 c1 c2 c3
    obtain ⟨⟨a0, a1, a2, a3⟩, ⟨b0, b1, b2, b3⟩, c0, c1, c2, c3⟩ := HC.out w3 HB3.out
    go_wp2_with fail
    go_ret
    exact ⟨rfl, HL.out _ HB3.out⟩
  · have e1 : Vc.cmp a b = 1 := by unfold Vc.cmp; rw [if_neg (Vc.lt_asymm h), if_pos h]
    have e2 : Vc.cmp b a = -1 := if_pos h
    have e3 : decide (a = b) = false := decide_eq_false (fun e => Vc.lt_irrefl b (by rw [e] at h; exact h))
    rw [e1] at KAB
    rw [e2] at KBA
    simp only [e3] at heq
    clear h e1 e2 e3 KBC KAC
    go_enter Try.func4, Try.ntmps4
    go_wp2_with fail
    rw [← HW0.out]
    refine (valive_any _).mono ?_
    rintro e w1 ⟨rfl, hb1⟩
    have HB1 : Hid (Below W0.heap.size W0 w1) := hb1
    clear hb1
    obtain ⟨⟨a0, a1, a2, a3⟩, ⟨b0, b1, b2, b3⟩, c0, c1, c2, c3⟩ := HC.out w1 HB1.out
    go_wp2_with fail
    go_region_held3 (fun W => (W.cell? ⟨w.heap.size, 0, none⟩ = some (.int .u64 a.root) ∧ W.cell? ⟨w.heap.size, 1, none⟩ = some (.int .i64 a.cost) ∧ W.cell? ⟨w.heap.size, 2, none⟩ = some (.int .u64 a.bridge) ∧ W.cell? ⟨w.heap.size, 3, none⟩ = some (.int .i64 a.port)) ∧ (W.cell? ⟨w.heap.size + 1, 0, none⟩ = some (.int .u64 b.root) ∧ W.cell? ⟨w.heap.size + 1, 1, none⟩ = some (.int .i64 b.cost) ∧ W.cell? ⟨w.heap.size + 1, 2, none⟩ = some (.int .u64 b.bridge) ∧ W.cell? ⟨w.heap.size + 1, 3, none⟩ = some (.int .i64 b.port)))
      (first | (with_reducible exact ⟨(HC.out _ HB3.out).1, (HC.out _ HB3.out).2.1⟩) | (with_reducible exact ⟨(HC.out _ HB2.out).1, (HC.out _ HB2.out).2.1⟩) | go_keep)
      (first | (go_at_call 9; (with_reducible refine (KAB.out _ (Below.drew HB1.out)).mono ?_); rintro e w2 ⟨rfl, HB2⟩) | (go_at_call 9; (with_reducible refine (KBA.out _ HB2.out).mono ?_); rintro e w3 ⟨rfl, HB3⟩))
    clear a0 a1 a2 a3 b0 b1 b2 b3 c0 c1 c2 c3
    obtain ⟨⟨a0, a1, a2, a3⟩, ⟨b0, b1, b2, b3⟩, c0, c1, c2, c3⟩ := HC.out w3 HB3.out
    go_wp2_with fail
    go_ret
    exact ⟨rfl, HL.out _ HB3.out⟩
end Go.Proofs.Ythnklbcaodhbfaa
