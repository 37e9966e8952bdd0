/- walks: VecOver (over what vec's functions come to: VW) -/
import Derived.Test.YthnklbcaodhbfaaVLa
namespace Go.Proofs.Ythnklbcaodhbfaa
open Go.RowKit
open Vc (V Of)

theorem over_yes (v : V) (c : Int) (h : Vc.fitsOver v c) (W : World) : Calls Try.prog 11 #[.agg #[.int .u64 v.root, .int .i64 v.cost, .int .u64 v.bridge, .int .i64 v.port], .int .i64 c] W fun e w' => e = .returned (.tuple #[.agg #[.int .u64 v.root, .int .i64 (v.cost + c), .int .u64 v.bridge, .int .i64 v.port], .bool true]) ∧ Hid (Below W.heap.size W w') := by
  have := vover_any v c W
  rw [show Vc.overV v c = ⟨v.root, v.cost + c, v.bridge, v.port⟩ from if_pos h, decide_eq_true h] at this
  exact this
theorem over_no (v : V) (c : Int) (h : ¬ Vc.fitsOver v c) (W : World) : Calls Try.prog 11 #[.agg #[.int .u64 v.root, .int .i64 v.cost, .int .u64 v.bridge, .int .i64 v.port], .int .i64 c] W fun e w' => e = .returned (.tuple #[.agg #[.int .u64 0, .int .i64 0, .int .u64 0, .int .i64 0], .bool false]) ∧ Hid (Below W.heap.size W w') := by
  have := vover_any v c W
  rw [show Vc.overV v c = ⟨0, 0, 0, 0⟩ from if_neg h, decide_eq_false h] at this
  exact this
theorem over_some (v : V) (c : Int) : ∃ (R : V) (d : Bool), ∀ W : World, Calls Try.prog 11 #[.agg #[.int .u64 v.root, .int .i64 v.cost, .int .u64 v.bridge, .int .i64 v.port], .int .i64 c] W fun e w' => e = .returned (.tuple #[.agg #[.int .u64 R.root, .int .i64 R.cost, .int .u64 R.bridge, .int .i64 R.port], .bool d]) ∧ Hid (Below W.heap.size W w') := ⟨Vc.overV v c, decide (Vc.fitsOver v c), fun W => vover_any v c W⟩
theorem over_twice {a : V} {x y : Int} (h : Vc.fitsOver a x) (k : Vc.fitsOver ⟨a.root, a.cost + x, a.bridge, a.port⟩ y) : Vc.fitsOver a (x + y) ∧ IntKind.i64.wrap (x + y) = x + y ∧ ¬ y < 0 := by
  unfold Vc.fitsOver at *
  simp only at k
  refine ⟨⟨h.1, ⟨by omega, by omega⟩, by omega⟩, wraps_i64 _ (by omega) (by omega), by omega⟩
set_option maxRecDepth 100000 in
set_option maxHeartbeats 4000000 in
theorem vover_law (a b : V) (x y : Int) (w : World) :
    Calls Try.prog 5 #[.agg #[.int .u64 a.root, .int .i64 a.cost, .int .u64 a.bridge, .int .i64 a.port], .agg #[.int .u64 b.root, .int .i64 b.cost, .int .u64 b.bridge, .int .i64 b.port], .int .i64 x, .int .i64 y] w fun e w' => e = .returned (.bool true) ∧ Below w.heap.size w w' := by
  obtain ⟨W0, HW0⟩ : ∃ W0, Hid (W0 = (w.alloc (.cells #[.int .u64 a.root, .int .i64 a.cost, .int .u64 a.bridge, .int .i64 a.port] 27)).alloc (.cells #[.int .u64 b.root, .int .i64 b.cost, .int .u64 b.bridge, .int .i64 b.port] 27)) := ⟨_, rfl⟩
  have HC : Hid (∀ W, Below W0.heap.size W0 W → (W.cell? ⟨w.heap.size, 0, none⟩ = some (.int .u64 a.root) ∧ W.cell? ⟨w.heap.size, 1, none⟩ = some (.int .i64 a.cost) ∧ W.cell? ⟨w.heap.size, 2, none⟩ = some (.int .u64 a.bridge) ∧ W.cell? ⟨w.heap.size, 3, none⟩ = some (.int .i64 a.port)) ∧ (W.cell? ⟨w.heap.size + 1, 0, none⟩ = some (.int .u64 b.root) ∧ W.cell? ⟨w.heap.size + 1, 1, none⟩ = some (.int .i64 b.cost) ∧ W.cell? ⟨w.heap.size + 1, 2, none⟩ = some (.int .u64 b.bridge) ∧ W.cell? ⟨w.heap.size + 1, 3, none⟩ = some (.int .i64 b.port))) := fun W hW => by
    rw [HW0.out] at hW
    exact ⟨vc_cells (keep (heap_alloc2_old w _ _) hW), vc_cells (keep (heap_alloc2_new w _ _) hW)⟩
  have HL : Hid (∀ W, Below W0.heap.size W0 W → Below w.heap.size w W) := fun W hW => by
    have h4 := below_alloc2 w (.cells #[.int .u64 a.root, .int .i64 a.cost, .int .u64 a.bridge, .int .i64 a.port] 27) (.cells #[.int .u64 b.root, .int .i64 b.cost, .int .u64 b.bridge, .int .i64 b.port] 27)
    rw [HW0.out] at hW
    exact h4.trans (hW.mono h4.size)
  by_cases hA : Vc.fitsOver a x
  · have HOA : Hid (∀ W : World, Calls Try.prog 11 #[.agg #[.int .u64 a.root, .int .i64 a.cost, .int .u64 a.bridge, .int .i64 a.port], .int .i64 x] W fun e w' => e = .returned (.tuple #[.agg #[.int .u64 a.root, .int .i64 (a.cost + x), .int .u64 a.bridge, .int .i64 a.port], .bool true]) ∧ Hid (Below W.heap.size W w')) := fun W => over_yes a x hA W
    by_cases hB : Vc.fitsOver b x
    · have HOB : Hid (∀ W : World, Calls Try.prog 11 #[.agg #[.int .u64 b.root, .int .i64 b.cost, .int .u64 b.bridge, .int .i64 b.port], .int .i64 x] W fun e w' => e = .returned (.tuple #[.agg #[.int .u64 b.root, .int .i64 (b.cost + x), .int .u64 b.bridge, .int .i64 b.port], .bool true]) ∧ Hid (Below W.heap.size W w')) := fun W => over_yes b x hB W
      have hcq : Vc.cmp ⟨a.root, a.cost + x, a.bridge, a.port⟩ ⟨b.root, b.cost + x, b.bridge, b.port⟩ = Vc.cmp a b := Vc.cmp_add a b x
      have HK2 : Hid (∀ W : World, Calls Try.prog 9 #[.agg #[.int .u64 a.root, .int .i64 a.cost, .int .u64 a.bridge, .int .i64 a.port], .agg #[.int .u64 b.root, .int .i64 b.cost, .int .u64 b.bridge, .int .i64 b.port]] W fun e w' => e = .returned (.int .i64 (Vc.cmp a b)) ∧ Hid (Below W.heap.size W w')) := fun W => vcompare_any a b W
      have HK3 : Hid (∀ W : World, Calls Try.prog 9 #[.agg #[.int .u64 a.root, .int .i64 (a.cost + x), .int .u64 a.bridge, .int .i64 a.port], .agg #[.int .u64 b.root, .int .i64 (b.cost + x), .int .u64 b.bridge, .int .i64 b.port]] W fun e w' => e = .returned (.int .i64 (Vc.cmp a b)) ∧ Hid (Below W.heap.size W w')) := fun W => by
        have := vcompare_any ⟨a.root, a.cost + x, a.bridge, a.port⟩ ⟨b.root, b.cost + x, b.bridge, b.port⟩ W
        rw [hcq] at this
        exact this
      have HK1 : Hid (∀ W : World, Calls Try.prog 9 #[.agg #[.int .u64 a.root, .int .i64 (a.cost + x), .int .u64 a.bridge, .int .i64 a.port], .agg #[.int .u64 a.root, .int .i64 a.cost, .int .u64 a.bridge, .int .i64 a.port]] W fun e w' => e = .returned (.int .i64 (Vc.cmp ⟨a.root, a.cost + x, a.bridge, a.port⟩ a)) ∧ Hid (Below W.heap.size W w')) := fun W => vcompare_any ⟨a.root, a.cost + x, a.bridge, a.port⟩ a W
      have HP : Hid (0 < x → Vc.cmp ⟨a.root, a.cost + x, a.bridge, a.port⟩ a = 1) := fun h => Vc.cmp_farther a x h
      clear hcq hB
      generalize Vc.cmp a b = q at *
      generalize Vc.cmp ⟨a.root, a.cost + x, a.bridge, a.port⟩ a = p at *
      by_cases hV : Vc.fitsOver ⟨a.root, a.cost + x, a.bridge, a.port⟩ y
      · obtain ⟨hx2, hwr, hy⟩ := over_twice hA hV
        have HOV : Hid (∀ W : World, Calls Try.prog 11 #[.agg #[.int .u64 a.root, .int .i64 (a.cost + x), .int .u64 a.bridge, .int .i64 a.port], .int .i64 y] W fun e w' => e = .returned (.tuple #[.agg #[.int .u64 a.root, .int .i64 (a.cost + x + y), .int .u64 a.bridge, .int .i64 a.port], .bool true]) ∧ Hid (Below W.heap.size W w')) := fun W => over_yes ⟨a.root, a.cost + x, a.bridge, a.port⟩ y hV W
        have HOX : Hid (∀ W : World, Calls Try.prog 11 #[.agg #[.int .u64 a.root, .int .i64 a.cost, .int .u64 a.bridge, .int .i64 a.port], .int .i64 (x + y)] W fun e w' => e = .returned (.tuple #[.agg #[.int .u64 a.root, .int .i64 (a.cost + x + y), .int .u64 a.bridge, .int .i64 a.port], .bool true]) ∧ Hid (Below W.heap.size W w')) := fun W => by
          have := over_yes a (x + y) hx2 W
          rw [← Int.add_assoc] at this
          exact this
        clear hx2 hV hA
        by_cases hx : 0 < x
        · have hp := HP.out hx
          subst hp
          clear HP
          go_enter Try.func5, Try.ntmps5
          go_wp2_with fail
          rw [← HW0.out]
          refine (valive_any _).mono ?_
          rintro e w1 ⟨rfl, hb1⟩
          have HB1 : Hid (Below W0.heap.size W0 w1) := hb1
          clear hb1
          obtain ⟨⟨a0, a1, a2, a3⟩, b0, b1, b2, b3⟩ := HC.out w1 HB1.out
          go_wp2_with fail
          refine (HOA.out _).mono ?_
          rintro e w2 ⟨rfl, hb2⟩
          obtain ⟨X, HX⟩ : ∃ X, Hid (X = w2.alloc (.cells #[.int .u64 a.root, .int .i64 (a.cost + x), .int .u64 a.bridge, .int .i64 a.port] 27)) := ⟨_, rfl⟩
          have HXB : Hid (Below W0.heap.size W0 X) := by
            rw [HX.out]
            have h := HB1.out.trans (hb2.out.mono HB1.out.size)
            exact h.alloc h.size _
          have HXV : Hid (X.heap[w2.heap.size]? = some (.cells #[.int .u64 a.root, .int .i64 (a.cost + x), .int .u64 a.bridge, .int .i64 a.port] 27 (0, 0))) := by rw [HX.out]; exact heap_alloc_last _ _
          clear a0 a1 a2 a3 b0 b1 b2 b3
          obtain ⟨-, b0, b1, b2, b3⟩ := HC.out X HXB.out
          rw [HX.out] at b0 b1 b2 b3
          go_wp2_with fail
          rw [← HX.out]
          refine (HOB.out _).mono ?_
          rintro e w3 ⟨rfl, hb3⟩
          obtain ⟨Y, HY⟩ : ∃ Y, Hid (Y = w3.alloc (.cells #[.int .u64 b.root, .int .i64 (b.cost + x), .int .u64 b.bridge, .int .i64 b.port] 27)) := ⟨_, rfl⟩
          have HYB : Hid (Below W0.heap.size W0 Y) := by
            rw [HY.out]
            have h := HXB.out.trans (hb3.out.mono HXB.out.size)
            exact h.alloc h.size _
          have HYV : Hid (Y.heap[w2.heap.size]? = some (.cells #[.int .u64 a.root, .int .i64 (a.cost + x), .int .u64 a.bridge, .int .i64 a.port] 27 (0, 0))) := by rw [HY.out]; exact keep (keep HXV.out hb3.out) (below_alloc1 _ _)
          have HYW : Hid (Y.heap[w3.heap.size]? = some (.cells #[.int .u64 b.root, .int .i64 (b.cost + x), .int .u64 b.bridge, .int .i64 b.port] 27 (0, 0))) := by rw [HY.out]; exact heap_alloc_last _ _
          have HS : Hid (∀ W, Below Y.heap.size Y W → (W.cell? ⟨w.heap.size, 0, none⟩ = some (.int .u64 a.root) ∧ W.cell? ⟨w.heap.size, 1, none⟩ = some (.int .i64 a.cost) ∧ W.cell? ⟨w.heap.size, 2, none⟩ = some (.int .u64 a.bridge) ∧ W.cell? ⟨w.heap.size, 3, none⟩ = some (.int .i64 a.port)) ∧ (W.cell? ⟨w.heap.size + 1, 0, none⟩ = some (.int .u64 b.root) ∧ W.cell? ⟨w.heap.size + 1, 1, none⟩ = some (.int .i64 b.cost) ∧ W.cell? ⟨w.heap.size + 1, 2, none⟩ = some (.int .u64 b.bridge) ∧ W.cell? ⟨w.heap.size + 1, 3, none⟩ = some (.int .i64 b.port)) ∧ (W.cell? ⟨w2.heap.size, 0, none⟩ = some (.int .u64 a.root) ∧ W.cell? ⟨w2.heap.size, 1, none⟩ = some (.int .i64 (a.cost + x)) ∧ W.cell? ⟨w2.heap.size, 2, none⟩ = some (.int .u64 a.bridge) ∧ W.cell? ⟨w2.heap.size, 3, none⟩ = some (.int .i64 a.port)) ∧ (W.cell? ⟨w3.heap.size, 0, none⟩ = some (.int .u64 b.root) ∧ W.cell? ⟨w3.heap.size, 1, none⟩ = some (.int .i64 (b.cost + x)) ∧ W.cell? ⟨w3.heap.size, 2, none⟩ = some (.int .u64 b.bridge) ∧ W.cell? ⟨w3.heap.size, 3, none⟩ = some (.int .i64 b.port))) := fun W hW => by
            have h := HC.out W (HYB.out.trans (hW.mono HYB.out.size))
            exact ⟨h.1, h.2, vc_cells (keep HYV.out hW), vc_cells (keep HYW.out hW)⟩
          have K2 : Hid (∀ W, Below Y.heap.size Y W → Calls Try.prog 9 #[.agg #[.int .u64 a.root, .int .i64 a.cost, .int .u64 a.bridge, .int .i64 a.port], .agg #[.int .u64 b.root, .int .i64 b.cost, .int .u64 b.bridge, .int .i64 b.port]] W fun e w' => e = .returned (.int .i64 q) ∧ Hid (Below Y.heap.size Y w')) := fun W hW => (HK2.out W).mono fun e w' h => ⟨h.1, hW.trans (h.2.mono hW.size)⟩
          have K3 : Hid (∀ W, Below Y.heap.size Y W → Calls Try.prog 9 #[.agg #[.int .u64 a.root, .int .i64 (a.cost + x), .int .u64 a.bridge, .int .i64 a.port], .agg #[.int .u64 b.root, .int .i64 (b.cost + x), .int .u64 b.bridge, .int .i64 b.port]] W fun e w' => e = .returned (.int .i64 q) ∧ Hid (Below Y.heap.size Y w')) := fun W hW => (HK3.out W).mono fun e w' h => ⟨h.1, hW.trans (h.2.mono hW.size)⟩
          have K1 : Hid (∀ W, Below Y.heap.size Y W → Calls Try.prog 9 #[.agg #[.int .u64 a.root, .int .i64 (a.cost + x), .int .u64 a.bridge, .int .i64 a.port], .agg #[.int .u64 a.root, .int .i64 a.cost, .int .u64 a.bridge, .int .i64 a.port]] W fun e w' => e = .returned (.int .i64 1) ∧ Hid (Below Y.heap.size Y w')) := fun W hW => (HK1.out W).mono fun e w' h => ⟨h.1, hW.trans (h.2.mono hW.size)⟩
          have HYR : Hid (∀ W, Below Y.heap.size Y W → Below W0.heap.size W0 W) := fun W hW => HYB.out.trans (hW.mono HYB.out.size)
          clear b0 b1 b2 b3 HK1 HK2 HK3 hb2 hb3 HXB HXV HYB HYV HYW
          go_wp2_with fail
          rw [← HY.out]
          go_region_held3 (fun W => (W.cell? ⟨w.heap.size, 0, none⟩ = some (.int .u64 a.root) ∧ W.cell? ⟨w.heap.size, 1, none⟩ = some (.int .i64 a.cost) ∧ W.cell? ⟨w.heap.size, 2, none⟩ = some (.int .u64 a.bridge) ∧ W.cell? ⟨w.heap.size, 3, none⟩ = some (.int .i64 a.port)) ∧ (W.cell? ⟨w.heap.size + 1, 0, none⟩ = some (.int .u64 b.root) ∧ W.cell? ⟨w.heap.size + 1, 1, none⟩ = some (.int .i64 b.cost) ∧ W.cell? ⟨w.heap.size + 1, 2, none⟩ = some (.int .u64 b.bridge) ∧ W.cell? ⟨w.heap.size + 1, 3, none⟩ = some (.int .i64 b.port)) ∧ (W.cell? ⟨w2.heap.size, 0, none⟩ = some (.int .u64 a.root) ∧ W.cell? ⟨w2.heap.size, 1, none⟩ = some (.int .i64 (a.cost + x)) ∧ W.cell? ⟨w2.heap.size, 2, none⟩ = some (.int .u64 a.bridge) ∧ W.cell? ⟨w2.heap.size, 3, none⟩ = some (.int .i64 a.port)) ∧ (W.cell? ⟨w3.heap.size, 0, none⟩ = some (.int .u64 b.root) ∧ W.cell? ⟨w3.heap.size, 1, none⟩ = some (.int .i64 (b.cost + x)) ∧ W.cell? ⟨w3.heap.size, 2, none⟩ = some (.int .u64 b.bridge) ∧ W.cell? ⟨w3.heap.size, 3, none⟩ = some (.int .i64 b.port)))
            (first | (with_reducible exact HS.out _ (Below.drew (Below.refl _ _))) | (with_reducible exact HS.out _ (Hid.out (by assumption))) | go_keep)
            (first | (go_at_call 9; (with_reducible refine (K1.out _ (Below.drew (Below.refl _ _))).mono ?_); rintro e w4 ⟨rfl, HB4⟩) | (go_at_call 9; (with_reducible refine (K2.out _ HB4.out).mono ?_); rintro e w5 ⟨rfl, HB5⟩) | (go_at_call 9; (with_reducible refine (K3.out _ HB5.out).mono ?_); rintro e w6 ⟨rfl, HB6⟩))
          obtain ⟨-, -, ⟨v0, v1, v2, v3⟩, -⟩ := HS.out w6 HB6.out
          go_wp2_with fail
          refine (HOV.out _).mono ?_
          rintro e w7 ⟨rfl, hb7⟩
          obtain ⟨Z, HZ⟩ : ∃ Z, Hid (Z = w7.alloc (.cells #[.int .u64 a.root, .int .i64 (a.cost + x + y), .int .u64 a.bridge, .int .i64 a.port] 27)) := ⟨_, rfl⟩
          have HZB : Hid (Below Y.heap.size Y Z) := by
            rw [HZ.out]
            have h := HB6.out.trans (hb7.out.mono HB6.out.size)
            exact h.alloc h.size _
          have HZT : Hid (Z.heap[w7.heap.size]? = some (.cells #[.int .u64 a.root, .int .i64 (a.cost + x + y), .int .u64 a.bridge, .int .i64 a.port] 27 (0, 0))) := by rw [HZ.out]; exact heap_alloc_last _ _
          clear v0 v1 v2 v3
          obtain ⟨⟨a0, a1, a2, a3⟩, -, -, -⟩ := HS.out Z HZB.out
          rw [HZ.out] at a0 a1 a2 a3
          go_wp2_with fail
          rw [← HZ.out]
          (with_reducible refine (HOX.out _).mono ?_)
          rintro e w8 ⟨rfl, hb8⟩
          obtain ⟨U, HU⟩ : ∃ U, Hid (U = w8.alloc (.cells #[.int .u64 a.root, .int .i64 (a.cost + x + y), .int .u64 a.bridge, .int .i64 a.port] 27)) := ⟨_, rfl⟩
          have HUB : Hid (Below w.heap.size w U) := by
            rw [HU.out]
            have h := HZB.out.trans (hb8.out.mono HZB.out.size)
            exact HL.out _ (HYR.out _ (h.alloc h.size _))
          clear a0 a1 a2 a3
          have HUT : Hid (U.heap[w7.heap.size]? = some (.cells #[.int .u64 a.root, .int .i64 (a.cost + x + y), .int .u64 a.bridge, .int .i64 a.port] 27 (0, 0))) := by rw [HU.out]; exact keep (keep HZT.out hb8.out) (below_alloc1 _ _)
          have HUO : Hid (U.heap[w8.heap.size]? = some (.cells #[.int .u64 a.root, .int .i64 (a.cost + x + y), .int .u64 a.bridge, .int .i64 a.port] 27 (0, 0))) := by rw [HU.out]; exact heap_alloc_last _ _
          obtain ⟨t0, t1, t2, t3⟩ := vc_cells HUT.out
          obtain ⟨o0, o1, o2, o3⟩ := vc_cells HUO.out
          rw [HU.out] at t0 t1 t2 t3 o0 o1 o2 o3
          go_wp2_with fail
          go_ret
          rw [← HU.out]
          exact ⟨rfl, HUB.out⟩
        · clear HP
          go_enter Try.func5, Try.ntmps5
          go_wp2_with fail
          rw [← HW0.out]
          refine (valive_any _).mono ?_
          rintro e w1 ⟨rfl, hb1⟩
          have HB1 : Hid (Below W0.heap.size W0 w1) := hb1
          clear hb1
          obtain ⟨⟨a0, a1, a2, a3⟩, b0, b1, b2, b3⟩ := HC.out w1 HB1.out
          go_wp2_with fail
          refine (HOA.out _).mono ?_
          rintro e w2 ⟨rfl, hb2⟩
          obtain ⟨X, HX⟩ : ∃ X, Hid (X = w2.alloc (.cells #[.int .u64 a.root, .int .i64 (a.cost + x), .int .u64 a.bridge, .int .i64 a.port] 27)) := ⟨_, rfl⟩
          have HXB : Hid (Below W0.heap.size W0 X) := by
            rw [HX.out]
            have h := HB1.out.trans (hb2.out.mono HB1.out.size)
            exact h.alloc h.size _
          have HXV : Hid (X.heap[w2.heap.size]? = some (.cells #[.int .u64 a.root, .int .i64 (a.cost + x), .int .u64 a.bridge, .int .i64 a.port] 27 (0, 0))) := by rw [HX.out]; exact heap_alloc_last _ _
          clear a0 a1 a2 a3 b0 b1 b2 b3
          obtain ⟨-, b0, b1, b2, b3⟩ := HC.out X HXB.out
          rw [HX.out] at b0 b1 b2 b3
          go_wp2_with fail
          rw [← HX.out]
          refine (HOB.out _).mono ?_
          rintro e w3 ⟨rfl, hb3⟩
          obtain ⟨Y, HY⟩ : ∃ Y, Hid (Y = w3.alloc (.cells #[.int .u64 b.root, .int .i64 (b.cost + x), .int .u64 b.bridge, .int .i64 b.port] 27)) := ⟨_, rfl⟩
          have HYB : Hid (Below W0.heap.size W0 Y) := by
            rw [HY.out]
            have h := HXB.out.trans (hb3.out.mono HXB.out.size)
            exact h.alloc h.size _
          have HYV : Hid (Y.heap[w2.heap.size]? = some (.cells #[.int .u64 a.root, .int .i64 (a.cost + x), .int .u64 a.bridge, .int .i64 a.port] 27 (0, 0))) := by rw [HY.out]; exact keep (keep HXV.out hb3.out) (below_alloc1 _ _)
          have HYW : Hid (Y.heap[w3.heap.size]? = some (.cells #[.int .u64 b.root, .int .i64 (b.cost + x), .int .u64 b.bridge, .int .i64 b.port] 27 (0, 0))) := by rw [HY.out]; exact heap_alloc_last _ _
          have HS : Hid (∀ W, Below Y.heap.size Y W → (W.cell? ⟨w.heap.size, 0, none⟩ = some (.int .u64 a.root) ∧ W.cell? ⟨w.heap.size, 1, none⟩ = some (.int .i64 a.cost) ∧ W.cell? ⟨w.heap.size, 2, none⟩ = some (.int .u64 a.bridge) ∧ W.cell? ⟨w.heap.size, 3, none⟩ = some (.int .i64 a.port)) ∧ (W.cell? ⟨w.heap.size + 1, 0, none⟩ = some (.int .u64 b.root) ∧ W.cell? ⟨w.heap.size + 1, 1, none⟩ = some (.int .i64 b.cost) ∧ W.cell? ⟨w.heap.size + 1, 2, none⟩ = some (.int .u64 b.bridge) ∧ W.cell? ⟨w.heap.size + 1, 3, none⟩ = some (.int .i64 b.port)) ∧ (W.cell? ⟨w2.heap.size, 0, none⟩ = some (.int .u64 a.root) ∧ W.cell? ⟨w2.heap.size, 1, none⟩ = some (.int .i64 (a.cost + x)) ∧ W.cell? ⟨w2.heap.size, 2, none⟩ = some (.int .u64 a.bridge) ∧ W.cell? ⟨w2.heap.size, 3, none⟩ = some (.int .i64 a.port)) ∧ (W.cell? ⟨w3.heap.size, 0, none⟩ = some (.int .u64 b.root) ∧ W.cell? ⟨w3.heap.size, 1, none⟩ = some (.int .i64 (b.cost + x)) ∧ W.cell? ⟨w3.heap.size, 2, none⟩ = some (.int .u64 b.bridge) ∧ W.cell? ⟨w3.heap.size, 3, none⟩ = some (.int .i64 b.port))) := fun W hW => by
            have h := HC.out W (HYB.out.trans (hW.mono HYB.out.size))
            exact ⟨h.1, h.2, vc_cells (keep HYV.out hW), vc_cells (keep HYW.out hW)⟩
          have K2 : Hid (∀ W, Below Y.heap.size Y W → Calls Try.prog 9 #[.agg #[.int .u64 a.root, .int .i64 a.cost, .int .u64 a.bridge, .int .i64 a.port], .agg #[.int .u64 b.root, .int .i64 b.cost, .int .u64 b.bridge, .int .i64 b.port]] W fun e w' => e = .returned (.int .i64 q) ∧ Hid (Below Y.heap.size Y w')) := fun W hW => (HK2.out W).mono fun e w' h => ⟨h.1, hW.trans (h.2.mono hW.size)⟩
          have K3 : Hid (∀ W, Below Y.heap.size Y W → Calls Try.prog 9 #[.agg #[.int .u64 a.root, .int .i64 (a.cost + x), .int .u64 a.bridge, .int .i64 a.port], .agg #[.int .u64 b.root, .int .i64 (b.cost + x), .int .u64 b.bridge, .int .i64 b.port]] W fun e w' => e = .returned (.int .i64 q) ∧ Hid (Below Y.heap.size Y w')) := fun W hW => (HK3.out W).mono fun e w' h => ⟨h.1, hW.trans (h.2.mono hW.size)⟩
          have K1 : Hid (∀ W, Below Y.heap.size Y W → Calls Try.prog 9 #[.agg #[.int .u64 a.root, .int .i64 (a.cost + x), .int .u64 a.bridge, .int .i64 a.port], .agg #[.int .u64 a.root, .int .i64 a.cost, .int .u64 a.bridge, .int .i64 a.port]] W fun e w' => e = .returned (.int .i64 p) ∧ Hid (Below Y.heap.size Y w')) := fun W hW => (HK1.out W).mono fun e w' h => ⟨h.1, hW.trans (h.2.mono hW.size)⟩
          have HYR : Hid (∀ W, Below Y.heap.size Y W → Below W0.heap.size W0 W) := fun W hW => HYB.out.trans (hW.mono HYB.out.size)
          clear b0 b1 b2 b3 HK1 HK2 HK3 hb2 hb3 HXB HXV HYB HYV HYW
          go_wp2_with fail
          rw [← HY.out]
          refine wp_region_held_drew (S := fun W => (W.cell? ⟨w.heap.size, 0, none⟩ = some (.int .u64 a.root) ∧ W.cell? ⟨w.heap.size, 1, none⟩ = some (.int .i64 a.cost) ∧ W.cell? ⟨w.heap.size, 2, none⟩ = some (.int .u64 a.bridge) ∧ W.cell? ⟨w.heap.size, 3, none⟩ = some (.int .i64 a.port)) ∧ (W.cell? ⟨w.heap.size + 1, 0, none⟩ = some (.int .u64 b.root) ∧ W.cell? ⟨w.heap.size + 1, 1, none⟩ = some (.int .i64 b.cost) ∧ W.cell? ⟨w.heap.size + 1, 2, none⟩ = some (.int .u64 b.bridge) ∧ W.cell? ⟨w.heap.size + 1, 3, none⟩ = some (.int .i64 b.port)) ∧ (W.cell? ⟨w2.heap.size, 0, none⟩ = some (.int .u64 a.root) ∧ W.cell? ⟨w2.heap.size, 1, none⟩ = some (.int .i64 (a.cost + x)) ∧ W.cell? ⟨w2.heap.size, 2, none⟩ = some (.int .u64 a.bridge) ∧ W.cell? ⟨w2.heap.size, 3, none⟩ = some (.int .i64 a.port)) ∧ (W.cell? ⟨w3.heap.size, 0, none⟩ = some (.int .u64 b.root) ∧ W.cell? ⟨w3.heap.size, 1, none⟩ = some (.int .i64 (b.cost + x)) ∧ W.cell? ⟨w3.heap.size, 2, none⟩ = some (.int .u64 b.bridge) ∧ W.cell? ⟨w3.heap.size, 3, none⟩ = some (.int .i64 b.port))) (by kernel_rfl) (HS.out _ (Below.drew (Below.refl _ _))) (fun hHeld => ?_)
          refine held_take (i := 0) (v := ?_) (some 35) rfl rfl (by kernel_rfl) (by kernel_rfl) (by kernel_rfl) (fun _ _ _ h => h) (by rfl) ?_ hHeld ?_
          rotate_left 1
          · (intro wq hSw; go_simp; try with_reducible rfl)
          simp only [Act.put, List.setIfInBounds_toArray, List.set_cons_zero, List.set_cons_succ]
          refine held_take (i := 1) (v := .bool false) (some 36) rfl rfl (by kernel_rfl) (by kernel_rfl) (by kernel_rfl) (fun _ _ _ h => h) (by rfl) ?_ hHeld ?_
          · (intro wq hSw; go_simp; first | done | (simp [hx]; done))
          simp only [Act.put, List.setIfInBounds_toArray, List.set_cons_zero, List.set_cons_succ]
          refine held_take (i := 2) (v := ?_) (some 37) rfl rfl (by kernel_rfl) (by kernel_rfl) (by kernel_rfl) (fun _ _ _ h => h) (by rfl) ?_ hHeld ?_
          rotate_left 1
          · (intro wq hSw; go_simp; try with_reducible rfl)
          simp only [Act.put, List.setIfInBounds_toArray, List.set_cons_zero, List.set_cons_succ]
          refine held_skip (i := 3) (some 38) rfl rfl (by kernel_rfl) (by kernel_rfl) (by kernel_rfl) (fun _ _ _ h => h) (by rfl) hHeld ?_
          simp only [Act.put, List.setIfInBounds_toArray, List.set_cons_zero, List.set_cons_succ]
          refine held_skip (i := 4) (some 39) rfl rfl (by kernel_rfl) (by kernel_rfl) (by kernel_rfl) (fun _ _ _ h => h) (by rfl) hHeld ?_
          simp only [Act.put, List.setIfInBounds_toArray, List.set_cons_zero, List.set_cons_succ]
          refine held_skip (i := 5) (some 40) rfl rfl (by kernel_rfl) (by kernel_rfl) (by kernel_rfl) (fun _ _ _ h => h) (by rfl) hHeld ?_
          simp only [Act.put, List.setIfInBounds_toArray, List.set_cons_zero, List.set_cons_succ]
          refine held_skip (i := 6) (some 41) rfl rfl (by kernel_rfl) (by kernel_rfl) (by kernel_rfl) (fun _ _ _ h => h) (by rfl) hHeld ?_
          simp only [Act.put, List.setIfInBounds_toArray, List.set_cons_zero, List.set_cons_succ]
          refine held_take (i := 7) (v := ?_) (some 42) rfl rfl (by kernel_rfl) (by kernel_rfl) (by kernel_rfl) (fun _ _ _ h => h) (by rfl) ?_ hHeld ?_
          rotate_left 1
          · (intro wq hSw; go_simp; try with_reducible rfl)
          simp only [Act.put, List.setIfInBounds_toArray, List.set_cons_zero, List.set_cons_succ]
          refine held_take (i := 8) (v := ?_) (some 43) rfl rfl (by kernel_rfl) (by kernel_rfl) (by kernel_rfl) (fun _ _ _ h => h) (by rfl) ?_ hHeld ?_
          rotate_left 1
          · (intro wq hSw; go_simp; try with_reducible rfl)
          simp only [Act.put, List.setIfInBounds_toArray, List.set_cons_zero, List.set_cons_succ]
          refine held_take (i := 9) (v := ?_) (some 44) rfl rfl (by kernel_rfl) (by kernel_rfl) (by kernel_rfl) (fun _ _ _ h => h) (by rfl) ?_ hHeld ?_
          rotate_left 1
          · (intro wq hSw; go_simp; try with_reducible rfl)
          simp only [Act.put, List.setIfInBounds_toArray, List.set_cons_zero, List.set_cons_succ]
          refine held_take (i := 10) (v := ?_) (some 45) rfl rfl (by kernel_rfl) (by kernel_rfl) (by kernel_rfl) (fun _ _ _ h => h) (by rfl) ?_ hHeld ?_
          rotate_left 1
          · (intro wq hSw; go_simp; try with_reducible rfl)
          simp only [Act.put, List.setIfInBounds_toArray, List.set_cons_zero, List.set_cons_succ]
          refine held_take (i := 12) (v := ?_) (some 47) rfl rfl (by kernel_rfl) (by kernel_rfl) (by kernel_rfl) (fun _ _ _ h => h) (by rfl) ?_ hHeld ?_
          rotate_left 1
          · (intro wq hSw; go_simp; try with_reducible rfl)
          simp only [Act.put, List.setIfInBounds_toArray, List.set_cons_zero, List.set_cons_succ]
          refine held_take (i := 13) (v := ?_) (some 48) rfl rfl (by kernel_rfl) (by kernel_rfl) (by kernel_rfl) (fun _ _ _ h => h) (by rfl) ?_ hHeld ?_
          rotate_left 1
          · (intro wq hSw; go_simp; try with_reducible rfl)
          simp only [Act.put, List.setIfInBounds_toArray, List.set_cons_zero, List.set_cons_succ]
          refine wpAnyH_ready (rs := [11]) (by kernel_rfl) (by simp) ?_
          refine AllReadyH.cons rfl (fun K hK => ?_) AllReadyH.nil
          go_simp
          (with_reducible refine (K2.out _ (Below.drew (Below.refl _ _))).mono ?_)
          rintro e w5 ⟨rfl, HB5⟩
          go_wp2_with fail
          refine hK.out _ _ (HS.out _ HB5.out) (fun hHeld => ?_)
          clear hK K
          refine wpAnyH_ready (rs := [14]) (by kernel_rfl) (by simp) ?_
          refine AllReadyH.cons rfl (fun K hK => ?_) AllReadyH.nil
          go_simp
          (with_reducible refine (K3.out _ HB5.out).mono ?_)
          rintro e w6 ⟨rfl, HB6⟩
          go_wp2_with fail
          refine hK.out _ _ (HS.out _ HB6.out) (fun hHeld => ?_)
          clear hK K
          refine held_take (i := 15) (v := ?_) (some 50) rfl rfl (by kernel_rfl) (by kernel_rfl) (by kernel_rfl) (fun _ _ _ h => h) (by rfl) ?_ hHeld ?_
          rotate_left 1
          · (intro wq hSw; go_simp; try with_reducible rfl)
          simp only [Act.put, List.setIfInBounds_toArray, List.set_cons_zero, List.set_cons_succ]
          refine held_take (i := 16) (v := ?_) (some 51) rfl rfl (by kernel_rfl) (by kernel_rfl) (by kernel_rfl) (fun _ _ _ h => h) (by rfl) ?_ hHeld ?_
          rotate_left 1
          · (intro wq hSw; go_simp; try with_reducible rfl)
          simp only [Act.put, List.setIfInBounds_toArray, List.set_cons_zero, List.set_cons_succ]
          refine wpAnyH_done (by kernel_rfl) ?_ _
          obtain ⟨-, -, ⟨v0, v1, v2, v3⟩, -⟩ := HS.out w6 HB6.out
          go_wp2_with fail
          refine (HOV.out _).mono ?_
          rintro e w7 ⟨rfl, hb7⟩
          obtain ⟨Z, HZ⟩ : ∃ Z, Hid (Z = w7.alloc (.cells #[.int .u64 a.root, .int .i64 (a.cost + x + y), .int .u64 a.bridge, .int .i64 a.port] 27)) := ⟨_, rfl⟩
          have HZB : Hid (Below Y.heap.size Y Z) := by
            rw [HZ.out]
            have h := HB6.out.trans (hb7.out.mono HB6.out.size)
            exact h.alloc h.size _
          have HZT : Hid (Z.heap[w7.heap.size]? = some (.cells #[.int .u64 a.root, .int .i64 (a.cost + x + y), .int .u64 a.bridge, .int .i64 a.port] 27 (0, 0))) := by rw [HZ.out]; exact heap_alloc_last _ _
          clear v0 v1 v2 v3
          obtain ⟨⟨a0, a1, a2, a3⟩, -, -, -⟩ := HS.out Z HZB.out
          rw [HZ.out] at a0 a1 a2 a3
          go_wp2_with fail
          rw [← HZ.out]
          (with_reducible refine (HOX.out _).mono ?_)
          rintro e w8 ⟨rfl, hb8⟩
          obtain ⟨U, HU⟩ : ∃ U, Hid (U = w8.alloc (.cells #[.int .u64 a.root, .int .i64 (a.cost + x + y), .int .u64 a.bridge, .int .i64 a.port] 27)) := ⟨_, rfl⟩
          have HUB : Hid (Below w.heap.size w U) := by
            rw [HU.out]
            have h := HZB.out.trans (hb8.out.mono HZB.out.size)
            exact HL.out _ (HYR.out _ (h.alloc h.size _))
          clear a0 a1 a2 a3
          have HUT : Hid (U.heap[w7.heap.size]? = some (.cells #[.int .u64 a.root, .int .i64 (a.cost + x + y), .int .u64 a.bridge, .int .i64 a.port] 27 (0, 0))) := by rw [HU.out]; exact keep (keep HZT.out hb8.out) (below_alloc1 _ _)
          have HUO : Hid (U.heap[w8.heap.size]? = some (.cells #[.int .u64 a.root, .int .i64 (a.cost + x + y), .int .u64 a.bridge, .int .i64 a.port] 27 (0, 0))) := by rw [HU.out]; exact heap_alloc_last _ _
          obtain ⟨t0, t1, t2, t3⟩ := vc_cells HUT.out
          obtain ⟨o0, o1, o2, o3⟩ := vc_cells HUO.out
          rw [HU.out] at t0 t1 t2 t3 o0 o1 o2 o3
          go_wp2_with fail
          go_ret
          rw [← HU.out]
          exact ⟨rfl, HUB.out⟩
      · obtain ⟨R, d, hox⟩ := over_some a (wrap64 (x + y))
        have HOV : Hid (∀ W : World, Calls Try.prog 11 #[.agg #[.int .u64 a.root, .int .i64 (a.cost + x), .int .u64 a.bridge, .int .i64 a.port], .int .i64 y] W fun e w' => e = .returned (.tuple #[.agg #[.int .u64 0, .int .i64 0, .int .u64 0, .int .i64 0], .bool false]) ∧ Hid (Below W.heap.size W w')) := fun W => over_no ⟨a.root, a.cost + x, a.bridge, a.port⟩ y hV W
        have HOX : Hid (∀ W : World, Calls Try.prog 11 #[.agg #[.int .u64 a.root, .int .i64 a.cost, .int .u64 a.bridge, .int .i64 a.port], .int .i64 (wrap64 (x + y))] W fun e w' => e = .returned (.tuple #[.agg #[.int .u64 R.root, .int .i64 R.cost, .int .u64 R.bridge, .int .i64 R.port], .bool d]) ∧ Hid (Below W.heap.size W w')) := hox
        clear hox hV hA
        by_cases hx : 0 < x
        · have hp := HP.out hx
          subst hp
          clear HP
          go_enter Try.func5, Try.ntmps5
          go_wp2_with fail
          rw [← HW0.out]
          refine (valive_any _).mono ?_
          rintro e w1 ⟨rfl, hb1⟩
          have HB1 : Hid (Below W0.heap.size W0 w1) := hb1
          clear hb1
          obtain ⟨⟨a0, a1, a2, a3⟩, b0, b1, b2, b3⟩ := HC.out w1 HB1.out
          go_wp2_with fail
          refine (HOA.out _).mono ?_
          rintro e w2 ⟨rfl, hb2⟩
          obtain ⟨X, HX⟩ : ∃ X, Hid (X = w2.alloc (.cells #[.int .u64 a.root, .int .i64 (a.cost + x), .int .u64 a.bridge, .int .i64 a.port] 27)) := ⟨_, rfl⟩
          have HXB : Hid (Below W0.heap.size W0 X) := by
            rw [HX.out]
            have h := HB1.out.trans (hb2.out.mono HB1.out.size)
            exact h.alloc h.size _
          have HXV : Hid (X.heap[w2.heap.size]? = some (.cells #[.int .u64 a.root, .int .i64 (a.cost + x), .int .u64 a.bridge, .int .i64 a.port] 27 (0, 0))) := by rw [HX.out]; exact heap_alloc_last _ _
          clear a0 a1 a2 a3 b0 b1 b2 b3
          obtain ⟨-, b0, b1, b2, b3⟩ := HC.out X HXB.out
          rw [HX.out] at b0 b1 b2 b3
          go_wp2_with fail
          rw [← HX.out]
          refine (HOB.out _).mono ?_
          rintro e w3 ⟨rfl, hb3⟩
          obtain ⟨Y, HY⟩ : ∃ Y, Hid (Y = w3.alloc (.cells #[.int .u64 b.root, .int .i64 (b.cost + x), .int .u64 b.bridge, .int .i64 b.port] 27)) := ⟨_, rfl⟩
          have HYB : Hid (Below W0.heap.size W0 Y) := by
            rw [HY.out]
            have h := HXB.out.trans (hb3.out.mono HXB.out.size)
            exact h.alloc h.size _
          have HYV : Hid (Y.heap[w2.heap.size]? = some (.cells #[.int .u64 a.root, .int .i64 (a.cost + x), .int .u64 a.bridge, .int .i64 a.port] 27 (0, 0))) := by rw [HY.out]; exact keep (keep HXV.out hb3.out) (below_alloc1 _ _)
          have HYW : Hid (Y.heap[w3.heap.size]? = some (.cells #[.int .u64 b.root, .int .i64 (b.cost + x), .int .u64 b.bridge, .int .i64 b.port] 27 (0, 0))) := by rw [HY.out]; exact heap_alloc_last _ _
          have HS : Hid (∀ W, Below Y.heap.size Y W → (W.cell? ⟨w.heap.size, 0, none⟩ = some (.int .u64 a.root) ∧ W.cell? ⟨w.heap.size, 1, none⟩ = some (.int .i64 a.cost) ∧ W.cell? ⟨w.heap.size, 2, none⟩ = some (.int .u64 a.bridge) ∧ W.cell? ⟨w.heap.size, 3, none⟩ = some (.int .i64 a.port)) ∧ (W.cell? ⟨w.heap.size + 1, 0, none⟩ = some (.int .u64 b.root) ∧ W.cell? ⟨w.heap.size + 1, 1, none⟩ = some (.int .i64 b.cost) ∧ W.cell? ⟨w.heap.size + 1, 2, none⟩ = some (.int .u64 b.bridge) ∧ W.cell? ⟨w.heap.size + 1, 3, none⟩ = some (.int .i64 b.port)) ∧ (W.cell? ⟨w2.heap.size, 0, none⟩ = some (.int .u64 a.root) ∧ W.cell? ⟨w2.heap.size, 1, none⟩ = some (.int .i64 (a.cost + x)) ∧ W.cell? ⟨w2.heap.size, 2, none⟩ = some (.int .u64 a.bridge) ∧ W.cell? ⟨w2.heap.size, 3, none⟩ = some (.int .i64 a.port)) ∧ (W.cell? ⟨w3.heap.size, 0, none⟩ = some (.int .u64 b.root) ∧ W.cell? ⟨w3.heap.size, 1, none⟩ = some (.int .i64 (b.cost + x)) ∧ W.cell? ⟨w3.heap.size, 2, none⟩ = some (.int .u64 b.bridge) ∧ W.cell? ⟨w3.heap.size, 3, none⟩ = some (.int .i64 b.port))) := fun W hW => by
            have h := HC.out W (HYB.out.trans (hW.mono HYB.out.size))
            exact ⟨h.1, h.2, vc_cells (keep HYV.out hW), vc_cells (keep HYW.out hW)⟩
          have K2 : Hid (∀ W, Below Y.heap.size Y W → Calls Try.prog 9 #[.agg #[.int .u64 a.root, .int .i64 a.cost, .int .u64 a.bridge, .int .i64 a.port], .agg #[.int .u64 b.root, .int .i64 b.cost, .int .u64 b.bridge, .int .i64 b.port]] W fun e w' => e = .returned (.int .i64 q) ∧ Hid (Below Y.heap.size Y w')) := fun W hW => (HK2.out W).mono fun e w' h => ⟨h.1, hW.trans (h.2.mono hW.size)⟩
          have K3 : Hid (∀ W, Below Y.heap.size Y W → Calls Try.prog 9 #[.agg #[.int .u64 a.root, .int .i64 (a.cost + x), .int .u64 a.bridge, .int .i64 a.port], .agg #[.int .u64 b.root, .int .i64 (b.cost + x), .int .u64 b.bridge, .int .i64 b.port]] W fun e w' => e = .returned (.int .i64 q) ∧ Hid (Below Y.heap.size Y w')) := fun W hW => (HK3.out W).mono fun e w' h => ⟨h.1, hW.trans (h.2.mono hW.size)⟩
          have K1 : Hid (∀ W, Below Y.heap.size Y W → Calls Try.prog 9 #[.agg #[.int .u64 a.root, .int .i64 (a.cost + x), .int .u64 a.bridge, .int .i64 a.port], .agg #[.int .u64 a.root, .int .i64 a.cost, .int .u64 a.bridge, .int .i64 a.port]] W fun e w' => e = .returned (.int .i64 1) ∧ Hid (Below Y.heap.size Y w')) := fun W hW => (HK1.out W).mono fun e w' h => ⟨h.1, hW.trans (h.2.mono hW.size)⟩
          have HYR : Hid (∀ W, Below Y.heap.size Y W → Below W0.heap.size W0 W) := fun W hW => HYB.out.trans (hW.mono HYB.out.size)
          clear b0 b1 b2 b3 HK1 HK2 HK3 hb2 hb3 HXB HXV HYB HYV HYW
          go_wp2_with fail
          rw [← HY.out]
          go_region_held3 (fun W => (W.cell? ⟨w.heap.size, 0, none⟩ = some (.int .u64 a.root) ∧ W.cell? ⟨w.heap.size, 1, none⟩ = some (.int .i64 a.cost) ∧ W.cell? ⟨w.heap.size, 2, none⟩ = some (.int .u64 a.bridge) ∧ W.cell? ⟨w.heap.size, 3, none⟩ = some (.int .i64 a.port)) ∧ (W.cell? ⟨w.heap.size + 1, 0, none⟩ = some (.int .u64 b.root) ∧ W.cell? ⟨w.heap.size + 1, 1, none⟩ = some (.int .i64 b.cost) ∧ W.cell? ⟨w.heap.size + 1, 2, none⟩ = some (.int .u64 b.bridge) ∧ W.cell? ⟨w.heap.size + 1, 3, none⟩ = some (.int .i64 b.port)) ∧ (W.cell? ⟨w2.heap.size, 0, none⟩ = some (.int .u64 a.root) ∧ W.cell? ⟨w2.heap.size, 1, none⟩ = some (.int .i64 (a.cost + x)) ∧ W.cell? ⟨w2.heap.size, 2, none⟩ = some (.int .u64 a.bridge) ∧ W.cell? ⟨w2.heap.size, 3, none⟩ = some (.int .i64 a.port)) ∧ (W.cell? ⟨w3.heap.size, 0, none⟩ = some (.int .u64 b.root) ∧ W.cell? ⟨w3.heap.size, 1, none⟩ = some (.int .i64 (b.cost + x)) ∧ W.cell? ⟨w3.heap.size, 2, none⟩ = some (.int .u64 b.bridge) ∧ W.cell? ⟨w3.heap.size, 3, none⟩ = some (.int .i64 b.port)))
            (first | (with_reducible exact HS.out _ (Below.drew (Below.refl _ _))) | (with_reducible exact HS.out _ (Hid.out (by assumption))) | go_keep)
            (first | (go_at_call 9; (with_reducible refine (K1.out _ (Below.drew (Below.refl _ _))).mono ?_); rintro e w4 ⟨rfl, HB4⟩) | (go_at_call 9; (with_reducible refine (K2.out _ HB4.out).mono ?_); rintro e w5 ⟨rfl, HB5⟩) | (go_at_call 9; (with_reducible refine (K3.out _ HB5.out).mono ?_); rintro e w6 ⟨rfl, HB6⟩))
          obtain ⟨-, -, ⟨v0, v1, v2, v3⟩, -⟩ := HS.out w6 HB6.out
          go_wp2_with fail
          refine (HOV.out _).mono ?_
          rintro e w7 ⟨rfl, hb7⟩
          obtain ⟨Z, HZ⟩ : ∃ Z, Hid (Z = w7.alloc (.cells #[.int .u64 0, .int .i64 0, .int .u64 0, .int .i64 0] 27)) := ⟨_, rfl⟩
          have HZB : Hid (Below Y.heap.size Y Z) := by
            rw [HZ.out]
            have h := HB6.out.trans (hb7.out.mono HB6.out.size)
            exact h.alloc h.size _
          have HZT : Hid (Z.heap[w7.heap.size]? = some (.cells #[.int .u64 0, .int .i64 0, .int .u64 0, .int .i64 0] 27 (0, 0))) := by rw [HZ.out]; exact heap_alloc_last _ _
          clear v0 v1 v2 v3
          obtain ⟨⟨a0, a1, a2, a3⟩, -, -, -⟩ := HS.out Z HZB.out
          rw [HZ.out] at a0 a1 a2 a3
          go_wp2_with fail
          rw [← HZ.out]
          (with_reducible refine (HOX.out _).mono ?_)
          rintro e w8 ⟨rfl, hb8⟩
          obtain ⟨U, HU⟩ : ∃ U, Hid (U = w8.alloc (.cells #[.int .u64 R.root, .int .i64 R.cost, .int .u64 R.bridge, .int .i64 R.port] 27)) := ⟨_, rfl⟩
          have HUB : Hid (Below w.heap.size w U) := by
            rw [HU.out]
            have h := HZB.out.trans (hb8.out.mono HZB.out.size)
            exact HL.out _ (HYR.out _ (h.alloc h.size _))
          clear a0 a1 a2 a3
          go_wp2_with fail
          go_ret
          rw [← HU.out]
          exact ⟨rfl, HUB.out⟩
        · clear HP
          go_enter Try.func5, Try.ntmps5
          go_wp2_with fail
          rw [← HW0.out]
          refine (valive_any _).mono ?_
          rintro e w1 ⟨rfl, hb1⟩
          have HB1 : Hid (Below W0.heap.size W0 w1) := hb1
          clear hb1
          obtain ⟨⟨a0, a1, a2, a3⟩, b0, b1, b2, b3⟩ := HC.out w1 HB1.out
          go_wp2_with fail
          refine (HOA.out _).mono ?_
          rintro e w2 ⟨rfl, hb2⟩
          obtain ⟨X, HX⟩ : ∃ X, Hid (X = w2.alloc (.cells #[.int .u64 a.root, .int .i64 (a.cost + x), .int .u64 a.bridge, .int .i64 a.port] 27)) := ⟨_, rfl⟩
          have HXB : Hid (Below W0.heap.size W0 X) := by
            rw [HX.out]
            have h := HB1.out.trans (hb2.out.mono HB1.out.size)
            exact h.alloc h.size _
          have HXV : Hid (X.heap[w2.heap.size]? = some (.cells #[.int .u64 a.root, .int .i64 (a.cost + x), .int .u64 a.bridge, .int .i64 a.port] 27 (0, 0))) := by rw [HX.out]; exact heap_alloc_last _ _
          clear a0 a1 a2 a3 b0 b1 b2 b3
          obtain ⟨-, b0, b1, b2, b3⟩ := HC.out X HXB.out
          rw [HX.out] at b0 b1 b2 b3
          go_wp2_with fail
          rw [← HX.out]
          refine (HOB.out _).mono ?_
          rintro e w3 ⟨rfl, hb3⟩
          obtain ⟨Y, HY⟩ : ∃ Y, Hid (Y = w3.alloc (.cells #[.int .u64 b.root, .int .i64 (b.cost + x), .int .u64 b.bridge, .int .i64 b.port] 27)) := ⟨_, rfl⟩
          have HYB : Hid (Below W0.heap.size W0 Y) := by
            rw [HY.out]
            have h := HXB.out.trans (hb3.out.mono HXB.out.size)
            exact h.alloc h.size _
          have HYV : Hid (Y.heap[w2.heap.size]? = some (.cells #[.int .u64 a.root, .int .i64 (a.cost + x), .int .u64 a.bridge, .int .i64 a.port] 27 (0, 0))) := by rw [HY.out]; exact keep (keep HXV.out hb3.out) (below_alloc1 _ _)
          have HYW : Hid (Y.heap[w3.heap.size]? = some (.cells #[.int .u64 b.root, .int .i64 (b.cost + x), .int .u64 b.bridge, .int .i64 b.port] 27 (0, 0))) := by rw [HY.out]; exact heap_alloc_last _ _
          have HS : Hid (∀ W, Below Y.heap.size Y W → (W.cell? ⟨w.heap.size, 0, none⟩ = some (.int .u64 a.root) ∧ W.cell? ⟨w.heap.size, 1, none⟩ = some (.int .i64 a.cost) ∧ W.cell? ⟨w.heap.size, 2, none⟩ = some (.int .u64 a.bridge) ∧ W.cell? ⟨w.heap.size, 3, none⟩ = some (.int .i64 a.port)) ∧ (W.cell? ⟨w.heap.size + 1, 0, none⟩ = some (.int .u64 b.root) ∧ W.cell? ⟨w.heap.size + 1, 1, none⟩ = some (.int .i64 b.cost) ∧ W.cell? ⟨w.heap.size + 1, 2, none⟩ = some (.int .u64 b.bridge) ∧ W.cell? ⟨w.heap.size + 1, 3, none⟩ = some (.int .i64 b.port)) ∧ (W.cell? ⟨w2.heap.size, 0, none⟩ = some (.int .u64 a.root) ∧ W.cell? ⟨w2.heap.size, 1, none⟩ = some (.int .i64 (a.cost + x)) ∧ W.cell? ⟨w2.heap.size, 2, none⟩ = some (.int .u64 a.bridge) ∧ W.cell? ⟨w2.heap.size, 3, none⟩ = some (.int .i64 a.port)) ∧ (W.cell? ⟨w3.heap.size, 0, none⟩ = some (.int .u64 b.root) ∧ W.cell? ⟨w3.heap.size, 1, none⟩ = some (.int .i64 (b.cost + x)) ∧ W.cell? ⟨w3.heap.size, 2, none⟩ = some (.int .u64 b.bridge) ∧ W.cell? ⟨w3.heap.size, 3, none⟩ = some (.int .i64 b.port))) := fun W hW => by
            have h := HC.out W (HYB.out.trans (hW.mono HYB.out.size))
            exact ⟨h.1, h.2, vc_cells (keep HYV.out hW), vc_cells (keep HYW.out hW)⟩
          have K2 : Hid (∀ W, Below Y.heap.size Y W → Calls Try.prog 9 #[.agg #[.int .u64 a.root, .int .i64 a.cost, .int .u64 a.bridge, .int .i64 a.port], .agg #[.int .u64 b.root, .int .i64 b.cost, .int .u64 b.bridge, .int .i64 b.port]] W fun e w' => e = .returned (.int .i64 q) ∧ Hid (Below Y.heap.size Y w')) := fun W hW => (HK2.out W).mono fun e w' h => ⟨h.1, hW.trans (h.2.mono hW.size)⟩
          have K3 : Hid (∀ W, Below Y.heap.size Y W → Calls Try.prog 9 #[.agg #[.int .u64 a.root, .int .i64 (a.cost + x), .int .u64 a.bridge, .int .i64 a.port], .agg #[.int .u64 b.root, .int .i64 (b.cost + x), .int .u64 b.bridge, .int .i64 b.port]] W fun e w' => e = .returned (.int .i64 q) ∧ Hid (Below Y.heap.size Y w')) := fun W hW => (HK3.out W).mono fun e w' h => ⟨h.1, hW.trans (h.2.mono hW.size)⟩
          have K1 : Hid (∀ W, Below Y.heap.size Y W → Calls Try.prog 9 #[.agg #[.int .u64 a.root, .int .i64 (a.cost + x), .int .u64 a.bridge, .int .i64 a.port], .agg #[.int .u64 a.root, .int .i64 a.cost, .int .u64 a.bridge, .int .i64 a.port]] W fun e w' => e = .returned (.int .i64 p) ∧ Hid (Below Y.heap.size Y w')) := fun W hW => (HK1.out W).mono fun e w' h => ⟨h.1, hW.trans (h.2.mono hW.size)⟩
          have HYR : Hid (∀ W, Below Y.heap.size Y W → Below W0.heap.size W0 W) := fun W hW => HYB.out.trans (hW.mono HYB.out.size)
          clear b0 b1 b2 b3 HK1 HK2 HK3 hb2 hb3 HXB HXV HYB HYV HYW
          go_wp2_with fail
          rw [← HY.out]
          refine wp_region_held_drew (S := fun W => (W.cell? ⟨w.heap.size, 0, none⟩ = some (.int .u64 a.root) ∧ W.cell? ⟨w.heap.size, 1, none⟩ = some (.int .i64 a.cost) ∧ W.cell? ⟨w.heap.size, 2, none⟩ = some (.int .u64 a.bridge) ∧ W.cell? ⟨w.heap.size, 3, none⟩ = some (.int .i64 a.port)) ∧ (W.cell? ⟨w.heap.size + 1, 0, none⟩ = some (.int .u64 b.root) ∧ W.cell? ⟨w.heap.size + 1, 1, none⟩ = some (.int .i64 b.cost) ∧ W.cell? ⟨w.heap.size + 1, 2, none⟩ = some (.int .u64 b.bridge) ∧ W.cell? ⟨w.heap.size + 1, 3, none⟩ = some (.int .i64 b.port)) ∧ (W.cell? ⟨w2.heap.size, 0, none⟩ = some (.int .u64 a.root) ∧ W.cell? ⟨w2.heap.size, 1, none⟩ = some (.int .i64 (a.cost + x)) ∧ W.cell? ⟨w2.heap.size, 2, none⟩ = some (.int .u64 a.bridge) ∧ W.cell? ⟨w2.heap.size, 3, none⟩ = some (.int .i64 a.port)) ∧ (W.cell? ⟨w3.heap.size, 0, none⟩ = some (.int .u64 b.root) ∧ W.cell? ⟨w3.heap.size, 1, none⟩ = some (.int .i64 (b.cost + x)) ∧ W.cell? ⟨w3.heap.size, 2, none⟩ = some (.int .u64 b.bridge) ∧ W.cell? ⟨w3.heap.size, 3, none⟩ = some (.int .i64 b.port))) (by kernel_rfl) (HS.out _ (Below.drew (Below.refl _ _))) (fun hHeld => ?_)
          refine held_take (i := 0) (v := ?_) (some 35) rfl rfl (by kernel_rfl) (by kernel_rfl) (by kernel_rfl) (fun _ _ _ h => h) (by rfl) ?_ hHeld ?_
          rotate_left 1
          · (intro wq hSw; go_simp; try with_reducible rfl)
          simp only [Act.put, List.setIfInBounds_toArray, List.set_cons_zero, List.set_cons_succ]
          refine held_take (i := 1) (v := .bool false) (some 36) rfl rfl (by kernel_rfl) (by kernel_rfl) (by kernel_rfl) (fun _ _ _ h => h) (by rfl) ?_ hHeld ?_
          · (intro wq hSw; go_simp; first | done | (simp [hx]; done))
          simp only [Act.put, List.setIfInBounds_toArray, List.set_cons_zero, List.set_cons_succ]
          refine held_take (i := 2) (v := ?_) (some 37) rfl rfl (by kernel_rfl) (by kernel_rfl) (by kernel_rfl) (fun _ _ _ h => h) (by rfl) ?_ hHeld ?_
          rotate_left 1
          · (intro wq hSw; go_simp; try with_reducible rfl)
          simp only [Act.put, List.setIfInBounds_toArray, List.set_cons_zero, List.set_cons_succ]
          refine held_skip (i := 3) (some 38) rfl rfl (by kernel_rfl) (by kernel_rfl) (by kernel_rfl) (fun _ _ _ h => h) (by rfl) hHeld ?_
          simp only [Act.put, List.setIfInBounds_toArray, List.set_cons_zero, List.set_cons_succ]
          refine held_skip (i := 4) (some 39) rfl rfl (by kernel_rfl) (by kernel_rfl) (by kernel_rfl) (fun _ _ _ h => h) (by rfl) hHeld ?_
          simp only [Act.put, List.setIfInBounds_toArray, List.set_cons_zero, List.set_cons_succ]
          refine held_skip (i := 5) (some 40) rfl rfl (by kernel_rfl) (by kernel_rfl) (by kernel_rfl) (fun _ _ _ h => h) (by rfl) hHeld ?_
          simp only [Act.put, List.setIfInBounds_toArray, List.set_cons_zero, List.set_cons_succ]
          refine held_skip (i := 6) (some 41) rfl rfl (by kernel_rfl) (by kernel_rfl) (by kernel_rfl) (fun _ _ _ h => h) (by rfl) hHeld ?_
          simp only [Act.put, List.setIfInBounds_toArray, List.set_cons_zero, List.set_cons_succ]
          refine held_take (i := 7) (v := ?_) (some 42) rfl rfl (by kernel_rfl) (by kernel_rfl) (by kernel_rfl) (fun _ _ _ h => h) (by rfl) ?_ hHeld ?_
          rotate_left 1
          · (intro wq hSw; go_simp; try with_reducible rfl)
          simp only [Act.put, List.setIfInBounds_toArray, List.set_cons_zero, List.set_cons_succ]
          refine held_take (i := 8) (v := ?_) (some 43) rfl rfl (by kernel_rfl) (by kernel_rfl) (by kernel_rfl) (fun _ _ _ h => h) (by rfl) ?_ hHeld ?_
          rotate_left 1
          · (intro wq hSw; go_simp; try with_reducible rfl)
          simp only [Act.put, List.setIfInBounds_toArray, List.set_cons_zero, List.set_cons_succ]
          refine held_take (i := 9) (v := ?_) (some 44) rfl rfl (by kernel_rfl) (by kernel_rfl) (by kernel_rfl) (fun _ _ _ h => h) (by rfl) ?_ hHeld ?_
          rotate_left 1
          · (intro wq hSw; go_simp; try with_reducible rfl)
          simp only [Act.put, List.setIfInBounds_toArray, List.set_cons_zero, List.set_cons_succ]
          refine held_take (i := 10) (v := ?_) (some 45) rfl rfl (by kernel_rfl) (by kernel_rfl) (by kernel_rfl) (fun _ _ _ h => h) (by rfl) ?_ hHeld ?_
          rotate_left 1
          · (intro wq hSw; go_simp; try with_reducible rfl)
          simp only [Act.put, List.setIfInBounds_toArray, List.set_cons_zero, List.set_cons_succ]
          refine held_take (i := 12) (v := ?_) (some 47) rfl rfl (by kernel_rfl) (by kernel_rfl) (by kernel_rfl) (fun _ _ _ h => h) (by rfl) ?_ hHeld ?_
          rotate_left 1
          · (intro wq hSw; go_simp; try with_reducible rfl)
          simp only [Act.put, List.setIfInBounds_toArray, List.set_cons_zero, List.set_cons_succ]
          refine held_take (i := 13) (v := ?_) (some 48) rfl rfl (by kernel_rfl) (by kernel_rfl) (by kernel_rfl) (fun _ _ _ h => h) (by rfl) ?_ hHeld ?_
          rotate_left 1
          · (intro wq hSw; go_simp; try with_reducible rfl)
          simp only [Act.put, List.setIfInBounds_toArray, List.set_cons_zero, List.set_cons_succ]
          refine wpAnyH_ready (rs := [11]) (by kernel_rfl) (by simp) ?_
          refine AllReadyH.cons rfl (fun K hK => ?_) AllReadyH.nil
          go_simp
          (with_reducible refine (K2.out _ (Below.drew (Below.refl _ _))).mono ?_)
          rintro e w5 ⟨rfl, HB5⟩
          go_wp2_with fail
          refine hK.out _ _ (HS.out _ HB5.out) (fun hHeld => ?_)
          clear hK K
          refine wpAnyH_ready (rs := [14]) (by kernel_rfl) (by simp) ?_
          refine AllReadyH.cons rfl (fun K hK => ?_) AllReadyH.nil
          go_simp
          (with_reducible refine (K3.out _ HB5.out).mono ?_)
          rintro e w6 ⟨rfl, HB6⟩
          go_wp2_with fail
          refine hK.out _ _ (HS.out _ HB6.out) (fun hHeld => ?_)
          clear hK K
          refine held_take (i := 15) (v := ?_) (some 50) rfl rfl (by kernel_rfl) (by kernel_rfl) (by kernel_rfl) (fun _ _ _ h => h) (by rfl) ?_ hHeld ?_
          rotate_left 1
          · (intro wq hSw; go_simp; try with_reducible rfl)
          simp only [Act.put, List.setIfInBounds_toArray, List.set_cons_zero, List.set_cons_succ]
          refine held_take (i := 16) (v := ?_) (some 51) rfl rfl (by kernel_rfl) (by kernel_rfl) (by kernel_rfl) (fun _ _ _ h => h) (by rfl) ?_ hHeld ?_
          rotate_left 1
          · (intro wq hSw; go_simp; try with_reducible rfl)
          simp only [Act.put, List.setIfInBounds_toArray, List.set_cons_zero, List.set_cons_succ]
          refine wpAnyH_done (by kernel_rfl) ?_ _
          obtain ⟨-, -, ⟨v0, v1, v2, v3⟩, -⟩ := HS.out w6 HB6.out
          go_wp2_with fail
          refine (HOV.out _).mono ?_
          rintro e w7 ⟨rfl, hb7⟩
          obtain ⟨Z, HZ⟩ : ∃ Z, Hid (Z = w7.alloc (.cells #[.int .u64 0, .int .i64 0, .int .u64 0, .int .i64 0] 27)) := ⟨_, rfl⟩
          have HZB : Hid (Below Y.heap.size Y Z) := by
            rw [HZ.out]
            have h := HB6.out.trans (hb7.out.mono HB6.out.size)
            exact h.alloc h.size _
          have HZT : Hid (Z.heap[w7.heap.size]? = some (.cells #[.int .u64 0, .int .i64 0, .int .u64 0, .int .i64 0] 27 (0, 0))) := by rw [HZ.out]; exact heap_alloc_last _ _
          clear v0 v1 v2 v3
          obtain ⟨⟨a0, a1, a2, a3⟩, -, -, -⟩ := HS.out Z HZB.out
          rw [HZ.out] at a0 a1 a2 a3
          go_wp2_with fail
          rw [← HZ.out]
          (with_reducible refine (HOX.out _).mono ?_)
          rintro e w8 ⟨rfl, hb8⟩
          obtain ⟨U, HU⟩ : ∃ U, Hid (U = w8.alloc (.cells #[.int .u64 R.root, .int .i64 R.cost, .int .u64 R.bridge, .int .i64 R.port] 27)) := ⟨_, rfl⟩
          have HUB : Hid (Below w.heap.size w U) := by
            rw [HU.out]
            have h := HZB.out.trans (hb8.out.mono HZB.out.size)
            exact HL.out _ (HYR.out _ (h.alloc h.size _))
          clear a0 a1 a2 a3
          go_wp2_with fail
          go_ret
          rw [← HU.out]
          exact ⟨rfl, HUB.out⟩
    · have HOB : Hid (∀ W : World, Calls Try.prog 11 #[.agg #[.int .u64 b.root, .int .i64 b.cost, .int .u64 b.bridge, .int .i64 b.port], .int .i64 x] W fun e w' => e = .returned (.tuple #[.agg #[.int .u64 0, .int .i64 0, .int .u64 0, .int .i64 0], .bool false]) ∧ Hid (Below W.heap.size W w')) := fun W => over_no b x hB W
      clear hA hB
      go_enter Try.func5, Try.ntmps5
      go_wp2_with fail
      rw [← HW0.out]
      refine (valive_any _).mono ?_
      rintro e w1 ⟨rfl, hb1⟩
      have HB1 : Hid (Below W0.heap.size W0 w1) := hb1
      clear hb1
      obtain ⟨⟨a0, a1, a2, a3⟩, b0, b1, b2, b3⟩ := HC.out w1 HB1.out
      go_wp2_with fail
      refine (HOA.out _).mono ?_
      rintro e w2 ⟨rfl, hb2⟩
      obtain ⟨X, HX⟩ : ∃ X, Hid (X = w2.alloc (.cells #[.int .u64 a.root, .int .i64 (a.cost + x), .int .u64 a.bridge, .int .i64 a.port] 27)) := ⟨_, rfl⟩
      have HXB : Hid (Below W0.heap.size W0 X) := by
        rw [HX.out]
        have h := HB1.out.trans (hb2.out.mono HB1.out.size)
        exact h.alloc h.size _
      have HXV : Hid (X.heap[w2.heap.size]? = some (.cells #[.int .u64 a.root, .int .i64 (a.cost + x), .int .u64 a.bridge, .int .i64 a.port] 27 (0, 0))) := by rw [HX.out]; exact heap_alloc_last _ _
      clear a0 a1 a2 a3 b0 b1 b2 b3
      obtain ⟨-, b0, b1, b2, b3⟩ := HC.out X HXB.out
      rw [HX.out] at b0 b1 b2 b3
      go_wp2_with fail
      rw [← HX.out]
      refine (HOB.out _).mono ?_
      rintro e w3 ⟨rfl, hb3⟩
      obtain ⟨Y, HY⟩ : ∃ Y, Hid (Y = w3.alloc (.cells #[.int .u64 0, .int .i64 0, .int .u64 0, .int .i64 0] 27)) := ⟨_, rfl⟩
      have HYB : Hid (Below w.heap.size w Y) := by
        rw [HY.out]
        have h := HXB.out.trans (hb3.out.mono HXB.out.size)
        exact HL.out _ (h.alloc h.size _)
      clear b0 b1 b2 b3
      go_wp2_with fail
      go_ret
      rw [← HY.out]
      exact ⟨rfl, HYB.out⟩
  · have HOA : Hid (∀ W : World, Calls Try.prog 11 #[.agg #[.int .u64 a.root, .int .i64 a.cost, .int .u64 a.bridge, .int .i64 a.port], .int .i64 x] W fun e w' => e = .returned (.tuple #[.agg #[.int .u64 0, .int .i64 0, .int .u64 0, .int .i64 0], .bool false]) ∧ Hid (Below W.heap.size W w')) := fun W => over_no a x hA W
    obtain ⟨R, d, hob⟩ := over_some b x
    have HOB : Hid (∀ W : World, Calls Try.prog 11 #[.agg #[.int .u64 b.root, .int .i64 b.cost, .int .u64 b.bridge, .int .i64 b.port], .int .i64 x] W fun e w' => e = .returned (.tuple #[.agg #[.int .u64 R.root, .int .i64 R.cost, .int .u64 R.bridge, .int .i64 R.port], .bool d]) ∧ Hid (Below W.heap.size W w')) := hob
    clear hA hob
    go_enter Try.func5, Try.ntmps5
    go_wp2_with fail
    rw [← HW0.out]
    refine (valive_any _).mono ?_
    rintro e w1 ⟨rfl, hb1⟩
    have HB1 : Hid (Below W0.heap.size W0 w1) := hb1
    clear hb1
    obtain ⟨⟨a0, a1, a2, a3⟩, b0, b1, b2, b3⟩ := HC.out w1 HB1.out
    go_wp2_with fail
    refine (HOA.out _).mono ?_
    rintro e w2 ⟨rfl, hb2⟩
    obtain ⟨X, HX⟩ : ∃ X, Hid (X = w2.alloc (.cells #[.int .u64 0, .int .i64 0, .int .u64 0, .int .i64 0] 27)) := ⟨_, rfl⟩
    have HXB : Hid (Below W0.heap.size W0 X) := by
      rw [HX.out]
      have h := HB1.out.trans (hb2.out.mono HB1.out.size)
      exact h.alloc h.size _
    have HXV : Hid (X.heap[w2.heap.size]? = some (.cells #[.int .u64 0, .int .i64 0, .int .u64 0, .int .i64 0] 27 (0, 0))) := by rw [HX.out]; exact heap_alloc_last _ _
    clear a0 a1 a2 a3 b0 b1 b2 b3
    obtain ⟨-, b0, b1, b2, b3⟩ := HC.out X HXB.out
    rw [HX.out] at b0 b1 b2 b3
    go_wp2_with fail
    rw [← HX.out]
    refine (HOB.out _).mono ?_
    rintro e w3 ⟨rfl, hb3⟩
    obtain ⟨Y, HY⟩ : ∃ Y, Hid (Y = w3.alloc (.cells #[.int .u64 R.root, .int .i64 R.cost, .int .u64 R.bridge, .int .i64 R.port] 27)) := ⟨_, rfl⟩
    have HYB : Hid (Below w.heap.size w Y) := by
      rw [HY.out]
      have h := HXB.out.trans (hb3.out.mono HXB.out.size)
      exact HL.out _ (h.alloc h.size _)
    clear b0 b1 b2 b3
    go_wp2_with fail
    go_ret
    rw [← HY.out]
    exact ⟨rfl, HYB.out⟩
end Go.Proofs.Ythnklbcaodhbfaa
