/- walks: VecRoles (over what vec's functions come to: VW) -/
import Derived.Test.YthnklbcaodhbfaaVLa
namespace Go.Proofs.Ythnklbcaodhbfaa
open Go.RowKit
open Vc (V Of)

theorem role_one (s u : V) (port : Int) : Vc.role s (-1) port (fun _ => ⟨port, 0, 0, u⟩) 1 = if port = -1 then 1 else if Vc.lt u ⟨s.root, s.cost, s.bridge, port⟩ then 3 else 2 := by
  have h : Vc.hears s port ⟨port, 0, 0, u⟩ ↔ Vc.lt u ⟨s.root, s.cost, s.bridge, port⟩ := by
    unfold Vc.hears
    simp
  unfold Vc.role
  simp only [Vc.someTo, Bool.false_or, decide_eq_true_eq, h]
theorem role_say (s u : V) (port r : Int) (hr : Vc.role s (-1) port (fun _ => ⟨port, 0, 0, u⟩) 1 = r) (W : World) (g : Nat) (hg : g = W.heap.size) (ty : TypeId) :
    Calls Try.prog 20 #[.agg #[.int .u64 s.root, .int .i64 s.cost, .int .u64 s.bridge, .int .i64 s.port], .int .i64 (-1), .int .i64 port, .slice (some ⟨g, 0, none⟩) 1 1] (W.alloc (.cells #[.int .i64 port, .int .i64 0, .int .i64 0, .int .u64 u.root, .int .i64 u.cost, .int .u64 u.bridge, .int .i64 u.port] ty)) fun e w' => e = .returned (.int .i64 r) ∧ Hid (Below W.heap.size W w') := by
  subst hg hr
  refine (vrole_any s (-1) port _ 1 1 (fun _ => ⟨port, 0, 0, u⟩) _ (by omega) (one_offer (o := ⟨port, 0, 0, u⟩) (heap_alloc_last W _))).mono ?_
  rintro e w' ⟨h1, h2⟩
  exact ⟨h1, (below_alloc1 W _).trans (h2.mono (by simp))⟩
theorem vc_set3 {w : World} {g : Nat} {a0 a1 a2 a3 v : Value} {ty : TypeId} (h : w.heap[g]? = some (.cells #[a0, a1, a2, a3] ty (0, 0))) :
    (w.setCell ⟨g, 3, none⟩ v).heap[g]? = some (.cells #[a0, a1, a2, v] ty (0, 0)) := by
  rw [heap_setCell_same _ _ _ _ _ _ h]; rfl
set_option maxRecDepth 100000 in
set_option maxHeartbeats 4000000 in
theorem vroles_law (a b : V) (p q : Int) (w : World) :
    Calls Try.prog 8 #[.agg #[.int .u64 a.root, .int .i64 a.cost, .int .u64 a.bridge, .int .i64 a.port], .agg #[.int .u64 b.root, .int .i64 b.cost, .int .u64 b.bridge, .int .i64 b.port], .int .i64 p, .int .i64 q] w fun e w' => e = .returned (.bool true) ∧ Below w.heap.size w w' := by
  obtain ⟨ar, ac, ab, ap⟩ := a
  obtain ⟨br, bc, bb, bp⟩ := b
  obtain ⟨W0, HW0⟩ : ∃ W0, Hid (W0 = (w.alloc (.cells #[.int .u64 ar, .int .i64 ac, .int .u64 ab, .int .i64 ap] 27)).alloc (.cells #[.int .u64 br, .int .i64 bc, .int .u64 bb, .int .i64 bp] 27)) := ⟨_, rfl⟩
  have HC : Hid (∀ W, Below W0.heap.size W0 W → W.heap[w.heap.size]? = some (.cells #[.int .u64 ar, .int .i64 ac, .int .u64 ab, .int .i64 ap] 27 (0, 0)) ∧ W.heap[w.heap.size + 1]? = some (.cells #[.int .u64 br, .int .i64 bc, .int .u64 bb, .int .i64 bp] 27 (0, 0))) := fun W hW => by
    rw [HW0.out] at hW
    exact ⟨keep (heap_alloc2_old w _ _) hW, keep (heap_alloc2_new w _ _) hW⟩
  have HL : Hid (∀ W, Below W0.heap.size W0 W → Below w.heap.size w W) := fun W hW => by
    have h4 := below_alloc2 w (.cells #[.int .u64 ar, .int .i64 ac, .int .u64 ab, .int .i64 ap] 27) (.cells #[.int .u64 br, .int .i64 bc, .int .u64 bb, .int .i64 bp] 27)
    rw [HW0.out] at hW
    exact h4.trans (hW.mono h4.size)
  by_cases hE : (⟨ar, ac, ab, p⟩ : V) = ⟨br, bc, bb, q⟩
  · have heq : ∀ W : World, (binOp .eql 27 (.agg #[.int .u64 ar, .int .i64 ac, .int .u64 ab, .int .i64 p]) (.agg #[.int .u64 br, .int .i64 bc, .int .u64 bb, .int .i64 q])).run Try.prog W = .ok (.bool true) W := fun W => by
      have := vec_eql ⟨ar, ac, ab, p⟩ ⟨br, bc, bb, q⟩ W
      rw [decide_eq_true hE] at this
      exact this
    clear hE
    go_enter Try.func8, Try.ntmps8
    go_wp2_with fail
    rw [← HW0.out]
    refine (valive_any _).mono ?_
    rintro e w1 ⟨rfl, hb1⟩
    have HB1 : Hid (Below W0.heap.size W0 w1) := hb1
    clear hb1
    obtain ⟨X, HX⟩ : ∃ X, Hid (X = ((w1.setCell ⟨w.heap.size, 3, none⟩ (.int .i64 p)).setCell ⟨w.heap.size + 1, 3, none⟩ (.int .i64 q))) := ⟨_, rfl⟩
    have HXA : Hid (X.heap[w.heap.size]? = some (.cells #[.int .u64 ar, .int .i64 ac, .int .u64 ab, .int .i64 p] 27 (0, 0))) := by
      rw [HX.out]
      exact (heap_setCell_other _ _ _ _ (by simp)).trans (vc_set3 (HC.out w1 HB1.out).1)
    have HXB : Hid (X.heap[w.heap.size + 1]? = some (.cells #[.int .u64 br, .int .i64 bc, .int .u64 bb, .int .i64 q] 27 (0, 0))) := by
      rw [HX.out]
      exact vc_set3 ((heap_setCell_other _ _ _ _ (by simp)).trans (HC.out w1 HB1.out).2)
    have HXL : Hid (Below w.heap.size w X) := by
      rw [HX.out]
      exact ((HL.out _ HB1.out).setCell (Nat.le_refl _) _).setCell (Nat.le_succ _) _
    have HXS : Hid (w1.heap.size = X.heap.size) := by rw [HX.out]; exact (show _ = _ from by simp)
    obtain ⟨a0, a1, a2, a3⟩ := vc_cells (HC.out w1 HB1.out).1
    obtain ⟨-, -, -, af⟩ := vc_free (HC.out w1 HB1.out).1
    obtain ⟨b0, b1, b2, b3⟩ := vc_cells (HC.out w1 HB1.out).2
    obtain ⟨-, -, -, bf⟩ := vc_free (HC.out w1 HB1.out).2
    obtain ⟨x0, x1, x2, x3⟩ := vc_cells HXA.out
    obtain ⟨y0, y1, y2, y3⟩ := vc_cells HXB.out
    rw [HX.out] at x0 x1 x2 x3 y0 y1 y2 y3
    go_wp2_with fail
    go_ret
    rw [← HX.out]
    exact ⟨rfl, HXL.out⟩
  · have heq : ∀ W : World, (binOp .eql 27 (.agg #[.int .u64 ar, .int .i64 ac, .int .u64 ab, .int .i64 p]) (.agg #[.int .u64 br, .int .i64 bc, .int .u64 bb, .int .i64 q])).run Try.prog W = .ok (.bool false) W := fun W => by
      have := vec_eql ⟨ar, ac, ab, p⟩ ⟨br, bc, bb, q⟩ W
      rw [decide_eq_false hE] at this
      exact this
    by_cases hp : p = -1
    · subst hp
      obtain ⟨ry, HRY⟩ : ∃ ry, Hid (Vc.role ⟨br, bc, bb, q⟩ (-1) q (fun _ => ⟨q, 0, 0, ⟨ar, ac, ab, -1⟩⟩) 1 = ry) := ⟨_, rfl⟩
      have HRX : Hid (Vc.role ⟨ar, ac, ab, -1⟩ (-1) (-1) (fun _ => ⟨(-1), 0, 0, ⟨br, bc, bb, q⟩⟩) 1 = 1) := by rw [role_one]; rfl
      clear hE
      go_enter Try.func8, Try.ntmps8
      go_wp2_with fail
      rw [← HW0.out]
      refine (valive_any _).mono ?_
      rintro e w1 ⟨rfl, hb1⟩
      have HB1 : Hid (Below W0.heap.size W0 w1) := hb1
      clear hb1
      obtain ⟨X, HX⟩ : ∃ X, Hid (X = ((w1.setCell ⟨w.heap.size, 3, none⟩ (.int .i64 (-1))).setCell ⟨w.heap.size + 1, 3, none⟩ (.int .i64 q))) := ⟨_, rfl⟩
      have HXA : Hid (X.heap[w.heap.size]? = some (.cells #[.int .u64 ar, .int .i64 ac, .int .u64 ab, .int .i64 (-1)] 27 (0, 0))) := by
        rw [HX.out]
        exact (heap_setCell_other _ _ _ _ (by simp)).trans (vc_set3 (HC.out w1 HB1.out).1)
      have HXB : Hid (X.heap[w.heap.size + 1]? = some (.cells #[.int .u64 br, .int .i64 bc, .int .u64 bb, .int .i64 q] 27 (0, 0))) := by
        rw [HX.out]
        exact vc_set3 ((heap_setCell_other _ _ _ _ (by simp)).trans (HC.out w1 HB1.out).2)
      have HXL : Hid (Below w.heap.size w X) := by
        rw [HX.out]
        exact ((HL.out _ HB1.out).setCell (Nat.le_refl _) _).setCell (Nat.le_succ _) _
      have HXS : Hid (w1.heap.size = X.heap.size) := by rw [HX.out]; exact (show _ = _ from by simp)
      obtain ⟨a0, a1, a2, a3⟩ := vc_cells (HC.out w1 HB1.out).1
      obtain ⟨-, -, -, af⟩ := vc_free (HC.out w1 HB1.out).1
      obtain ⟨b0, b1, b2, b3⟩ := vc_cells (HC.out w1 HB1.out).2
      obtain ⟨-, -, -, bf⟩ := vc_free (HC.out w1 HB1.out).2
      obtain ⟨x0, x1, x2, x3⟩ := vc_cells HXA.out
      obtain ⟨y0, y1, y2, y3⟩ := vc_cells HXB.out
      rw [HX.out] at x0 x1 x2 x3 y0 y1 y2 y3
      have HR1 : Hid (∀ ty, Calls Try.prog 20 #[.agg #[.int .u64 ar, .int .i64 ac, .int .u64 ab, .int .i64 (-1)], .int .i64 (-1), .int .i64 (-1), .slice (some ⟨w1.heap.size, 0, none⟩) 1 1] (X.alloc (.cells #[.int .i64 (-1), .int .i64 0, .int .i64 0, .int .u64 br, .int .i64 bc, .int .u64 bb, .int .i64 q] ty)) fun e w' => e = .returned (.int .i64 1) ∧ Hid (Below X.heap.size X w')) := fun ty => role_say ⟨ar, ac, ab, (-1)⟩ ⟨br, bc, bb, q⟩ (-1) _ HRX.out X _ HXS.out ty
      go_wp2_with fail
      rw [← HX.out]
      refine (HR1.out _).mono ?_
      rintro e w2 ⟨rfl, hb2⟩
      clear a0 a1 a2 a3 af b0 b1 b2 b3 bf x0 x1 x2 x3 y0 y1 y2 y3 HR1
      obtain ⟨x0, x1, x2, x3⟩ := vc_cells (keep HXA.out hb2.out)
      obtain ⟨y0, y1, y2, y3⟩ := vc_cells (keep HXB.out hb2.out)
      have HR2 : Hid (∀ ty, Calls Try.prog 20 #[.agg #[.int .u64 br, .int .i64 bc, .int .u64 bb, .int .i64 q], .int .i64 (-1), .int .i64 q, .slice (some ⟨w2.heap.size, 0, none⟩) 1 1] (w2.alloc (.cells #[.int .i64 q, .int .i64 0, .int .i64 0, .int .u64 ar, .int .i64 ac, .int .u64 ab, .int .i64 (-1)] ty)) fun e w' => e = .returned (.int .i64 ry) ∧ Hid (Below w2.heap.size w2 w')) := fun ty => role_say ⟨br, bc, bb, q⟩ ⟨ar, ac, ab, (-1)⟩ q _ HRY.out w2 _ rfl ty
      go_wp2_with fail
      refine (HR2.out _).mono ?_
      rintro e w3 ⟨rfl, hb3⟩
      have HFL : Hid (Below w.heap.size w w3) := by
        have h := HXL.out.trans (hb2.out.mono HXL.out.size)
        exact h.trans (hb3.out.mono h.size)
      clear x0 x1 x2 x3 y0 y1 y2 y3 HR2
      go_wp2_with fail
      all_goals (go_ret; exact ⟨rfl, HFL.out⟩)
    · by_cases hq : q = -1
      · subst hq
        obtain ⟨rx, HRX⟩ : ∃ rx, Hid (Vc.role ⟨ar, ac, ab, p⟩ (-1) p (fun _ => ⟨p, 0, 0, ⟨br, bc, bb, -1⟩⟩) 1 = rx) := ⟨_, rfl⟩
        have HRY : Hid (Vc.role ⟨br, bc, bb, -1⟩ (-1) (-1) (fun _ => ⟨(-1), 0, 0, ⟨ar, ac, ab, p⟩⟩) 1 = 1) := by rw [role_one]; rfl
        clear hE
        go_enter Try.func8, Try.ntmps8
        go_wp2_with fail
        rw [← HW0.out]
        refine (valive_any _).mono ?_
        rintro e w1 ⟨rfl, hb1⟩
        have HB1 : Hid (Below W0.heap.size W0 w1) := hb1
        clear hb1
        obtain ⟨X, HX⟩ : ∃ X, Hid (X = ((w1.setCell ⟨w.heap.size, 3, none⟩ (.int .i64 p)).setCell ⟨w.heap.size + 1, 3, none⟩ (.int .i64 (-1)))) := ⟨_, rfl⟩
        have HXA : Hid (X.heap[w.heap.size]? = some (.cells #[.int .u64 ar, .int .i64 ac, .int .u64 ab, .int .i64 p] 27 (0, 0))) := by
          rw [HX.out]
          exact (heap_setCell_other _ _ _ _ (by simp)).trans (vc_set3 (HC.out w1 HB1.out).1)
        have HXB : Hid (X.heap[w.heap.size + 1]? = some (.cells #[.int .u64 br, .int .i64 bc, .int .u64 bb, .int .i64 (-1)] 27 (0, 0))) := by
          rw [HX.out]
          exact vc_set3 ((heap_setCell_other _ _ _ _ (by simp)).trans (HC.out w1 HB1.out).2)
        have HXL : Hid (Below w.heap.size w X) := by
          rw [HX.out]
          exact ((HL.out _ HB1.out).setCell (Nat.le_refl _) _).setCell (Nat.le_succ _) _
        have HXS : Hid (w1.heap.size = X.heap.size) := by rw [HX.out]; exact (show _ = _ from by simp)
        obtain ⟨a0, a1, a2, a3⟩ := vc_cells (HC.out w1 HB1.out).1
        obtain ⟨-, -, -, af⟩ := vc_free (HC.out w1 HB1.out).1
        obtain ⟨b0, b1, b2, b3⟩ := vc_cells (HC.out w1 HB1.out).2
        obtain ⟨-, -, -, bf⟩ := vc_free (HC.out w1 HB1.out).2
        obtain ⟨x0, x1, x2, x3⟩ := vc_cells HXA.out
        obtain ⟨y0, y1, y2, y3⟩ := vc_cells HXB.out
        rw [HX.out] at x0 x1 x2 x3 y0 y1 y2 y3
        have HR1 : Hid (∀ ty, Calls Try.prog 20 #[.agg #[.int .u64 ar, .int .i64 ac, .int .u64 ab, .int .i64 p], .int .i64 (-1), .int .i64 p, .slice (some ⟨w1.heap.size, 0, none⟩) 1 1] (X.alloc (.cells #[.int .i64 p, .int .i64 0, .int .i64 0, .int .u64 br, .int .i64 bc, .int .u64 bb, .int .i64 (-1)] ty)) fun e w' => e = .returned (.int .i64 rx) ∧ Hid (Below X.heap.size X w')) := fun ty => role_say ⟨ar, ac, ab, p⟩ ⟨br, bc, bb, (-1)⟩ p _ HRX.out X _ HXS.out ty
        go_wp2_with fail
        rw [← HX.out]
        refine (HR1.out _).mono ?_
        rintro e w2 ⟨rfl, hb2⟩
        clear a0 a1 a2 a3 af b0 b1 b2 b3 bf x0 x1 x2 x3 y0 y1 y2 y3 HR1
        obtain ⟨x0, x1, x2, x3⟩ := vc_cells (keep HXA.out hb2.out)
        obtain ⟨y0, y1, y2, y3⟩ := vc_cells (keep HXB.out hb2.out)
        have HR2 : Hid (∀ ty, Calls Try.prog 20 #[.agg #[.int .u64 br, .int .i64 bc, .int .u64 bb, .int .i64 (-1)], .int .i64 (-1), .int .i64 (-1), .slice (some ⟨w2.heap.size, 0, none⟩) 1 1] (w2.alloc (.cells #[.int .i64 (-1), .int .i64 0, .int .i64 0, .int .u64 ar, .int .i64 ac, .int .u64 ab, .int .i64 p] ty)) fun e w' => e = .returned (.int .i64 1) ∧ Hid (Below w2.heap.size w2 w')) := fun ty => role_say ⟨br, bc, bb, (-1)⟩ ⟨ar, ac, ab, p⟩ (-1) _ HRY.out w2 _ rfl ty
        go_wp2_with fail
        refine (HR2.out _).mono ?_
        rintro e w3 ⟨rfl, hb3⟩
        have HFL : Hid (Below w.heap.size w w3) := by
          have h := HXL.out.trans (hb2.out.mono HXL.out.size)
          exact h.trans (hb3.out.mono h.size)
        clear x0 x1 x2 x3 y0 y1 y2 y3 HR2
        go_wp2_with fail
        all_goals (go_ret; exact ⟨rfl, HFL.out⟩)
      · rcases Vc.lt_total ⟨ar, ac, ab, p⟩ ⟨br, bc, bb, q⟩ with h | h | h
        · have HRX : Hid (Vc.role ⟨ar, ac, ab, p⟩ (-1) p (fun _ => ⟨p, 0, 0, ⟨br, bc, bb, q⟩⟩) 1 = 2) := by rw [role_one, if_neg hp, if_neg (Vc.lt_asymm h)]; rfl
          have HRY : Hid (Vc.role ⟨br, bc, bb, q⟩ (-1) q (fun _ => ⟨q, 0, 0, ⟨ar, ac, ab, p⟩⟩) 1 = 3) := by rw [role_one, if_neg hq, if_pos h]; rfl
          clear hE h
          go_enter Try.func8, Try.ntmps8
          go_wp2_with fail
          rw [← HW0.out]
          refine (valive_any _).mono ?_
          rintro e w1 ⟨rfl, hb1⟩
          have HB1 : Hid (Below W0.heap.size W0 w1) := hb1
          clear hb1
          obtain ⟨X, HX⟩ : ∃ X, Hid (X = ((w1.setCell ⟨w.heap.size, 3, none⟩ (.int .i64 p)).setCell ⟨w.heap.size + 1, 3, none⟩ (.int .i64 q))) := ⟨_, rfl⟩
          have HXA : Hid (X.heap[w.heap.size]? = some (.cells #[.int .u64 ar, .int .i64 ac, .int .u64 ab, .int .i64 p] 27 (0, 0))) := by
            rw [HX.out]
            exact (heap_setCell_other _ _ _ _ (by simp)).trans (vc_set3 (HC.out w1 HB1.out).1)
          have HXB : Hid (X.heap[w.heap.size + 1]? = some (.cells #[.int .u64 br, .int .i64 bc, .int .u64 bb, .int .i64 q] 27 (0, 0))) := by
            rw [HX.out]
            exact vc_set3 ((heap_setCell_other _ _ _ _ (by simp)).trans (HC.out w1 HB1.out).2)
          have HXL : Hid (Below w.heap.size w X) := by
            rw [HX.out]
            exact ((HL.out _ HB1.out).setCell (Nat.le_refl _) _).setCell (Nat.le_succ _) _
          have HXS : Hid (w1.heap.size = X.heap.size) := by rw [HX.out]; exact (show _ = _ from by simp)
          obtain ⟨a0, a1, a2, a3⟩ := vc_cells (HC.out w1 HB1.out).1
          obtain ⟨-, -, -, af⟩ := vc_free (HC.out w1 HB1.out).1
          obtain ⟨b0, b1, b2, b3⟩ := vc_cells (HC.out w1 HB1.out).2
          obtain ⟨-, -, -, bf⟩ := vc_free (HC.out w1 HB1.out).2
          obtain ⟨x0, x1, x2, x3⟩ := vc_cells HXA.out
          obtain ⟨y0, y1, y2, y3⟩ := vc_cells HXB.out
          rw [HX.out] at x0 x1 x2 x3 y0 y1 y2 y3
          have HR1 : Hid (∀ ty, Calls Try.prog 20 #[.agg #[.int .u64 ar, .int .i64 ac, .int .u64 ab, .int .i64 p], .int .i64 (-1), .int .i64 p, .slice (some ⟨w1.heap.size, 0, none⟩) 1 1] (X.alloc (.cells #[.int .i64 p, .int .i64 0, .int .i64 0, .int .u64 br, .int .i64 bc, .int .u64 bb, .int .i64 q] ty)) fun e w' => e = .returned (.int .i64 2) ∧ Hid (Below X.heap.size X w')) := fun ty => role_say ⟨ar, ac, ab, p⟩ ⟨br, bc, bb, q⟩ p _ HRX.out X _ HXS.out ty
          go_wp2_with fail
          rw [← HX.out]
          refine (HR1.out _).mono ?_
          rintro e w2 ⟨rfl, hb2⟩
          clear a0 a1 a2 a3 af b0 b1 b2 b3 bf x0 x1 x2 x3 y0 y1 y2 y3 HR1
          obtain ⟨x0, x1, x2, x3⟩ := vc_cells (keep HXA.out hb2.out)
          obtain ⟨y0, y1, y2, y3⟩ := vc_cells (keep HXB.out hb2.out)
          have HR2 : Hid (∀ ty, Calls Try.prog 20 #[.agg #[.int .u64 br, .int .i64 bc, .int .u64 bb, .int .i64 q], .int .i64 (-1), .int .i64 q, .slice (some ⟨w2.heap.size, 0, none⟩) 1 1] (w2.alloc (.cells #[.int .i64 q, .int .i64 0, .int .i64 0, .int .u64 ar, .int .i64 ac, .int .u64 ab, .int .i64 p] ty)) fun e w' => e = .returned (.int .i64 3) ∧ Hid (Below w2.heap.size w2 w')) := fun ty => role_say ⟨br, bc, bb, q⟩ ⟨ar, ac, ab, p⟩ q _ HRY.out w2 _ rfl ty
          go_wp2_with fail
          refine (HR2.out _).mono ?_
          rintro e w3 ⟨rfl, hb3⟩
          have HFL : Hid (Below w.heap.size w w3) := by
            have h := HXL.out.trans (hb2.out.mono HXL.out.size)
            exact h.trans (hb3.out.mono h.size)
          clear x0 x1 x2 x3 y0 y1 y2 y3 HR2
          go_wp2_with fail
          all_goals (go_ret; exact ⟨rfl, HFL.out⟩)
        · exact absurd h hE
        · have HRX : Hid (Vc.role ⟨ar, ac, ab, p⟩ (-1) p (fun _ => ⟨p, 0, 0, ⟨br, bc, bb, q⟩⟩) 1 = 3) := by rw [role_one, if_neg hp, if_pos h]; rfl
          have HRY : Hid (Vc.role ⟨br, bc, bb, q⟩ (-1) q (fun _ => ⟨q, 0, 0, ⟨ar, ac, ab, p⟩⟩) 1 = 2) := by rw [role_one, if_neg hq, if_neg (Vc.lt_asymm h)]; rfl
          clear hE h
          go_enter Try.func8, Try.ntmps8
          go_wp2_with fail
          rw [← HW0.out]
          refine (valive_any _).mono ?_
          rintro e w1 ⟨rfl, hb1⟩
          have HB1 : Hid (Below W0.heap.size W0 w1) := hb1
          clear hb1
          obtain ⟨X, HX⟩ : ∃ X, Hid (X = ((w1.setCell ⟨w.heap.size, 3, none⟩ (.int .i64 p)).setCell ⟨w.heap.size + 1, 3, none⟩ (.int .i64 q))) := ⟨_, rfl⟩
          have HXA : Hid (X.heap[w.heap.size]? = some (.cells #[.int .u64 ar, .int .i64 ac, .int .u64 ab, .int .i64 p] 27 (0, 0))) := by
            rw [HX.out]
            exact (heap_setCell_other _ _ _ _ (by simp)).trans (vc_set3 (HC.out w1 HB1.out).1)
          have HXB : Hid (X.heap[w.heap.size + 1]? = some (.cells #[.int .u64 br, .int .i64 bc, .int .u64 bb, .int .i64 q] 27 (0, 0))) := by
            rw [HX.out]
            exact vc_set3 ((heap_setCell_other _ _ _ _ (by simp)).trans (HC.out w1 HB1.out).2)
          have HXL : Hid (Below w.heap.size w X) := by
            rw [HX.out]
            exact ((HL.out _ HB1.out).setCell (Nat.le_refl _) _).setCell (Nat.le_succ _) _
          have HXS : Hid (w1.heap.size = X.heap.size) := by rw [HX.out]; exact (show _ = _ from by simp)
          obtain ⟨a0, a1, a2, a3⟩ := vc_cells (HC.out w1 HB1.out).1
          obtain ⟨-, -, -, af⟩ := vc_free (HC.out w1 HB1.out).1
          obtain ⟨b0, b1, b2, b3⟩ := vc_cells (HC.out w1 HB1.out).2
          obtain ⟨-, -, -, bf⟩ := vc_free (HC.out w1 HB1.out).2
          obtain ⟨x0, x1, x2, x3⟩ := vc_cells HXA.out
          obtain ⟨y0, y1, y2, y3⟩ := vc_cells HXB.out
          rw [HX.out] at x0 x1 x2 x3 y0 y1 y2 y3
          have HR1 : Hid (∀ ty, Calls Try.prog 20 #[.agg #[.int .u64 ar, .int .i64 ac, .int .u64 ab, .int .i64 p], .int .i64 (-1), .int .i64 p, .slice (some ⟨w1.heap.size, 0, none⟩) 1 1] (X.alloc (.cells #[.int .i64 p, .int .i64 0, .int .i64 0, .int .u64 br, .int .i64 bc, .int .u64 bb, .int .i64 q] ty)) fun e w' => e = .returned (.int .i64 3) ∧ Hid (Below X.heap.size X w')) := fun ty => role_say ⟨ar, ac, ab, p⟩ ⟨br, bc, bb, q⟩ p _ HRX.out X _ HXS.out ty
          go_wp2_with fail
          rw [← HX.out]
          refine (HR1.out _).mono ?_
          rintro e w2 ⟨rfl, hb2⟩
          clear a0 a1 a2 a3 af b0 b1 b2 b3 bf x0 x1 x2 x3 y0 y1 y2 y3 HR1
          obtain ⟨x0, x1, x2, x3⟩ := vc_cells (keep HXA.out hb2.out)
          obtain ⟨y0, y1, y2, y3⟩ := vc_cells (keep HXB.out hb2.out)
          have HR2 : Hid (∀ ty, Calls Try.prog 20 #[.agg #[.int .u64 br, .int .i64 bc, .int .u64 bb, .int .i64 q], .int .i64 (-1), .int .i64 q, .slice (some ⟨w2.heap.size, 0, none⟩) 1 1] (w2.alloc (.cells #[.int .i64 q, .int .i64 0, .int .i64 0, .int .u64 ar, .int .i64 ac, .int .u64 ab, .int .i64 p] ty)) fun e w' => e = .returned (.int .i64 2) ∧ Hid (Below w2.heap.size w2 w')) := fun ty => role_say ⟨br, bc, bb, q⟩ ⟨ar, ac, ab, p⟩ q _ HRY.out w2 _ rfl ty
          go_wp2_with fail
          refine (HR2.out _).mono ?_
          rintro e w3 ⟨rfl, hb3⟩
          have HFL : Hid (Below w.heap.size w w3) := by
            have h := HXL.out.trans (hb2.out.mono HXL.out.size)
            exact h.trans (hb3.out.mono h.size)
          clear x0 x1 x2 x3 y0 y1 y2 y3 HR2
          go_wp2_with fail
          all_goals (go_ret; exact ⟨rfl, HFL.out⟩)
end Go.Proofs.Ythnklbcaodhbfaa
