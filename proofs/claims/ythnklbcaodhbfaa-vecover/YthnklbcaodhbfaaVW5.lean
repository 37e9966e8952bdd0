/- walks: package vec's Choose -/
import Derived.Test.YthnklbcaodhbfaaVW4
namespace Go.Proofs.Ythnklbcaodhbfaa
open Go.RowKit
open Vc (V Of)

set_option maxRecDepth 100000 in
set_option maxHeartbeats 4000000 in
theorem vchoose_any (id : Int) (ao : Option Addr) (n cap : Nat) (os : Nat → Of) (w : World) (hn : n ≤ 9223372036854775807) (hr : ORow w ao n cap os) :
    Calls Try.prog 18 #[.int .u64 id, .slice ao n cap] w fun e w' => e = .returned (.tuple #[.agg (vA (Vc.chV id os n)), .int .i64 (Vc.chA id os n), .int .i64 (Vc.chP id os n)]) ∧ Below w.heap.size w w' := by
  obtain ⟨W0, HW0⟩ : ∃ W0, Hid (W0 = w.alloc (.cells #[.int .u64 0, .int .i64 0, .int .u64 0, .int .i64 0] 27)) := ⟨_, rfl⟩
  have HB0 : Hid (Below w.heap.size w W0) := by rw [HW0.out]; exact below_alloc1 _ _
  have HR0 : Hid (W0.heap[w.heap.size]? = some (.cells #[.int .u64 0, .int .i64 0, .int .u64 0, .int .i64 0] 27 (0, 0))) := by rw [HW0.out]; exact heap_alloc_last _ _
  have HRW : Hid (∀ W, Below w.heap.size w W → ORow W ao n cap os) := fun W hW => CRow.other hr (fun q _ _ hq => hW.block q hq) hW.size
  have HBB : Hid (∀ b off, ao = some ⟨b, off, none⟩ → 0 < n → b < w.heap.size) := fun b off e hp => by
    obtain ⟨b', off', e', hb', _⟩ := hr.2 hp
    rw [e] at e'
    cases e'
    exact hb'
  have hcap := hr.1
  have HBO : Hid (Calls Try.prog 29 #[.int .u64 id, .slice ao n cap] W0 fun e w' => e = .returned (.tuple #[.int .i64 (atTo id os n), .agg (vA (bestV id os n))]) ∧ Below W0.heap.size W0 w') := vbestOffer_any id ao n cap os W0 hn (HRW.out W0 HB0.out)
  clear hr
  go_enter Try.func18, Try.ntmps18
  go_wp2_with fail
  rw [← HW0.out]
  refine HBO.out.mono ?_
  rintro e w1 ⟨rfl, hb1⟩
  obtain ⟨B, hB⟩ : ∃ B, bestV id os n = B := ⟨_, rfl⟩
  rw [hB]
  obtain ⟨vr, vc, vb, vp⟩ := B
  simp only [vA]
  obtain ⟨X, HX⟩ : ∃ X, Hid (X = w1.alloc (.cells #[.int .u64 vr, .int .i64 vc, .int .u64 vb, .int .i64 vp] 27)) := ⟨_, rfl⟩
  obtain ⟨G, HG⟩ : ∃ G, Hid (G = w1.heap.size) := ⟨_, rfl⟩
  have HXB : Hid (Below W0.heap.size W0 X) := by rw [HX.out]; exact hb1.alloc hb1.size _
  have HXL : Hid (Below w.heap.size w X) := HB0.out.trans (HXB.out.mono HB0.out.size)
  have HXV : Hid (X.heap[G]? = some (.cells #[.int .u64 vr, .int .i64 vc, .int .u64 vb, .int .i64 vp] 27 (0, 0))) := by rw [HX.out, HG.out]; exact heap_alloc_last _ _
  have HRES : Hid (X.heap[w.heap.size]? = some (.cells #[.int .u64 0, .int .i64 0, .int .u64 0, .int .i64 0] 27 (0, 0))) := keep HR0.out HXB.out
  have hne : w.heap.size ≠ G := by
    have h1 := hb1.size
    have h2 := (Array.getElem?_eq_some_iff.1 HR0.out).1
    rw [HG.out]; omega
  obtain ⟨b0, b1, b2, b3⟩ := vc_cells HXV.out
  obtain ⟨r0, r1, r2, r3⟩ := vc_cells HRES.out
  obtain ⟨f0, f1, f2, f3⟩ := vc_free HRES.out
  have HBVV : Hid (bestV id os n = ⟨vr, vc, vb, vp⟩) := hB
  clear hb1 hB HBO
  cases hc : Vc.chTo id os n with
  | none =>
    have hat : atTo id os n = -1 := by unfold atTo; rw [hc]
    have HOUT : Hid ((Ending.returned (.tuple #[.agg (vA (Vc.chV id os n)), .int .i64 (Vc.chA id os n), .int .i64 (Vc.chP id os n)]) : Ending) = .returned (.tuple #[.agg #[.int .u64 id, .int .i64 0, .int .u64 id, .int .i64 0], .int .i64 0, .int .i64 (-1)])) := by
      show (Ending.returned _ : Ending) = _
      unfold Vc.chV Vc.chA Vc.chP; rw [hc]; rfl
    rw [hat]
    have HLOW : Hid (Below w.heap.size w ((((X.setCell ⟨w.heap.size, 0, none⟩ (.int .u64 id)).setCell ⟨w.heap.size, 1, none⟩ (.int .i64 0)).setCell ⟨w.heap.size, 2, none⟩ (.int .u64 id)).setCell ⟨w.heap.size, 3, none⟩ (.int .i64 0))) := (((HXL.out.setCell (Nat.le_refl _) _).setCell (Nat.le_refl _) _).setCell (Nat.le_refl _) _).setCell (Nat.le_refl _) _
    clear hat hc
    rw [HX.out] at r0 r1 r2 r3 f0 f1 f2 f3
    go_wp2_with fail
    rw [← HX.out]
    exact bodyPost_ret (v := .tuple #[.agg #[.int .u64 id, .int .i64 0, .int .u64 id, .int .i64 0], .int .i64 0, .int .i64 (-1)]) (results_row_tmp2 (p := 4) (u := 5) (x := 6) (ty := 27) Try.results18 _ _ w.heap.size 27 #[.int .u64 id, .int .i64 0, .int .u64 id, .int .i64 0] (0, 0) _ rfl (vc_set4 HRES.out) Try.underlying27 rfl (by rw [sizeVc]; rfl)) rfl ⟨HOUT.out.symm, HLOW.out⟩
  | some j =>
    have hat : atTo id os n = (j : Int) := by unfold atTo; rw [hc]
    have hbv : (os j).v = ⟨vr, vc, vb, vp⟩ := by rw [← HBVV.out]; unfold bestV; rw [hc]
    obtain ⟨hjk, hmj, _⟩ := Vc.chTo_some id os n j hc
    obtain ⟨b, off, rfl, _⟩ := CRow.some (HRW.out X HXL.out) (by omega)
    have hbn : b ≠ w.heap.size := by have := HBB.out b off rfl (by omega); omega
    have hbn2 : w.heap.size ≠ b := fun e => hbn e.symm
    obtain ⟨a0, _, a2, _⟩ := ORow.cells (HRW.out X HXL.out) hjk
    have ha1 : 0 ≤ (os j).age := hmj.2.2.1.1
    have ha2 : (os j).age < 20 := hmj.2.2.1.2
    have wa : IntKind.i64.wrap ((os j).age + 1) = (os j).age + 1 := wraps_i64 _ (by omega) (by omega)
    have HOUT : Hid ((Ending.returned (.tuple #[.agg (vA (Vc.chV id os n)), .int .i64 (Vc.chA id os n), .int .i64 (Vc.chP id os n)]) : Ending) = .returned (.tuple #[.agg #[.int .u64 vr, .int .i64 vc, .int .u64 id, .int .i64 0], .int .i64 ((os j).age + 1), .int .i64 (os j).port])) := by
      show (Ending.returned _ : Ending) = _
      unfold Vc.chV Vc.chA Vc.chP; rw [hc]; simp only; rw [hbv]; rfl
    have ij : (0 : Int) ≤ (j : Int) := by omega
    have jn : (j : Int) < (n : Int) := by omega
    rw [hat]
    clear hat hbv hc hmj HRW HBB HBVV b2 b3 HXV HXB
    generalize (os j).age = oa at *
    generalize (os j).port = op at *
    have HLOW : Hid (Below w.heap.size w ((((X.setCell ⟨w.heap.size, 0, none⟩ (.int .u64 vr)).setCell ⟨w.heap.size, 1, none⟩ (.int .i64 vc)).setCell ⟨w.heap.size, 2, none⟩ (.int .u64 id)).setCell ⟨w.heap.size, 3, none⟩ (.int .i64 0)).drew) := ((((HXL.out.setCell (Nat.le_refl _) _).setCell (Nat.le_refl _) _).setCell (Nat.le_refl _) _).setCell (Nat.le_refl _) _).drew
    go_wp2_with fail
    rw [← HX.out, ← HG.out]
    go_region_held3 (fun W => (W.cell? ⟨G, 0, none⟩ = some (.int .u64 vr) ∧ W.cell? ⟨G, 1, none⟩ = some (.int .i64 vc)) ∧ W.cell? ⟨b, off + j * 7, none⟩ = some (.int .i64 op) ∧ W.cell? ⟨b, off + j * 7 + 2, none⟩ = some (.int .i64 oa))
      (go_keep)
      (fail)
    all_goals go_wp2_with fail
    all_goals exact bodyPost_ret (v := .tuple #[.agg #[.int .u64 vr, .int .i64 vc, .int .u64 id, .int .i64 0], .int .i64 (oa + 1), .int .i64 op]) (results_row_tmp2 (p := 4) (u := 5) (x := 6) (ty := 27) Try.results18 _ _ w.heap.size 27 #[.int .u64 vr, .int .i64 vc, .int .u64 id, .int .i64 0] (0, 0) _ rfl (drew_row (vc_set4 HRES.out)) Try.underlying27 rfl (by rw [sizeVc]; rfl)) rfl ⟨HOUT.out.symm, HLOW.out⟩
end Go.Proofs.Ythnklbcaodhbfaa
