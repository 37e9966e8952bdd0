/- walks: package vec's bestOffer -/
import Derived.Test.YthnklbcaodhbfaaVW3
namespace Go.Proofs.Ythnklbcaodhbfaa
open Go.RowKit
open Vc (V Of)

theorem drew3 {w w' : World} {i j n : Nat} {a b : Option Obj} (h : w'.heap[i]? = a ∧ w'.heap[j]? = b ∧ Below n w w') : w'.drew.heap[i]? = a ∧ w'.drew.heap[j]? = b ∧ Below n w w'.drew := ⟨h.1, h.2.1, h.2.2.drew⟩
def or2 (x y : Int) : Int := if x = 0 then y else x
theorem cor2 (x y : Int) (g : Nat) (ty : TypeId) (w : World) (h : w.heap[g]? = some (.cells #[.int .i64 x, .int .i64 y] ty (0, 0))) :
    Calls Try.prog 23 #[.slice (some ⟨g, 0, none⟩) 2 2] w fun e w' => e = .returned (.int .i64 (or2 x y)) ∧ w' = w := by
  have e : orTo (fun i => if i = 0 then x else y) 2 = or2 x y := by
    by_cases h : x = 0 <;> simp [orTo, or2, h]
  rw [← e]
  refine cor_any g 0 2 2 _ w (by omega) (by omega) (fun i hi => ?_)
  rcases (by omega : i = 0 ∨ i = 1) with e | e <;> subst e
  · exact cell_of_row w g 0 _ _ _ h
  · exact cell_of_row w g 1 _ _ _ h
theorem or2_ahead (o p : Of) : decide (or2 (Vc.cmp o.v p.v) (sg o.port p.port) < 0) = decide (Vc.ahead o p) := by
  by_cases h : Vc.ahead o p
  · rw [decide_eq_true h]
    apply decide_eq_true
    rcases h with h | ⟨h, h2⟩
    · have : Vc.cmp o.v p.v < 0 := Vc.cmp_lt.2 h
      unfold or2; rw [if_neg (by omega)]; exact this
    · unfold or2 sg; rw [if_pos (Vc.cmp_zero.2 h), if_pos h2]; omega
  · rw [decide_eq_false h]
    apply decide_eq_false
    unfold or2
    by_cases h0 : Vc.cmp o.v p.v = 0
    · rw [if_pos h0]
      unfold sg
      rw [if_neg (fun q => h (Or.inr ⟨Vc.cmp_zero.1 h0, q⟩))]
      split <;> omega
    · rw [if_neg h0]
      exact fun q => h (Or.inl (Vc.cmp_lt.1 q))
set_option maxRecDepth 100000 in
set_option maxHeartbeats 4000000 in
theorem vbestOffer_any (id : Int) (ao : Option Addr) (n cap : Nat) (os : Nat → Of) (w : World) (hn : n ≤ 9223372036854775807) (hr : ORow w ao n cap os) :
    Calls Try.prog 29 #[.int .u64 id, .slice ao n cap] w fun e w' => e = .returned (.tuple #[.int .i64 (atTo id os n), .agg (vA (bestV id os n))]) ∧ Below w.heap.size w w' := by
  have HR : Hid (ORow w ao n cap os) := hr
  clear hr
  go_enter Try.func29, Try.ntmps29
  go_wp2_with fail
  go_loopw [6, 15] (fun a i wr => ∃ k : Nat, k ≤ n ∧ i = .int .i64 k ∧ a = .int .i64 (atTo id os k) ∧ Hid (wr.heap[w.heap.size]? = some (.cells (vA Vc.v0) 27 (0, 0)) ∧ wr.heap[w.heap.size + 1]? = some (.cells (vA (bestV id os k)) 27 (0, 0)) ∧ Below w.heap.size w wr)) (fun _ i _ => n - (intOf i).toNat)
  case atStart => exact ⟨0, by omega, rfl, rfl, heap_alloc2_old w _ _, heap_alloc2_new w _ _, below_alloc2 _ _ _⟩
  case round =>
    obtain ⟨k, hk, rfl, rfl, hX⟩ := hrel
    by_cases hlt : k < n
    · obtain ⟨b, off, rfl, hb⟩ := CRow.some HR.out (by omega)
      have hcap := HR.out.1
      have HRW : Hid (∀ W, Below w.heap.size w W → ORow W (some ⟨b, off, none⟩) n cap os) := fun W hW => CRow.other HR.out (fun q _ _ hq => hW.block q hq) hW.size
      obtain ⟨c0, c1, c2, c3, c4, c5, c6⟩ := ORow.cells (HRW.out wr hX.out.2.2) hlt
      have HNO : Hid (¬ Vc.may id (os k) → atTo id os (k + 1) = atTo id os k ∧ bestV id os (k + 1) = bestV id os k) := fun h => by
        unfold atTo bestV
        have e : Vc.chTo id os (k + 1) = Vc.chTo id os k := by simp only [Vc.chTo]; rw [if_neg h]
        rw [e]; exact ⟨rfl, rfl⟩
      have HFIRST : Hid (Vc.may id (os k) → Vc.chTo id os k = none → atTo id os (k + 1) = k ∧ bestV id os (k + 1) = (os k).v) := fun h h2 => by
        have e : Vc.chTo id os (k + 1) = some k := by simp only [Vc.chTo]; rw [if_pos h, h2]
        unfold atTo bestV
        rw [e]; exact ⟨rfl, rfl⟩
      have HTHEN : Hid (∀ j, Vc.may id (os k) → Vc.chTo id os k = some j → (Vc.ahead (os k) (os j) → atTo id os (k + 1) = k ∧ bestV id os (k + 1) = (os k).v) ∧ (¬ Vc.ahead (os k) (os j) → atTo id os (k + 1) = atTo id os k ∧ bestV id os (k + 1) = bestV id os k)) := fun j h h2 => by
        constructor
        · intro ha
          have e : Vc.chTo id os (k + 1) = some k := by simp only [Vc.chTo]; rw [if_pos h, h2]; simp only; rw [if_pos ha]
          unfold atTo bestV
          rw [e]; exact ⟨rfl, rfl⟩
        · intro ha
          have e : Vc.chTo id os (k + 1) = some j := by simp only [Vc.chTo]; rw [if_pos h, h2]; simp only; rw [if_neg ha]
          unfold atTo bestV
          rw [e, h2]; exact ⟨rfl, rfl⟩
      have HXX : Hid (wr.heap[w.heap.size]? = some (.cells (vA Vc.v0) 27 (0, 0)) ∧ wr.heap[w.heap.size + 1]? = some (.cells (vA (bestV id os k)) 27 (0, 0)) ∧ Below w.heap.size w wr) := hX
      have HLS : Hid (w.heap.size + 1 < wr.heap.size) := (Array.getElem?_eq_some_iff.1 hX.out.2.1).1
      have HBV : Hid (∀ j, Vc.chTo id os k = some j → bestV id os k = (os j).v ∧ atTo id os k = (j : Int)) := fun j h => by unfold bestV atTo; rw [h]; exact ⟨rfl, rfl⟩
      have HBN : Hid (Vc.chTo id os k = none → atTo id os k = -1) := fun h => by unfold atTo; rw [h]
      have HMT : Hid (∀ W, Calls Try.prog 33 #[.int .u64 id, .agg #[.int .i64 (os k).port, .int .i64 (os k).cost, .int .i64 (os k).age, .int .u64 (os k).vec.root, .int .i64 (os k).vec.cost, .int .u64 (os k).vec.bridge, .int .i64 (os k).vec.port]] W fun e w' => e = .returned (.tuple #[.agg (vA (mayV id (os k))), .bool (decide (Vc.may id (os k)))]) ∧ Hid (Below W.heap.size W w')) := fun W => vmay_any id (os k) W
      have HBB : Hid (b < w.heap.size) := hb
      clear hX hb HR
      by_cases hm : Vc.may id (os k)
      · have hmv : mayV id (os k) = (os k).v := if_pos hm
        rw [decide_eq_true hm, hmv] at HMT
        clear hmv HNO
        have HOA : Hid (∀ j, decide (or2 (Vc.cmp (os k).v (os j).v) (sg (os k).port (os j).port) < 0) = decide (Vc.ahead (os k) (os j))) := fun j => or2_ahead _ _
        obtain ⟨Y, HY⟩ : ∃ Y, Hid (Y = wr.alloc (.cells #[.int .i64 (os k).port, .int .i64 (os k).cost, .int .i64 (os k).age, .int .u64 (os k).vec.root, .int .i64 (os k).vec.cost, .int .u64 (os k).vec.bridge, .int .i64 (os k).vec.port] 42)) := ⟨_, rfl⟩
        obtain ⟨G, HG⟩ : ∃ G, Hid (G = wr.heap.size) := ⟨_, rfl⟩
        have HYB : Hid (Below wr.heap.size wr Y) := by rw [HY.out]; exact below_alloc1 _ _
        have HYO : Hid (Y.heap[G]? = some (.cells #[.int .i64 (os k).port, .int .i64 (os k).cost, .int .i64 (os k).age, .int .u64 (os k).vec.root, .int .i64 (os k).vec.cost, .int .u64 (os k).vec.bridge, .int .i64 (os k).vec.port] 42 (0, 0))) := by rw [HY.out, HG.out]; exact heap_alloc_last _ _
        generalize hv : (os k).v = v at *
        obtain ⟨vr, vc, vb, vp⟩ := v
        go_wp2_with fail
        rw [← HY.out, ← HG.out]
        refine (HMT.out _).mono ?_
        rintro e w2 ⟨rfl, hb2⟩
        simp only [vA]
        obtain ⟨X, HX⟩ : ∃ X, Hid (X = w2.alloc (.cells #[.int .u64 vr, .int .i64 vc, .int .u64 vb, .int .i64 vp] 27)) := ⟨_, rfl⟩
        obtain ⟨G2, HG2⟩ : ∃ G2, Hid (G2 = w2.heap.size) := ⟨_, rfl⟩
        have HYX : Hid (Below Y.heap.size Y X) := by rw [HX.out]; exact hb2.out.alloc hb2.out.size _
        have HXB : Hid (Below wr.heap.size wr X) := HYB.out.trans (HYX.out.mono HYB.out.size)
        have HXO : Hid (X.heap[G]? = some (.cells #[.int .i64 (os k).port, .int .i64 (os k).cost, .int .i64 (os k).age, .int .u64 (os k).vec.root, .int .i64 (os k).vec.cost, .int .u64 (os k).vec.bridge, .int .i64 (os k).vec.port] 42 (0, 0))) := keep HYO.out HYX.out
        have HXV : Hid (X.heap[G2]? = some (.cells #[.int .u64 vr, .int .i64 vc, .int .u64 vb, .int .i64 vp] 27 (0, 0))) := by rw [HX.out, HG2.out]; exact heap_alloc_last _ _
        have HXR : Hid (X.heap[w.heap.size]? = some (.cells (vA Vc.v0) 27 (0, 0))) := keep HXX.out.1 HXB.out
        have HXG : Hid (X.heap[w.heap.size + 1]? = some (.cells (vA (bestV id os k)) 27 (0, 0))) := keep HXX.out.2.1 HXB.out
        have HXL : Hid (Below w.heap.size w X) := HXX.out.2.2.trans (HXB.out.mono HXX.out.2.2.size)
        have HN2 : Hid (w.heap.size + 1 ≠ G2) := by
          have h1 := HLS.out
          have h2 := (HYB.out.trans (hb2.out.mono HYB.out.size)).size
          show w.heap.size + 1 ≠ G2
          rw [HG2.out]; omega
        have HST : Hid (∀ W, Below X.heap.size X W → bestV id os (k + 1) = ⟨vr, vc, vb, vp⟩ → ((((W.setCell ⟨w.heap.size + 1, 0, none⟩ (.int .u64 vr)).setCell ⟨w.heap.size + 1, 1, none⟩ (.int .i64 vc)).setCell ⟨w.heap.size + 1, 2, none⟩ (.int .u64 vb)).setCell ⟨w.heap.size + 1, 3, none⟩ (.int .i64 vp)).heap[w.heap.size]? = some (.cells (vA Vc.v0) 27 (0, 0)) ∧ ((((W.setCell ⟨w.heap.size + 1, 0, none⟩ (.int .u64 vr)).setCell ⟨w.heap.size + 1, 1, none⟩ (.int .i64 vc)).setCell ⟨w.heap.size + 1, 2, none⟩ (.int .u64 vb)).setCell ⟨w.heap.size + 1, 3, none⟩ (.int .i64 vp)).heap[w.heap.size + 1]? = some (.cells (vA (bestV id os (k + 1))) 27 (0, 0)) ∧ Below w.heap.size w ((((W.setCell ⟨w.heap.size + 1, 0, none⟩ (.int .u64 vr)).setCell ⟨w.heap.size + 1, 1, none⟩ (.int .i64 vc)).setCell ⟨w.heap.size + 1, 2, none⟩ (.int .u64 vb)).setCell ⟨w.heap.size + 1, 3, none⟩ (.int .i64 vp))) := fun W hW h => by
          rw [h]
          have hl := HXL.out.trans (hW.mono HXL.out.size)
          have hle : w.heap.size ≤ w.heap.size + 1 := by omega
          exact ⟨(set4_other (by omega)).trans (keep HXR.out hW), vc_set4 (keep HXG.out hW), (((hl.setCell hle _).setCell hle _).setCell hle _).setCell hle _⟩
        have HKP : Hid (∀ W, Below X.heap.size X W → bestV id os (k + 1) = bestV id os k → W.heap[w.heap.size]? = some (.cells (vA Vc.v0) 27 (0, 0)) ∧ W.heap[w.heap.size + 1]? = some (.cells (vA (bestV id os (k + 1))) 27 (0, 0)) ∧ Below w.heap.size w W) := fun W hW h => by
          rw [h]
          exact ⟨keep HXR.out hW, keep HXG.out hW, HXL.out.trans (hW.mono HXL.out.size)⟩
        have HVC : Hid (∀ W, Below X.heap.size X W → W.cell? ⟨G2, 0, none⟩ = some (.int .u64 vr) ∧ W.cell? ⟨G2, 1, none⟩ = some (.int .i64 vc) ∧ W.cell? ⟨G2, 2, none⟩ = some (.int .u64 vb) ∧ W.cell? ⟨G2, 3, none⟩ = some (.int .i64 vp)) := fun W hW => vc_cells (keep HXV.out hW)
        have HGF : Hid (∀ W, Below X.heap.size X W → (W.frozen? ⟨w.heap.size + 1, 0, none⟩ = false ∧ W.frozen? ⟨w.heap.size + 1, 1, none⟩ = false ∧ W.frozen? ⟨w.heap.size + 1, 2, none⟩ = false ∧ W.frozen? ⟨w.heap.size + 1, 3, none⟩ = false) ∧ ∃ g0 g1 g2 g3, W.cell? ⟨w.heap.size + 1, 0, none⟩ = some g0 ∧ W.cell? ⟨w.heap.size + 1, 1, none⟩ = some g1 ∧ W.cell? ⟨w.heap.size + 1, 2, none⟩ = some g2 ∧ W.cell? ⟨w.heap.size + 1, 3, none⟩ = some g3) := fun W hW => ⟨vc_free (keep HXG.out hW), _, _, _, _, vc_cells (keep HXG.out hW)⟩
        have HXX0 : Hid (Below X.heap.size X X) := Below.refl _ _
        clear HMT HY HYB HYO HYX HXB hb2 c0 c1 c2 c3 c4 c5 c6
        go_wp2_with fail
        rw [← HX.out, ← HG2.out]
        cases hc : Vc.chTo id os k with
        | none =>
          have hat := HBN.out hc
          obtain ⟨z1, z2⟩ := HFIRST.out hm hc
          rw [hat]
          clear HFIRST HTHEN HBV HBN hm hc hat HOA
          go_quiet (fail)
          obtain ⟨Z, HZ⟩ : ∃ Z, Hid (Z = X.drewN nq) := ⟨_, rfl⟩
          have HZB : Hid (Below X.heap.size X Z) := by rw [HZ.out]; exact below_drewN HXX0.out _
          rw [← HZ.out]
          obtain ⟨y0, y1, y2, y3⟩ := HVC.out Z HZB.out
          obtain ⟨⟨f0, f1, f2, f3⟩, g0, g1, g2, g3, b0, b1, b2, b3⟩ := HGF.out Z HZB.out
          have HFN : Hid _ := drew3 (HST.out Z HZB.out z2)
          clear HST HKP HVC HGF HXX
          go_wp2_with fail
          go_region
          all_goals go_wp2_with fail
          all_goals exact ⟨⟨k + 1, by omega, by go_num, by rw [z1], HFN⟩, by simp [intOf]; omega⟩
        | some j =>
          obtain ⟨hbv, hat⟩ := HBV.out j hc
          have hjk := (Vc.chTo_some id os k j hc).1
          obtain ⟨hw, hl⟩ := HTHEN.out j hm hc
          have hoa := HOA.out j
          rw [hat] at hl
          rw [hbv] at HXG
          have HPJ : Hid (∀ W, Below X.heap.size X W → W.cell? ⟨b, off + j * 7, none⟩ = some (.int .i64 (os j).port)) := fun W hW => (ORow.cells (HRW.out W (HXL.out.trans (hW.mono HXL.out.size))) (show j < n by omega)).1
          have HOC : Hid (∀ W, Below X.heap.size X W → W.cell? ⟨G, 0, none⟩ = some (.int .i64 (os k).port)) := fun W hW => (of_cells (keep HXO.out hW)).1
          generalize hvj : (os j).v = u at *
          obtain ⟨ur, uc, ub, up⟩ := u
          have HBC : Hid (∀ W, Below X.heap.size X W → W.cell? ⟨w.heap.size + 1, 0, none⟩ = some (.int .u64 ur) ∧ W.cell? ⟨w.heap.size + 1, 1, none⟩ = some (.int .i64 uc) ∧ W.cell? ⟨w.heap.size + 1, 2, none⟩ = some (.int .u64 ub) ∧ W.cell? ⟨w.heap.size + 1, 3, none⟩ = some (.int .i64 up)) := fun W hW => vc_cells (keep HXG.out hW)
          have HCM : Hid (∀ W, Below X.heap.size X W → Calls Try.prog 9 #[.agg #[.int .u64 vr, .int .i64 vc, .int .u64 vb, .int .i64 vp], .agg #[.int .u64 ur, .int .i64 uc, .int .u64 ub, .int .i64 up]] W fun e w' => e = .returned (.int .i64 (Vc.cmp ⟨vr, vc, vb, vp⟩ ⟨ur, uc, ub, up⟩)) ∧ Hid (Below X.heap.size X w')) := fun W hW => (vcompare_any ⟨vr, vc, vb, vp⟩ ⟨ur, uc, ub, up⟩ W).mono (fun e w' h => ⟨h.1, hW.trans (h.2.mono hW.size)⟩)
          have HSX : Hid (∀ W, Below X.heap.size X W → (W.cell? ⟨G2, 0, none⟩ = some (.int .u64 vr) ∧ W.cell? ⟨G2, 1, none⟩ = some (.int .i64 vc) ∧ W.cell? ⟨G2, 2, none⟩ = some (.int .u64 vb) ∧ W.cell? ⟨G2, 3, none⟩ = some (.int .i64 vp)) ∧ (W.cell? ⟨w.heap.size + 1, 0, none⟩ = some (.int .u64 ur) ∧ W.cell? ⟨w.heap.size + 1, 1, none⟩ = some (.int .i64 uc) ∧ W.cell? ⟨w.heap.size + 1, 2, none⟩ = some (.int .u64 ub) ∧ W.cell? ⟨w.heap.size + 1, 3, none⟩ = some (.int .i64 up)) ∧ W.cell? ⟨b, off + j * 7, none⟩ = some (.int .i64 (os j).port) ∧ W.cell? ⟨G, 0, none⟩ = some (.int .i64 (os k).port)) := fun W hW => ⟨HVC.out W hW, HBC.out W hW, HPJ.out W hW, HOC.out W hW⟩
          have ij : (0 : Int) ≤ (j : Int) := by omega
          have jn : (j : Int) < (n : Int) := by omega
          have dj : decide ((j : Int) < 0) = false := decide_eq_false (by omega)
          rw [hat]
          clear hc hm HFIRST HTHEN HBV HBN HRW HXX HLS HOA hv hvj hat hbv HXG HXO HPJ HOC HBC HXV
          generalize hP : (os k).port = kp at *
          generalize hQ : (os j).port = jp at *
          obtain ⟨⟨s0, s1, s2, s3⟩, ⟨t0, t1, t2, t3⟩, p0, p1⟩ := HSX.out X HXX0.out
          generalize hcv : Vc.cmp ⟨vr, vc, vb, vp⟩ ⟨ur, uc, ub, up⟩ = CV at *
          obtain ⟨OV, hOV⟩ : ∃ OV, or2 CV (sg kp jp) = OV := ⟨_, rfl⟩
          rw [hOV] at hoa
          have HOR : Hid (∀ (g : Nat) (ty : TypeId) (W : World), W.heap[g]? = some (.cells #[.int .i64 CV, .int .i64 (sg kp jp)] ty (0, 0)) → Calls Try.prog 23 #[.slice (some ⟨g, 0, none⟩) 2 2] W fun e w' => e = .returned (.int .i64 OV) ∧ w' = W) := fun g ty W h => by rw [← hOV]; exact cor2 _ _ g ty W h
          clear hOV
          have HOA2 : Hid (decide (OV < 0) = decide (Vc.ahead (os k) (os j))) := hoa
          clear hoa
          go_region_held3 (fun W => (W.cell? ⟨G2, 0, none⟩ = some (.int .u64 vr) ∧ W.cell? ⟨G2, 1, none⟩ = some (.int .i64 vc) ∧ W.cell? ⟨G2, 2, none⟩ = some (.int .u64 vb) ∧ W.cell? ⟨G2, 3, none⟩ = some (.int .i64 vp)) ∧ (W.cell? ⟨w.heap.size + 1, 0, none⟩ = some (.int .u64 ur) ∧ W.cell? ⟨w.heap.size + 1, 1, none⟩ = some (.int .i64 uc) ∧ W.cell? ⟨w.heap.size + 1, 2, none⟩ = some (.int .u64 ub) ∧ W.cell? ⟨w.heap.size + 1, 3, none⟩ = some (.int .i64 up)) ∧ W.cell? ⟨b, off + j * 7, none⟩ = some (.int .i64 jp) ∧ W.cell? ⟨G, 0, none⟩ = some (.int .i64 kp))
            (first | (exact HSX.out _ (Below.drew HXX0.out)) | (exact HSX.out _ (Hid.out (by assumption))) | (exact HSX.out _ ((Hid.out HB1).alloc (Hid.out HB1).size _)))
            (first | (go_at_call 9; refine (HCM.out _ (Below.drew HXX0.out)).mono ?_; rintro e w3 ⟨rfl, HB1⟩) | (go_at_call 25; refine (ccmpi_any _ _ _).mono ?_; rintro e w3 ⟨rfl, rfl⟩) | (go_at_call 23; refine (HOR.out _ _ _ (heap_alloc_last _ _)).mono ?_; rintro e w4 ⟨rfl, rfl⟩))
          have HBZ : Hid (∀ o, Below X.heap.size X (w3.alloc o)) := fun o => HB1.out.alloc HB1.out.size o
          by_cases ha : Vc.ahead (os k) (os j)
          · have hoa2 : OV < 0 := of_decide_eq_true (HOA2.out.trans (decide_eq_true ha))
            obtain ⟨z1, z2⟩ := hw ha
            obtain ⟨Z, HZ⟩ : ∃ Z, Hid (Z = w3.alloc (.cells #[.int .i64 CV, .int .i64 (sg kp jp)] 3)) := ⟨_, rfl⟩
            have HZB : Hid (Below X.heap.size X Z) := by rw [HZ.out]; exact HBZ.out _
            obtain ⟨y0, y1, y2, y3⟩ := HVC.out Z HZB.out
            obtain ⟨⟨f0, f1, f2, f3⟩, g0, g1, g2, g3, b0, b1, b2, b3⟩ := HGF.out Z HZB.out
            have HFN : Hid _ := drew3 (HST.out Z HZB.out z2)
            clear HST HKP HVC HGF HSX HCM hw hl ha s0 s1 s2 s3 t0 t1 t2 t3 p0 p1 HBZ
            rw [← HZ.out]
            go_wp2_with fail
            go_region
            all_goals go_wp2_with fail
            all_goals exact ⟨⟨k + 1, by omega, by go_num, by rw [z1], HFN⟩, by simp [intOf]; omega⟩
          · have hoa1 : decide (OV < 0) = false := HOA2.out.trans (decide_eq_false ha)
            have hoa2 : ¬ OV < 0 := of_decide_eq_false hoa1
            obtain ⟨z1, z2⟩ := hl ha
            clear HST HVC HGF HSX HCM hw hl ha s0 s1 s2 s3 t0 t1 t2 t3 p0 p1
            go_wp2_with fail
            exact ⟨⟨k + 1, by omega, by go_num, by rw [z1], HKP.out _ (HBZ.out _) z2⟩, by simp [intOf]; omega⟩
      · have hmv : mayV id (os k) = Vc.v0 := if_neg hm
        rw [decide_eq_false hm, hmv] at HMT
        obtain ⟨z1, z2⟩ := HNO.out hm
        clear hmv HNO HFIRST HTHEN HBV HBN
        rw [← z1]
        go_wp2_with fail
        refine (HMT.out _).mono ?_
        rintro e w2 ⟨rfl, hb2⟩
        have HFIN : Hid (∀ o, (w2.alloc o).heap[w.heap.size]? = some (.cells (vA Vc.v0) 27 (0, 0)) ∧ (w2.alloc o).heap[w.heap.size + 1]? = some (.cells (vA (bestV id os (k + 1))) 27 (0, 0)) ∧ Below w.heap.size w (w2.alloc o)) := fun o => by
          have h := (below_alloc1 wr _).trans (hb2.out.mono (by simp))
          have h2 := h.alloc h.size o
          rw [z2]
          exact ⟨keep HXX.out.1 h2, keep HXX.out.2.1 h2, HXX.out.2.2.trans (h2.mono HXX.out.2.2.size)⟩
        clear hb2 z1 z2
        simp only [vA, Vc.v0]
        go_wp2_with fail
        exact ⟨⟨k + 1, by omega, by go_num, rfl, HFIN.out _⟩, by simp [intOf]; omega⟩
    · obtain rfl : k = n := by omega
      have HRES : Hid (wr.heap[w.heap.size]? = some (.cells (vA Vc.v0) 27 (0, 0))) := hX.out.1
      have HLW : Hid (Below w.heap.size w wr) := hX.out.2.2
      obtain ⟨r0, r1, r2, r3⟩ := vc_cells hX.out.1
      obtain ⟨f0, f1, f2, f3⟩ := vc_free hX.out.1
      obtain ⟨B, hB⟩ : ∃ B, bestV id os k = B := ⟨_, rfl⟩
      rw [hB] at hX
      obtain ⟨vr, vc, vb, vp⟩ := B
      have HBV : Hid (bestV id os k = ⟨vr, vc, vb, vp⟩) := hB
      clear hB
      obtain ⟨b0, b1, b2, b3⟩ := vc_cells hX.out.2.1
      have HLOW : Hid (Below w.heap.size w ((((wr.setCell ⟨w.heap.size, 0, none⟩ (.int .u64 vr)).setCell ⟨w.heap.size, 1, none⟩ (.int .i64 vc)).setCell ⟨w.heap.size, 2, none⟩ (.int .u64 vb)).setCell ⟨w.heap.size, 3, none⟩ (.int .i64 vp)).drew) := ((((HLW.out.setCell (Nat.le_refl _) _).setCell (Nat.le_refl _) _).setCell (Nat.le_refl _) _).setCell (Nat.le_refl _) _).drew
      clear hX
      go_wp2_with fail
      go_region
      all_goals go_wp2_with fail
      all_goals exact bodyPost_ret (v := .tuple #[.int .i64 (atTo id os k), .agg #[.int .u64 vr, .int .i64 vc, .int .u64 vb, .int .i64 vp]]) (results_tmp_row (p := 5) (u := 4) (ty := 27) Try.results29 _ _ w.heap.size 27 #[.int .u64 vr, .int .i64 vc, .int .u64 vb, .int .i64 vp] (0, 0) _ rfl (drew_row (vc_set4 HRES.out)) Try.underlying27 rfl (by rw [sizeVc]; rfl)) rfl ⟨by rw [HBV.out]; rfl, HLOW.out⟩
end Go.Proofs.Ythnklbcaodhbfaa
