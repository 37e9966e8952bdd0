/- walks: the document's Choose -/
import Derived.Test.YthnklbcaodhbfaaVR1b
import Derived.Test.YthnklbcaodhbfaaVR2a
import Derived.Test.YthnklbcaodhbfaaHT
import Derived.Test.YthnklbcaodhbfaaVB2
namespace Go.Proofs.Ythnklbcaodhbfaa
open Go.RowKit
open Vc (V Of)

section
variable {P : Program} {ops : Array Oper} {Q : Exit → Act → World → Prop} {md : Region.Mode} {S : World → Prop}
/-- held_skip with all that one tactic finds. -/
theorem heldS (i s : Nat) {oi : Oper} {fuel : Nat} {listed : Array Bool} {a : Act} {w : World} (hS : S w) (h : wpAnyH P md ops Q S fuel (listed.setIfInBounds i true) (a.put (some s) undef) w)
    (hi : ops[i]? = some oi := by rfl) (hd : oi.dst = some s := by rfl) (hs : Region.noSelect ops = true := by kernel_rfl) (hf : Region.free md ops listed i = true := by kernel_rfl) (hr : (Region.ready md ops listed).contains i = true := by kernel_rfl)
    (hw : Region.wanted oi (yielded ops a.tmps) = false := by rfl) (hQ : ∀ c a w, Q (.panic c) (a.put (some s) undef) w → Q (.panic c) a w := by exact fun _ _ _ h => h) : wpAnyH P md ops Q S (fuel + 1) listed a w :=
  held_skip (some s) hi hd hs hf hr hQ hw hS h
end
theorem ite4_no {α : Type} {a b c d : Prop} [Decidable a] [Decidable b] [Decidable c] [Decidable d] (h : ¬ (a ∧ b ∧ c ∧ d)) (x y : α) : (if a then if b then if c then if d then x else y else y else y else y) = y := by
  by_cases h1 : a
  · by_cases h2 : b
    · by_cases h3 : c
      · rw [if_pos h1, if_pos h2, if_pos h3, if_neg (fun h4 => h ⟨h1, h2, h3, h4⟩)]
      · rw [if_pos h1, if_pos h2, if_neg h3]
    · rw [if_pos h1, if_neg h2]
  · rw [if_neg h1]
theorem ite4_yes {α : Type} {a b c d : Prop} [Decidable a] [Decidable b] [Decidable c] [Decidable d] (h : a ∧ b ∧ c ∧ d) (x y : α) : (if a then if b then if c then if d then x else y else y else y else y) = x := by
  rw [if_pos h.1, if_pos h.2.1, if_pos h.2.2.1, if_pos h.2.2.2]
set_option maxRecDepth 100000 in
set_option maxHeartbeats 4000000 in
theorem rchoose_any (id : Int) (ao : Option Addr) (n cap : Nat) (os : Nat → Of) (w : World) (hn : n ≤ 9223372036854775807) (hr : ORow w ao n cap os) :
    Calls Try.prog 19 #[.int .u64 id, .slice ao n cap] w fun e w' => e = .returned (.tuple #[.agg (vA (Vc.chV id os n)), .int .i64 (Vc.chA id os n), .int .i64 (Vc.chP id os n)]) ∧ Below w.heap.size w w' := by
  have HR : Hid (ORow w ao n cap os) := hr
  clear hr
  go_enter Try.func19, Try.ntmps19
  go_wp2_with fail
  go_loopw [7, 15] (fun a i wr => ∃ k : Nat, k ≤ n ∧ i = .int .i64 k ∧ a = .int .i64 (atTo id os k) ∧ Hid (wr.heap[w.heap.size]? = some (.cells (vA Vc.v0) 27 (0, 0)) ∧ wr.heap[w.heap.size + 1]? = some (.cells (vA (bestV id os k)) 27 (0, 0)) ∧ Below w.heap.size w wr)) (fun _ i _ => n - (intOf i).toNat)
  case atStart => exact ⟨0, by omega, rfl, rfl, heap_alloc2_old w _ _, heap_alloc2_new w _ _, below_alloc2 _ _ _⟩
  case round =>
    obtain ⟨k, hk, rfl, rfl, hX⟩ := hrel
    by_cases hlt : k < n
    · obtain ⟨b, off, rfl, hb⟩ := CRow.some HR.out (by omega)
      have hcap := HR.out.1
      have HRW : Hid (∀ W, Below w.heap.size w W → ORow W (some ⟨b, off, none⟩) n cap os) := fun W hW => CRow.other HR.out (fun q _ _ hq => hW.block q hq) hW.size
      obtain ⟨c0, c1, c2, c3, c4, c5, c6⟩ := ORow.cells (HRW.out wr hX.out.2.2) hlt
      have HOV : Hid (∀ (v : V) (c : Int) W, Calls Try.prog 12 #[.agg #[.int .u64 v.root, .int .i64 v.cost, .int .u64 v.bridge, .int .i64 v.port], .int .i64 c] W fun e w' => e = .returned (.tuple #[.agg (vA (Vc.overV v c)), .bool (decide (Vc.fitsOver v c))]) ∧ Below W.heap.size W w') := fun v c W => rover_any v c W
      have HNO : Hid (¬ Vc.may id (os k) → atTo id os (k + 1) = atTo id os k ∧ bestV id os (k + 1) = bestV id os k) := fun h => by
        unfold atTo bestV
        have e : Vc.chTo id os (k + 1) = Vc.chTo id os k := by simp only [Vc.chTo]; rw [if_neg h]
        rw [e]; exact ⟨rfl, rfl⟩
      have HFIRST : Hid (Vc.may id (os k) → Vc.chTo id os k = none → atTo id os (k + 1) = k ∧ bestV id os (k + 1) = (os k).v) := fun h h2 => by
        have e : Vc.chTo id os (k + 1) = some k := by simp only [Vc.chTo]; rw [if_pos h, h2]
        unfold atTo bestV
        rw [e]; exact ⟨rfl, rfl⟩
      have HTHEN : Hid (∀ j, Vc.may id (os k) → Vc.chTo id os k = some j → (Vc.ahead (os k) (os j) → atTo id os (k + 1) = k ∧ bestV id os (k + 1) = (os k).v) ∧ (¬ Vc.ahead (os k) (os j) → atTo id os (k + 1) = atTo id os k ∧ bestV id os (k + 1) = bestV id os k)) := fun j h h2 => by
        constructor
        · intro ha
          have e : Vc.chTo id os (k + 1) = some k := by simp only [Vc.chTo]; rw [if_pos h, h2]; simp only; rw [if_pos ha]
          unfold atTo bestV
          rw [e]; exact ⟨rfl, rfl⟩
        · intro ha
          have e : Vc.chTo id os (k + 1) = some j := by simp only [Vc.chTo]; rw [if_pos h, h2]; simp only; rw [if_neg ha]
          unfold atTo bestV
          rw [e, h2]; exact ⟨rfl, rfl⟩
      have HXX : Hid (wr.heap[w.heap.size]? = some (.cells (vA Vc.v0) 27 (0, 0)) ∧ wr.heap[w.heap.size + 1]? = some (.cells (vA (bestV id os k)) 27 (0, 0)) ∧ Below w.heap.size w wr) := hX
      have HLS : Hid (w.heap.size + 1 < wr.heap.size) := (Array.getElem?_eq_some_iff.1 hX.out.2.1).1
      have HJ : Hid (∀ j, Vc.chTo id os k = some j → j < k) := fun j h => (Vc.chTo_some id os k j h).1
      have HBV : Hid (∀ j, Vc.chTo id os k = some j → bestV id os k = (os j).v ∧ atTo id os k = (j : Int)) := fun j h => by unfold bestV atTo; rw [h]; exact ⟨rfl, rfl⟩
      have HBN : Hid (Vc.chTo id os k = none → atTo id os k = -1) := fun h => by unfold atTo; rw [h]
      have HMAY : Hid (Vc.may id (os k) ↔ Vc.fitsOver (os k).vec (os k).cost ∧ 0 ≤ (os k).port ∧ (0 ≤ (os k).age ∧ (os k).age < 20) ∧ (os k).vec.root < id) := Iff.rfl
      have HV : Hid ((os k).v = Vc.add (os k).vec (os k).cost) := rfl
      clear hX hb HR
      have HAH : Hid (∀ j, Vc.ahead (os k) (os j) ↔ Vc.lt (os k).v (os j).v ∨ ((os k).v = (os j).v ∧ (os k).port < (os j).port)) := fun j => Iff.rfl
      generalize hok : os k = o at *
      obtain ⟨op, oc, oa, ⟨vr, vc, vb, vp⟩⟩ := o
      simp only at c0 c1 c2 c3 c4 c5 c6
      have HOV2 : Hid (∀ W, Calls Try.prog 12 #[.agg #[.int .u64 vr, .int .i64 vc, .int .u64 vb, .int .i64 vp], .int .i64 oc] W fun e w' => e = .returned (.tuple #[.agg (vA (Vc.overV ⟨vr, vc, vb, vp⟩ oc)), .bool (decide (Vc.fitsOver ⟨vr, vc, vb, vp⟩ oc))]) ∧ Hid (Below W.heap.size W w')) := fun W => HOV.out ⟨vr, vc, vb, vp⟩ oc W
      clear HOV hok
      by_cases hf : Vc.fitsOver ⟨vr, vc, vb, vp⟩ oc
      · have HOVY : Hid (∀ W, Calls Try.prog 12 #[.agg #[.int .u64 vr, .int .i64 vc, .int .u64 vb, .int .i64 vp], .int .i64 oc] W fun e w' => e = .returned (.tuple #[.agg #[.int .u64 vr, .int .i64 (vc + oc), .int .u64 vb, .int .i64 vp], .bool true]) ∧ Hid (Below W.heap.size W w')) := fun W => by
          have e1 : Vc.overV ⟨vr, vc, vb, vp⟩ oc = ⟨vr, vc + oc, vb, vp⟩ := if_pos hf
          have := HOV2.out W
          rw [e1, decide_eq_true hf] at this
          exact this
        have HV2 : Hid ((⟨op, oc, oa, ⟨vr, vc, vb, vp⟩⟩ : Of).v = ⟨vr, vc + oc, vb, vp⟩) := rfl
        clear HOV2
        go_wp2_with fail
        refine (HOVY.out _).mono ?_
        rintro e w2 ⟨rfl, hb2⟩
        obtain ⟨X, HX⟩ : ∃ X, Hid (X = w2.alloc (.cells #[.int .u64 vr, .int .i64 (vc + oc), .int .u64 vb, .int .i64 vp] 27)) := ⟨_, rfl⟩
        have HXB : Hid (Below wr.heap.size wr X) := by
          rw [HX.out]
          have h := (below_alloc1 wr (.cells #[.int .i64 op, .int .i64 oc, .int .i64 oa, .int .u64 vr, .int .i64 vc, .int .u64 vb, .int .i64 vp] 42)).trans (hb2.out.mono (by simp))
          exact h.alloc h.size _
        have HXO : Hid (X.heap[wr.heap.size]? = some (.cells #[.int .i64 op, .int .i64 oc, .int .i64 oa, .int .u64 vr, .int .i64 vc, .int .u64 vb, .int .i64 vp] 42 (0, 0))) := by rw [HX.out]; exact keep (keep (heap_alloc_last wr _) hb2.out) (below_alloc1 _ _)
        have HXV : Hid (X.heap[w2.heap.size]? = some (.cells #[.int .u64 vr, .int .i64 (vc + oc), .int .u64 vb, .int .i64 vp] 27 (0, 0))) := by rw [HX.out]; exact heap_alloc_last _ _
        have HXR : Hid (X.heap[w.heap.size]? = some (.cells (vA Vc.v0) 27 (0, 0))) := keep HXX.out.1 HXB.out
        have HXG : Hid (X.heap[w.heap.size + 1]? = some (.cells (vA (bestV id os k)) 27 (0, 0))) := keep HXX.out.2.1 HXB.out
        have HXL : Hid (Below w.heap.size w X) := HXX.out.2.2.trans (HXB.out.mono HXX.out.2.2.size)
        have HKEEP : Hid (bestV id os (k + 1) = bestV id os k → (w2.alloc (.cells #[.int .u64 vr, .int .i64 (vc + oc), .int .u64 vb, .int .i64 vp] 27)).heap[w.heap.size]? = some (.cells (vA Vc.v0) 27 (0, 0)) ∧ (w2.alloc (.cells #[.int .u64 vr, .int .i64 (vc + oc), .int .u64 vb, .int .i64 vp] 27)).heap[w.heap.size + 1]? = some (.cells (vA (bestV id os (k + 1))) 27 (0, 0)) ∧ Below w.heap.size w (w2.alloc (.cells #[.int .u64 vr, .int .i64 (vc + oc), .int .u64 vb, .int .i64 vp] 27))) := fun h => by rw [← HX.out, h]; exact ⟨HXR.out, HXG.out, HXL.out⟩
        have HNE : Hid (w.heap.size + 1 ≠ w2.heap.size ∧ w.heap.size + 1 ≠ wr.heap.size) := by
          have h1 := HLS.out
          have h2 := hb2.out.size
          simp at h2
          exact ⟨by omega, by omega⟩
        obtain ⟨g0, g1, g2, g3, g4, g5, g6⟩ := of_cells HXO.out
        obtain ⟨x0, x1, x2, x3⟩ := vc_cells HXV.out
        have G0 : Hid (X.cell? ⟨wr.heap.size, 0, none⟩ = some (.int .i64 op)) := g0
        rw [HX.out] at g0 g2 x0
        clear g1 g3 g4 g5 g6 x1 x2 x3 hb2
        by_cases q1 : op < 0
        · obtain ⟨z1, z2⟩ := HNO.out (fun q => by have := (HMAY.out.1 q).2.1; omega)
          have HFN : Hid _ := HKEEP.out z2
          rw [← z1]
          clear z1 z2 HNO
          go_wp2_with fail
          exact ⟨⟨k + 1, by omega, by go_num, rfl, HFN⟩, by simp [intOf]; omega⟩
        · by_cases q2 : oa < 0
          · obtain ⟨z1, z2⟩ := HNO.out (fun q => by have := (HMAY.out.1 q).2.2.1.1; omega)
            have HFN : Hid _ := HKEEP.out z2
            rw [← z1]
            clear z1 z2 HNO
            go_wp2_with fail
            exact ⟨⟨k + 1, by omega, by go_num, rfl, HFN⟩, by simp [intOf]; omega⟩
          · by_cases q3 : 20 ≤ oa
            · obtain ⟨z1, z2⟩ := HNO.out (fun q => by have := (HMAY.out.1 q).2.2.1.2; omega)
              have HFN : Hid _ := HKEEP.out z2
              rw [← z1]
              clear z1 z2 HNO
              go_wp2_with fail
              exact ⟨⟨k + 1, by omega, by go_num, rfl, HFN⟩, by simp [intOf]; omega⟩
            · by_cases q4 : id ≤ vr
              · obtain ⟨z1, z2⟩ := HNO.out (fun q => by have := (HMAY.out.1 q).2.2.2; omega)
                have HFN : Hid _ := HKEEP.out z2
                rw [← z1]
                clear z1 z2 HNO
                go_wp2_with fail
                exact ⟨⟨k + 1, by omega, by go_num, rfl, HFN⟩, by simp [intOf]; omega⟩
              · have hmay : Vc.may id ⟨op, oc, oa, ⟨vr, vc, vb, vp⟩⟩ := HMAY.out.2 ⟨hf, by omega, ⟨by omega, by omega⟩, by omega⟩
                clear HNO HKEEP
                have HST : Hid (∀ W, Below X.heap.size X W → bestV id os (k + 1) = ⟨vr, vc + oc, vb, vp⟩ → ((((W.setCell ⟨w.heap.size + 1, 0, none⟩ (.int .u64 vr)).setCell ⟨w.heap.size + 1, 1, none⟩ (.int .i64 (vc + oc))).setCell ⟨w.heap.size + 1, 2, none⟩ (.int .u64 vb)).setCell ⟨w.heap.size + 1, 3, none⟩ (.int .i64 vp)).heap[w.heap.size]? = some (.cells (vA Vc.v0) 27 (0, 0)) ∧ ((((W.setCell ⟨w.heap.size + 1, 0, none⟩ (.int .u64 vr)).setCell ⟨w.heap.size + 1, 1, none⟩ (.int .i64 (vc + oc))).setCell ⟨w.heap.size + 1, 2, none⟩ (.int .u64 vb)).setCell ⟨w.heap.size + 1, 3, none⟩ (.int .i64 vp)).heap[w.heap.size + 1]? = some (.cells (vA (bestV id os (k + 1))) 27 (0, 0)) ∧ Below w.heap.size w ((((W.setCell ⟨w.heap.size + 1, 0, none⟩ (.int .u64 vr)).setCell ⟨w.heap.size + 1, 1, none⟩ (.int .i64 (vc + oc))).setCell ⟨w.heap.size + 1, 2, none⟩ (.int .u64 vb)).setCell ⟨w.heap.size + 1, 3, none⟩ (.int .i64 vp))) := fun W hW h => by
                  rw [h]
                  have hl := HXL.out.trans (hW.mono HXL.out.size)
                  have hle : w.heap.size ≤ w.heap.size + 1 := by omega
                  exact ⟨(set4_other (by omega)).trans (keep HXR.out hW), vc_set4 (keep HXG.out hW), (((hl.setCell hle _).setCell hle _).setCell hle _).setCell hle _⟩
                have HKP : Hid (∀ W, Below X.heap.size X W → bestV id os (k + 1) = bestV id os k → W.heap[w.heap.size]? = some (.cells (vA Vc.v0) 27 (0, 0)) ∧ W.heap[w.heap.size + 1]? = some (.cells (vA (bestV id os (k + 1))) 27 (0, 0)) ∧ Below w.heap.size w W) := fun W hW h => by rw [h]; exact ⟨keep HXR.out hW, keep HXG.out hW, HXL.out.trans (hW.mono HXL.out.size)⟩
                have HVC : Hid (∀ W, Below X.heap.size X W → (W.cell? ⟨w2.heap.size, 0, none⟩ = some (.int .u64 vr) ∧ W.cell? ⟨w2.heap.size, 1, none⟩ = some (.int .i64 (vc + oc)) ∧ W.cell? ⟨w2.heap.size, 2, none⟩ = some (.int .u64 vb) ∧ W.cell? ⟨w2.heap.size, 3, none⟩ = some (.int .i64 vp))) := fun W hW => vc_cells (keep HXV.out hW)
                have HGC : Hid (∀ W, Below X.heap.size X W → (W.cell? ⟨w.heap.size + 1, 0, none⟩ = some (.int .u64 (bestV id os k).root) ∧ W.cell? ⟨w.heap.size + 1, 1, none⟩ = some (.int .i64 (bestV id os k).cost) ∧ W.cell? ⟨w.heap.size + 1, 2, none⟩ = some (.int .u64 (bestV id os k).bridge) ∧ W.cell? ⟨w.heap.size + 1, 3, none⟩ = some (.int .i64 (bestV id os k).port)) ∧ W.frozen? ⟨w.heap.size + 1, 0, none⟩ = false ∧ W.frozen? ⟨w.heap.size + 1, 1, none⟩ = false ∧ W.frozen? ⟨w.heap.size + 1, 2, none⟩ = false ∧ W.frozen? ⟨w.heap.size + 1, 3, none⟩ = false) := fun W hW => ⟨vc_cells (keep HXG.out hW), vc_free (keep HXG.out hW)⟩
                have hne1 := HNE.out.1
                have hne2 := HNE.out.2
                have hne3 : w2.heap.size ≠ w.heap.size + 1 := fun e => hne1 e.symm
                cases hc : Vc.chTo id os k with
                | none =>
                  obtain ⟨z1, z2⟩ := HFIRST.out hmay hc
                  rw [HV2.out] at z2
                  have hat := HBN.out hc
                  rw [hat]
                  clear hat hc hmay HFIRST HTHEN HJ HBV HBN HMAY HV HAH hf
                  have HQ : Hid (∀ q, Below X.heap.size X (X.drewN q)) := fun q => below_drewN (Below.refl _ _) q
                  obtain ⟨y0, y1, y2, y3⟩ := HVC.out X (Below.refl _ _)
                  obtain ⟨⟨b0, b1, b2, b3⟩, f0, f1, f2, f3⟩ := HGC.out X (Below.refl _ _)
                  go_wp2_with fail
                  rw [← HX.out]
                  go_quiet (fail)
                  go_wp2_with fail
                  exact ⟨⟨k + 1, by omega, by go_num, by rw [z1], HST.out _ (HQ.out _) z2⟩, by simp [intOf]; omega⟩
                | some j =>
                  obtain ⟨hbv, hat⟩ := HBV.out j hc
                  have hjk := HJ.out j hc
                  obtain ⟨hw, hl⟩ := HTHEN.out j hmay hc
                  have HWON : Hid (Vc.lt ⟨vr, vc + oc, vb, vp⟩ (bestV id os k) ∨ ((⟨vr, vc + oc, vb, vp⟩ : V) = bestV id os k ∧ op < (os j).port) → atTo id os (k + 1) = k ∧ bestV id os (k + 1) = ⟨vr, vc + oc, vb, vp⟩) := fun h => by rw [hbv] at h; exact hw ((HAH.out j).2 h)
                  have HLOST : Hid (¬ (Vc.lt ⟨vr, vc + oc, vb, vp⟩ (bestV id os k) ∨ ((⟨vr, vc + oc, vb, vp⟩ : V) = bestV id os k ∧ op < (os j).port)) → atTo id os (k + 1) = atTo id os k ∧ bestV id os (k + 1) = bestV id os k) := fun h => by rw [hbv] at h; exact hl (fun q => h ((HAH.out j).1 q))
                  have HPJ : Hid (∀ W, Below X.heap.size X W → W.cell? ⟨b, off + j * 7, none⟩ = some (.int .i64 (os j).port)) := fun W hW => (ORow.cells (HRW.out W (HXL.out.trans (hW.mono HXL.out.size))) (show j < n by omega)).1
                  have HOC : Hid (∀ W, Below X.heap.size X W → W.cell? ⟨wr.heap.size, 0, none⟩ = some (.int .i64 op)) := fun W hW => (of_cells (keep HXO.out hW)).1
                  have HBT : Hid (∀ W, Calls Try.prog 13 #[.agg #[.int .u64 vr, .int .i64 (vc + oc), .int .u64 vb, .int .i64 vp], .agg #[.int .u64 (bestV id os k).root, .int .i64 (bestV id os k).cost, .int .u64 (bestV id os k).bridge, .int .i64 (bestV id os k).port]] W fun e w' => e = .returned (.bool (decide (Vc.lt ⟨vr, vc + oc, vb, vp⟩ (bestV id os k)))) ∧ Below W.heap.size W w') := fun W => rbetter_any ⟨vr, vc + oc, vb, vp⟩ (bestV id os k) W
                  rw [hat]
                  rw [hat] at HLOST
                  have ij : (0 : Int) ≤ (j : Int) := by omega
                  have jn : (j : Int) < (n : Int) := by omega
                  clear hat hbv hw hl hc hmay HFIRST HTHEN HJ HBV HBN HMAY HV HAH hf HRW HXX HLS
                  generalize bestV id os k = B at *
                  have HSX : Hid (∀ W, Below X.heap.size X W → (W.cell? ⟨w2.heap.size, 0, none⟩ = some (.int .u64 vr) ∧ W.cell? ⟨w2.heap.size, 1, none⟩ = some (.int .i64 (vc + oc)) ∧ W.cell? ⟨w2.heap.size, 2, none⟩ = some (.int .u64 vb) ∧ W.cell? ⟨w2.heap.size, 3, none⟩ = some (.int .i64 vp)) ∧ (W.cell? ⟨w.heap.size + 1, 0, none⟩ = some (.int .u64 B.root) ∧ W.cell? ⟨w.heap.size + 1, 1, none⟩ = some (.int .i64 B.cost) ∧ W.cell? ⟨w.heap.size + 1, 2, none⟩ = some (.int .u64 B.bridge) ∧ W.cell? ⟨w.heap.size + 1, 3, none⟩ = some (.int .i64 B.port)) ∧ W.cell? ⟨wr.heap.size, 0, none⟩ = some (.int .i64 op) ∧ W.cell? ⟨b, off + j * 7, none⟩ = some (.int .i64 (os j).port)) := fun W hW => ⟨HVC.out W hW, (HGC.out W hW).1, HOC.out W hW, HPJ.out W hW⟩
                  clear HOC HPJ HXO HXV HXR HXG HXB G0
                  by_cases p1 : Vc.lt ⟨vr, vc + oc, vb, vp⟩ B
                  · obtain ⟨z1, z2⟩ := HWON.out (Or.inl p1)
                    rw [decide_eq_true p1] at HBT
                    clear HWON HLOST p1
                    go_wp2_with fail
                    rw [← HX.out]
                    refine wp_region_held_drew (S := fun W => (W.cell? ⟨w2.heap.size, 0, none⟩ = some (.int .u64 vr) ∧ W.cell? ⟨w2.heap.size, 1, none⟩ = some (.int .i64 (vc + oc)) ∧ W.cell? ⟨w2.heap.size, 2, none⟩ = some (.int .u64 vb) ∧ W.cell? ⟨w2.heap.size, 3, none⟩ = some (.int .i64 vp)) ∧ (W.cell? ⟨w.heap.size + 1, 0, none⟩ = some (.int .u64 B.root) ∧ W.cell? ⟨w.heap.size + 1, 1, none⟩ = some (.int .i64 B.cost) ∧ W.cell? ⟨w.heap.size + 1, 2, none⟩ = some (.int .u64 B.bridge) ∧ W.cell? ⟨w.heap.size + 1, 3, none⟩ = some (.int .i64 B.port)) ∧ W.cell? ⟨wr.heap.size, 0, none⟩ = some (.int .i64 op) ∧ W.cell? ⟨b, off + j * 7, none⟩ = some (.int .i64 (os j).port)) (by kernel_rfl) (HSX.out _ (Below.refl _ X).drew) (fun hHeld => ?_)
                    refine heldT 0 51 hHeld ?_
                    simp only [Act.put, List.setIfInBounds_toArray, List.set_cons_zero, List.set_cons_succ]
                    refine heldT 1 52 hHeld ?_
                    simp only [Act.put, List.setIfInBounds_toArray, List.set_cons_zero, List.set_cons_succ]
                    refine heldT 2 53 hHeld ?_
                    simp only [Act.put, List.setIfInBounds_toArray, List.set_cons_zero, List.set_cons_succ]
                    refine heldT 3 54 hHeld ?_
                    simp only [Act.put, List.setIfInBounds_toArray, List.set_cons_zero, List.set_cons_succ]
                    refine heldT 4 55 hHeld ?_
                    simp only [Act.put, List.setIfInBounds_toArray, List.set_cons_zero, List.set_cons_succ]
                    refine wpAnyH_ready (rs := [5]) (by kernel_rfl) (by simp) ?_
                    refine AllReadyH.cons rfl (fun K hK => ?_) AllReadyH.nil
                    go_simp
                    refine (HBT.out _).mono ?_
                    rintro e wa ⟨rfl, hba⟩
                    have HWA : Hid (Below X.heap.size X wa) := (Below.refl _ X).drew.trans hba
                    clear hba
                    go_wp2_with fail
                    refine hK.out _ _ (HSX.out _ HWA.out) (fun hHeld => ?_)
                    clear hK K
                    refine heldT 6 57 hHeld ?_
                    simp only [Act.put, List.setIfInBounds_toArray, List.set_cons_zero, List.set_cons_succ]
                    refine heldT 7 58 hHeld ?_
                    simp only [Act.put, List.setIfInBounds_toArray, List.set_cons_zero, List.set_cons_succ]
                    refine heldS 8 59 hHeld ?_
                    simp only [Act.put, List.setIfInBounds_toArray, List.set_cons_zero, List.set_cons_succ]
                    refine heldS 9 60 hHeld ?_
                    simp only [Act.put, List.setIfInBounds_toArray, List.set_cons_zero, List.set_cons_succ]
                    refine heldS 10 61 hHeld ?_
                    simp only [Act.put, List.setIfInBounds_toArray, List.set_cons_zero, List.set_cons_succ]
                    refine heldS 11 62 hHeld ?_
                    simp only [Act.put, List.setIfInBounds_toArray, List.set_cons_zero, List.set_cons_succ]
                    refine heldS 12 63 hHeld ?_
                    simp only [Act.put, List.setIfInBounds_toArray, List.set_cons_zero, List.set_cons_succ]
                    refine heldS 13 64 hHeld ?_
                    simp only [Act.put, List.setIfInBounds_toArray, List.set_cons_zero, List.set_cons_succ]
                    refine heldS 14 65 hHeld ?_
                    simp only [Act.put, List.setIfInBounds_toArray, List.set_cons_zero, List.set_cons_succ]
                    refine heldS 15 66 hHeld ?_
                    simp only [Act.put, List.setIfInBounds_toArray, List.set_cons_zero, List.set_cons_succ]
                    refine heldS 16 67 hHeld ?_
                    simp only [Act.put, List.setIfInBounds_toArray, List.set_cons_zero, List.set_cons_succ]
                    refine heldS 17 68 hHeld ?_
                    simp only [Act.put, List.setIfInBounds_toArray, List.set_cons_zero, List.set_cons_succ]
                    refine heldS 18 69 hHeld ?_
                    simp only [Act.put, List.setIfInBounds_toArray, List.set_cons_zero, List.set_cons_succ]
                    refine heldS 19 70 hHeld ?_
                    simp only [Act.put, List.setIfInBounds_toArray, List.set_cons_zero, List.set_cons_succ]
                    refine heldS 20 71 hHeld ?_
                    simp only [Act.put, List.setIfInBounds_toArray, List.set_cons_zero, List.set_cons_succ]
                    refine heldT 21 72 hHeld ?_
                    simp only [Act.put, List.setIfInBounds_toArray, List.set_cons_zero, List.set_cons_succ]
                    refine wpAnyH_done (by kernel_rfl) ?_ _
                    obtain ⟨⟨b0, b1, b2, b3⟩, f0, f1, f2, f3⟩ := HGC.out wa HWA.out
                    obtain ⟨y0, y1, y2, y3⟩ := HVC.out wa HWA.out
                    go_wp2_with fail
                    exact ⟨⟨k + 1, by omega, by go_num, by rw [z1], HST.out _ HWA.out z2⟩, by simp [intOf]; omega⟩
                  · rw [decide_eq_false p1] at HBT
                    by_cases hB : vr = B.root ∧ vc + oc = B.cost ∧ vb = B.bridge ∧ vp = B.port
                    · have p2 : (⟨vr, vc + oc, vb, vp⟩ : V) = B := Vc.V.eq hB.1 hB.2.1 hB.2.2.1 hB.2.2.2
                      have HBQ : Hid (vr = B.root ∧ vc + oc = B.cost ∧ vb = B.bridge ∧ vp = B.port) := hB
                      clear hB
                      by_cases p3 : op < (os j).port
                      · obtain ⟨z1, z2⟩ := HWON.out (Or.inr ⟨p2, p3⟩)
                        clear HWON HLOST p1 p2
                        go_wp2_with fail
                        rw [← HX.out]
                        refine wp_region_held_drew (S := fun W => (W.cell? ⟨w2.heap.size, 0, none⟩ = some (.int .u64 vr) ∧ W.cell? ⟨w2.heap.size, 1, none⟩ = some (.int .i64 (vc + oc)) ∧ W.cell? ⟨w2.heap.size, 2, none⟩ = some (.int .u64 vb) ∧ W.cell? ⟨w2.heap.size, 3, none⟩ = some (.int .i64 vp)) ∧ (W.cell? ⟨w.heap.size + 1, 0, none⟩ = some (.int .u64 B.root) ∧ W.cell? ⟨w.heap.size + 1, 1, none⟩ = some (.int .i64 B.cost) ∧ W.cell? ⟨w.heap.size + 1, 2, none⟩ = some (.int .u64 B.bridge) ∧ W.cell? ⟨w.heap.size + 1, 3, none⟩ = some (.int .i64 B.port)) ∧ W.cell? ⟨wr.heap.size, 0, none⟩ = some (.int .i64 op) ∧ W.cell? ⟨b, off + j * 7, none⟩ = some (.int .i64 (os j).port)) (by kernel_rfl) (HSX.out _ (Below.refl _ X).drew) (fun hHeld => ?_)
                        refine heldT 0 51 hHeld ?_
                        simp only [Act.put, List.setIfInBounds_toArray, List.set_cons_zero, List.set_cons_succ]
                        refine heldT 1 52 hHeld ?_
                        simp only [Act.put, List.setIfInBounds_toArray, List.set_cons_zero, List.set_cons_succ]
                        refine heldT 2 53 hHeld ?_
                        simp only [Act.put, List.setIfInBounds_toArray, List.set_cons_zero, List.set_cons_succ]
                        refine heldT 3 54 hHeld ?_
                        simp only [Act.put, List.setIfInBounds_toArray, List.set_cons_zero, List.set_cons_succ]
                        refine heldT 4 55 hHeld ?_
                        simp only [Act.put, List.setIfInBounds_toArray, List.set_cons_zero, List.set_cons_succ]
                        refine wpAnyH_ready (rs := [5]) (by kernel_rfl) (by simp) ?_
                        refine AllReadyH.cons rfl (fun K hK => ?_) AllReadyH.nil
                        go_simp
                        refine (HBT.out _).mono ?_
                        rintro e wa ⟨rfl, hba⟩
                        have HWA : Hid (Below X.heap.size X wa) := (Below.refl _ X).drew.trans hba
                        clear hba
                        go_wp2_with fail
                        refine hK.out _ _ (HSX.out _ HWA.out) (fun hHeld => ?_)
                        clear hK K
                        refine heldT 6 57 hHeld ?_
                        simp only [Act.put, List.setIfInBounds_toArray, List.set_cons_zero, List.set_cons_succ]
                        refine heldT 7 58 hHeld ?_
                        simp only [Act.put, List.setIfInBounds_toArray, List.set_cons_zero, List.set_cons_succ]
                        refine heldT 8 59 hHeld ?_
                        simp only [Act.put, List.setIfInBounds_toArray, List.set_cons_zero, List.set_cons_succ]
                        refine heldT 9 60 hHeld ?_
                        simp only [Act.put, List.setIfInBounds_toArray, List.set_cons_zero, List.set_cons_succ]
                        refine held_take (i := 10) (v := ?_) (some 61) rfl rfl (by kernel_rfl) (by kernel_rfl) (by kernel_rfl) (fun _ _ _ h => h) (by rfl) ?_ hHeld ?_
                        rotate_left 1
                        · (intro wq hSw; go_simp; exact ite4_yes HBQ.out _ _)
                        simp only [Act.put, List.setIfInBounds_toArray, List.set_cons_zero, List.set_cons_succ]
                        refine heldT 11 62 hHeld ?_
                        simp only [Act.put, List.setIfInBounds_toArray, List.set_cons_zero, List.set_cons_succ]
                        refine heldT 12 63 hHeld ?_
                        simp only [Act.put, List.setIfInBounds_toArray, List.set_cons_zero, List.set_cons_succ]
                        refine heldT 13 64 hHeld ?_
                        simp only [Act.put, List.setIfInBounds_toArray, List.set_cons_zero, List.set_cons_succ]
                        refine heldT 14 65 hHeld ?_
                        simp only [Act.put, List.setIfInBounds_toArray, List.set_cons_zero, List.set_cons_succ]
                        refine heldT 15 66 hHeld ?_
                        simp only [Act.put, List.setIfInBounds_toArray, List.set_cons_zero, List.set_cons_succ]
                        refine heldT 16 67 hHeld ?_
                        simp only [Act.put, List.setIfInBounds_toArray, List.set_cons_zero, List.set_cons_succ]
                        refine heldT 17 68 hHeld ?_
                        simp only [Act.put, List.setIfInBounds_toArray, List.set_cons_zero, List.set_cons_succ]
                        refine heldT 18 69 hHeld ?_
                        simp only [Act.put, List.setIfInBounds_toArray, List.set_cons_zero, List.set_cons_succ]
                        refine heldT 19 70 hHeld ?_
                        simp only [Act.put, List.setIfInBounds_toArray, List.set_cons_zero, List.set_cons_succ]
                        refine heldT 20 71 hHeld ?_
                        simp only [Act.put, List.setIfInBounds_toArray, List.set_cons_zero, List.set_cons_succ]
                        refine heldT 21 72 hHeld ?_
                        simp only [Act.put, List.setIfInBounds_toArray, List.set_cons_zero, List.set_cons_succ]
                        refine wpAnyH_done (by kernel_rfl) ?_ _
                        obtain ⟨⟨b0, b1, b2, b3⟩, f0, f1, f2, f3⟩ := HGC.out wa HWA.out
                        obtain ⟨y0, y1, y2, y3⟩ := HVC.out wa HWA.out
                        go_wp2_with fail
                        exact ⟨⟨k + 1, by omega, by go_num, by rw [z1], HST.out _ HWA.out z2⟩, by simp [intOf]; omega⟩
                      · obtain ⟨z1, z2⟩ := HLOST.out (fun q => q.elim p1 (fun r => p3 r.2))
                        clear HWON HLOST p1 p2
                        go_wp2_with fail
                        rw [← HX.out]
                        refine wp_region_held_drew (S := fun W => (W.cell? ⟨w2.heap.size, 0, none⟩ = some (.int .u64 vr) ∧ W.cell? ⟨w2.heap.size, 1, none⟩ = some (.int .i64 (vc + oc)) ∧ W.cell? ⟨w2.heap.size, 2, none⟩ = some (.int .u64 vb) ∧ W.cell? ⟨w2.heap.size, 3, none⟩ = some (.int .i64 vp)) ∧ (W.cell? ⟨w.heap.size + 1, 0, none⟩ = some (.int .u64 B.root) ∧ W.cell? ⟨w.heap.size + 1, 1, none⟩ = some (.int .i64 B.cost) ∧ W.cell? ⟨w.heap.size + 1, 2, none⟩ = some (.int .u64 B.bridge) ∧ W.cell? ⟨w.heap.size + 1, 3, none⟩ = some (.int .i64 B.port)) ∧ W.cell? ⟨wr.heap.size, 0, none⟩ = some (.int .i64 op) ∧ W.cell? ⟨b, off + j * 7, none⟩ = some (.int .i64 (os j).port)) (by kernel_rfl) (HSX.out _ (Below.refl _ X).drew) (fun hHeld => ?_)
                        refine heldT 0 51 hHeld ?_
                        simp only [Act.put, List.setIfInBounds_toArray, List.set_cons_zero, List.set_cons_succ]
                        refine heldT 1 52 hHeld ?_
                        simp only [Act.put, List.setIfInBounds_toArray, List.set_cons_zero, List.set_cons_succ]
                        refine heldT 2 53 hHeld ?_
                        simp only [Act.put, List.setIfInBounds_toArray, List.set_cons_zero, List.set_cons_succ]
                        refine heldT 3 54 hHeld ?_
                        simp only [Act.put, List.setIfInBounds_toArray, List.set_cons_zero, List.set_cons_succ]
                        refine heldT 4 55 hHeld ?_
                        simp only [Act.put, List.setIfInBounds_toArray, List.set_cons_zero, List.set_cons_succ]
                        refine wpAnyH_ready (rs := [5]) (by kernel_rfl) (by simp) ?_
                        refine AllReadyH.cons rfl (fun K hK => ?_) AllReadyH.nil
                        go_simp
                        refine (HBT.out _).mono ?_
                        rintro e wa ⟨rfl, hba⟩
                        have HWA : Hid (Below X.heap.size X wa) := (Below.refl _ X).drew.trans hba
                        clear hba
                        go_wp2_with fail
                        refine hK.out _ _ (HSX.out _ HWA.out) (fun hHeld => ?_)
                        clear hK K
                        refine heldT 6 57 hHeld ?_
                        simp only [Act.put, List.setIfInBounds_toArray, List.set_cons_zero, List.set_cons_succ]
                        refine heldT 7 58 hHeld ?_
                        simp only [Act.put, List.setIfInBounds_toArray, List.set_cons_zero, List.set_cons_succ]
                        refine heldT 8 59 hHeld ?_
                        simp only [Act.put, List.setIfInBounds_toArray, List.set_cons_zero, List.set_cons_succ]
                        refine heldT 9 60 hHeld ?_
                        simp only [Act.put, List.setIfInBounds_toArray, List.set_cons_zero, List.set_cons_succ]
                        refine held_take (i := 10) (v := ?_) (some 61) rfl rfl (by kernel_rfl) (by kernel_rfl) (by kernel_rfl) (fun _ _ _ h => h) (by rfl) ?_ hHeld ?_
                        rotate_left 1
                        · (intro wq hSw; go_simp; exact ite4_yes HBQ.out _ _)
                        simp only [Act.put, List.setIfInBounds_toArray, List.set_cons_zero, List.set_cons_succ]
                        refine heldT 11 62 hHeld ?_
                        simp only [Act.put, List.setIfInBounds_toArray, List.set_cons_zero, List.set_cons_succ]
                        refine heldT 12 63 hHeld ?_
                        simp only [Act.put, List.setIfInBounds_toArray, List.set_cons_zero, List.set_cons_succ]
                        refine heldT 13 64 hHeld ?_
                        simp only [Act.put, List.setIfInBounds_toArray, List.set_cons_zero, List.set_cons_succ]
                        refine heldT 14 65 hHeld ?_
                        simp only [Act.put, List.setIfInBounds_toArray, List.set_cons_zero, List.set_cons_succ]
                        refine heldT 15 66 hHeld ?_
                        simp only [Act.put, List.setIfInBounds_toArray, List.set_cons_zero, List.set_cons_succ]
                        refine heldT 16 67 hHeld ?_
                        simp only [Act.put, List.setIfInBounds_toArray, List.set_cons_zero, List.set_cons_succ]
                        refine heldT 17 68 hHeld ?_
                        simp only [Act.put, List.setIfInBounds_toArray, List.set_cons_zero, List.set_cons_succ]
                        refine heldT 18 69 hHeld ?_
                        simp only [Act.put, List.setIfInBounds_toArray, List.set_cons_zero, List.set_cons_succ]
                        refine heldT 19 70 hHeld ?_
                        simp only [Act.put, List.setIfInBounds_toArray, List.set_cons_zero, List.set_cons_succ]
                        refine heldT 20 71 hHeld ?_
                        simp only [Act.put, List.setIfInBounds_toArray, List.set_cons_zero, List.set_cons_succ]
                        refine heldT 21 72 hHeld ?_
                        simp only [Act.put, List.setIfInBounds_toArray, List.set_cons_zero, List.set_cons_succ]
                        refine wpAnyH_done (by kernel_rfl) ?_ _
                        obtain ⟨⟨b0, b1, b2, b3⟩, f0, f1, f2, f3⟩ := HGC.out wa HWA.out
                        obtain ⟨y0, y1, y2, y3⟩ := HVC.out wa HWA.out
                        rw [← z1]
                        go_wp2_with fail
                        exact ⟨⟨k + 1, by omega, by go_num, rfl, HKP.out _ HWA.out z2⟩, by simp [intOf]; omega⟩
                    · obtain ⟨z1, z2⟩ := HLOST.out (fun q => q.elim p1 (fun r => hB (Vc.V.eq_iff.1 r.1)))
                      have HBQ : Hid (¬ (vr = B.root ∧ vc + oc = B.cost ∧ vb = B.bridge ∧ vp = B.port)) := hB
                      clear HWON HLOST p1 hB
                      go_wp2_with fail
                      rw [← HX.out]
                      refine wp_region_held_drew (S := fun W => (W.cell? ⟨w2.heap.size, 0, none⟩ = some (.int .u64 vr) ∧ W.cell? ⟨w2.heap.size, 1, none⟩ = some (.int .i64 (vc + oc)) ∧ W.cell? ⟨w2.heap.size, 2, none⟩ = some (.int .u64 vb) ∧ W.cell? ⟨w2.heap.size, 3, none⟩ = some (.int .i64 vp)) ∧ (W.cell? ⟨w.heap.size + 1, 0, none⟩ = some (.int .u64 B.root) ∧ W.cell? ⟨w.heap.size + 1, 1, none⟩ = some (.int .i64 B.cost) ∧ W.cell? ⟨w.heap.size + 1, 2, none⟩ = some (.int .u64 B.bridge) ∧ W.cell? ⟨w.heap.size + 1, 3, none⟩ = some (.int .i64 B.port)) ∧ W.cell? ⟨wr.heap.size, 0, none⟩ = some (.int .i64 op) ∧ W.cell? ⟨b, off + j * 7, none⟩ = some (.int .i64 (os j).port)) (by kernel_rfl) (HSX.out _ (Below.refl _ X).drew) (fun hHeld => ?_)
                      refine heldT 0 51 hHeld ?_
                      simp only [Act.put, List.setIfInBounds_toArray, List.set_cons_zero, List.set_cons_succ]
                      refine heldT 1 52 hHeld ?_
                      simp only [Act.put, List.setIfInBounds_toArray, List.set_cons_zero, List.set_cons_succ]
                      refine heldT 2 53 hHeld ?_
                      simp only [Act.put, List.setIfInBounds_toArray, List.set_cons_zero, List.set_cons_succ]
                      refine heldT 3 54 hHeld ?_
                      simp only [Act.put, List.setIfInBounds_toArray, List.set_cons_zero, List.set_cons_succ]
                      refine heldT 4 55 hHeld ?_
                      simp only [Act.put, List.setIfInBounds_toArray, List.set_cons_zero, List.set_cons_succ]
                      refine wpAnyH_ready (rs := [5]) (by kernel_rfl) (by simp) ?_
                      refine AllReadyH.cons rfl (fun K hK => ?_) AllReadyH.nil
                      go_simp
                      refine (HBT.out _).mono ?_
                      rintro e wa ⟨rfl, hba⟩
                      have HWA : Hid (Below X.heap.size X wa) := (Below.refl _ X).drew.trans hba
                      clear hba
                      go_wp2_with fail
                      refine hK.out _ _ (HSX.out _ HWA.out) (fun hHeld => ?_)
                      clear hK K
                      refine heldT 6 57 hHeld ?_
                      simp only [Act.put, List.setIfInBounds_toArray, List.set_cons_zero, List.set_cons_succ]
                      refine heldT 7 58 hHeld ?_
                      simp only [Act.put, List.setIfInBounds_toArray, List.set_cons_zero, List.set_cons_succ]
                      refine heldT 8 59 hHeld ?_
                      simp only [Act.put, List.setIfInBounds_toArray, List.set_cons_zero, List.set_cons_succ]
                      refine heldT 9 60 hHeld ?_
                      simp only [Act.put, List.setIfInBounds_toArray, List.set_cons_zero, List.set_cons_succ]
                      refine held_take (i := 10) (v := ?_) (some 61) rfl rfl (by kernel_rfl) (by kernel_rfl) (by kernel_rfl) (fun _ _ _ h => h) (by rfl) ?_ hHeld ?_
                      rotate_left 1
                      · (intro wq hSw; go_simp; exact ite4_no HBQ.out _ _)
                      simp only [Act.put, List.setIfInBounds_toArray, List.set_cons_zero, List.set_cons_succ]
                      refine heldT 11 62 hHeld ?_
                      simp only [Act.put, List.setIfInBounds_toArray, List.set_cons_zero, List.set_cons_succ]
                      refine heldS 12 63 hHeld ?_
                      simp only [Act.put, List.setIfInBounds_toArray, List.set_cons_zero, List.set_cons_succ]
                      refine heldS 13 64 hHeld ?_
                      simp only [Act.put, List.setIfInBounds_toArray, List.set_cons_zero, List.set_cons_succ]
                      refine heldS 14 65 hHeld ?_
                      simp only [Act.put, List.setIfInBounds_toArray, List.set_cons_zero, List.set_cons_succ]
                      refine heldS 15 66 hHeld ?_
                      simp only [Act.put, List.setIfInBounds_toArray, List.set_cons_zero, List.set_cons_succ]
                      refine heldS 16 67 hHeld ?_
                      simp only [Act.put, List.setIfInBounds_toArray, List.set_cons_zero, List.set_cons_succ]
                      refine heldS 17 68 hHeld ?_
                      simp only [Act.put, List.setIfInBounds_toArray, List.set_cons_zero, List.set_cons_succ]
                      refine heldS 18 69 hHeld ?_
                      simp only [Act.put, List.setIfInBounds_toArray, List.set_cons_zero, List.set_cons_succ]
                      refine heldS 19 70 hHeld ?_
                      simp only [Act.put, List.setIfInBounds_toArray, List.set_cons_zero, List.set_cons_succ]
                      refine heldT 20 71 hHeld ?_
                      simp only [Act.put, List.setIfInBounds_toArray, List.set_cons_zero, List.set_cons_succ]
                      refine heldT 21 72 hHeld ?_
                      simp only [Act.put, List.setIfInBounds_toArray, List.set_cons_zero, List.set_cons_succ]
                      refine wpAnyH_done (by kernel_rfl) ?_ _
                      obtain ⟨⟨b0, b1, b2, b3⟩, f0, f1, f2, f3⟩ := HGC.out wa HWA.out
                      obtain ⟨y0, y1, y2, y3⟩ := HVC.out wa HWA.out
                      rw [← z1]
                      go_wp2_with fail
                      exact ⟨⟨k + 1, by omega, by go_num, rfl, HKP.out _ HWA.out z2⟩, by simp [intOf]; omega⟩
      · have HOVN : Hid (∀ W, Calls Try.prog 12 #[.agg #[.int .u64 vr, .int .i64 vc, .int .u64 vb, .int .i64 vp], .int .i64 oc] W fun e w' => e = .returned (.tuple #[.agg #[.int .u64 0, .int .i64 0, .int .u64 0, .int .i64 0], .bool false]) ∧ Hid (Below W.heap.size W w')) := fun W => by
          have e1 : Vc.overV ⟨vr, vc, vb, vp⟩ oc = Vc.v0 := if_neg hf
          have := HOV2.out W
          rw [e1, decide_eq_false hf] at this
          exact this
        obtain ⟨z1, z2⟩ := HNO.out (fun q => hf (HMAY.out.1 q).1)
        clear HOV2
        go_wp2_with fail
        refine (HOVN.out _).mono ?_
        rintro e w2 ⟨rfl, hb2⟩
        have HFIN : Hid (∀ o, (w2.alloc o).heap[w.heap.size]? = some (.cells (vA Vc.v0) 27 (0, 0)) ∧ (w2.alloc o).heap[w.heap.size + 1]? = some (.cells (vA (bestV id os (k + 1))) 27 (0, 0)) ∧ Below w.heap.size w (w2.alloc o)) := fun o => by
          have h := (below_alloc1 wr _).trans (hb2.out.mono (by simp))
          have h2 := h.alloc h.size o
          rw [z2]
          exact ⟨keep HXX.out.1 h2, keep HXX.out.2.1 h2, HXX.out.2.2.trans (h2.mono HXX.out.2.2.size)⟩
        rw [← z1]
        clear hb2 z1 z2
        go_wp2_with fail
        exact ⟨⟨k + 1, by omega, by go_num, rfl, HFIN.out _⟩, by simp [intOf]; omega⟩
    · obtain rfl : k = n := by omega
      obtain ⟨b0, b1, b2, b3⟩ := vc_cells hX.out.2.1
      obtain ⟨r0, r1, r2, r3⟩ := vc_cells hX.out.1
      obtain ⟨f0, f1, f2, f3⟩ := vc_free hX.out.1
      have HRES : Hid (wr.heap[w.heap.size]? = some (.cells (vA Vc.v0) 27 (0, 0))) := hX.out.1
      have HLW : Hid (Below w.heap.size w wr) := hX.out.2.2
      cases hc : Vc.chTo id os k with
      | none =>
        have hat : atTo id os k = -1 := by unfold atTo; rw [hc]
        have HOUT : Hid ((Ending.returned (.tuple #[.agg (vA (Vc.chV id os k)), .int .i64 (Vc.chA id os k), .int .i64 (Vc.chP id os k)]) : Ending) = .returned (.tuple #[.agg #[.int .u64 id, .int .i64 0, .int .u64 id, .int .i64 0], .int .i64 0, .int .i64 (-1)])) := by
          show (Ending.returned _ : Ending) = _
          unfold Vc.chV Vc.chA Vc.chP; rw [hc]; rfl
        rw [hat]
        have HLOW : Hid (Below w.heap.size w ((((wr.setCell ⟨w.heap.size, 0, none⟩ (.int .u64 id)).setCell ⟨w.heap.size, 1, none⟩ (.int .i64 0)).setCell ⟨w.heap.size, 2, none⟩ (.int .u64 id)).setCell ⟨w.heap.size, 3, none⟩ (.int .i64 0))) := (((HLW.out.setCell (Nat.le_refl _) _).setCell (Nat.le_refl _) _).setCell (Nat.le_refl _) _).setCell (Nat.le_refl _) _
        clear hat hc hX
        go_wp2_with fail
        exact bodyPost_ret (v := .tuple #[.agg #[.int .u64 id, .int .i64 0, .int .u64 id, .int .i64 0], .int .i64 0, .int .i64 (-1)]) (results_row_tmp2 (p := 4) (u := 5) (x := 6) (ty := 27) Try.results19 _ _ w.heap.size 27 #[.int .u64 id, .int .i64 0, .int .u64 id, .int .i64 0] (0, 0) _ rfl (vc_set4 HRES.out) Try.underlying27 rfl (by rw [sizeVc]; rfl)) rfl ⟨HOUT.out.symm, HLOW.out⟩
      | some j =>
        have hat : atTo id os k = (j : Int) := by unfold atTo; rw [hc]
        have hbv : bestV id os k = (os j).v := by unfold bestV; rw [hc]
        obtain ⟨hjk, hmj, _⟩ := Vc.chTo_some id os k j hc
        obtain ⟨b, off, rfl, _⟩ := CRow.some HR.out (by omega)
        have hcap := HR.out.1
        obtain ⟨a0, _, a2, _⟩ := ORow.cells (CRow.other HR.out (w' := wr) (fun q _ _ hq => hX.out.2.2.block q hq) hX.out.2.2.size) hjk
        rw [hbv] at b0 b1
        have ha1 : 0 ≤ (os j).age := hmj.2.2.1.1
        have ha2 : (os j).age < 20 := hmj.2.2.1.2
        have wa : IntKind.i64.wrap ((os j).age + 1) = (os j).age + 1 := wraps_i64 _ (by omega) (by omega)
        have HOUT : Hid ((Ending.returned (.tuple #[.agg (vA (Vc.chV id os k)), .int .i64 (Vc.chA id os k), .int .i64 (Vc.chP id os k)]) : Ending) = .returned (.tuple #[.agg #[.int .u64 (os j).v.root, .int .i64 (os j).v.cost, .int .u64 id, .int .i64 0], .int .i64 ((os j).age + 1), .int .i64 (os j).port])) := by
          show (Ending.returned _ : Ending) = _
          unfold Vc.chV Vc.chA Vc.chP; rw [hc]; rfl
        have ij : (0 : Int) ≤ (j : Int) := by omega
        have jn : (j : Int) < (k : Int) := by omega
        have hne : w.heap.size ≠ w.heap.size + 1 := by omega
        have hbn : b ≠ w.heap.size := by
          obtain ⟨b', off', e, hb', _⟩ := HR.out.2 (by omega)
          cases e; omega
        have hbn2 : w.heap.size ≠ b := fun e => hbn e.symm
        rw [hat]
        clear hat hbv hc hX HR hmj b2 b3
        generalize (os j).v.root = vr at *
        generalize (os j).v.cost = vc at *
        generalize (os j).age = oa at *
        generalize (os j).port = op at *
        have HLOW : Hid (Below w.heap.size w ((((wr.setCell ⟨w.heap.size, 0, none⟩ (.int .u64 vr)).setCell ⟨w.heap.size, 1, none⟩ (.int .i64 vc)).setCell ⟨w.heap.size, 2, none⟩ (.int .u64 id)).setCell ⟨w.heap.size, 3, none⟩ (.int .i64 0)).drew) := ((((HLW.out.setCell (Nat.le_refl _) _).setCell (Nat.le_refl _) _).setCell (Nat.le_refl _) _).setCell (Nat.le_refl _) _).drew
        go_wp2_with fail
        go_region_held3 (fun W => (W.cell? ⟨w.heap.size + 1, 0, none⟩ = some (.int .u64 vr) ∧ W.cell? ⟨w.heap.size + 1, 1, none⟩ = some (.int .i64 vc)) ∧ W.cell? ⟨b, off + j * 7, none⟩ = some (.int .i64 op) ∧ W.cell? ⟨b, off + j * 7 + 2, none⟩ = some (.int .i64 oa))
          (go_keep)
          (fail)
        all_goals go_wp2_with fail
        all_goals exact bodyPost_ret (v := .tuple #[.agg #[.int .u64 vr, .int .i64 vc, .int .u64 id, .int .i64 0], .int .i64 (oa + 1), .int .i64 op]) (results_row_tmp2 (p := 4) (u := 5) (x := 6) (ty := 27) Try.results19 _ _ w.heap.size 27 #[.int .u64 vr, .int .i64 vc, .int .u64 id, .int .i64 0] (0, 0) _ rfl (drew_row (vc_set4 HRES.out)) Try.underlying27 rfl (by rw [sizeVc]; rfl)) rfl ⟨HOUT.out.symm, HLOW.out⟩
end Go.Proofs.Ythnklbcaodhbfaa
