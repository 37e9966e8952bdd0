/- walks: VecChoose (over what vec's functions come to: VW) -/
import Derived.Test.YthnklbcaodhbfaaVL2
namespace Go.Proofs.Ythnklbcaodhbfaa
open Go.RowKit
open Vc (V Of)

def qual (o : Of) : Prop := Vc.fitsOver o.vec o.cost ∧ 0 ≤ o.port ∧ 0 ≤ o.age ∧ o.age < 20
instance (o : Of) : Decidable (qual o) := by unfold qual; infer_instance
/-- It is where the bridge has what it says from. -/
def isFrom (r c P : Int) (o : Of) : Bool := decide (qual o ∧ o.port = P ∧ o.vec.root = r ∧ o.vec.cost + o.cost = c)
theorem isFrom_no {r c P : Int} {o : Of} (h : ¬ (qual o ∧ o.port = P ∧ o.vec.root = r ∧ o.vec.cost + o.cost = c)) : isFrom r c P o = false := decide_eq_false h
theorem isFrom_yes {r c P : Int} {o : Of} (h : qual o ∧ o.port = P ∧ o.vec.root = r ∧ o.vec.cost + o.cost = c) : isFrom r c P o = true := decide_eq_true h
theorem ch_facts (id : Int) (os : Nat → Of) (n : Nat) : ∃ r c A P, Vc.chV id os n = ⟨r, c, id, 0⟩ ∧ Vc.chA id os n = A ∧ Vc.chP id os n = P ∧ (0 ≤ A ∧ A ≤ 20) ∧ ((P = -1 ∧ id = r) ∨ (0 ≤ P ∧ r < id)) ∧
    (∀ k, k < n → qual (os k) → r ≤ (os k).vec.root ∧ ((os k).vec.root = r → (os k).vec.cost + (os k).cost < c → r = id)) ∧ (0 ≤ P → Vc.someTo (fun i => isFrom r c P (os i)) n = true) := by
  cases h : Vc.chTo id os n with
  | none =>
    refine ⟨id, 0, 0, -1, by unfold Vc.chV; rw [h], by unfold Vc.chA; rw [h], by unfold Vc.chP; rw [h], by omega, Or.inl ⟨rfl, rfl⟩, fun k hk q => ⟨?_, fun _ _ => rfl⟩, fun h => by omega⟩
    have hm := Vc.chTo_none id os n h k hk
    refine Int.not_lt.1 fun hl => hm ⟨q.1, q.2.1, ⟨q.2.2.1, q.2.2.2⟩, hl⟩
  | some i =>
    obtain ⟨h1, h2, h3⟩ := Vc.chTo_some id os n i h
    refine ⟨(os i).vec.root, (os i).vec.cost + (os i).cost, (os i).age + 1, (os i).port, by unfold Vc.chV; rw [h]; rfl, by unfold Vc.chA; rw [h], by unfold Vc.chP; rw [h], ⟨by have := h2.2.2.1.1; omega, by have := h2.2.2.1.2; omega⟩, Or.inr ⟨h2.2.1, h2.2.2.2⟩, fun k hk q => ?_, fun _ => ?_⟩
    · by_cases hl : (os k).vec.root < id
      · have hm : Vc.may id (os k) := ⟨q.1, q.2.1, ⟨q.2.2.1, q.2.2.2⟩, hl⟩
        have hx := h3 k hk hm
        refine ⟨Int.not_lt.1 fun hr => hx (Or.inl (Or.inl hr)), fun e hc => absurd (Or.inl (Or.inr ⟨e, Or.inl hc⟩)) hx⟩
      · have := h2.2.2.2
        exact ⟨by omega, fun e _ => by omega⟩
    · exact someTo_stay (fun j => isFrom (os i).vec.root ((os i).vec.cost + (os i).cost) (os i).port (os j)) i (isFrom_yes ⟨⟨h2.1, h2.2.1, h2.2.2.1.1, h2.2.2.1.2⟩, rfl, rfl, rfl⟩) n h1
theorem ch_rev (id : Int) (os : Nat → Of) (n : Nat) : Vc.chV id (fun i => os (n - 1 - i)) n = Vc.chV id os n ∧ Vc.chP id (fun i => os (n - 1 - i)) n = Vc.chP id os n :=
  Vc.ch_back id os _ n (fun j hj => ⟨n - 1 - j, by omega, rfl⟩) (fun i hi => ⟨n - 1 - i, by omega, by show os i = os (n - 1 - (n - 1 - i)); rw [show n - 1 - (n - 1 - i) = i by omega]⟩)
theorem infoO : (Try.prog.info? 42).map (fun i => (i.zero, i.size, i.bytes)) = some (some (.agg #[.int .i64 0, .int .i64 0, .int .i64 0, .int .u64 0, .int .i64 0, .int .u64 0, .int .i64 0]), 7, 56) := by kernel_rfl
set_option maxRecDepth 100000 in
set_option maxHeartbeats 8000000 in
theorem vchoose_law (id : Int) (ao : Option Addr) (n cap : Nat) (os : Nat → Of) (w : World) (hn : n ≤ 9223372036854775807) (hsz : n * 56 ≤ 140737488355328) (hr : ORow w ao n cap os) :
    Calls Try.prog 6 #[.int .u64 id, .slice ao n cap] w fun e w' => e = .returned (.bool true) ∧ Below w.heap.size w w' := by
  obtain ⟨r, c, A, P, e1, e2, e3, hA, hPr, hQ, hF⟩ := ch_facts id os n
  have hA1 : ¬ A < 0 := by omega
  have hA2 : ¬ 20 < A := by omega
  have HRW : Hid (∀ W, Below w.heap.size w W → ORow W ao n cap os) := fun W hW => CRow.below hr hW
  have HQ : Hid (∀ k, k < n → qual (os k) → r ≤ (os k).vec.root ∧ ((os k).vec.root = r → (os k).vec.cost + (os k).cost < c → r = id)) := hQ
  have HF : Hid (0 ≤ P → Vc.someTo (fun i => isFrom r c P (os i)) n = true) := hF
  have HCH0 : Hid (∀ W, Below w.heap.size w W → Calls Try.prog 18 #[.int .u64 id, .slice ao n cap] W fun e w' => e = .returned (.tuple #[.agg #[.int .u64 r, .int .i64 c, .int .u64 id, .int .i64 0], .int .i64 A, .int .i64 P]) ∧ Hid (Below W.heap.size W w')) := fun W hW => by
    have h := vchoose_any id ao n cap os W hn (HRW.out W hW)
    rw [e1, e2, e3] at h
    exact h
  have HBK0 : Hid (∀ bo bc W, ORow W bo n bc (fun i => os (n - 1 - i)) → Calls Try.prog 18 #[.int .u64 id, .slice bo n bc] W fun e w' => ∃ A2, e = .returned (.tuple #[.agg #[.int .u64 r, .int .i64 c, .int .u64 id, .int .i64 0], .int .i64 A2, .int .i64 P]) ∧ Hid (Below W.heap.size W w')) := fun bo bc W hW => by
    have h := vchoose_any id bo n bc (fun i => os (n - 1 - i)) W hn hW
    rw [(ch_rev id os n).1, (ch_rev id os n).2, e1, e3] at h
    exact h.mono fun e w' q => ⟨_, q⟩
  clear e1 e2 e3 hQ hF hr hA
  rcases hPr with ⟨rfl, hid⟩ | ⟨hP, hri⟩
  · subst hid
    have HQ1 : Hid (∀ k, k < n → qual (os k) → id ≤ (os k).vec.root) := fun k hk q => (HQ.out k hk q).1
    clear HQ
    have HCH : Hid (∀ W, Below w.heap.size w W → Calls Try.prog 18 #[.int .u64 id, .slice ao n cap] W fun e w' => e = .returned (.tuple #[.agg #[.int .u64 id, .int .i64 c, .int .u64 id, .int .i64 0], .int .i64 A, .int .i64 (-1)]) ∧ Hid (Below W.heap.size W w')) := HCH0.out
    have HBK : Hid (∀ bo bc W, ORow W bo n bc (fun i => os (n - 1 - i)) → Calls Try.prog 18 #[.int .u64 id, .slice bo n bc] W fun e w' => ∃ A2, e = .returned (.tuple #[.agg #[.int .u64 id, .int .i64 c, .int .u64 id, .int .i64 0], .int .i64 A2, .int .i64 (-1)]) ∧ Hid (Below W.heap.size W w')) := HBK0.out
    clear HCH0 HBK0
    go_enter Try.func6, Try.ntmps6
    go_wp2_with fail
    refine (valive_any _).mono ?_
    rintro e w1 ⟨rfl, hb1⟩
    have HB1 : Hid (Below w.heap.size w w1) := hb1
    clear hb1
    go_wp2_with fail
    refine (HCH.out _ HB1.out).mono ?_
    rintro e w2 ⟨rfl, hb2⟩
    obtain ⟨X, HX⟩ : ∃ X, Hid (X = w2.alloc (.cells #[.int .u64 id, .int .i64 c, .int .u64 id, .int .i64 0] 27)) := ⟨_, rfl⟩
    have HXL : Hid (Below w.heap.size w X) := by
      rw [HX.out]
      have h := HB1.out.trans (hb2.out.mono HB1.out.size)
      exact h.alloc h.size _
    have HXV : Hid (X.heap[w2.heap.size]? = some (.cells #[.int .u64 id, .int .i64 c, .int .u64 id, .int .i64 0] 27 (0, 0))) := by rw [HX.out]; exact heap_alloc_last _ _
    have HXC : Hid (∀ W, Below X.heap.size X W → (W.cell? ⟨w2.heap.size, 0, none⟩ = some (.int .u64 id) ∧ W.cell? ⟨w2.heap.size, 1, none⟩ = some (.int .i64 c) ∧ W.cell? ⟨w2.heap.size, 2, none⟩ = some (.int .u64 id) ∧ W.cell? ⟨w2.heap.size, 3, none⟩ = some (.int .i64 0))) := fun W hW => vc_cells (keep HXV.out hW)
    have HRX : Hid (∀ W, Below X.heap.size X W → ORow W ao n cap os) := fun W hW => HRW.out W (HXL.out.trans (hW.mono HXL.out.size))
    obtain ⟨x0, x1, x2, x3⟩ := vc_cells HXV.out
    rw [HX.out] at x0 x1 x2 x3
    clear hb2 HCH HB1 HRW HXV
    go_wp2_with fail
    rw [← HX.out]
    clear x0 x1 x2 x3
    go_loopw [8, 61] (fun f i wr => ∃ k : Nat, k ≤ n ∧ i = .int .i64 k ∧ f = .bool false ∧ Hid (Below X.heap.size X wr)) (fun _ i _ => n - (intOf i).toNat)
    case atStart => exact ⟨0, by omega, rfl, rfl, Below.refl _ _⟩
    case round =>
      obtain ⟨k, hk, rfl, rfl, hX⟩ := hrel
      by_cases hlt : k < n
      · have HQK : Hid (qual (os k) → id ≤ (os k).vec.root) := HQ1.out k hlt
        obtain ⟨b, off, rfl, hb⟩ := CRow.some (HRX.out wr hX.out) (by omega)
        have hcap := (HRX.out wr hX.out).1
        obtain ⟨c0, c1, c2, c3, c4, c5, c6⟩ := ORow.cells (HRX.out wr hX.out) hlt
        have HOV0 : Hid ((Vc.fitsOver (os k).vec (os k).cost → ∀ W, _) ∧ (¬ Vc.fitsOver (os k).vec (os k).cost → ∀ W, _)) := ⟨fun h W => over_yes (os k).vec (os k).cost h W, fun h W => over_no (os k).vec (os k).cost h W⟩
        clear HQ1 HF HBK
        generalize os k = o at *
        obtain ⟨op, oc, oa, ⟨vr, vc, vb, vp⟩⟩ := o
        simp only at c0 c1 c2 c3 c4 c5 c6
        by_cases hf : Vc.fitsOver ⟨vr, vc, vb, vp⟩ oc
        · have HOVY : Hid (∀ W, Calls Try.prog 11 #[.agg #[.int .u64 vr, .int .i64 vc, .int .u64 vb, .int .i64 vp], .int .i64 oc] W fun e w' => e = .returned (.tuple #[.agg #[.int .u64 vr, .int .i64 (vc + oc), .int .u64 vb, .int .i64 vp], .bool true]) ∧ Hid (Below W.heap.size W w')) := fun W => HOV0.out.1 hf W
          clear HOV0
          go_wp2_with fail
          refine (HOVY.out _).mono ?_
          rintro e w4 ⟨rfl, hb4⟩
          obtain ⟨Y, HY⟩ : ∃ Y, Hid (Y = w4.alloc (.cells #[.int .u64 vr, .int .i64 (vc + oc), .int .u64 vb, .int .i64 vp] 27)) := ⟨_, rfl⟩
          have HYB : Hid (Below wr.heap.size wr Y) := by
            rw [HY.out]
            have h := (below_alloc1 wr (.cells #[.int .i64 op, .int .i64 oc, .int .i64 oa, .int .u64 vr, .int .i64 vc, .int .u64 vb, .int .i64 vp] 42)).trans (hb4.out.mono (by simp))
            exact h.alloc h.size _
          have HYL : Hid (Below X.heap.size X Y) := hX.out.trans (HYB.out.mono hX.out.size)
          have HYO : Hid (Y.heap[wr.heap.size]? = some (.cells #[.int .i64 op, .int .i64 oc, .int .i64 oa, .int .u64 vr, .int .i64 vc, .int .u64 vb, .int .i64 vp] 42 (0, 0))) := by rw [HY.out]; exact keep (keep (heap_alloc_last wr _) hb4.out) (below_alloc1 _ _)
          have HYV : Hid (Y.heap[w4.heap.size]? = some (.cells #[.int .u64 vr, .int .i64 (vc + oc), .int .u64 vb, .int .i64 vp] 27 (0, 0))) := by rw [HY.out]; exact heap_alloc_last _ _
          obtain ⟨g0, g1, g2, g3, g4, g5, g6⟩ := of_cells HYO.out
          obtain ⟨y0, y1, y2, y3⟩ := vc_cells HYV.out
          obtain ⟨x0, x1, x2, x3⟩ := HXC.out Y HYL.out
          have HFN : Hid (Below X.heap.size X (w4.alloc (.cells #[.int .u64 vr, .int .i64 (vc + oc), .int .u64 vb, .int .i64 vp] 27))) := by rw [← HY.out]; exact HYL.out
          rw [HY.out] at g0 g2 y0 y1 x0 x1 x2 x3
          clear g1 g3 g4 g5 g6 y2 y3 hb4 HYB HYL HYO HYV c0 c1 c2 c3 c4 c5 c6 HOVY hX
          by_cases q1 : op < 0
          · skip
            clear HQK hf
            go_wp2_with fail
            exact ⟨⟨k + 1, by omega, by go_num, rfl, HFN.out⟩, by simp [intOf]; omega⟩
          · by_cases q2 : oa < 0
            · skip
              clear HQK hf
              go_wp2_with fail
              exact ⟨⟨k + 1, by omega, by go_num, rfl, HFN.out⟩, by simp [intOf]; omega⟩
            · by_cases q3 : 20 ≤ oa
              · skip
                clear HQK hf
                go_wp2_with fail
                exact ⟨⟨k + 1, by omega, by go_num, rfl, HFN.out⟩, by simp [intOf]; omega⟩
              · have hq : qual ⟨op, oc, oa, ⟨vr, vc, vb, vp⟩⟩ := ⟨hf, by show 0 ≤ op; omega, by show 0 ≤ oa; omega, by show oa < 20; omega⟩
                have hroot : id ≤ vr := HQK.out hq
                have hnl : ¬ vr < id := by omega
                clear hroot HQK hf
                have hop : ¬ op = -1 := by omega
                by_cases p1 : vr = id
                · subst p1
                  by_cases p2 : vc + oc < c
                  · skip
                    go_wp2_with fail
                    exact ⟨⟨k + 1, by omega, by go_num, rfl, HFN.out⟩, by simp [intOf]; omega⟩
                  · skip
                    go_wp2_with fail
                    exact ⟨⟨k + 1, by omega, by go_num, rfl, HFN.out⟩, by simp [intOf]; omega⟩
                · skip
                  go_wp2_with fail
                  exact ⟨⟨k + 1, by omega, by go_num, rfl, HFN.out⟩, by simp [intOf]; omega⟩
        · have HOVN : Hid (∀ W, Calls Try.prog 11 #[.agg #[.int .u64 vr, .int .i64 vc, .int .u64 vb, .int .i64 vp], .int .i64 oc] W fun e w' => e = .returned (.tuple #[.agg #[.int .u64 0, .int .i64 0, .int .u64 0, .int .i64 0], .bool false]) ∧ Hid (Below W.heap.size W w')) := fun W => HOV0.out.2 hf W
          clear HOV0
          go_wp2_with fail
          refine (HOVN.out _).mono ?_
          rintro e w4 ⟨rfl, hb4⟩
          have HFN : Hid (Below X.heap.size X (w4.alloc (.cells #[.int .u64 0, .int .i64 0, .int .u64 0, .int .i64 0] 27))) := by
            have h := (below_alloc1 wr (.cells #[.int .i64 op, .int .i64 oc, .int .i64 oa, .int .u64 vr, .int .i64 vc, .int .u64 vb, .int .i64 vp] 42)).trans (hb4.out.mono (by simp))
            have h2 := h.alloc h.size (.cells #[.int .u64 0, .int .i64 0, .int .u64 0, .int .i64 0] 27)
            exact hX.out.trans (h2.mono hX.out.size)
          clear hf HQK hb4
          go_wp2_with fail
          exact ⟨⟨k + 1, by omega, by go_num, rfl, HFN.out⟩, by simp [intOf]; omega⟩
      · obtain rfl : k = n := by omega
        clear HF HQ1
        go_wp2_with fail
        go_loopw [13, 14] (fun v i wi => ∃ m : Nat, m ≤ k ∧ i = .int .i64 ((m : Int) - 1) ∧ Hid (wi.ownsRow X.heap.size 42 7 v (k - m) (cellsL (k - m) 7 (fun i => ofC (os (k - 1 - i)))) ∧ Below X.heap.size X wi)) (fun _ i _ => (intOf i + 1).toNat)
        case atStart => exact ⟨k, by omega, by go_num, by rw [Nat.sub_self]; exact ⟨ownsC_nil _ _ _ _ _, hX.out⟩⟩
        case round =>
          obtain ⟨m, hm, rfl, hI⟩ := hrel
          cases m with
          | zero =>
            obtain ⟨bo, bc, rfl, hrow, _, _⟩ := owns_c (by omega) hI.out.1
            have HRO : Hid (ORow wr bo k bc (fun i => os (k - 1 - i))) := hrow
            have HIB : Hid (Below X.heap.size X wr) := hI.out.2
            clear hrow hI hX
            go_wp2_with fail
            refine (HBK.out _ _ _ HRO.out).mono ?_
            rintro e w6 ⟨A2, rfl, hb6⟩
            obtain ⟨Z, HZ⟩ : ∃ Z, Hid (Z = w6.alloc (.cells #[.int .u64 id, .int .i64 c, .int .u64 id, .int .i64 0] 27)) := ⟨_, rfl⟩
            have HZL : Hid (Below X.heap.size X Z) := by
              rw [HZ.out]
              have h := HIB.out.trans (hb6.out.mono HIB.out.size)
              exact h.alloc h.size _
            have HZV : Hid (Z.heap[w6.heap.size]? = some (.cells #[.int .u64 id, .int .i64 c, .int .u64 id, .int .i64 0] 27 (0, 0))) := by rw [HZ.out]; exact heap_alloc_last _ _
            obtain ⟨x0, x1, x2, x3⟩ := HXC.out Z HZL.out
            obtain ⟨z0, z1, z2, z3⟩ := vc_cells HZV.out
            rw [HZ.out] at x0 x1 x2 x3 z0 z1 z2 z3
            have HFL : Hid (Below w.heap.size w (w6.alloc (.cells #[.int .u64 id, .int .i64 c, .int .u64 id, .int .i64 0] 27))) := by rw [← HZ.out]; exact HXL.out.trans (HZL.out.mono HXL.out.size)
            clear hb6 HZL HZV
            go_wp2_with fail
            go_ret
            exact ⟨rfl, HFL.out⟩
          | succ j =>
            obtain ⟨b, off, rfl, hb⟩ := CRow.some (HRX.out wr hI.out.2) (by omega)
            have hcap := (HRX.out wr hI.out.2).1
            obtain ⟨c0, c1, c2, c3, c4, c5, c6⟩ := ORow.cells (HRX.out wr hI.out.2) (show j < k by omega)
            obtain ⟨a1, k1, w5, hrun, hown, hlow, _⟩ := append_c (wr.alloc (.cells (oA (os j)) 42)) 24 42 _ 7 56 Try.underlying24 infoO rfl (by omega) X.heap.size u13 (k - (j + 1)) _ (ownsC_below hI.out.1 (below_alloc1 _ _)) (some ⟨wr.heap.size, 0, none⟩) 1 1 (fun _ => ofC (os j)) (fun _ _ => ofC_one _ _) (one_offer (heap_alloc_last wr _)) (fun e => by cases e) (by unfold maxLen; omega) (by omega) (Nat.le_trans hI.out.2.size (by simp))
            have HNX2 : Hid (w5.ownsRow X.heap.size 42 7 (.slice a1 (k - j) k1) (k - j) (cellsL (k - j) 7 (fun i => ofC (os (k - 1 - i)))) ∧ Below X.heap.size X w5) := by
              have hN : k - (j + 1) + 1 = k - j := by omega
              rw [cellsL_congr (k - (j + 1) + 1) 7 _ (fun i => ofC (os (k - 1 - i))) (fun i hi => ?_)] at hown
              rotate_left
              · unfold catC
                by_cases hi2 : i < k - (j + 1)
                · rw [if_pos hi2]
                · rw [if_neg hi2, show k - 1 - i = j by omega]
              rw [hN] at hown
              exact ⟨hown, (hI.out.2.alloc hI.out.2.size _).trans hlow⟩
            have e5 : k - (j + 1) + 1 = k - j := by omega
            rw [e5] at hrun
            have HRUN : Hid ((Builtin.append_ #[24, 24] 24 #[u13, .slice (some ⟨wr.heap.size, 0, none⟩) 1 1]).run Try.prog (wr.alloc (.cells #[.int .i64 (os j).port, .int .i64 (os j).cost, .int .i64 (os j).age, .int .u64 (os j).vec.root, .int .i64 (os j).vec.cost, .int .u64 (os j).vec.bridge, .int .i64 (os j).vec.port] 42)) = .ok (.slice a1 (k - j) k1) w5) := hrun
            have ij : (0 : Int) ≤ (j : Int) := by omega
            have jn : (j : Int) < (k : Int) := by omega
            have ee : (((j + 1 : Nat) : Int) - 1) = (j : Int) := by omega
            rw [ee]
            clear hrun hown hlow hI hX ee e5
            go_wp2_with (at_builtin; refine wpList_append_run rfl (.tmp 150) (.tmp 155) _ rfl u13 (.slice (some ⟨wr.heap.size, 0, none⟩) 1 1) _ rfl rfl HRUN.out ?_)
            exact ⟨⟨j, by omega, by go_num, HNX2⟩, by first | (simp [intOf]; done) | (simp [intOf]; omega)⟩
  · have hP2 : ¬ P < 0 := by omega
    have hr2 : ¬ r = id := by omega
    have hr3 : ¬ id < r := by omega
    have hd1 : decide (P < 0) = false := decide_eq_false hP2
    have hd2 : (r == id) = false := by simpa using hr2
    have HCH : Hid (∀ W, Below w.heap.size w W → Calls Try.prog 18 #[.int .u64 id, .slice ao n cap] W fun e w' => e = .returned (.tuple #[.agg #[.int .u64 r, .int .i64 c, .int .u64 id, .int .i64 0], .int .i64 A, .int .i64 P]) ∧ Hid (Below W.heap.size W w')) := HCH0.out
    have HBK : Hid (∀ bo bc W, ORow W bo n bc (fun i => os (n - 1 - i)) → Calls Try.prog 18 #[.int .u64 id, .slice bo n bc] W fun e w' => ∃ A2, e = .returned (.tuple #[.agg #[.int .u64 r, .int .i64 c, .int .u64 id, .int .i64 0], .int .i64 A2, .int .i64 P]) ∧ Hid (Below W.heap.size W w')) := HBK0.out
    clear HCH0 HBK0
    go_enter Try.func6, Try.ntmps6
    go_wp2_with fail
    refine (valive_any _).mono ?_
    rintro e w1 ⟨rfl, hb1⟩
    have HB1 : Hid (Below w.heap.size w w1) := hb1
    clear hb1
    go_wp2_with fail
    refine (HCH.out _ HB1.out).mono ?_
    rintro e w2 ⟨rfl, hb2⟩
    obtain ⟨X, HX⟩ : ∃ X, Hid (X = w2.alloc (.cells #[.int .u64 r, .int .i64 c, .int .u64 id, .int .i64 0] 27)) := ⟨_, rfl⟩
    have HXL : Hid (Below w.heap.size w X) := by
      rw [HX.out]
      have h := HB1.out.trans (hb2.out.mono HB1.out.size)
      exact h.alloc h.size _
    have HXV : Hid (X.heap[w2.heap.size]? = some (.cells #[.int .u64 r, .int .i64 c, .int .u64 id, .int .i64 0] 27 (0, 0))) := by rw [HX.out]; exact heap_alloc_last _ _
    have HXC : Hid (∀ W, Below X.heap.size X W → (W.cell? ⟨w2.heap.size, 0, none⟩ = some (.int .u64 r) ∧ W.cell? ⟨w2.heap.size, 1, none⟩ = some (.int .i64 c) ∧ W.cell? ⟨w2.heap.size, 2, none⟩ = some (.int .u64 id) ∧ W.cell? ⟨w2.heap.size, 3, none⟩ = some (.int .i64 0))) := fun W hW => vc_cells (keep HXV.out hW)
    have HRX : Hid (∀ W, Below X.heap.size X W → ORow W ao n cap os) := fun W hW => HRW.out W (HXL.out.trans (hW.mono HXL.out.size))
    obtain ⟨x0, x1, x2, x3⟩ := vc_cells HXV.out
    rw [HX.out] at x0 x1 x2 x3
    clear hb2 HCH HB1 HRW HXV
    go_wp2_with fail
    rw [← HX.out]
    clear x0 x1 x2 x3
    go_loopw [8, 61] (fun f i wr => ∃ k : Nat, k ≤ n ∧ i = .int .i64 k ∧ f = .bool (Vc.someTo (fun i => isFrom r c P (os i)) k) ∧ Hid (Below X.heap.size X wr)) (fun _ i _ => n - (intOf i).toNat)
    case atStart => exact ⟨0, by omega, rfl, rfl, Below.refl _ _⟩
    case round =>
      obtain ⟨k, hk, rfl, rfl, hX⟩ := hrel
      by_cases hlt : k < n
      · have HQK : Hid (qual (os k) → r ≤ (os k).vec.root ∧ ((os k).vec.root = r → (os k).vec.cost + (os k).cost < c → r = id)) := HQ.out k hlt
        have HNX : Hid (∀ q, isFrom r c P (os k) = q → Vc.someTo (fun i => isFrom r c P (os i)) (k + 1) = (Vc.someTo (fun i => isFrom r c P (os i)) k || q)) := fun q h => by simp only [Vc.someTo]; rw [h]
        generalize Vc.someTo (fun i => isFrom r c P (os i)) k = ff at *
        obtain ⟨b, off, rfl, hb⟩ := CRow.some (HRX.out wr hX.out) (by omega)
        have hcap := (HRX.out wr hX.out).1
        obtain ⟨c0, c1, c2, c3, c4, c5, c6⟩ := ORow.cells (HRX.out wr hX.out) hlt
        have HOV0 : Hid ((Vc.fitsOver (os k).vec (os k).cost → ∀ W, _) ∧ (¬ Vc.fitsOver (os k).vec (os k).cost → ∀ W, _)) := ⟨fun h W => over_yes (os k).vec (os k).cost h W, fun h W => over_no (os k).vec (os k).cost h W⟩
        clear HQ HF HBK
        generalize os k = o at *
        obtain ⟨op, oc, oa, ⟨vr, vc, vb, vp⟩⟩ := o
        simp only at c0 c1 c2 c3 c4 c5 c6
        by_cases hf : Vc.fitsOver ⟨vr, vc, vb, vp⟩ oc
        · have HOVY : Hid (∀ W, Calls Try.prog 11 #[.agg #[.int .u64 vr, .int .i64 vc, .int .u64 vb, .int .i64 vp], .int .i64 oc] W fun e w' => e = .returned (.tuple #[.agg #[.int .u64 vr, .int .i64 (vc + oc), .int .u64 vb, .int .i64 vp], .bool true]) ∧ Hid (Below W.heap.size W w')) := fun W => HOV0.out.1 hf W
          clear HOV0
          go_wp2_with fail
          refine (HOVY.out _).mono ?_
          rintro e w4 ⟨rfl, hb4⟩
          obtain ⟨Y, HY⟩ : ∃ Y, Hid (Y = w4.alloc (.cells #[.int .u64 vr, .int .i64 (vc + oc), .int .u64 vb, .int .i64 vp] 27)) := ⟨_, rfl⟩
          have HYB : Hid (Below wr.heap.size wr Y) := by
            rw [HY.out]
            have h := (below_alloc1 wr (.cells #[.int .i64 op, .int .i64 oc, .int .i64 oa, .int .u64 vr, .int .i64 vc, .int .u64 vb, .int .i64 vp] 42)).trans (hb4.out.mono (by simp))
            exact h.alloc h.size _
          have HYL : Hid (Below X.heap.size X Y) := hX.out.trans (HYB.out.mono hX.out.size)
          have HYO : Hid (Y.heap[wr.heap.size]? = some (.cells #[.int .i64 op, .int .i64 oc, .int .i64 oa, .int .u64 vr, .int .i64 vc, .int .u64 vb, .int .i64 vp] 42 (0, 0))) := by rw [HY.out]; exact keep (keep (heap_alloc_last wr _) hb4.out) (below_alloc1 _ _)
          have HYV : Hid (Y.heap[w4.heap.size]? = some (.cells #[.int .u64 vr, .int .i64 (vc + oc), .int .u64 vb, .int .i64 vp] 27 (0, 0))) := by rw [HY.out]; exact heap_alloc_last _ _
          obtain ⟨g0, g1, g2, g3, g4, g5, g6⟩ := of_cells HYO.out
          obtain ⟨y0, y1, y2, y3⟩ := vc_cells HYV.out
          obtain ⟨x0, x1, x2, x3⟩ := HXC.out Y HYL.out
          have HFN : Hid (Below X.heap.size X (w4.alloc (.cells #[.int .u64 vr, .int .i64 (vc + oc), .int .u64 vb, .int .i64 vp] 27))) := by rw [← HY.out]; exact HYL.out
          rw [HY.out] at g0 g2 y0 y1 x0 x1 x2 x3
          clear g1 g3 g4 g5 g6 y2 y3 hb4 HYB HYL HYO HYV c0 c1 c2 c3 c4 c5 c6 HOVY hX
          by_cases q1 : op < 0
          · skip
            have HG : Hid (Vc.someTo (fun i => isFrom r c P (os i)) (k + 1) = (ff || false)) := HNX.out _ (isFrom_no (fun h => by have := h.1.2.1; simp only at this; omega))
            rw [Bool.or_false] at HG
            have HG : Hid (Vc.someTo (fun i => isFrom r c P (os i)) (k + 1) = ff) := HG.out
            clear HQK HNX hf
            go_wp2_with fail
            exact ⟨⟨k + 1, by omega, by go_num, by first | (rw [HG.out]; done) | (rw [HG.out]; simp; omega), HFN.out⟩, by simp [intOf]; omega⟩
          · by_cases q2 : oa < 0
            · skip
              have HG : Hid (Vc.someTo (fun i => isFrom r c P (os i)) (k + 1) = (ff || false)) := HNX.out _ (isFrom_no (fun h => by have := h.1.2.2.1; simp only at this; omega))
              rw [Bool.or_false] at HG
              have HG : Hid (Vc.someTo (fun i => isFrom r c P (os i)) (k + 1) = ff) := HG.out
              clear HQK HNX hf
              go_wp2_with fail
              exact ⟨⟨k + 1, by omega, by go_num, by first | (rw [HG.out]; done) | (rw [HG.out]; simp; omega), HFN.out⟩, by simp [intOf]; omega⟩
            · by_cases q3 : 20 ≤ oa
              · skip
                have HG : Hid (Vc.someTo (fun i => isFrom r c P (os i)) (k + 1) = (ff || false)) := HNX.out _ (isFrom_no (fun h => by have := h.1.2.2.2; simp only at this; omega))
                rw [Bool.or_false] at HG
                have HG : Hid (Vc.someTo (fun i => isFrom r c P (os i)) (k + 1) = ff) := HG.out
                clear HQK HNX hf
                go_wp2_with fail
                exact ⟨⟨k + 1, by omega, by go_num, by first | (rw [HG.out]; done) | (rw [HG.out]; simp; omega), HFN.out⟩, by simp [intOf]; omega⟩
              · have hq : qual ⟨op, oc, oa, ⟨vr, vc, vb, vp⟩⟩ := ⟨hf, by show 0 ≤ op; omega, by show 0 ≤ oa; omega, by show oa < 20; omega⟩
                have hroot : r ≤ vr := (HQK.out hq).1
                have hcost : vr = r → vc + oc < c → r = id := (HQK.out hq).2
                have hnl : ¬ vr < r := by omega
                clear hroot HQK hf
                by_cases p1 : vr = r
                · have p2 : ¬ vc + oc < c := fun h => by have := hcost p1 h; omega
                  clear hcost
                  cases ff with
                  | true =>
                    have HG : Hid (Vc.someTo (fun i => isFrom r c P (os i)) (k + 1) = true) := by have h := HNX.out _ rfl; rw [Bool.true_or] at h; exact h
                    clear HNX
                    subst p1
                    go_wp2_with fail
                    exact ⟨⟨k + 1, by omega, by go_num, by first | (rw [HG.out]; done) | (rw [HG.out]; simp; omega), HFN.out⟩, by simp [intOf]; omega⟩
                  | false =>
                    by_cases p3 : op = P
                    · by_cases p4 : vc + oc = c
                      · have HG : Hid (Vc.someTo (fun i => isFrom r c P (os i)) (k + 1) = true) := HNX.out _ (isFrom_yes ⟨hq, p3, p1, p4⟩)
                        clear HNX
                        subst p1 p3 p4
                        go_wp2_with fail
                        exact ⟨⟨k + 1, by omega, by go_num, by first | (rw [HG.out]; done) | (rw [HG.out]; simp; omega), HFN.out⟩, by simp [intOf]; omega⟩
                      · have HG : Hid (Vc.someTo (fun i => isFrom r c P (os i)) (k + 1) = false) := HNX.out _ (isFrom_no (fun h => p4 h.2.2.2))
                        clear HNX
                        subst p1 p3
                        go_wp2_with fail
                        exact ⟨⟨k + 1, by omega, by go_num, by first | (rw [HG.out]; done) | (rw [HG.out]; simp; omega), HFN.out⟩, by simp [intOf]; omega⟩
                    · have HG : Hid (Vc.someTo (fun i => isFrom r c P (os i)) (k + 1) = false) := HNX.out _ (isFrom_no (fun h => p3 h.2.1))
                      clear HNX
                      subst p1
                      go_wp2_with fail
                      exact ⟨⟨k + 1, by omega, by go_num, by first | (rw [HG.out]; done) | (rw [HG.out]; simp; omega), HFN.out⟩, by simp [intOf]; omega⟩
                · clear hcost
                  cases ff with
                  | true =>
                    have HG : Hid (Vc.someTo (fun i => isFrom r c P (os i)) (k + 1) = true) := by have h := HNX.out _ rfl; rw [Bool.true_or] at h; exact h
                    clear HNX
                    go_wp2_with fail
                    exact ⟨⟨k + 1, by omega, by go_num, by first | (rw [HG.out]; done) | (rw [HG.out]; simp; omega), HFN.out⟩, by simp [intOf]; omega⟩
                  | false =>
                    have HG : Hid (Vc.someTo (fun i => isFrom r c P (os i)) (k + 1) = false) := HNX.out _ (isFrom_no (fun h => p1 h.2.2.1))
                    clear HNX
                    by_cases p3 : op = P
                    · subst p3
                      go_wp2_with fail
                      exact ⟨⟨k + 1, by omega, by go_num, by first | (rw [HG.out]; done) | (rw [HG.out]; simp; omega), HFN.out⟩, by simp [intOf]; omega⟩
                    · skip
                      go_wp2_with fail
                      exact ⟨⟨k + 1, by omega, by go_num, by first | (rw [HG.out]; done) | (rw [HG.out]; simp; omega), HFN.out⟩, by simp [intOf]; omega⟩
        · have HOVN : Hid (∀ W, Calls Try.prog 11 #[.agg #[.int .u64 vr, .int .i64 vc, .int .u64 vb, .int .i64 vp], .int .i64 oc] W fun e w' => e = .returned (.tuple #[.agg #[.int .u64 0, .int .i64 0, .int .u64 0, .int .i64 0], .bool false]) ∧ Hid (Below W.heap.size W w')) := fun W => HOV0.out.2 hf W
          clear HOV0
          go_wp2_with fail
          refine (HOVN.out _).mono ?_
          rintro e w4 ⟨rfl, hb4⟩
          have HFN : Hid (Below X.heap.size X (w4.alloc (.cells #[.int .u64 0, .int .i64 0, .int .u64 0, .int .i64 0] 27))) := by
            have h := (below_alloc1 wr (.cells #[.int .i64 op, .int .i64 oc, .int .i64 oa, .int .u64 vr, .int .i64 vc, .int .u64 vb, .int .i64 vp] 42)).trans (hb4.out.mono (by simp))
            have h2 := h.alloc h.size (.cells #[.int .u64 0, .int .i64 0, .int .u64 0, .int .i64 0] 27)
            exact hX.out.trans (h2.mono hX.out.size)
          have HG : Hid (Vc.someTo (fun i => isFrom r c P (os i)) (k + 1) = ff) := by have h := HNX.out _ (isFrom_no (fun h => hf h.1.1)); rw [Bool.or_false] at h; exact h
          clear hf HQK hb4 HNX
          go_wp2_with fail
          exact ⟨⟨k + 1, by omega, by go_num, by first | (rw [HG.out]; done) | (rw [HG.out]; simp; omega), HFN.out⟩, by simp [intOf]; omega⟩
      · obtain rfl : k = n := by omega
        rw [HF.out (by omega)]
        clear HF HQ
        go_wp2_with fail
        go_loopw [13, 14] (fun v i wi => ∃ m : Nat, m ≤ k ∧ i = .int .i64 ((m : Int) - 1) ∧ Hid (wi.ownsRow X.heap.size 42 7 v (k - m) (cellsL (k - m) 7 (fun i => ofC (os (k - 1 - i)))) ∧ Below X.heap.size X wi)) (fun _ i _ => (intOf i + 1).toNat)
        case atStart => exact ⟨k, by omega, by go_num, by rw [Nat.sub_self]; exact ⟨ownsC_nil _ _ _ _ _, hX.out⟩⟩
        case round =>
          obtain ⟨m, hm, rfl, hI⟩ := hrel
          cases m with
          | zero =>
            obtain ⟨bo, bc, rfl, hrow, _, _⟩ := owns_c (by omega) hI.out.1
            have HRO : Hid (ORow wr bo k bc (fun i => os (k - 1 - i))) := hrow
            have HIB : Hid (Below X.heap.size X wr) := hI.out.2
            clear hrow hI hX
            go_wp2_with fail
            refine (HBK.out _ _ _ HRO.out).mono ?_
            rintro e w6 ⟨A2, rfl, hb6⟩
            obtain ⟨Z, HZ⟩ : ∃ Z, Hid (Z = w6.alloc (.cells #[.int .u64 r, .int .i64 c, .int .u64 id, .int .i64 0] 27)) := ⟨_, rfl⟩
            have HZL : Hid (Below X.heap.size X Z) := by
              rw [HZ.out]
              have h := HIB.out.trans (hb6.out.mono HIB.out.size)
              exact h.alloc h.size _
            have HZV : Hid (Z.heap[w6.heap.size]? = some (.cells #[.int .u64 r, .int .i64 c, .int .u64 id, .int .i64 0] 27 (0, 0))) := by rw [HZ.out]; exact heap_alloc_last _ _
            obtain ⟨x0, x1, x2, x3⟩ := HXC.out Z HZL.out
            obtain ⟨z0, z1, z2, z3⟩ := vc_cells HZV.out
            rw [HZ.out] at x0 x1 x2 x3 z0 z1 z2 z3
            have HFL : Hid (Below w.heap.size w (w6.alloc (.cells #[.int .u64 r, .int .i64 c, .int .u64 id, .int .i64 0] 27))) := by rw [← HZ.out]; exact HXL.out.trans (HZL.out.mono HXL.out.size)
            clear hb6 HZL HZV
            go_wp2_with fail
            go_ret
            exact ⟨rfl, HFL.out⟩
          | succ j =>
            obtain ⟨b, off, rfl, hb⟩ := CRow.some (HRX.out wr hI.out.2) (by omega)
            have hcap := (HRX.out wr hI.out.2).1
            obtain ⟨c0, c1, c2, c3, c4, c5, c6⟩ := ORow.cells (HRX.out wr hI.out.2) (show j < k by omega)
            obtain ⟨a1, k1, w5, hrun, hown, hlow, _⟩ := append_c (wr.alloc (.cells (oA (os j)) 42)) 24 42 _ 7 56 Try.underlying24 infoO rfl (by omega) X.heap.size u13 (k - (j + 1)) _ (ownsC_below hI.out.1 (below_alloc1 _ _)) (some ⟨wr.heap.size, 0, none⟩) 1 1 (fun _ => ofC (os j)) (fun _ _ => ofC_one _ _) (one_offer (heap_alloc_last wr _)) (fun e => by cases e) (by unfold maxLen; omega) (by omega) (Nat.le_trans hI.out.2.size (by simp))
            have HNX2 : Hid (w5.ownsRow X.heap.size 42 7 (.slice a1 (k - j) k1) (k - j) (cellsL (k - j) 7 (fun i => ofC (os (k - 1 - i)))) ∧ Below X.heap.size X w5) := by
              have hN : k - (j + 1) + 1 = k - j := by omega
              rw [cellsL_congr (k - (j + 1) + 1) 7 _ (fun i => ofC (os (k - 1 - i))) (fun i hi => ?_)] at hown
              rotate_left
              · unfold catC
                by_cases hi2 : i < k - (j + 1)
                · rw [if_pos hi2]
                · rw [if_neg hi2, show k - 1 - i = j by omega]
              rw [hN] at hown
              exact ⟨hown, (hI.out.2.alloc hI.out.2.size _).trans hlow⟩
            have e5 : k - (j + 1) + 1 = k - j := by omega
            rw [e5] at hrun
            have HRUN : Hid ((Builtin.append_ #[24, 24] 24 #[u13, .slice (some ⟨wr.heap.size, 0, none⟩) 1 1]).run Try.prog (wr.alloc (.cells #[.int .i64 (os j).port, .int .i64 (os j).cost, .int .i64 (os j).age, .int .u64 (os j).vec.root, .int .i64 (os j).vec.cost, .int .u64 (os j).vec.bridge, .int .i64 (os j).vec.port] 42)) = .ok (.slice a1 (k - j) k1) w5) := hrun
            have ij : (0 : Int) ≤ (j : Int) := by omega
            have jn : (j : Int) < (k : Int) := by omega
            have ee : (((j + 1 : Nat) : Int) - 1) = (j : Int) := by omega
            rw [ee]
            clear hrun hown hlow hI hX ee e5
            go_wp2_with (at_builtin; refine wpList_append_run rfl (.tmp 150) (.tmp 155) _ rfl u13 (.slice (some ⟨wr.heap.size, 0, none⟩) 1 1) _ rfl rfl HRUN.out ?_)
            exact ⟨⟨j, by omega, by go_num, HNX2⟩, by first | (simp [intOf]; done) | (simp [intOf]; omega)⟩
end Go.Proofs.Ythnklbcaodhbfaa
