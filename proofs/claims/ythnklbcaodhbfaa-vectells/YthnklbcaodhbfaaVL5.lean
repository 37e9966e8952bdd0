/- walks: VecTells -/
import Derived.Test.YthnklbcaodhbfaaVLa
import Derived.Test.YthnklbcaodhbfaaVR3
import Derived.Test.YthnklbcaodhbfaaVR4
import Derived.Test.YthnklbcaodhbfaaVS8
namespace Go.Proofs.Ythnklbcaodhbfaa
open Go.RowKit
open Vc (V Of)

theorem vec_neq_same (a b c d : Int) (W : World) : (binOp .neq 27 (.agg #[.int .u64 a, .int .i64 b, .int .u64 c, .int .i64 d]) (.agg #[.int .u64 a, .int .i64 b, .int .u64 c, .int .i64 d])).run Try.prog W = .ok (.bool false) W := by
  go_simp
set_option maxRecDepth 100000 in
set_option maxHeartbeats 4000000 in
theorem vtells_law (ao : Option Addr) (n cap : Nat) (vs : Nat → V) (id : Int) (bo : Option Addr) (l cap2 : Nat) (os : Nat → Of) (port cost : Int) (w : World) (hn : n * 32 ≤ 140737488355328) (hl : l ≤ 9223372036854775807) (hr : VRow w ao n cap vs) (ho : ORow w bo l cap2 os) :
    Calls Try.prog 3 #[.slice ao n cap, .int .u64 id, .slice bo l cap2, .int .i64 port, .int .i64 cost] w fun e w' => e = .returned (.bool true) ∧ Below w.heap.size w w' := by
  have HRW : Hid (∀ W, Below w.heap.size w W → VRow W ao n cap vs) := fun W hW => CRow.other hr (fun q _ _ hq => hW.block q hq) hW.size
  have HOW : Hid (∀ W, Below w.heap.size w W → ORow W bo l cap2 os) := fun W hW => CRow.other ho (fun q _ _ hq => hW.block q hq) hW.size
  have hcap := hr.1
  have hn2 : n ≤ 4398046511104 := by omega
  clear hr ho
  go_enter Try.func3, Try.ntmps3
  go_wp2_with fail
  go_loopw [27] (fun vi wr => ∃ i : Nat, i ≤ n ∧ vi = .int .i64 i ∧ Hid (Below w.heap.size w wr)) (fun vi _ => n - (intOf vi).toNat)
  case atStart => exact ⟨0, by omega, rfl, Below.refl _ _⟩
  case round =>
    obtain ⟨i, li, rfl, hX⟩ := hrel
    by_cases hi : i < n
    · obtain ⟨b, off, rfl, _⟩ := CRow.some (HRW.out wr hX.out) (by omega)
      have hi2 : (i : Int) < (n : Int) := by omega
      have ii : (0 : Int) ≤ (i : Int) := by omega
      have HX : Hid (Below w.heap.size w wr) := hX
      clear hX
      go_wp2_with fail
      go_loopw [32] (fun vj wi => ∃ j : Nat, j ≤ n ∧ vj = .int .i64 j ∧ Hid (Below w.heap.size w wi)) (fun vj _ => n - (intOf vj).toNat)
      case atStart => exact ⟨0, by omega, rfl, HX⟩
      case round =>
        obtain ⟨j, lj, rfl, hY⟩ := hrel
        clear HX
        have HW0 : Hid (Below wr.heap.size wr wr) := Below.refl _ _
        have HLO : Hid (∀ W, Below wr.heap.size wr W → Below w.heap.size w W) := fun W hW => hY.out.trans (hW.mono hY.out.size)
        by_cases hj : j < n
        · have hj2 : (j : Int) < (n : Int) := by omega
          have ij : (0 : Int) ≤ (j : Int) := by omega
          have HCC : Hid (∀ W, Below wr.heap.size wr W → (W.cell? ⟨b, off + i * 4, none⟩ = some (.int .u64 (vs i).root) ∧ W.cell? ⟨b, off + i * 4 + 1, none⟩ = some (.int .i64 (vs i).cost) ∧ W.cell? ⟨b, off + i * 4 + 2, none⟩ = some (.int .u64 (vs i).bridge) ∧ W.cell? ⟨b, off + i * 4 + 3, none⟩ = some (.int .i64 (vs i).port)) ∧ W.cell? ⟨b, off + j * 4, none⟩ = some (.int .u64 (vs j).root) ∧ W.cell? ⟨b, off + j * 4 + 1, none⟩ = some (.int .i64 (vs j).cost) ∧ W.cell? ⟨b, off + j * 4 + 2, none⟩ = some (.int .u64 (vs j).bridge) ∧ W.cell? ⟨b, off + j * 4 + 3, none⟩ = some (.int .i64 (vs j).port)) := fun W hW => ⟨VRow.cells (HRW.out W (HLO.out W hW)) hi, VRow.cells (HRW.out W (HLO.out W hW)) hj⟩
          have HC1 : Hid (∀ W, Below wr.heap.size wr W → Calls Try.prog 9 #[.agg #[.int .u64 (vs i).root, .int .i64 (vs i).cost, .int .u64 (vs i).bridge, .int .i64 (vs i).port], .agg #[.int .u64 (vs j).root, .int .i64 (vs j).cost, .int .u64 (vs j).bridge, .int .i64 (vs j).port]] W fun e w' => e = .returned (.int .i64 (Vc.cmp (vs i) (vs j))) ∧ Hid (Below wr.heap.size wr w')) := fun W hW => cmp_say (vs i) (vs j) wr W hW
          have HC2 : Hid (∀ W, Below wr.heap.size wr W → Calls Try.prog 10 #[.agg #[.int .u64 (vs i).root, .int .i64 (vs i).cost, .int .u64 (vs i).bridge, .int .i64 (vs i).port], .agg #[.int .u64 (vs j).root, .int .i64 (vs j).cost, .int .u64 (vs j).bridge, .int .i64 (vs j).port]] W fun e w' => e = .returned (.int .i64 (Vc.cmp (vs i) (vs j))) ∧ Hid (Below wr.heap.size wr w')) := fun W hW => (rcompare_any (vs i) (vs j) W).mono (fun _ _ h => ⟨h.1, hW.trans (h.2.mono hW.size)⟩)
          obtain ⟨⟨c0, c1, c2, c3⟩, d0, d1, d2, d3⟩ := HCC.out wr HW0.out
          clear hY
          generalize Vc.cmp (vs i) (vs j) = CV at *
          generalize vs i = x at *
          generalize vs j = y at *
          go_wp2_with fail
          go_region_held3 (fun W => (W.cell? ⟨b, off + i * 4, none⟩ = some (.int .u64 x.root) ∧ W.cell? ⟨b, off + i * 4 + 1, none⟩ = some (.int .i64 x.cost) ∧ W.cell? ⟨b, off + i * 4 + 2, none⟩ = some (.int .u64 x.bridge) ∧ W.cell? ⟨b, off + i * 4 + 3, none⟩ = some (.int .i64 x.port)) ∧ W.cell? ⟨b, off + j * 4, none⟩ = some (.int .u64 y.root) ∧ W.cell? ⟨b, off + j * 4 + 1, none⟩ = some (.int .i64 y.cost) ∧ W.cell? ⟨b, off + j * 4 + 2, none⟩ = some (.int .u64 y.bridge) ∧ W.cell? ⟨b, off + j * 4 + 3, none⟩ = some (.int .i64 y.port))
            (first | (exact HCC.out _ (Below.drew HW0.out)) | (exact HCC.out _ (Hid.out (by assumption))))
            (first | (go_at_call 9; refine (HC1.out _ (Below.drew HW0.out)).mono ?_; rintro e w3 ⟨rfl, HB3⟩) | (go_at_call 10; refine (HC2.out _ HB3.out).mono ?_; rintro e w4 ⟨rfl, HB4⟩))
          have HF : Hid (Below w.heap.size w w4) := HLO.out _ HB4.out
          clear HLO HCC HC1 HC2 HB3 HB4 HW0 c0 c1 c2 c3 d0 d1 d2 d3
          go_wp2_with fail
          exact ⟨⟨j + 1, by omega, by go_num, HF⟩, by simp [intOf]; omega⟩
        · have hj2 : ¬ (j : Int) < (n : Int) := by omega
          have hj3 : decide ((j : Int) < (n : Int)) = false := decide_eq_false hj2
          obtain ⟨c0, c1, c2, c3⟩ := VRow.cells (HRW.out wr hY.out) hi
          have HO1 : Hid (Calls Try.prog 11 #[.agg #[.int .u64 (vs i).root, .int .i64 (vs i).cost, .int .u64 (vs i).bridge, .int .i64 (vs i).port], .int .i64 cost] wr fun e w' => e = .returned (.tuple #[.agg (vA (Vc.overV (vs i) cost)), .bool (decide (Vc.fitsOver (vs i) cost))]) ∧ Below wr.heap.size wr w') := vover_any (vs i) cost wr
          have HO2 : Hid (∀ W, Calls Try.prog 12 #[.agg #[.int .u64 (vs i).root, .int .i64 (vs i).cost, .int .u64 (vs i).bridge, .int .i64 (vs i).port], .int .i64 cost] W fun e w' => e = .returned (.tuple #[.agg (vA (Vc.overV (vs i) cost)), .bool (decide (Vc.fitsOver (vs i) cost))]) ∧ Below W.heap.size W w') := fun W => rover_any (vs i) cost W
          have HIC : Hid (∀ W, Below wr.heap.size wr W → W.cell? ⟨b, off + i * 4, none⟩ = some (.int .u64 (vs i).root) ∧ W.cell? ⟨b, off + i * 4 + 1, none⟩ = some (.int .i64 (vs i).cost) ∧ W.cell? ⟨b, off + i * 4 + 2, none⟩ = some (.int .u64 (vs i).bridge) ∧ W.cell? ⟨b, off + i * 4 + 3, none⟩ = some (.int .i64 (vs i).port)) := fun W hW => VRow.cells (HRW.out W (HLO.out W hW)) hi
          clear hY
          generalize Vc.overV (vs i) cost = z at *
          obtain ⟨z0, z1, z2, z3⟩ := z
          generalize decide (Vc.fitsOver (vs i) cost) = fz at *
          generalize vs i = x at *
          have hfz : (fz != fz) = false := by cases fz <;> rfl
          have hnq : ∀ W : World, (binOp .neq 27 (.agg #[.int .u64 z0, .int .i64 z1, .int .u64 z2, .int .i64 z3]) (.agg #[.int .u64 z0, .int .i64 z1, .int .u64 z2, .int .i64 z3])).run Try.prog W = .ok (.bool false) W := fun W => vec_neq_same z0 z1 z2 z3 W
          go_wp2_with fail
          refine HO1.out.mono ?_
          rintro e w1 ⟨rfl, hb1⟩
          simp only [vA]
          obtain ⟨X, HXX⟩ : ∃ X, Hid (X = w1.alloc (.cells #[.int .u64 z0, .int .i64 z1, .int .u64 z2, .int .i64 z3] 27)) := ⟨_, rfl⟩
          have HXB : Hid (Below wr.heap.size wr X) := by rw [HXX.out]; exact hb1.alloc hb1.size _
          have HXV : Hid (X.heap[w1.heap.size]? = some (.cells #[.int .u64 z0, .int .i64 z1, .int .u64 z2, .int .i64 z3] 27 (0, 0))) := by rw [HXX.out]; exact heap_alloc_last _ _
          obtain ⟨e0, e1, e2, e3⟩ := HIC.out X HXB.out
          rw [HXX.out] at e0 e1 e2 e3
          clear hb1 c0 c1 c2 c3
          go_wp2_with fail
          rw [← HXX.out]
          refine (HO2.out _).mono ?_
          rintro e w2 ⟨rfl, hb2⟩
          have HV2 : Hid (∀ o, (w2.alloc o).heap[w1.heap.size]? = some (.cells #[.int .u64 z0, .int .i64 z1, .int .u64 z2, .int .i64 z3] 27 (0, 0))) := fun o => keep (keep HXV.out hb2) (below_alloc1 _ _)
          have u0 : ∀ o, (w2.alloc o).cell? ⟨w1.heap.size, 0, none⟩ = some (.int .u64 z0) := fun o => (vc_cells (HV2.out o)).1
          have u1 : ∀ o, (w2.alloc o).cell? ⟨w1.heap.size, 1, none⟩ = some (.int .i64 z1) := fun o => (vc_cells (HV2.out o)).2.1
          have u2 : ∀ o, (w2.alloc o).cell? ⟨w1.heap.size, 2, none⟩ = some (.int .u64 z2) := fun o => (vc_cells (HV2.out o)).2.2.1
          have u3 : ∀ o, (w2.alloc o).cell? ⟨w1.heap.size, 3, none⟩ = some (.int .i64 z3) := fun o => (vc_cells (HV2.out o)).2.2.2
          have HF : Hid (∀ o, Below w.heap.size w (w2.alloc o)) := fun o => HLO.out _ (by
            have h := HXB.out.trans (hb2.mono HXB.out.size)
            exact h.alloc h.size o)
          clear hb2 HXX HXB HXV e0 e1 e2 e3 HLO HIC HO1 HO2 HW0
          simp only [vA]
          go_wp2_with fail
          exact ⟨⟨i + 1, by omega, by go_num, HF.out _⟩, by simp [intOf]; omega⟩
    · have hi2 : ¬ (i : Int) < (n : Int) := by omega
      have hi3 : decide ((i : Int) < (n : Int)) = false := decide_eq_false hi2
      have HX : Hid (Below w.heap.size w wr) := hX
      clear hX
      go_wp2_with fail
      go_loopw [17, 84] (fun vb vi wi => ∃ k : Nat, k ≤ n ∧ vi = .int .i64 k ∧ vb = .int .i64 (Vc.bestTo vs k) ∧ Hid (Below w.heap.size w wi)) (fun _ vi _ => n - (intOf vi).toNat)
      case atStart => exact ⟨0, by omega, rfl, rfl, HX⟩
      case round =>
        obtain ⟨k, lk, rfl, rfl, hY⟩ := hrel
        clear HX hi hi2 hi3 li
        by_cases hk : k < n
        · obtain ⟨b, off, rfl, _⟩ := CRow.some (HRW.out wr hY.out) (by omega)
          have hk2 : (k : Int) < (n : Int) := by omega
          have ik : (0 : Int) ≤ (k : Int) := by omega
          have hrg := Vc.bestTo_range vs k
          have HB1 : Hid (Vc.bestTo vs k < 0 ∨ Vc.lt (vs k) (vs (Vc.bestTo vs k).toNat) → Vc.bestTo vs (k + 1) = k) := fun h => if_pos h
          have HB2 : Hid (¬ (Vc.bestTo vs k < 0 ∨ Vc.lt (vs k) (vs (Vc.bestTo vs k).toNat)) → Vc.bestTo vs (k + 1) = Vc.bestTo vs k) := fun h => if_neg h
          have HW0 : Hid (Below wr.heap.size wr wr) := Below.refl _ _
          have HLO : Hid (∀ W, Below wr.heap.size wr W → Below w.heap.size w W) := fun W hW => hY.out.trans (hW.mono hY.out.size)
          by_cases h0 : Vc.bestTo vs k < 0
          · have hz : Vc.bestTo vs (k + 1) = k := HB1.out (Or.inl h0)
            clear HB1 HB2 hrg hY
            generalize Vc.bestTo vs k = BT at *
            go_wp2_with fail
            go_quiet (fail)
            go_wp2_with fail
            exact ⟨⟨k + 1, by omega, by go_num, by rw [hz], HLO.out _ (below_drewN HW0.out _)⟩, by simp [intOf]; omega⟩
          · obtain ⟨j, hj⟩ : ∃ j : Nat, Vc.bestTo vs k = (j : Int) := ⟨(Vc.bestTo vs k).toNat, by omega⟩
            have hjn : j < n := by omega
            rw [hj, Int.toNat_natCast] at HB1 HB2
            rw [hj] at h0
            rw [hj]
            have HCC : Hid (∀ W, Below wr.heap.size wr W → (W.cell? ⟨b, off + k * 4, none⟩ = some (.int .u64 (vs k).root) ∧ W.cell? ⟨b, off + k * 4 + 1, none⟩ = some (.int .i64 (vs k).cost) ∧ W.cell? ⟨b, off + k * 4 + 2, none⟩ = some (.int .u64 (vs k).bridge) ∧ W.cell? ⟨b, off + k * 4 + 3, none⟩ = some (.int .i64 (vs k).port)) ∧ W.cell? ⟨b, off + j * 4, none⟩ = some (.int .u64 (vs j).root) ∧ W.cell? ⟨b, off + j * 4 + 1, none⟩ = some (.int .i64 (vs j).cost) ∧ W.cell? ⟨b, off + j * 4 + 2, none⟩ = some (.int .u64 (vs j).bridge) ∧ W.cell? ⟨b, off + j * 4 + 3, none⟩ = some (.int .i64 (vs j).port)) := fun W hW => ⟨VRow.cells (HRW.out W (HLO.out W hW)) hk, VRow.cells (HRW.out W (HLO.out W hW)) hjn⟩
            have HBE : Hid (∀ W, Below wr.heap.size wr W → Calls Try.prog 13 #[.agg #[.int .u64 (vs k).root, .int .i64 (vs k).cost, .int .u64 (vs k).bridge, .int .i64 (vs k).port], .agg #[.int .u64 (vs j).root, .int .i64 (vs j).cost, .int .u64 (vs j).bridge, .int .i64 (vs j).port]] W fun e w' => e = .returned (.bool (decide (Vc.lt (vs k) (vs j)))) ∧ Hid (Below wr.heap.size wr w')) := fun W hW => (rbetter_any (vs k) (vs j) W).mono (fun e w' h => ⟨h.1, hW.trans (h.2.mono hW.size)⟩)
            have ij : (0 : Int) ≤ (j : Int) := by omega
            have jn : (j : Int) < (n : Int) := by omega
            have dj : decide ((j : Int) < 0) = false := decide_eq_false (by omega)
            obtain ⟨⟨c0, c1, c2, c3⟩, d0, d1, d2, d3⟩ := HCC.out wr HW0.out
            clear hrg hj h0 hY
            by_cases hl2 : Vc.lt (vs k) (vs j)
            · have hz : Vc.bestTo vs (k + 1) = k := HB1.out (Or.inr hl2)
              rw [decide_eq_true hl2] at HBE
              clear HB1 HB2 hl2
              generalize vs k = x at *
              generalize vs j = y at *
              go_wp2_with fail
              go_region_held3 (fun W => (W.cell? ⟨b, off + k * 4, none⟩ = some (.int .u64 x.root) ∧ W.cell? ⟨b, off + k * 4 + 1, none⟩ = some (.int .i64 x.cost) ∧ W.cell? ⟨b, off + k * 4 + 2, none⟩ = some (.int .u64 x.bridge) ∧ W.cell? ⟨b, off + k * 4 + 3, none⟩ = some (.int .i64 x.port)) ∧ W.cell? ⟨b, off + j * 4, none⟩ = some (.int .u64 y.root) ∧ W.cell? ⟨b, off + j * 4 + 1, none⟩ = some (.int .i64 y.cost) ∧ W.cell? ⟨b, off + j * 4 + 2, none⟩ = some (.int .u64 y.bridge) ∧ W.cell? ⟨b, off + j * 4 + 3, none⟩ = some (.int .i64 y.port))
                (first | (exact HCC.out _ (Below.drew HW0.out)) | (exact HCC.out _ (Hid.out (by assumption))))
                (first | (go_at_call 13; refine (HBE.out _ (Below.drew HW0.out)).mono ?_; rintro e w3 ⟨rfl, HB3⟩))
              go_wp2_with fail
              exact ⟨⟨k + 1, by omega, by go_num, by rw [hz], HLO.out _ HB3.out⟩, by simp [intOf]; omega⟩
            · have hz : Vc.bestTo vs (k + 1) = j := HB2.out (fun q => q.elim (fun q => by omega) hl2)
              rw [decide_eq_false hl2] at HBE
              clear HB1 HB2 hl2
              generalize vs k = x at *
              generalize vs j = y at *
              go_wp2_with fail
              go_region_held3 (fun W => (W.cell? ⟨b, off + k * 4, none⟩ = some (.int .u64 x.root) ∧ W.cell? ⟨b, off + k * 4 + 1, none⟩ = some (.int .i64 x.cost) ∧ W.cell? ⟨b, off + k * 4 + 2, none⟩ = some (.int .u64 x.bridge) ∧ W.cell? ⟨b, off + k * 4 + 3, none⟩ = some (.int .i64 x.port)) ∧ W.cell? ⟨b, off + j * 4, none⟩ = some (.int .u64 y.root) ∧ W.cell? ⟨b, off + j * 4 + 1, none⟩ = some (.int .i64 y.cost) ∧ W.cell? ⟨b, off + j * 4 + 2, none⟩ = some (.int .u64 y.bridge) ∧ W.cell? ⟨b, off + j * 4 + 3, none⟩ = some (.int .i64 y.port))
                (first | (exact HCC.out _ (Below.drew HW0.out)) | (exact HCC.out _ (Hid.out (by assumption))))
                (first | (go_at_call 13; refine (HBE.out _ (Below.drew HW0.out)).mono ?_; rintro e w3 ⟨rfl, HB3⟩))
              go_wp2_with fail
              exact ⟨⟨k + 1, by omega, by go_num, by rw [hz], HLO.out _ HB3.out⟩, by simp [intOf]; omega⟩
        · have hk2 : ¬ (k : Int) < (n : Int) := by omega
          have hk3 : decide ((k : Int) < (n : Int)) = false := decide_eq_false hk2
          obtain rfl : k = n := by omega
          have HBST : Hid (Calls Try.prog 14 #[.slice ao k cap] wr fun e w' => e = .returned (.int .i64 (Vc.bestTo vs k)) ∧ Below wr.heap.size wr w') := vbest_any ao k cap vs wr (by omega) (HRW.out wr hY.out)
          have HSO : Hid (∀ W, Below w.heap.size w W → Calls Try.prog 16 #[.slice ao k cap] W fun e w' => ∃ ss, e = .returned (.slice (some ⟨W.heap.size, 0, none⟩) k k) ∧ w'.heap[W.heap.size]? = some (.cells (rowV k ss) 27 (0, 0)) ∧ Vc.SortedF k ss ∧ (Vc.listOf k ss).Perm (Vc.listOf k vs) ∧ Below W.heap.size W w') := fun W hW => vsorted_any ao k cap vs W hn2 (HRW.out W hW)
          have HRS : Hid (∀ W, Below w.heap.size w W → Calls Try.prog 17 #[.slice ao k cap] W fun e w' => ∃ so sc, e = .returned (.slice so k sc) ∧ VRow w' so k sc (Vc.srt vs k) ∧ NilOk so k sc ∧ Below W.heap.size W w') := fun W hW => rsorted_any ao k cap vs W (by omega) hn (HRW.out W hW)
          have HCH : Hid (∀ W, Below w.heap.size w W → Calls Try.prog 18 #[.int .u64 id, .slice bo l cap2] W fun e w' => e = .returned (.tuple #[.agg (vA (Vc.chV id os l)), .int .i64 (Vc.chA id os l), .int .i64 (Vc.chP id os l)]) ∧ Below W.heap.size W w') := fun W hW => vchoose_any id bo l cap2 os W hl (HOW.out W hW)
          have HRC : Hid (∀ W, Below w.heap.size w W → Calls Try.prog 19 #[.int .u64 id, .slice bo l cap2] W fun e w' => e = .returned (.tuple #[.agg (vA (Vc.chV id os l)), .int .i64 (Vc.chA id os l), .int .i64 (Vc.chP id os l)]) ∧ Below W.heap.size W w') := fun W hW => rchoose_any id bo l cap2 os W hl (HOW.out W hW)
          have HRO : Hid (∀ (s : V) (r p : Int) W, Below w.heap.size w W → Calls Try.prog 20 #[.agg #[.int .u64 s.root, .int .i64 s.cost, .int .u64 s.bridge, .int .i64 s.port], .int .i64 r, .int .i64 p, .slice bo l cap2] W fun e w' => e = .returned (.int .i64 (Vc.role s r p os l)) ∧ Below W.heap.size W w') := fun s r p W hW => vrole_any s r p bo l cap2 os W hl (HOW.out W hW)
          have HRR : Hid (∀ (s : V) (r p : Int) W, Below w.heap.size w W → Calls Try.prog 21 #[.agg #[.int .u64 s.root, .int .i64 s.cost, .int .u64 s.bridge, .int .i64 s.port], .int .i64 r, .int .i64 p, .slice bo l cap2] W fun e w' => e = .returned (.int .i64 (Vc.role s r p os l)) ∧ Below W.heap.size W w') := fun s r p W hW => rrole_any s r p bo l cap2 os W hl (HOW.out W hW)
          have HY : Hid (Below w.heap.size w wr) := hY
          clear hY hk hk2 hk3 HOW HRW
          generalize Vc.bestTo vs k = BT at *
          go_wp2_with fail
          refine HBST.out.mono ?_
          rintro e w1 ⟨rfl, hb1⟩
          have H1 : Hid (Below w.heap.size w w1) := HY.out.trans (hb1.mono HY.out.size)
          clear hb1 HBST HY
          go_wp2_with fail
          refine (HSO.out _ H1.out).mono ?_
          rintro e w2 ⟨ss, rfl, g1, g2, g3, hb2⟩
          have H2 : Hid (Below w.heap.size w w2) := H1.out.trans (hb2.mono H1.out.size)
          have HSR : Hid (VRow w2 (some ⟨w1.heap.size, 0, none⟩) k k (Vc.srt vs k)) := CRow.congr (rowV_row g1 (Nat.le_refl _)) (fun i hi => by
            show vC (ss i) = vC (Vc.srt vs k i)
            rw [Vc.sorted_same g2 g3 (Vc.srt_sorted vs k) (Vc.srt_perm vs k) i hi])
          clear g1 g2 g3 hb2 HSO
          go_wp2_with fail
          refine (HRS.out _ H2.out).mono ?_
          rintro e w3 ⟨so, sc, rfl, r1, _, hb3⟩
          have H3 : Hid (Below w.heap.size w w3) := H2.out.trans (hb3.mono H2.out.size)
          have HSM : Hid (Calls Try.prog 15 #[.slice (some ⟨w1.heap.size, 0, none⟩) k k, .slice so k sc] w3 fun e w' => e = .returned (.bool true) ∧ Below w3.heap.size w3 w') := rsame_vecs _ so k k sc (Vc.srt vs k) w3 (by omega) (CRow.below HSR.out hb3) r1
          clear r1 hb3 HRS HSR
          go_wp2_with fail
          refine HSM.out.mono ?_
          rintro e w4 ⟨rfl, hb4⟩
          have H4 : Hid (Below w.heap.size w w4) := H3.out.trans (hb4.mono H3.out.size)
          clear hb4 HSM H1 H2 H3
          generalize Vc.chV id os l = cv at *
          generalize Vc.chA id os l = ca at *
          generalize Vc.chP id os l = cp at *
          obtain ⟨z0, z1, z2, z3⟩ := cv
          go_wp2_with fail
          refine (HCH.out _ H4.out).mono ?_
          rintro e w5 ⟨rfl, hb5⟩
          simp only [vA]
          obtain ⟨X, HXX⟩ : ∃ X, Hid (X = w5.alloc (.cells #[.int .u64 z0, .int .i64 z1, .int .u64 z2, .int .i64 z3] 27)) := ⟨_, rfl⟩
          obtain ⟨P1, HP1⟩ : ∃ P1, Hid (P1 = w5.heap.size) := ⟨_, rfl⟩
          have HXB : Hid (Below w.heap.size w X) := by
            rw [HXX.out]
            have h := H4.out.trans (hb5.mono H4.out.size)
            exact h.alloc h.size _
          have HXV : Hid (X.heap[P1]? = some (.cells #[.int .u64 z0, .int .i64 z1, .int .u64 z2, .int .i64 z3] 27 (0, 0))) := by rw [HXX.out, HP1.out]; exact heap_alloc_last _ _
          clear hb5 H4 HCH
          go_wp2_with fail
          rw [← HXX.out, ← HP1.out]
          refine (HRC.out _ HXB.out).mono ?_
          rintro e w6 ⟨rfl, hb6⟩
          simp only [vA]
          obtain ⟨Y, HYY⟩ : ∃ Y, Hid (Y = w6.alloc (.cells #[.int .u64 z0, .int .i64 z1, .int .u64 z2, .int .i64 z3] 27)) := ⟨_, rfl⟩
          obtain ⟨P2, HP2⟩ : ∃ P2, Hid (P2 = w6.heap.size) := ⟨_, rfl⟩
          have HYX : Hid (Below X.heap.size X Y) := by rw [HYY.out]; exact hb6.alloc hb6.size _
          have HYB : Hid (Below w.heap.size w Y) := HXB.out.trans (HYX.out.mono HXB.out.size)
          have HYV : Hid (Y.heap[P1]? = some (.cells #[.int .u64 z0, .int .i64 z1, .int .u64 z2, .int .i64 z3] 27 (0, 0))) := keep HXV.out HYX.out
          have HYW : Hid (Y.heap[P2]? = some (.cells #[.int .u64 z0, .int .i64 z1, .int .u64 z2, .int .i64 z3] 27 (0, 0))) := by rw [HYY.out, HP2.out]; exact heap_alloc_last _ _
          clear hb6 HRC HXB HXV HYX HXX HP1
          go_wp2_with fail
          rw [← HYY.out, ← HP2.out]
          have HCC : Hid (∀ W, Below Y.heap.size Y W → (W.cell? ⟨P1, 0, none⟩ = some (.int .u64 z0) ∧ W.cell? ⟨P1, 1, none⟩ = some (.int .i64 z1) ∧ W.cell? ⟨P1, 2, none⟩ = some (.int .u64 z2) ∧ W.cell? ⟨P1, 3, none⟩ = some (.int .i64 z3)) ∧ W.cell? ⟨P2, 0, none⟩ = some (.int .u64 z0) ∧ W.cell? ⟨P2, 1, none⟩ = some (.int .i64 z1) ∧ W.cell? ⟨P2, 2, none⟩ = some (.int .u64 z2) ∧ W.cell? ⟨P2, 3, none⟩ = some (.int .i64 z3)) := fun W hW => ⟨vc_cells (keep HYV.out hW), vc_cells (keep HYW.out hW)⟩
          have HW0 : Hid (Below Y.heap.size Y Y) := Below.refl _ _
          have HLO : Hid (∀ W, Below Y.heap.size Y W → Below w.heap.size w W) := fun W hW => HYB.out.trans (hW.mono HYB.out.size)
          have K1 : Hid (∀ W, Below Y.heap.size Y W → Calls Try.prog 20 #[.agg #[.int .u64 z0, .int .i64 z1, .int .u64 z2, .int .i64 z3], .int .i64 cp, .int .i64 port, .slice bo l cap2] W fun e w' => e = .returned (.int .i64 (Vc.role ⟨z0, z1, z2, z3⟩ cp port os l)) ∧ Hid (Below Y.heap.size Y w')) := fun W hW => (HRO.out ⟨z0, z1, z2, z3⟩ cp port W (HLO.out W hW)).mono (fun e w' h => ⟨h.1, hW.trans (h.2.mono hW.size)⟩)
          have K2 : Hid (∀ W, Below Y.heap.size Y W → Calls Try.prog 21 #[.agg #[.int .u64 z0, .int .i64 z1, .int .u64 z2, .int .i64 z3], .int .i64 cp, .int .i64 port, .slice bo l cap2] W fun e w' => e = .returned (.int .i64 (Vc.role ⟨z0, z1, z2, z3⟩ cp port os l)) ∧ Hid (Below Y.heap.size Y w')) := fun W hW => (HRR.out ⟨z0, z1, z2, z3⟩ cp port W (HLO.out W hW)).mono (fun e w' h => ⟨h.1, hW.trans (h.2.mono hW.size)⟩)
          obtain ⟨⟨c0, c1, c2, c3⟩, d0, d1, d2, d3⟩ := HCC.out Y HW0.out
          generalize Vc.role ⟨z0, z1, z2, z3⟩ cp port os l = RV at *
          clear HRO HRR HYV HYW HYB HYY HP2
          go_region_held3 (fun W => (W.cell? ⟨P1, 0, none⟩ = some (.int .u64 z0) ∧ W.cell? ⟨P1, 1, none⟩ = some (.int .i64 z1) ∧ W.cell? ⟨P1, 2, none⟩ = some (.int .u64 z2) ∧ W.cell? ⟨P1, 3, none⟩ = some (.int .i64 z3)) ∧ W.cell? ⟨P2, 0, none⟩ = some (.int .u64 z0) ∧ W.cell? ⟨P2, 1, none⟩ = some (.int .i64 z1) ∧ W.cell? ⟨P2, 2, none⟩ = some (.int .u64 z2) ∧ W.cell? ⟨P2, 3, none⟩ = some (.int .i64 z3))
            (first | (exact HCC.out _ (Below.drew HW0.out)) | (exact HCC.out _ (Hid.out (by assumption))))
            (first | (go_at_call 20; refine (K1.out _ (Below.drew HW0.out)).mono ?_; rintro e w7 ⟨rfl, HB7⟩) | (go_at_call 21; refine (K2.out _ HB7.out).mono ?_; rintro e w8 ⟨rfl, HB8⟩))
          have HF : Hid (Below w.heap.size w w8) := HLO.out _ HB8.out
          go_wp2_with fail
          go_ret
          exact ⟨rfl, HF.out⟩
end Go.Proofs.Ythnklbcaodhbfaa
