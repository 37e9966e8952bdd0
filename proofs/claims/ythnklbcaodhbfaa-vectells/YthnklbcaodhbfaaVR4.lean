/- walks: the document's Sorted -/
import Derived.Test.YthnklbcaodhbfaaVAp
import Derived.Test.YthnklbcaodhbfaaHT
namespace Go.Proofs.Ythnklbcaodhbfaa
open Go.RowKit
open Vc (V Of)

theorem crow_zero {w : World} {ao : Option Addr} {n cap k : Nat} {c : Nat → Nat → Value} (h : n = 0) : CRow w ao n cap k c := by subst h; exact CRow.none _ _ _ _ _
set_option maxRecDepth 100000 in
set_option maxHeartbeats 4000000 in
theorem rsorted_any (ao : Option Addr) (n cap : Nat) (vs : Nat → V) (w : World) (hn : n ≤ 9223372036854775807) (hsz : n * 32 ≤ 140737488355328) (hr : VRow w ao n cap vs) :
    Calls Try.prog 17 #[.slice ao n cap] w fun e w' => ∃ so sc, e = .returned (.slice so n sc) ∧ VRow w' so n sc (Vc.srt vs n) ∧ NilOk so n sc ∧ Below w.heap.size w w' := by
  have HRW : Hid (∀ W, Below w.heap.size w W → VRow W ao n cap vs) := fun W hW => CRow.below hr hW
  clear hr
  go_enter Try.func17, Try.ntmps17
  go_wp2_with fail
  go_loopw [3, 9] (fun v i wr => ∃ k : Nat, k ≤ n ∧ i = .int .i64 k ∧ Hid (wr.ownsRow w.heap.size 27 4 v k (cellsL k 4 (fun i => vC (Vc.srt vs k i))) ∧ Below w.heap.size w wr ∧ (k = 0 → v = .slice none 0 0))) (fun _ i _ => n - (intOf i).toNat)
  case atStart => exact ⟨0, by omega, rfl, ownsC_nil _ _ _ _ _, Below.refl _ _, fun _ => rfl⟩
  case round =>
    obtain ⟨k, hk, rfl, hX⟩ := hrel
    obtain ⟨so, sc, rfl, hrow, hnil, hnew⟩ := owns_c (by omega) hX.out.1
    have HROW : Hid (VRow wr so k sc (Vc.srt vs k)) := hrow
    have HNIL : Hid (NilOk so k sc) := hnil
    have HNO : Hid (k = 0 → so = none ∧ sc = 0) := fun h => by have := hX.out.2.2 h; simp only [Value.slice.injEq] at this; exact ⟨this.1, this.2.2⟩
    clear hrow hnil hnew
    by_cases hlt : k < n
    · obtain ⟨b, off, rfl, hb⟩ := CRow.some (HRW.out wr hX.out.2.1) (by omega)
      have hcap := (HRW.out wr hX.out.2.1).1
      obtain ⟨c0, c1, c2, c3⟩ := VRow.cells (HRW.out wr hX.out.2.1) hlt
      obtain ⟨X, HX⟩ : ∃ X, Hid (X = wr.alloc (.cells #[.int .u64 (vs k).root, .int .i64 (vs k).cost, .int .u64 (vs k).bridge, .int .i64 (vs k).port] 27)) := ⟨_, rfl⟩
      have HWX : Hid (Below wr.heap.size wr X) := by rw [HX.out]; exact below_alloc1 _ _
      have HXV : Hid (X.heap[wr.heap.size]? = some (.cells #[.int .u64 (vs k).root, .int .i64 (vs k).cost, .int .u64 (vs k).bridge, .int .i64 (vs k).port] 27 (0, 0))) := by rw [HX.out]; exact heap_alloc_last _ _
      have HXC : Hid (∀ W, Below X.heap.size X W → (W.cell? ⟨wr.heap.size, 0, none⟩ = some (.int .u64 (vs k).root) ∧ W.cell? ⟨wr.heap.size, 1, none⟩ = some (.int .i64 (vs k).cost) ∧ W.cell? ⟨wr.heap.size, 2, none⟩ = some (.int .u64 (vs k).bridge) ∧ W.cell? ⟨wr.heap.size, 3, none⟩ = some (.int .i64 (vs k).port))) := fun W hW => vc_cells (keep HXV.out hW)
      have HXR : Hid (∀ W, Below X.heap.size X W → VRow W so k sc (Vc.srt vs k)) := fun W hW => CRow.below (CRow.below HROW.out HWX.out) (by exact hW)
      have HLOW : Hid (∀ W, Below X.heap.size X W → Below w.heap.size w W) := fun W hW => (hX.out.2.1.trans (HWX.out.mono hX.out.2.1.size)).trans (hW.mono (hX.out.2.1.trans (HWX.out.mono hX.out.2.1.size)).size)
      have HXW : Hid (w.heap.size ≤ X.heap.size) := (hX.out.2.1.trans (HWX.out.mono hX.out.2.1.size)).size
      have HNEXT : Hid (∀ p, p = Vc.spot (vs k) (Vc.srt vs k) k → insAt p (vs k) (Vc.srt vs k) = Vc.srt vs (k + 1)) := fun p h => by subst h; rfl
      have HSP : Hid (∀ j, Vc.spot (vs k) (Vc.srt vs k) (j + 1) = if Vc.lt (vs k) (Vc.srt vs k j) then Vc.spot (vs k) (Vc.srt vs k) j else j + 1) := fun j => rfl
      have HS0 : Hid (Vc.spot (vs k) (Vc.srt vs k) 0 = 0) := rfl
      have HFIN : Hid (∀ p W z a c, p = Vc.spot (vs k) (Vc.srt vs k) k → Below X.heap.size X W → InsW W z k p (vs k) (Vc.srt vs k) a c → z.ownsRow w.heap.size 27 4 (.slice a (k + 1) c) (k + 1) (cellsL (k + 1) 4 (fun i => vC (Vc.srt vs (k + 1) i))) ∧ Below w.heap.size w z ∧ (k + 1 = 0 → Value.slice a (k + 1) c = .slice none 0 0)) := fun p W z a c hp hW h => by
        have h1 := HLOW.out W hW
        rw [← HNEXT.out p hp]
        exact ⟨ownsC_mono h.row h1.size, h1.trans (h.low.mono h1.size), fun e => by omega⟩
      have hb32 : (k + 1) * 32 ≤ 140737488355328 := by omega
      clear HROW hb HXV HWX HNEXT hX
      obtain ⟨G, HG⟩ : ∃ G, Hid (G = wr.heap.size) := ⟨_, rfl⟩
      rw [← HG.out] at HXC
      go_wp2_with fail
      rw [← HX.out, ← HG.out]
      clear c0 c1 c2 c3
      go_loopw [6] (fun m wi => ∃ j : Nat, j ≤ k ∧ m = .int .i64 j ∧ Hid (Vc.spot (vs k) (Vc.srt vs k) k = Vc.spot (vs k) (Vc.srt vs k) j ∧ Below X.heap.size X wi)) (fun m _ => (intOf m).toNat)
      case atStart => exact ⟨k, Nat.le_refl _, rfl, rfl, Below.refl _ _⟩
      case round =>
        obtain ⟨j, hj, rfl, hI⟩ := hrel
        have HIB : Hid (Below X.heap.size X wr) := hI.out.2
        by_cases hj0 : j = 0
        · have HJ0 : Hid (j = 0) := hj0
          have HSPOT : Hid (Vc.spot (vs k) (Vc.srt vs k) k = j) := by rw [hI.out.1, hj0]; exact HS0.out
          clear hI HSP HS0 hj0
          go_wp2_with fail
          refine wp_region_held_drew (S := fun W => True) (by kernel_rfl) trivial (fun hHeld => ?_)
          refine held_take (i := 0) (v := ?_) (some 15) rfl rfl (by kernel_rfl) (by kernel_rfl) (by kernel_rfl) (fun _ _ _ h => h) (by rfl) ?_ hHeld ?_
          rotate_left 1
          · (intro wq hSw; go_simp; try with_reducible rfl)
          simp only [Act.put, List.setIfInBounds_toArray, List.set_cons_zero, List.set_cons_succ]
          refine held_take (i := 1) (v := .bool false) (some 16) rfl rfl (by kernel_rfl) (by kernel_rfl) (by kernel_rfl) (fun _ _ _ h => h) (by rfl) ?_ hHeld ?_
          · (intro wq hSw; go_simp; first | done | (exact HJ0.out) | (have := HJ0.out; omega) | (have := HJ0.out; simp; omega))
          simp only [Act.put, List.setIfInBounds_toArray, List.set_cons_zero, List.set_cons_succ]
          refine held_take (i := 2) (v := ?_) (some 17) rfl rfl (by kernel_rfl) (by kernel_rfl) (by kernel_rfl) (fun _ _ _ h => h) (by rfl) ?_ hHeld ?_
          rotate_left 1
          · (intro wq hSw; go_simp; try with_reducible rfl)
          simp only [Act.put, List.setIfInBounds_toArray, List.set_cons_zero, List.set_cons_succ]
          refine held_skip (i := 3) (some 18) rfl rfl (by kernel_rfl) (by kernel_rfl) (by kernel_rfl) (fun _ _ _ h => h) (by rfl) hHeld ?_
          simp only [Act.put, List.setIfInBounds_toArray, List.set_cons_zero, List.set_cons_succ]
          refine held_skip (i := 4) (some 19) rfl rfl (by kernel_rfl) (by kernel_rfl) (by kernel_rfl) (fun _ _ _ h => h) (by rfl) hHeld ?_
          simp only [Act.put, List.setIfInBounds_toArray, List.set_cons_zero, List.set_cons_succ]
          refine held_skip (i := 5) (some 20) rfl rfl (by kernel_rfl) (by kernel_rfl) (by kernel_rfl) (fun _ _ _ h => h) (by rfl) hHeld ?_
          simp only [Act.put, List.setIfInBounds_toArray, List.set_cons_zero, List.set_cons_succ]
          refine held_skip (i := 6) (some 21) rfl rfl (by kernel_rfl) (by kernel_rfl) (by kernel_rfl) (fun _ _ _ h => h) (by rfl) hHeld ?_
          simp only [Act.put, List.setIfInBounds_toArray, List.set_cons_zero, List.set_cons_succ]
          refine held_skip (i := 7) (some 22) rfl rfl (by kernel_rfl) (by kernel_rfl) (by kernel_rfl) (fun _ _ _ h => h) (by rfl) hHeld ?_
          simp only [Act.put, List.setIfInBounds_toArray, List.set_cons_zero, List.set_cons_succ]
          refine held_skip (i := 8) (some 23) rfl rfl (by kernel_rfl) (by kernel_rfl) (by kernel_rfl) (fun _ _ _ h => h) (by rfl) hHeld ?_
          simp only [Act.put, List.setIfInBounds_toArray, List.set_cons_zero, List.set_cons_succ]
          refine held_skip (i := 9) (some 24) rfl rfl (by kernel_rfl) (by kernel_rfl) (by kernel_rfl) (fun _ _ _ h => h) (by rfl) hHeld ?_
          simp only [Act.put, List.setIfInBounds_toArray, List.set_cons_zero, List.set_cons_succ]
          refine held_take (i := 10) (v := ?_) (some 25) rfl rfl (by kernel_rfl) (by kernel_rfl) (by kernel_rfl) (fun _ _ _ h => h) (by rfl) ?_ hHeld ?_
          rotate_left 1
          · (intro wq hSw; go_simp; try with_reducible rfl)
          simp only [Act.put, List.setIfInBounds_toArray, List.set_cons_zero, List.set_cons_succ]
          refine wpAnyH_done (by kernel_rfl) ?_ _
          obtain ⟨Y, HY⟩ : ∃ Y, Hid (Y = wr.drew) := ⟨_, rfl⟩
          have HVB : Hid (Below X.heap.size X Y) := by rw [HY.out]; exact Below.drew HIB.out
          rcases Nat.eq_zero_or_pos k with h0 | h0
          · obtain ⟨e1, e2⟩ := HNO.out h0
            have hjs : j ≤ sc := by have := HJ0.out; omega
            have hks : k ≤ sc := by omega
            have HK0 : Hid (k = 0 ∧ sc = 0) := ⟨h0, e2⟩
            clear h0 e2
            subst e1
            obtain ⟨a1, c1, x1, d1, e1, y1, f1, g1, z1, r1, s1, t1, hx1, hy1, hz1⟩ := app_a Y k j (by omega) (vs k) (Vc.srt vs k) none sc (crow_zero HJ0.out) (fun _ => ⟨HJ0.out, HK0.out.2⟩) none (sc - j) (crow_zero (by have := HK0.out.1; omega)) (fun _ => ⟨by have := HK0.out.1; omega, by have := HK0.out.2; omega⟩) (by omega)
            have HX1 : Hid (Below Y.heap.size Y x1) := hx1
            have HY1 : Hid (Below Y.heap.size Y y1) := hy1
            have HZ1 : Hid (InsW Y z1 k j (vs k) (Vc.srt vs k) f1 g1) := hz1
            clear hx1 hy1 hz1
            obtain ⟨a2, c2, x2, d2, e2, y2, f2, g2, z2, r2, s2, t2, hx2, hy2, hz2⟩ := app_b Y k j (by omega) (vs k) (Vc.srt vs k) none sc (crow_zero HJ0.out) (fun _ => ⟨HJ0.out, HK0.out.2⟩) none (sc - j) (crow_zero (by have := HK0.out.1; omega)) (fun _ => ⟨by have := HK0.out.1; omega, by have := HK0.out.2; omega⟩) (by omega)
            have HX2 : Hid (Below Y.heap.size Y x2) := hx2
            have HY2 : Hid (Below Y.heap.size Y y2) := hy2
            have HZ2 : Hid (InsW Y z2 k j (vs k) (Vc.srt vs k) f2 g2) := hz2
            clear hx2 hy2 hz2
            obtain ⟨a3, c3, x3, d3, e3, y3, f3, g3, z3, r3, s3, t3, hx3, hy3, hz3⟩ := app_c Y k j (by omega) (vs k) (Vc.srt vs k) none sc (crow_zero HJ0.out) (fun _ => ⟨HJ0.out, HK0.out.2⟩) none (sc - j) (crow_zero (by have := HK0.out.1; omega)) (fun _ => ⟨by have := HK0.out.1; omega, by have := HK0.out.2; omega⟩) (by omega)
            have HX3 : Hid (Below Y.heap.size Y x3) := hx3
            have HY3 : Hid (Below Y.heap.size Y y3) := hy3
            have HZ3 : Hid (InsW Y z3 k j (vs k) (Vc.srt vs k) f3 g3) := hz3
            clear hx3 hy3 hz3
            have HX7 : Hid (∀ o, Below Y.heap.size Y (x1.alloc o)) := fun o => HX1.out.alloc HX1.out.size o
            have HS8 : Hid (∀ W, Below Y.heap.size Y W → (W.cell? ⟨G, 0, none⟩ = some (.int .u64 (vs k).root) ∧ W.cell? ⟨G, 1, none⟩ = some (.int .i64 (vs k).cost) ∧ W.cell? ⟨G, 2, none⟩ = some (.int .u64 (vs k).bridge) ∧ W.cell? ⟨G, 3, none⟩ = some (.int .i64 (vs k).port))) := fun W hW => HXC.out W (HVB.out.trans (hW.mono HVB.out.size))
            clear HJ0 HK0
            have ij0 : (0 : Int) ≤ (j : Int) := by omega
            have ij1 : (j : Int) ≤ (k : Int) := by omega
            have ij2 : (j : Int) ≤ (sc : Int) := by omega
            have ij3 : (k : Int) ≤ (sc : Int) := by omega
            unfold runApp at r1 s1 t1 r2 s2 t2 r3 s3 t3
            unfold vA at s1 r2 r3
            obtain ⟨q0, q1, q2, q3⟩ := HS8.out Y (Below.refl _ _)
            go_wp2_with fail
            rw [← HY.out]
            go_region_held3 (fun W => (W.cell? ⟨G, 0, none⟩ = some (.int .u64 (vs k).root) ∧ W.cell? ⟨G, 1, none⟩ = some (.int .i64 (vs k).cost) ∧ W.cell? ⟨G, 2, none⟩ = some (.int .u64 (vs k).bridge) ∧ W.cell? ⟨G, 3, none⟩ = some (.int .i64 (vs k).port)))
              (first | (with_reducible exact HS8.out _ HX1.out) | (with_reducible exact HS8.out _ HX2.out) | (with_reducible exact HS8.out _ HX3.out) | (with_reducible exact HS8.out _ (HX7.out _)) | (with_reducible exact HS8.out _ HY1.out) | (with_reducible exact HS8.out _ HY2.out) | (with_reducible exact HS8.out _ HY3.out) | (with_reducible exact HS8.out _ HZ1.out.low) | (with_reducible exact HS8.out _ HZ2.out.low) | (with_reducible exact HS8.out _ HZ3.out.low) | go_keep)
              (first | ((with_reducible refine step_append_c ?_ (.tmp 28) (.tmp 31) 22 ?_ _ _ _ ?_ ?_ r1 ?_); rfl; rfl; rfl; rfl) | ((with_reducible refine step_append_c ?_ (.tmp 28) (.tmp 31) 22 ?_ _ _ _ ?_ ?_ r2 ?_); rfl; rfl; rfl; rfl) | ((with_reducible refine step_append_c ?_ (.tmp 28) (.tmp 31) 22 ?_ _ _ _ ?_ ?_ r3 ?_); rfl; rfl; rfl; rfl) | ((with_reducible refine step_append_c ?_ (.tmp 32) (.tmp 34) 22 ?_ _ _ _ ?_ ?_ s1 ?_); rfl; rfl; rfl; rfl) | ((with_reducible refine step_append_c ?_ (.tmp 32) (.tmp 34) 22 ?_ _ _ _ ?_ ?_ s2 ?_); rfl; rfl; rfl; rfl) | ((with_reducible refine step_append_c ?_ (.tmp 32) (.tmp 34) 22 ?_ _ _ _ ?_ ?_ s3 ?_); rfl; rfl; rfl; rfl) | ((with_reducible refine step_append_c ?_ (.tmp 35) (.tmp 38) 22 ?_ _ _ _ ?_ ?_ t1 ?_); rfl; rfl; rfl; rfl) | ((with_reducible refine step_append_c ?_ (.tmp 35) (.tmp 38) 22 ?_ _ _ _ ?_ ?_ t2 ?_); rfl; rfl; rfl; rfl) | ((with_reducible refine step_append_c ?_ (.tmp 35) (.tmp 38) 22 ?_ _ _ _ ?_ ?_ t3 ?_); rfl; rfl; rfl; rfl))
            all_goals go_wp2_with fail
            · exact ⟨⟨k + 1, by omega, by go_num, HFIN.out _ _ _ _ _ HSPOT.out.symm HVB.out HZ1.out⟩, by simp [intOf]; omega⟩
            · exact ⟨⟨k + 1, by omega, by go_num, HFIN.out _ _ _ _ _ HSPOT.out.symm HVB.out HZ2.out⟩, by simp [intOf]; omega⟩
            · exact ⟨⟨k + 1, by omega, by go_num, HFIN.out _ _ _ _ _ HSPOT.out.symm HVB.out HZ3.out⟩, by simp [intOf]; omega⟩
          · obtain ⟨sb, soff, rfl, _⟩ := CRow.some (HXR.out Y HVB.out) h0
            have hks := (HXR.out Y HVB.out).1
            have hjs : j ≤ sc := by omega
            have hjn : sc ≠ j := by have := HJ0.out; omega
            obtain ⟨a1, c1, x1, d1, e1, y1, f1, g1, z1, r1, s1, t1, hx1, hy1, hz1⟩ := app_a Y k j (by omega) (vs k) (Vc.srt vs k) (some ⟨sb, soff, none⟩) sc (CRow.prefix (HXR.out Y HVB.out) hj) (fun e => by cases e) (some ⟨sb, soff + j * 4, none⟩) (sc - j) (CRow.behind (HXR.out Y HVB.out) j hj) (fun e => by cases e) (by omega)
            have HX1 : Hid (Below Y.heap.size Y x1) := hx1
            have HY1 : Hid (Below Y.heap.size Y y1) := hy1
            have HZ1 : Hid (InsW Y z1 k j (vs k) (Vc.srt vs k) f1 g1) := hz1
            clear hx1 hy1 hz1
            obtain ⟨a2, c2, x2, d2, e2, y2, f2, g2, z2, r2, s2, t2, hx2, hy2, hz2⟩ := app_b Y k j (by omega) (vs k) (Vc.srt vs k) (some ⟨sb, soff, none⟩) sc (CRow.prefix (HXR.out Y HVB.out) hj) (fun e => by cases e) (some ⟨sb, soff + j * 4, none⟩) (sc - j) (CRow.behind (HXR.out Y HVB.out) j hj) (fun e => by cases e) (by omega)
            have HX2 : Hid (Below Y.heap.size Y x2) := hx2
            have HY2 : Hid (Below Y.heap.size Y y2) := hy2
            have HZ2 : Hid (InsW Y z2 k j (vs k) (Vc.srt vs k) f2 g2) := hz2
            clear hx2 hy2 hz2
            obtain ⟨a3, c3, x3, d3, e3, y3, f3, g3, z3, r3, s3, t3, hx3, hy3, hz3⟩ := app_c Y k j (by omega) (vs k) (Vc.srt vs k) (some ⟨sb, soff, none⟩) sc (CRow.prefix (HXR.out Y HVB.out) hj) (fun e => by cases e) (some ⟨sb, soff + j * 4, none⟩) (sc - j) (CRow.behind (HXR.out Y HVB.out) j hj) (fun e => by cases e) (by omega)
            have HX3 : Hid (Below Y.heap.size Y x3) := hx3
            have HY3 : Hid (Below Y.heap.size Y y3) := hy3
            have HZ3 : Hid (InsW Y z3 k j (vs k) (Vc.srt vs k) f3 g3) := hz3
            clear hx3 hy3 hz3
            have HX7 : Hid (∀ o, Below Y.heap.size Y (x1.alloc o)) := fun o => HX1.out.alloc HX1.out.size o
            have HS8 : Hid (∀ W, Below Y.heap.size Y W → (W.cell? ⟨G, 0, none⟩ = some (.int .u64 (vs k).root) ∧ W.cell? ⟨G, 1, none⟩ = some (.int .i64 (vs k).cost) ∧ W.cell? ⟨G, 2, none⟩ = some (.int .u64 (vs k).bridge) ∧ W.cell? ⟨G, 3, none⟩ = some (.int .i64 (vs k).port))) := fun W hW => HXC.out W (HVB.out.trans (hW.mono HVB.out.size))
            clear HJ0
            have ij0 : (0 : Int) ≤ (j : Int) := by omega
            have ij1 : (j : Int) ≤ (k : Int) := by omega
            have ij2 : (j : Int) ≤ (sc : Int) := by omega
            have ij3 : (k : Int) ≤ (sc : Int) := by omega
            unfold runApp at r1 s1 t1 r2 s2 t2 r3 s3 t3
            unfold vA at s1 r2 r3
            obtain ⟨q0, q1, q2, q3⟩ := HS8.out Y (Below.refl _ _)
            go_wp2_with fail
            rw [← HY.out]
            go_region_held3 (fun W => (W.cell? ⟨G, 0, none⟩ = some (.int .u64 (vs k).root) ∧ W.cell? ⟨G, 1, none⟩ = some (.int .i64 (vs k).cost) ∧ W.cell? ⟨G, 2, none⟩ = some (.int .u64 (vs k).bridge) ∧ W.cell? ⟨G, 3, none⟩ = some (.int .i64 (vs k).port)))
              (first | (with_reducible exact HS8.out _ HX1.out) | (with_reducible exact HS8.out _ HX2.out) | (with_reducible exact HS8.out _ HX3.out) | (with_reducible exact HS8.out _ (HX7.out _)) | (with_reducible exact HS8.out _ HY1.out) | (with_reducible exact HS8.out _ HY2.out) | (with_reducible exact HS8.out _ HY3.out) | (with_reducible exact HS8.out _ HZ1.out.low) | (with_reducible exact HS8.out _ HZ2.out.low) | (with_reducible exact HS8.out _ HZ3.out.low) | go_keep)
              (first | ((with_reducible refine step_append_c ?_ (.tmp 28) (.tmp 31) 22 ?_ _ _ _ ?_ ?_ r1 ?_); rfl; rfl; rfl; rfl) | ((with_reducible refine step_append_c ?_ (.tmp 28) (.tmp 31) 22 ?_ _ _ _ ?_ ?_ r2 ?_); rfl; rfl; rfl; rfl) | ((with_reducible refine step_append_c ?_ (.tmp 28) (.tmp 31) 22 ?_ _ _ _ ?_ ?_ r3 ?_); rfl; rfl; rfl; rfl) | ((with_reducible refine step_append_c ?_ (.tmp 32) (.tmp 34) 22 ?_ _ _ _ ?_ ?_ s1 ?_); rfl; rfl; rfl; rfl) | ((with_reducible refine step_append_c ?_ (.tmp 32) (.tmp 34) 22 ?_ _ _ _ ?_ ?_ s2 ?_); rfl; rfl; rfl; rfl) | ((with_reducible refine step_append_c ?_ (.tmp 32) (.tmp 34) 22 ?_ _ _ _ ?_ ?_ s3 ?_); rfl; rfl; rfl; rfl) | ((with_reducible refine step_append_c ?_ (.tmp 35) (.tmp 38) 22 ?_ _ _ _ ?_ ?_ t1 ?_); rfl; rfl; rfl; rfl) | ((with_reducible refine step_append_c ?_ (.tmp 35) (.tmp 38) 22 ?_ _ _ _ ?_ ?_ t2 ?_); rfl; rfl; rfl; rfl) | ((with_reducible refine step_append_c ?_ (.tmp 35) (.tmp 38) 22 ?_ _ _ _ ?_ ?_ t3 ?_); rfl; rfl; rfl; rfl))
            all_goals go_wp2_with fail
            · exact ⟨⟨k + 1, by omega, by go_num, HFIN.out _ _ _ _ _ HSPOT.out.symm HVB.out HZ1.out⟩, by simp [intOf]; omega⟩
            · exact ⟨⟨k + 1, by omega, by go_num, HFIN.out _ _ _ _ _ HSPOT.out.symm HVB.out HZ2.out⟩, by simp [intOf]; omega⟩
            · exact ⟨⟨k + 1, by omega, by go_num, HFIN.out _ _ _ _ _ HSPOT.out.symm HVB.out HZ3.out⟩, by simp [intOf]; omega⟩
        · obtain ⟨i, HJI⟩ : ∃ i, Hid (j = i + 1) := ⟨j - 1, show j = j - 1 + 1 by omega⟩
          have hik : i < k := by have := HJI.out; omega
          obtain ⟨sb, soff, rfl, _⟩ := CRow.some (HXR.out wr HIB.out) (by omega)
          have hks := (HXR.out wr HIB.out).1
          have hjs : j ≤ sc := by omega
          have HO : Hid (∀ W, Below X.heap.size X W → (W.cell? ⟨sb, soff + i * 4, none⟩ = some (.int .u64 (Vc.srt vs k i).root) ∧ W.cell? ⟨sb, soff + i * 4 + 1, none⟩ = some (.int .i64 (Vc.srt vs k i).cost) ∧ W.cell? ⟨sb, soff + i * 4 + 2, none⟩ = some (.int .u64 (Vc.srt vs k i).bridge) ∧ W.cell? ⟨sb, soff + i * 4 + 3, none⟩ = some (.int .i64 (Vc.srt vs k i).port))) := fun W hW => VRow.cells (HXR.out W hW) hik
          have HBT0 : Hid (∀ W, Below X.heap.size X W → Calls Try.prog 13 #[.agg #[.int .u64 (vs k).root, .int .i64 (vs k).cost, .int .u64 (vs k).bridge, .int .i64 (vs k).port], .agg #[.int .u64 (Vc.srt vs k i).root, .int .i64 (Vc.srt vs k i).cost, .int .u64 (Vc.srt vs k i).bridge, .int .i64 (Vc.srt vs k i).port]] W fun e w' => e = .returned (.bool (decide (Vc.lt (vs k) (Vc.srt vs k i)))) ∧ Hid (Below X.heap.size X w')) := fun W hW => (rbetter_any (vs k) (Vc.srt vs k i) W).mono fun e w' h => ⟨h.1, hW.trans (h.2.mono hW.size)⟩
          have HSY : Hid (Vc.lt (vs k) (Vc.srt vs k i) → Vc.spot (vs k) (Vc.srt vs k) k = Vc.spot (vs k) (Vc.srt vs k) i) := fun h => by rw [hI.out.1, HJI.out, HSP.out i, if_pos h]
          have HSN : Hid (¬ Vc.lt (vs k) (Vc.srt vs k i) → Vc.spot (vs k) (Vc.srt vs k) k = j) := fun h => by rw [hI.out.1, HJI.out, HSP.out i, if_neg h]
          generalize Vc.srt vs k i = u at HO HBT0 HSY HSN
          have HSS : Hid (∀ W, Below X.heap.size X W → (W.cell? ⟨G, 0, none⟩ = some (.int .u64 (vs k).root) ∧ W.cell? ⟨G, 1, none⟩ = some (.int .i64 (vs k).cost) ∧ W.cell? ⟨G, 2, none⟩ = some (.int .u64 (vs k).bridge) ∧ W.cell? ⟨G, 3, none⟩ = some (.int .i64 (vs k).port)) ∧ (W.cell? ⟨sb, soff + i * 4, none⟩ = some (.int .u64 u.root) ∧ W.cell? ⟨sb, soff + i * 4 + 1, none⟩ = some (.int .i64 u.cost) ∧ W.cell? ⟨sb, soff + i * 4 + 2, none⟩ = some (.int .u64 u.bridge) ∧ W.cell? ⟨sb, soff + i * 4 + 3, none⟩ = some (.int .i64 u.port))) := fun W hW => ⟨HXC.out W hW, HO.out W hW⟩
          have ew : IntKind.i64.wrap ((j : Int) - 1) = (i : Int) := by have := HJI.out; rw [wraps_i64 _ (by omega) (by omega)]; omega
          have i0 : (0 : Int) ≤ (i : Int) := by omega
          have i1 : (i : Int) < (k : Int) := by omega
          have i2 : (0 : Int) < (j : Int) := by omega
          have i3 : i < j := by have := HJI.out; omega
          have i4 : 0 < j := by omega
          clear hI HSP HS0 HO hj0 HJI
          by_cases hl : Vc.lt (vs k) u
          · have HBT : Hid (∀ W, Below X.heap.size X W → Calls Try.prog 13 #[.agg #[.int .u64 (vs k).root, .int .i64 (vs k).cost, .int .u64 (vs k).bridge, .int .i64 (vs k).port], .agg #[.int .u64 u.root, .int .i64 u.cost, .int .u64 u.bridge, .int .i64 u.port]] W fun e w' => e = .returned (.bool true) ∧ Hid (Below X.heap.size X w')) := by have h := HBT0.out; rw [decide_eq_true hl] at h; exact h
            have HS2 : Hid (Vc.spot (vs k) (Vc.srt vs k) k = Vc.spot (vs k) (Vc.srt vs k) i) := HSY.out hl
            clear HBT0 HSY HSN hl
            go_wp2_with fail
            go_region_held3 (fun W => (W.cell? ⟨G, 0, none⟩ = some (.int .u64 (vs k).root) ∧ W.cell? ⟨G, 1, none⟩ = some (.int .i64 (vs k).cost) ∧ W.cell? ⟨G, 2, none⟩ = some (.int .u64 (vs k).bridge) ∧ W.cell? ⟨G, 3, none⟩ = some (.int .i64 (vs k).port)) ∧ (W.cell? ⟨sb, soff + i * 4, none⟩ = some (.int .u64 u.root) ∧ W.cell? ⟨sb, soff + i * 4 + 1, none⟩ = some (.int .i64 u.cost) ∧ W.cell? ⟨sb, soff + i * 4 + 2, none⟩ = some (.int .u64 u.bridge) ∧ W.cell? ⟨sb, soff + i * 4 + 3, none⟩ = some (.int .i64 u.port)))
              (first | (with_reducible exact HSS.out _ (Below.drew HIB.out)) | (with_reducible exact HSS.out _ HB5.out) | go_keep)
              (first | (go_at_call 13; (with_reducible refine (HBT.out _ (Below.drew HIB.out)).mono ?_); rintro e w5 ⟨rfl, HB5⟩))
            go_wp2_with fail
            exact ⟨⟨i, by omega, by go_num, HS2.out, HB5.out⟩, by simp [intOf]; omega⟩
          · have HBT : Hid (∀ W, Below X.heap.size X W → Calls Try.prog 13 #[.agg #[.int .u64 (vs k).root, .int .i64 (vs k).cost, .int .u64 (vs k).bridge, .int .i64 (vs k).port], .agg #[.int .u64 u.root, .int .i64 u.cost, .int .u64 u.bridge, .int .i64 u.port]] W fun e w' => e = .returned (.bool false) ∧ Hid (Below X.heap.size X w')) := by have h := HBT0.out; rw [decide_eq_false hl] at h; exact h
            have HSPOT : Hid (Vc.spot (vs k) (Vc.srt vs k) k = j) := HSN.out hl
            clear HBT0 HSY HSN hl
            go_wp2_with fail
            go_region_held3 (fun W => (W.cell? ⟨G, 0, none⟩ = some (.int .u64 (vs k).root) ∧ W.cell? ⟨G, 1, none⟩ = some (.int .i64 (vs k).cost) ∧ W.cell? ⟨G, 2, none⟩ = some (.int .u64 (vs k).bridge) ∧ W.cell? ⟨G, 3, none⟩ = some (.int .i64 (vs k).port)) ∧ (W.cell? ⟨sb, soff + i * 4, none⟩ = some (.int .u64 u.root) ∧ W.cell? ⟨sb, soff + i * 4 + 1, none⟩ = some (.int .i64 u.cost) ∧ W.cell? ⟨sb, soff + i * 4 + 2, none⟩ = some (.int .u64 u.bridge) ∧ W.cell? ⟨sb, soff + i * 4 + 3, none⟩ = some (.int .i64 u.port)))
              (first | (with_reducible exact HSS.out _ (Below.drew HIB.out)) | (with_reducible exact HSS.out _ HB5.out) | go_keep)
              (first | (go_at_call 13; (with_reducible refine (HBT.out _ (Below.drew HIB.out)).mono ?_); rintro e w5 ⟨rfl, HB5⟩))
            have HVB : Hid (Below X.heap.size X w5) := HB5
            clear HB5 HBT HSS
            by_cases hjn : j = sc
            · subst hjn
              obtain ⟨a1, c1, x1, d1, e1, y1, f1, g1, z1, r1, s1, t1, hx1, hy1, hz1⟩ := app_a w5 k j (by omega) (vs k) (Vc.srt vs k) (some ⟨sb, soff, none⟩) j (CRow.prefix (HXR.out w5 HVB.out) hj) (fun e => by cases e) (some ⟨sb, soff, none⟩) 0 (crow_zero (by omega)) (fun e => by cases e) (by omega)
              have HX1 : Hid (Below w5.heap.size w5 x1) := hx1
              have HY1 : Hid (Below w5.heap.size w5 y1) := hy1
              have HZ1 : Hid (InsW w5 z1 k j (vs k) (Vc.srt vs k) f1 g1) := hz1
              clear hx1 hy1 hz1
              obtain ⟨a2, c2, x2, d2, e2, y2, f2, g2, z2, r2, s2, t2, hx2, hy2, hz2⟩ := app_b w5 k j (by omega) (vs k) (Vc.srt vs k) (some ⟨sb, soff, none⟩) j (CRow.prefix (HXR.out w5 HVB.out) hj) (fun e => by cases e) (some ⟨sb, soff, none⟩) 0 (crow_zero (by omega)) (fun e => by cases e) (by omega)
              have HX2 : Hid (Below w5.heap.size w5 x2) := hx2
              have HY2 : Hid (Below w5.heap.size w5 y2) := hy2
              have HZ2 : Hid (InsW w5 z2 k j (vs k) (Vc.srt vs k) f2 g2) := hz2
              clear hx2 hy2 hz2
              obtain ⟨a3, c3, x3, d3, e3, y3, f3, g3, z3, r3, s3, t3, hx3, hy3, hz3⟩ := app_c w5 k j (by omega) (vs k) (Vc.srt vs k) (some ⟨sb, soff, none⟩) j (CRow.prefix (HXR.out w5 HVB.out) hj) (fun e => by cases e) (some ⟨sb, soff, none⟩) 0 (crow_zero (by omega)) (fun e => by cases e) (by omega)
              have HX3 : Hid (Below w5.heap.size w5 x3) := hx3
              have HY3 : Hid (Below w5.heap.size w5 y3) := hy3
              have HZ3 : Hid (InsW w5 z3 k j (vs k) (Vc.srt vs k) f3 g3) := hz3
              clear hx3 hy3 hz3
              have HX7 : Hid (∀ o, Below w5.heap.size w5 (x1.alloc o)) := fun o => HX1.out.alloc HX1.out.size o
              have HS8 : Hid (∀ W, Below w5.heap.size w5 W → (W.cell? ⟨G, 0, none⟩ = some (.int .u64 (vs k).root) ∧ W.cell? ⟨G, 1, none⟩ = some (.int .i64 (vs k).cost) ∧ W.cell? ⟨G, 2, none⟩ = some (.int .u64 (vs k).bridge) ∧ W.cell? ⟨G, 3, none⟩ = some (.int .i64 (vs k).port))) := fun W hW => HXC.out W (HVB.out.trans (hW.mono HVB.out.size))
              have ij0 : (0 : Int) ≤ (j : Int) := by omega
              have ij1 : (j : Int) ≤ (k : Int) := by omega
              have ij2 : (j : Int) ≤ (j : Int) := by omega
              have ij3 : (k : Int) ≤ (j : Int) := by omega
              unfold runApp at r1 s1 t1 r2 s2 t2 r3 s3 t3
              unfold vA at s1 r2 r3
              have e0 : k - j = 0 := by omega
              rw [e0] at t1 t2 t3
              clear e0
              obtain ⟨q0, q1, q2, q3⟩ := HS8.out w5 (Below.refl _ _)
              go_wp2_with fail
              go_region_held3 (fun W => (W.cell? ⟨G, 0, none⟩ = some (.int .u64 (vs k).root) ∧ W.cell? ⟨G, 1, none⟩ = some (.int .i64 (vs k).cost) ∧ W.cell? ⟨G, 2, none⟩ = some (.int .u64 (vs k).bridge) ∧ W.cell? ⟨G, 3, none⟩ = some (.int .i64 (vs k).port)))
                (first | (with_reducible exact HS8.out _ HX1.out) | (with_reducible exact HS8.out _ HX2.out) | (with_reducible exact HS8.out _ HX3.out) | (with_reducible exact HS8.out _ (HX7.out _)) | (with_reducible exact HS8.out _ HY1.out) | (with_reducible exact HS8.out _ HY2.out) | (with_reducible exact HS8.out _ HY3.out) | (with_reducible exact HS8.out _ HZ1.out.low) | (with_reducible exact HS8.out _ HZ2.out.low) | (with_reducible exact HS8.out _ HZ3.out.low) | go_keep)
                (first | ((with_reducible refine step_append_c ?_ (.tmp 28) (.tmp 31) 22 ?_ _ _ _ ?_ ?_ r1 ?_); rfl; rfl; rfl; rfl) | ((with_reducible refine step_append_c ?_ (.tmp 28) (.tmp 31) 22 ?_ _ _ _ ?_ ?_ r2 ?_); rfl; rfl; rfl; rfl) | ((with_reducible refine step_append_c ?_ (.tmp 28) (.tmp 31) 22 ?_ _ _ _ ?_ ?_ r3 ?_); rfl; rfl; rfl; rfl) | ((with_reducible refine step_append_c ?_ (.tmp 32) (.tmp 34) 22 ?_ _ _ _ ?_ ?_ s1 ?_); rfl; rfl; rfl; rfl) | ((with_reducible refine step_append_c ?_ (.tmp 32) (.tmp 34) 22 ?_ _ _ _ ?_ ?_ s2 ?_); rfl; rfl; rfl; rfl) | ((with_reducible refine step_append_c ?_ (.tmp 32) (.tmp 34) 22 ?_ _ _ _ ?_ ?_ s3 ?_); rfl; rfl; rfl; rfl) | ((with_reducible refine step_append_c ?_ (.tmp 35) (.tmp 38) 22 ?_ _ _ _ ?_ ?_ t1 ?_); rfl; rfl; rfl; rfl) | ((with_reducible refine step_append_c ?_ (.tmp 35) (.tmp 38) 22 ?_ _ _ _ ?_ ?_ t2 ?_); rfl; rfl; rfl; rfl) | ((with_reducible refine step_append_c ?_ (.tmp 35) (.tmp 38) 22 ?_ _ _ _ ?_ ?_ t3 ?_); rfl; rfl; rfl; rfl))
              all_goals go_wp2_with fail
              · exact ⟨⟨k + 1, by omega, by go_num, HFIN.out _ _ _ _ _ HSPOT.out.symm HVB.out HZ1.out⟩, by simp [intOf]; omega⟩
              · exact ⟨⟨k + 1, by omega, by go_num, HFIN.out _ _ _ _ _ HSPOT.out.symm HVB.out HZ2.out⟩, by simp [intOf]; omega⟩
              · exact ⟨⟨k + 1, by omega, by go_num, HFIN.out _ _ _ _ _ HSPOT.out.symm HVB.out HZ3.out⟩, by simp [intOf]; omega⟩
            · have hjn2 : sc ≠ j := fun e => hjn e.symm
              obtain ⟨a1, c1, x1, d1, e1, y1, f1, g1, z1, r1, s1, t1, hx1, hy1, hz1⟩ := app_a w5 k j (by omega) (vs k) (Vc.srt vs k) (some ⟨sb, soff, none⟩) sc (CRow.prefix (HXR.out w5 HVB.out) hj) (fun e => by cases e) (some ⟨sb, soff + j * 4, none⟩) (sc - j) (CRow.behind (HXR.out w5 HVB.out) j hj) (fun e => by cases e) (by omega)
              have HX1 : Hid (Below w5.heap.size w5 x1) := hx1
              have HY1 : Hid (Below w5.heap.size w5 y1) := hy1
              have HZ1 : Hid (InsW w5 z1 k j (vs k) (Vc.srt vs k) f1 g1) := hz1
              clear hx1 hy1 hz1
              obtain ⟨a2, c2, x2, d2, e2, y2, f2, g2, z2, r2, s2, t2, hx2, hy2, hz2⟩ := app_b w5 k j (by omega) (vs k) (Vc.srt vs k) (some ⟨sb, soff, none⟩) sc (CRow.prefix (HXR.out w5 HVB.out) hj) (fun e => by cases e) (some ⟨sb, soff + j * 4, none⟩) (sc - j) (CRow.behind (HXR.out w5 HVB.out) j hj) (fun e => by cases e) (by omega)
              have HX2 : Hid (Below w5.heap.size w5 x2) := hx2
              have HY2 : Hid (Below w5.heap.size w5 y2) := hy2
              have HZ2 : Hid (InsW w5 z2 k j (vs k) (Vc.srt vs k) f2 g2) := hz2
              clear hx2 hy2 hz2
              obtain ⟨a3, c3, x3, d3, e3, y3, f3, g3, z3, r3, s3, t3, hx3, hy3, hz3⟩ := app_c w5 k j (by omega) (vs k) (Vc.srt vs k) (some ⟨sb, soff, none⟩) sc (CRow.prefix (HXR.out w5 HVB.out) hj) (fun e => by cases e) (some ⟨sb, soff + j * 4, none⟩) (sc - j) (CRow.behind (HXR.out w5 HVB.out) j hj) (fun e => by cases e) (by omega)
              have HX3 : Hid (Below w5.heap.size w5 x3) := hx3
              have HY3 : Hid (Below w5.heap.size w5 y3) := hy3
              have HZ3 : Hid (InsW w5 z3 k j (vs k) (Vc.srt vs k) f3 g3) := hz3
              clear hx3 hy3 hz3
              have HX7 : Hid (∀ o, Below w5.heap.size w5 (x1.alloc o)) := fun o => HX1.out.alloc HX1.out.size o
              have HS8 : Hid (∀ W, Below w5.heap.size w5 W → (W.cell? ⟨G, 0, none⟩ = some (.int .u64 (vs k).root) ∧ W.cell? ⟨G, 1, none⟩ = some (.int .i64 (vs k).cost) ∧ W.cell? ⟨G, 2, none⟩ = some (.int .u64 (vs k).bridge) ∧ W.cell? ⟨G, 3, none⟩ = some (.int .i64 (vs k).port))) := fun W hW => HXC.out W (HVB.out.trans (hW.mono HVB.out.size))
              have ij0 : (0 : Int) ≤ (j : Int) := by omega
              have ij1 : (j : Int) ≤ (k : Int) := by omega
              have ij2 : (j : Int) ≤ (sc : Int) := by omega
              have ij3 : (k : Int) ≤ (sc : Int) := by omega
              unfold runApp at r1 s1 t1 r2 s2 t2 r3 s3 t3
              unfold vA at s1 r2 r3
              obtain ⟨q0, q1, q2, q3⟩ := HS8.out w5 (Below.refl _ _)
              go_wp2_with fail
              go_region_held3 (fun W => (W.cell? ⟨G, 0, none⟩ = some (.int .u64 (vs k).root) ∧ W.cell? ⟨G, 1, none⟩ = some (.int .i64 (vs k).cost) ∧ W.cell? ⟨G, 2, none⟩ = some (.int .u64 (vs k).bridge) ∧ W.cell? ⟨G, 3, none⟩ = some (.int .i64 (vs k).port)))
                (first | (with_reducible exact HS8.out _ HX1.out) | (with_reducible exact HS8.out _ HX2.out) | (with_reducible exact HS8.out _ HX3.out) | (with_reducible exact HS8.out _ (HX7.out _)) | (with_reducible exact HS8.out _ HY1.out) | (with_reducible exact HS8.out _ HY2.out) | (with_reducible exact HS8.out _ HY3.out) | (with_reducible exact HS8.out _ HZ1.out.low) | (with_reducible exact HS8.out _ HZ2.out.low) | (with_reducible exact HS8.out _ HZ3.out.low) | go_keep)
                (first | ((with_reducible refine step_append_c ?_ (.tmp 28) (.tmp 31) 22 ?_ _ _ _ ?_ ?_ r1 ?_); rfl; rfl; rfl; rfl) | ((with_reducible refine step_append_c ?_ (.tmp 28) (.tmp 31) 22 ?_ _ _ _ ?_ ?_ r2 ?_); rfl; rfl; rfl; rfl) | ((with_reducible refine step_append_c ?_ (.tmp 28) (.tmp 31) 22 ?_ _ _ _ ?_ ?_ r3 ?_); rfl; rfl; rfl; rfl) | ((with_reducible refine step_append_c ?_ (.tmp 32) (.tmp 34) 22 ?_ _ _ _ ?_ ?_ s1 ?_); rfl; rfl; rfl; rfl) | ((with_reducible refine step_append_c ?_ (.tmp 32) (.tmp 34) 22 ?_ _ _ _ ?_ ?_ s2 ?_); rfl; rfl; rfl; rfl) | ((with_reducible refine step_append_c ?_ (.tmp 32) (.tmp 34) 22 ?_ _ _ _ ?_ ?_ s3 ?_); rfl; rfl; rfl; rfl) | ((with_reducible refine step_append_c ?_ (.tmp 35) (.tmp 38) 22 ?_ _ _ _ ?_ ?_ t1 ?_); rfl; rfl; rfl; rfl) | ((with_reducible refine step_append_c ?_ (.tmp 35) (.tmp 38) 22 ?_ _ _ _ ?_ ?_ t2 ?_); rfl; rfl; rfl; rfl) | ((with_reducible refine step_append_c ?_ (.tmp 35) (.tmp 38) 22 ?_ _ _ _ ?_ ?_ t3 ?_); rfl; rfl; rfl; rfl))
              all_goals go_wp2_with fail
              · exact ⟨⟨k + 1, by omega, by go_num, HFIN.out _ _ _ _ _ HSPOT.out.symm HVB.out HZ1.out⟩, by simp [intOf]; omega⟩
              · exact ⟨⟨k + 1, by omega, by go_num, HFIN.out _ _ _ _ _ HSPOT.out.symm HVB.out HZ2.out⟩, by simp [intOf]; omega⟩
              · exact ⟨⟨k + 1, by omega, by go_num, HFIN.out _ _ _ _ _ HSPOT.out.symm HVB.out HZ3.out⟩, by simp [intOf]; omega⟩
    · obtain rfl : k = n := by omega
      have HR2 : Hid (VRow wr so k sc (Vc.srt vs k)) := HROW.out
      clear HRW
      have HLW : Hid (Below w.heap.size w wr) := hX.out.2.1
      clear hX
      go_wp2_with fail
      go_ret
      exact ⟨so, sc, rfl, HR2.out, HNIL.out, HLW.out⟩
end Go.Proofs.Ythnklbcaodhbfaa
