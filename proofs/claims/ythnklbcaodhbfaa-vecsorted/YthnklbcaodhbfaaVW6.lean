/- walks: package vec's Best -/
import Derived.Test.YthnklbcaodhbfaaVK2
import Derived.Test.YthnklbcaodhbfaaVB2
namespace Go.Proofs.Ythnklbcaodhbfaa
open Go.RowKit
open Vc (V Of)

set_option maxHeartbeats 1000000 in
theorem vbest_any (ao : Option Addr) (n cap : Nat) (vs : Nat → V) (w : World) (hn : n ≤ 9223372036854775807) (hr : VRow w ao n cap vs) :
    Calls Try.prog 14 #[.slice ao n cap] w fun e w' => e = .returned (.int .i64 (Vc.bestTo vs n)) ∧ Below w.heap.size w w' := by
  have HRW : Hid (∀ W, Below w.heap.size w W → VRow W ao n cap vs) := fun W hW => CRow.other hr (fun q _ _ hq => hW.block q hq) hW.size
  have hcap := hr.1
  clear hr
  go_enter Try.func14, Try.ntmps14
  go_wp2_with fail
  go_loopw [3, 8] (fun a i wr => ∃ k : Nat, k ≤ n ∧ i = .int .i64 k ∧ a = .int .i64 (Vc.bestTo vs k) ∧ Hid (Below w.heap.size w wr)) (fun _ i _ => n - (intOf i).toNat)
  case atStart => exact ⟨0, by omega, rfl, rfl, Below.refl _ _⟩
  case round =>
    obtain ⟨k, hk, rfl, rfl, hX⟩ := hrel
    by_cases hlt : k < n
    · obtain ⟨b, off, rfl, hb⟩ := CRow.some (HRW.out wr hX.out) (by omega)
      obtain ⟨c0, c1, c2, c3⟩ := VRow.cells (HRW.out wr hX.out) hlt
      have hrg := Vc.bestTo_range vs k
      have HB1 : Hid (Vc.bestTo vs k < 0 ∨ Vc.lt (vs k) (vs (Vc.bestTo vs k).toNat) → Vc.bestTo vs (k + 1) = k) := fun h => if_pos h
      have HB2 : Hid (¬ (Vc.bestTo vs k < 0 ∨ Vc.lt (vs k) (vs (Vc.bestTo vs k).toNat)) → Vc.bestTo vs (k + 1) = Vc.bestTo vs k) := fun h => if_neg h
      obtain ⟨X, HX⟩ : ∃ X, Hid (X = wr.alloc (.cells #[.int .u64 (vs k).root, .int .i64 (vs k).cost, .int .u64 (vs k).bridge, .int .i64 (vs k).port] 27)) := ⟨_, rfl⟩
      obtain ⟨G, HG⟩ : ∃ G, Hid (G = wr.heap.size) := ⟨_, rfl⟩
      have HXL : Hid (Below w.heap.size w X) := by rw [HX.out]; exact hX.out.alloc hX.out.size _
      have HXV : Hid (X.heap[G]? = some (.cells #[.int .u64 (vs k).root, .int .i64 (vs k).cost, .int .u64 (vs k).bridge, .int .i64 (vs k).port] 27 (0, 0))) := by rw [HX.out, HG.out]; exact heap_alloc_last _ _
      have HXX : Hid (Below X.heap.size X X) := Below.refl _ _
      have HFIN : Hid (∀ W, Below X.heap.size X W → Below w.heap.size w W) := fun W hW => HXL.out.trans (hW.mono HXL.out.size)
      by_cases h0 : Vc.bestTo vs k < 0
      · have hz : Vc.bestTo vs (k + 1) = k := HB1.out (Or.inl h0)
        clear HB1 HB2 hrg
        generalize Vc.bestTo vs k = BT at *
        go_wp2_with fail
        rw [← HX.out, ← HG.out]
        go_quiet (fail)
        go_wp2_with fail
        exact ⟨⟨k + 1, by omega, by go_num, by rw [hz], HFIN.out _ (below_drewN HXX.out _)⟩, by simp [intOf]; omega⟩
      · obtain ⟨j, hj⟩ : ∃ j : Nat, Vc.bestTo vs k = (j : Int) := ⟨(Vc.bestTo vs k).toNat, by omega⟩
        have hjn : j < n := by omega
        rw [hj, Int.toNat_natCast] at HB1 HB2
        rw [hj] at h0
        rw [hj]
        have HJC : Hid (∀ W, Below X.heap.size X W → W.cell? ⟨b, off + j * 4, none⟩ = some (.int .u64 (vs j).root) ∧ W.cell? ⟨b, off + j * 4 + 1, none⟩ = some (.int .i64 (vs j).cost) ∧ W.cell? ⟨b, off + j * 4 + 2, none⟩ = some (.int .u64 (vs j).bridge) ∧ W.cell? ⟨b, off + j * 4 + 3, none⟩ = some (.int .i64 (vs j).port)) := fun W hW => VRow.cells (HRW.out W (HFIN.out W hW)) hjn
        have HVC : Hid (∀ W, Below X.heap.size X W → W.cell? ⟨G, 0, none⟩ = some (.int .u64 (vs k).root) ∧ W.cell? ⟨G, 1, none⟩ = some (.int .i64 (vs k).cost) ∧ W.cell? ⟨G, 2, none⟩ = some (.int .u64 (vs k).bridge) ∧ W.cell? ⟨G, 3, none⟩ = some (.int .i64 (vs k).port)) := fun W hW => vc_cells (keep HXV.out hW)
        have HBE : Hid (∀ W, Below X.heap.size X W → Calls Try.prog 27 #[.agg #[.int .u64 (vs k).root, .int .i64 (vs k).cost, .int .u64 (vs k).bridge, .int .i64 (vs k).port], .agg #[.int .u64 (vs j).root, .int .i64 (vs j).cost, .int .u64 (vs j).bridge, .int .i64 (vs j).port]] W fun e w' => e = .returned (.bool (decide (Vc.lt (vs k) (vs j)))) ∧ Hid (Below X.heap.size X w')) := fun W hW => (vbetter_any (vs k) (vs j) W).mono (fun e w' h => ⟨h.1, hW.trans (h.2.mono hW.size)⟩)
        have ij : (0 : Int) ≤ (j : Int) := by omega
        have jn : (j : Int) < (n : Int) := by omega
        have dj : decide ((j : Int) < 0) = false := decide_eq_false (by omega)
        clear hrg hj h0
        go_wp2_with fail
        rw [← HX.out, ← HG.out]
        clear c0 c1 c2 c3
        obtain ⟨s0, s1, s2, s3⟩ := HVC.out X HXX.out
        obtain ⟨t0, t1, t2, t3⟩ := HJC.out X HXX.out
        by_cases hl : Vc.lt (vs k) (vs j)
        · have hz : Vc.bestTo vs (k + 1) = k := HB1.out (Or.inr hl)
          rw [decide_eq_true hl] at HBE
          clear HB1 HB2 hl
          generalize vs k = vk at *
          generalize vs j = vj at *
          go_region_held3 (fun W => (W.cell? ⟨G, 0, none⟩ = some (.int .u64 vk.root) ∧ W.cell? ⟨G, 1, none⟩ = some (.int .i64 vk.cost) ∧ W.cell? ⟨G, 2, none⟩ = some (.int .u64 vk.bridge) ∧ W.cell? ⟨G, 3, none⟩ = some (.int .i64 vk.port)) ∧ W.cell? ⟨b, off + j * 4, none⟩ = some (.int .u64 vj.root) ∧ W.cell? ⟨b, off + j * 4 + 1, none⟩ = some (.int .i64 vj.cost) ∧ W.cell? ⟨b, off + j * 4 + 2, none⟩ = some (.int .u64 vj.bridge) ∧ W.cell? ⟨b, off + j * 4 + 3, none⟩ = some (.int .i64 vj.port))
            (first | (exact ⟨HVC.out _ (Below.drew HXX.out), HJC.out _ (Below.drew HXX.out)⟩) | (exact ⟨HVC.out _ (Hid.out (by assumption)), HJC.out _ (Hid.out (by assumption))⟩))
            (first | (go_at_call 27; refine (HBE.out _ (Below.drew HXX.out)).mono ?_; rintro e w3 ⟨rfl, HB3⟩))
          go_wp2_with fail
          exact ⟨⟨k + 1, by omega, by go_num, by rw [hz], HFIN.out _ HB3.out⟩, by simp [intOf]; omega⟩
        · have hz : Vc.bestTo vs (k + 1) = j := HB2.out (fun q => q.elim (fun q => by omega) hl)
          rw [decide_eq_false hl] at HBE
          clear HB1 HB2 hl
          generalize vs k = vk at *
          generalize vs j = vj at *
          go_region_held3 (fun W => (W.cell? ⟨G, 0, none⟩ = some (.int .u64 vk.root) ∧ W.cell? ⟨G, 1, none⟩ = some (.int .i64 vk.cost) ∧ W.cell? ⟨G, 2, none⟩ = some (.int .u64 vk.bridge) ∧ W.cell? ⟨G, 3, none⟩ = some (.int .i64 vk.port)) ∧ W.cell? ⟨b, off + j * 4, none⟩ = some (.int .u64 vj.root) ∧ W.cell? ⟨b, off + j * 4 + 1, none⟩ = some (.int .i64 vj.cost) ∧ W.cell? ⟨b, off + j * 4 + 2, none⟩ = some (.int .u64 vj.bridge) ∧ W.cell? ⟨b, off + j * 4 + 3, none⟩ = some (.int .i64 vj.port))
            (first | (exact ⟨HVC.out _ (Below.drew HXX.out), HJC.out _ (Below.drew HXX.out)⟩) | (exact ⟨HVC.out _ (Hid.out (by assumption)), HJC.out _ (Hid.out (by assumption))⟩))
            (first | (go_at_call 27; refine (HBE.out _ (Below.drew HXX.out)).mono ?_; rintro e w3 ⟨rfl, HB3⟩))
          go_wp2_with fail
          exact ⟨⟨k + 1, by omega, by go_num, by rw [hz], HFIN.out _ HB3.out⟩, by simp [intOf]; omega⟩
    · obtain rfl : k = n := by omega
      go_wp2_with fail
      go_ret
      exact ⟨rfl, hX.out⟩
end Go.Proofs.Ythnklbcaodhbfaa
