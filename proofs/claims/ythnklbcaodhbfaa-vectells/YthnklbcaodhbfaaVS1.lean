/- walks: Go's stable sort: swapRange -/
import Derived.Test.YthnklbcaodhbfaaVRw
namespace Go.Proofs.Ythnklbcaodhbfaa
open Go.RowKit
open Vc (V Of)

set_option maxRecDepth 100000 in
set_option maxHeartbeats 4000000 in
theorem sswapRange_any (g n cap a b c : Nat) (f : Nat → V) (cv : Value) (w : World) (hA : w.heap[g]? = some (.cells (rowV n f) 27 (0, 0))) (hn : n ≤ 4398046511104) (h1 : a + c ≤ b) (h2 : b + c ≤ n) :
    Calls Try.prog 37 #[.slice (some ⟨g, 0, none⟩) n cap, .int .i64 a, .int .i64 b, .int .i64 c, cv] w fun e w' => e = .returned (.tuple #[]) ∧ w'.heap[g]? = some (.cells (rowV n (Vc.swr a b c f)) 27 (0, 0)) ∧ Below g w w' := by
  have HA : Hid (w.heap[g]? = some (.cells (rowV n f) 27 (0, 0))) := hA
  clear hA
  go_enter Try.func37, Try.ntmps37
  go_wp2_with fail
  go_loopw [10] (fun i wr => ∃ k : Nat, k ≤ c ∧ i = .int .i64 k ∧ Hid (wr.heap[g]? = some (.cells (rowV n (Vc.swr a b k f)) 27 (0, 0)) ∧ Below g w wr)) (fun i _ => c - (intOf i).toNat)
  case atStart => exact ⟨0, by omega, rfl, by rw [Vc.swr_zero]; exact HA.out, Below.refl _ _⟩
  case round =>
    obtain ⟨k, hk, rfl, hX⟩ := hrel
    by_cases hlt : k < c
    · obtain ⟨i, hi⟩ : ∃ i, i = a + k := ⟨_, rfl⟩
      obtain ⟨j, hj⟩ : ∃ j, j = b + k := ⟨_, rfl⟩
      have wi : IntKind.i64.wrap ((a : Int) + (k : Int)) = (i : Int) := by rw [wraps_i64 _ (by omega) (by omega)]; omega
      have wj : IntKind.i64.wrap ((b : Int) + (k : Int)) = (j : Int) := by rw [wraps_i64 _ (by omega) (by omega)]; omega
      have ii : (0 : Int) ≤ (i : Int) := by omega
      have ij : (0 : Int) ≤ (j : Int) := by omega
      have ni : (i : Int) < (n : Int) := by omega
      have nj : (j : Int) < (n : Int) := by omega
      obtain ⟨c0, c1, c2, c3⟩ := rowV_cells hX.out.1 (show i < n by omega)
      obtain ⟨d0, d1, d2, d3⟩ := rowV_cells hX.out.1 (show j < n by omega)
      obtain ⟨f0, f1, f2, f3⟩ := rowV_free hX.out.1 i
      obtain ⟨e0, e1, e2, e3⟩ := rowV_free hX.out.1 j
      have HFN : Hid _ := swap_fin (F := Vc.swr a b (k + 1) f) hX.out.1 hX.out.2 (Nat.le_refl _) (show i < n by omega) (show j < n by omega) (show i ≠ j by omega) (by rw [hi, hj]; exact Vc.swr_step a b k f (by omega))
      generalize Vc.swr a b k f = F at *
      generalize F i = x at *
      generalize F j = y at *
      have hne : i * 4 ≠ j * 4 := by omega
      clear hX HA hi hj
      go_wp2_with fail
      go_region
      all_goals go_wp2_with fail
      all_goals exact ⟨⟨k + 1, by omega, by go_num, HFN⟩, by simp [intOf]; omega⟩
    · obtain rfl : k = c := by omega
      go_wp2_with fail
      exact bodyPost_end (results_none Try.results37 _ _ _) rfl ⟨rfl, hX.out⟩
end Go.Proofs.Ythnklbcaodhbfaa
