/- walks: hello.taleOf -/
import Derived.Test.YtmjgmngdahhbkaaLW3
import Derived.Deep.RegionHeld3
namespace Go.Proofs.Ytmjgmngdahhbkaa
open Go.RowKit
open Hl (Tl)

theorem sizeTl : (Try.prog.info? 39).map (·.size) = some 6 := by kernel_rfl
theorem tl_free {w : World} {g : Nat} {A : Array Value} {ty : TypeId} (h : w.heap[g]? = some (.cells A ty (0, 0))) :
    w.frozen? ⟨g, 0, none⟩ = false ∧ w.frozen? ⟨g, 1, none⟩ = false ∧ w.frozen? ⟨g, 2, none⟩ = false ∧ w.frozen? ⟨g, 3, none⟩ = false ∧ w.frozen? ⟨g, 4, none⟩ = false ∧ w.frozen? ⟨g, 5, none⟩ = false :=
  ⟨frozen_of_row _ _ _ _ _ h, frozen_of_row _ _ _ _ _ h, frozen_of_row _ _ _ _ _ h, frozen_of_row _ _ _ _ _ h, frozen_of_row _ _ _ _ _ h, frozen_of_row _ _ _ _ _ h⟩
theorem tl_set6 {w : World} {g : Nat} {a0 a1 a2 a3 a4 a5 v0 v1 v2 v3 v4 v5 : Value} {ty : TypeId} (h : w.heap[g]? = some (.cells #[a0, a1, a2, a3, a4, a5] ty (0, 0))) :
    ((((((w.setCell ⟨g, 0, none⟩ v0).setCell ⟨g, 1, none⟩ v1).setCell ⟨g, 2, none⟩ v2).setCell ⟨g, 3, none⟩ v3).setCell ⟨g, 4, none⟩ v4).setCell ⟨g, 5, none⟩ v5).heap[g]? = some (.cells #[v0, v1, v2, v3, v4, v5] ty (0, 0)) := by
  have h0 : (w.setCell ⟨g, 0, none⟩ v0).heap[g]? = some (.cells #[v0, a1, a2, a3, a4, a5] ty (0, 0)) := by rw [heap_setCell_same _ _ _ _ _ _ h]; rfl
  have h1 : ((w.setCell ⟨g, 0, none⟩ v0).setCell ⟨g, 1, none⟩ v1).heap[g]? = some (.cells #[v0, v1, a2, a3, a4, a5] ty (0, 0)) := by rw [heap_setCell_same _ _ _ _ _ _ h0]; rfl
  have h2 : (((w.setCell ⟨g, 0, none⟩ v0).setCell ⟨g, 1, none⟩ v1).setCell ⟨g, 2, none⟩ v2).heap[g]? = some (.cells #[v0, v1, v2, a3, a4, a5] ty (0, 0)) := by rw [heap_setCell_same _ _ _ _ _ _ h1]; rfl
  have h3 : ((((w.setCell ⟨g, 0, none⟩ v0).setCell ⟨g, 1, none⟩ v1).setCell ⟨g, 2, none⟩ v2).setCell ⟨g, 3, none⟩ v3).heap[g]? = some (.cells #[v0, v1, v2, v3, a4, a5] ty (0, 0)) := by rw [heap_setCell_same _ _ _ _ _ _ h2]; rfl
  have h4 : (((((w.setCell ⟨g, 0, none⟩ v0).setCell ⟨g, 1, none⟩ v1).setCell ⟨g, 2, none⟩ v2).setCell ⟨g, 3, none⟩ v3).setCell ⟨g, 4, none⟩ v4).heap[g]? = some (.cells #[v0, v1, v2, v3, v4, a5] ty (0, 0)) := by rw [heap_setCell_same _ _ _ _ _ _ h3]; rfl
  have h5 : ((((((w.setCell ⟨g, 0, none⟩ v0).setCell ⟨g, 1, none⟩ v1).setCell ⟨g, 2, none⟩ v2).setCell ⟨g, 3, none⟩ v3).setCell ⟨g, 4, none⟩ v4).setCell ⟨g, 5, none⟩ v5).heap[g]? = some (.cells #[v0, v1, v2, v3, v4, v5] ty (0, 0)) := by rw [heap_setCell_same _ _ _ _ _ _ h4]; rfl
  exact h5
set_option maxHeartbeats 1000000 in
theorem ltaleOf_any (b off cap : Nat) (f : Nat → Int) (w : World) (hr : ByteRow w (some ⟨b, off, none⟩) 23 cap f) (hf : ∀ i, i < 23 → 0 ≤ f i ∧ f i ≤ 255) :
    Calls Try.prog 20 #[.slice (some ⟨b, off, none⟩) 23 cap] w fun e w' => e = .returned (.agg (tlA (Hl.taleF f))) ∧ Below w.heap.size w w' := by
  obtain ⟨W0, HW⟩ : ∃ W0, Hid (W0 = w.alloc (.cells #[.int .i64 0, .int .u64 0, .int .i64 0, .int .u64 0, .int .i64 0, .int .i64 0] 39)) := ⟨_, rfl⟩
  have HA : Hid (W0.heap[w.heap.size]? = some (.cells #[.int .i64 0, .int .u64 0, .int .i64 0, .int .u64 0, .int .i64 0, .int .i64 0] 39 (0, 0))) := by rw [HW.out]; exact heap_alloc_last w _
  have HB : Hid (Below w.heap.size w W0) := by rw [HW.out]; exact below_alloc1 _ _
  have HR : Hid (ByteRow W0 (some ⟨b, off, none⟩) 23 cap f) := by rw [HW.out]; exact hr.below (below_alloc1 _ _)
  have hcap : 23 ≤ cap := hr.1
  obtain ⟨b', off', hbo, hb, hc⟩ := HR.out.2 (by omega)
  cases hbo
  have c0 : W0.cell? ⟨b, off, none⟩ = some (.int .u8 (f 0)) := hc 0 (by omega)
  have c1 : W0.cell? ⟨b, off + 1, none⟩ = some (.int .u8 (f 1)) := hc 1 (by omega)
  have c22 : W0.cell? ⟨b, off + 22, none⟩ = some (.int .u8 (f 22)) := hc 22 (by omega)
  have r0 := hf 0 (by omega)
  have r1 := hf 1 (by omega)
  have r22 := hf 22 (by omega)
  have HN : Hid (∀ (o n : Nat) (W : World), W.heap = W0.heap → o + n ≤ 23 → n ≤ 8 → 0 < n → Calls Try.prog 24 #[.slice (some ⟨b, off + o, none⟩) n (cap - o)] W fun e w' => e = .returned (.int .u64 (num (fun i => f (o + i)) n)) ∧ w' = W) := by
    intro o n W hW h1 h2 h3
    refine nof_any _ n (cap - o) (fun i => f (o + i)) W ?_ (fun i hi => hf _ (by omega)) h2
    refine ⟨by omega, fun _ => ⟨b, off + o, rfl, by rw [hW]; exact hb, fun i hi => ?_⟩⟩
    have := hc (o + i) (by omega)
    rw [Nat.add_assoc]
    unfold World.cell? at this ⊢
    rw [hW]
    exact this
  have hW4 : 0 ≤ num (fun i => f (10 + i)) 4 ∧ num (fun i => f (10 + i)) 4 < 4294967296 := Hl.num_range' (fun i => f (10 + i)) 4 (fun i hi => hf _ (by omega))
  have N2 : Hid (∀ W : World, W.heap = W0.heap → Calls Try.prog 24 #[.slice (some ⟨b, off + 2, none⟩) 8 (cap - 2)] W fun e w' => e = .returned (.int .u64 (num (fun i => f (2 + i)) 8)) ∧ w' = W) := fun W hW => HN.out 2 8 W hW (by omega) (by omega) (by omega)
  have N10 : Hid (∀ W : World, W.heap = W0.heap → Calls Try.prog 24 #[.slice (some ⟨b, off + 10, none⟩) 4 (cap - 10)] W fun e w' => e = .returned (.int .u64 (num (fun i => f (10 + i)) 4)) ∧ w' = W) := fun W hW => HN.out 10 4 W hW (by omega) (by omega) (by omega)
  have N14 : Hid (∀ W : World, W.heap = W0.heap → Calls Try.prog 24 #[.slice (some ⟨b, off + 14, none⟩) 8 (cap - 14)] W fun e w' => e = .returned (.int .u64 (num (fun i => f (14 + i)) 8)) ∧ w' = W) := fun W hW => HN.out 14 8 W hW (by omega) (by omega) (by omega)
  have HT : Hid (Hl.taleF f = ⟨f 0, num (fun i => f (2 + i)) 8, num (fun i => f (10 + i)) 4, num (fun i => f (14 + i)) 8, f 22, f 1⟩) := rfl
  have i10 : (10 : Int) ≤ (cap : Int) := by omega
  have i14 : (14 : Int) ≤ (cap : Int) := by omega
  have i22 : (22 : Int) ≤ (cap : Int) := by omega
  have hbw : b < w.heap.size := by obtain ⟨_, _, e, h, _⟩ := hr.2 (by omega); cases e; exact h
  have hne : b ≠ w.heap.size := by omega
  have hne2 : w.heap.size ≠ b := by omega
  clear hbw
  have j2 : cap ≠ 2 := by omega
  have j10 : cap ≠ 10 := by omega
  have j14 : cap ≠ 14 := by omega
  have v0 : IntKind.i64.wrap (f 0) = f 0 := wraps_i64 _ (by omega) (by omega)
  have v1 : IntKind.i64.wrap (f 1) = f 1 := wraps_i64 _ (by omega) (by omega)
  have v22 : IntKind.i64.wrap (f 22) = f 22 := wraps_i64 _ (by omega) (by omega)
  have v4 : IntKind.i64.wrap (num (fun i => f (10 + i)) 4) = num (fun i => f (10 + i)) 4 := wraps_i64 _ (by omega) (by omega)
  clear hr hf hc hb HR
  clear HN
  generalize num (fun i => f (2 + i)) 8 = R at *
  generalize num (fun i => f (10 + i)) 4 = C at *
  generalize num (fun i => f (14 + i)) 8 = B at *
  generalize Hl.taleF f = T at *
  generalize f 0 = f0 at *
  generalize f 1 = f1 at *
  generalize f 22 = f2 at *
  have HV : Hid (tlA T = #[.int .i64 f0, .int .u64 R, .int .i64 C, .int .u64 B, .int .i64 f2, .int .i64 f1]) := by rw [HT.out]; rfl
  obtain ⟨s0, s1, s2, s3, s4, s5⟩ := tl_cells (t := ⟨0, 0, 0, 0, 0, 0⟩) HA.out
  obtain ⟨z0, z1, z2, z3, z4, z5⟩ := tl_free HA.out
  go_enter Try.func20, Try.ntmps20
  go_wp2_with fail
  rw [← HW.out]
  go_region_held3 (fun W => W.cell? ⟨b, off, none⟩ = some (.int .u8 f0) ∧ W.cell? ⟨b, off + 1, none⟩ = some (.int .u8 f1) ∧ W.cell? ⟨b, off + 22, none⟩ = some (.int .u8 f2))
    (go_keep)
    (first | (go_at_call 24; with_reducible refine (N2.out W0.drew rfl).mono ?_; rintro e w1 ⟨rfl, rfl⟩) | (go_at_call 24; with_reducible refine (N10.out W0.drew rfl).mono ?_; rintro e w1 ⟨rfl, rfl⟩) | (go_at_call 24; with_reducible refine (N14.out W0.drew rfl).mono ?_; rintro e w1 ⟨rfl, rfl⟩))
  go_wp2_with fail
  exact bodyPost_ret (v := .agg #[.int .i64 f0, .int .u64 R, .int .i64 C, .int .u64 B, .int .i64 f2, .int .i64 f1]) (results_cell_row (p := 2) (ty := 39) rfl _ _ w.heap.size 39 _ (0, 0) _ rfl (drew_row (tl_set6 HA.out)) Try.underlying39 rfl (by rw [sizeTl]; rfl)) rfl ⟨by rw [HV.out], ((((((HB.out.setCell (Nat.le_refl _) _).setCell (Nat.le_refl _) _).setCell (Nat.le_refl _) _).setCell (Nat.le_refl _) _).setCell (Nat.le_refl _) _).setCell (Nat.le_refl _) _).drew⟩
end Go.Proofs.Ytmjgmngdahhbkaa
