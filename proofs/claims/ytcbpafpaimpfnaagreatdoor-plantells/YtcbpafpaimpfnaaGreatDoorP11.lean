/- What 'append' does to a row of structs, and where it lies then -/
import Derived.Test.YtcbpafpaimpfnaaGreatDoorP10
import Derived.Test.YtcbpafpaimpfnaaGreatDoorP04
import Derived.Test.YtcbpafpaimpfnaaGreatDoorP07
import Derived.Test.YtcbpafpaimpfnaaGreatDoorP06
import Derived.Test.YtcbpafpaimpfnaaGreatDoorP02
import Derived.ProofKit
import Derived.OpenShut
import Derived.ChangeOld
import Derived.SizedLaws
import Derived.Deep.DeepHandedRow
import Derived.Lib.LaidTab
import Derived.Stop.LaidErr
import Derived.Deep.SlicePairs
import Derived.Deep.Slices
import Derived.Maps.AppendAt
namespace Go.Proofs.YtcbpafpaimpfnaaGreatDoor
section
open Go.RowKit Go.Maps
open Pl (Br Net Pc Lk En St)
theorem ft_neq (a b c d : Int) (W : World) : (binOp .neq 28 (.agg #[.int .i64 a, .int .i64 b]) (.agg #[.int .i64 c, .int .i64 d])).run Tryz.prog W = .ok (.bool (!decide (a = c ∧ b = d))) W := by
 by_cases h : a = c ∧ b = d
 ·rw [decide_eq_true h]
  obtain ⟨rfl, rfl⟩ := h
  go_simp
 ·rw [decide_eq_false h]
  go_simp
  exact fun p q => h ⟨p, q⟩
theorem ft4_cells {w : World} {g : Nat} {a0 a1 a2 a3 : Value} {ty : TypeId} (h : w.heap[g]? = some (.cells #[a0, a1, a2, a3] ty (0, 0))) : w.cell? ⟨g, 0, none⟩ = some a0 ∧ w.cell? ⟨g, 1, none⟩ = some a1 ∧ w.cell? ⟨g, 2, none⟩ = some a2 ∧ w.cell? ⟨g, 3, none⟩ = some a3 := vc_cells h
set_option maxRecDepth 100000 in
set_option maxHeartbeats 2000000 in
theorem corf2 (x1 x2 y1 y2 : Int) (g : Nat) (ty : TypeId) (w : World) (h : w.heap[g]? = some (.cells #[.int .i64 x1, .int .i64 x2, .int .i64 y1, .int .i64 y2] ty (0, 0))) (R1 R2 : Int) (hR : (R1, R2) = if x1 = 0 ∧ x2 = 0 then (y1, y2) else (x1, x2)) :
  Calls Tryz.prog 22 #[.slice (some ⟨g, 0, none⟩) 2 2] w fun e w' => e = .returned (.agg #[.int .i64 R1, .int .i64 R2]) ∧ Below w.heap.size w w' := by
 have hgl := (Array.getElem?_eq_some_iff.1 h).1
 obtain ⟨W0, HW0⟩ : ∃ W0, Hid (W0 = (w.alloc (.cells #[.int .i64 0, .int .i64 0] 28)).alloc (.cells #[.int .i64 0, .int .i64 0] 28)) := ⟨_, rfl⟩
 have hB0 : Below w.heap.size w W0 := by rw [HW0.out]; exact below_alloc2 _ _ _
 have h20 : W0.heap[w.heap.size]? = some (.cells #[.int .i64 0, .int .i64 0] 28 (0, 0)) := by rw [HW0.out]; exact heap_alloc2_old w _ _
 have h30 : W0.heap[w.heap.size + 1]? = some (.cells #[.int .i64 0, .int .i64 0] 28 (0, 0)) := by rw [HW0.out]; exact heap_alloc2_new w _ _
 have HC : Hid (∀ W, Below W0.heap.size W0 W → W.heap[g]? = some (.cells #[.int .i64 x1, .int .i64 x2, .int .i64 y1, .int .i64 y2] ty (0, 0)) ∧ W.heap[w.heap.size]? = some (.cells #[.int .i64 0, .int .i64 0] 28 (0, 0)) ∧ W.heap[w.heap.size + 1]? = some (.cells #[.int .i64 0, .int .i64 0] 28 (0, 0)) ∧ Below w.heap.size w W) := fun W hW =>
  ⟨keep (keep h hB0) hW, keep h20 hW, keep h30 hW, hB0.trans (hW.mono hB0.size)⟩
 have HNE : Hid (∀ a b W, (binOp .neq 28 (.agg #[.int .i64 a, .int .i64 b]) (.agg #[.int .i64 0, .int .i64 0])).run Tryz.prog W = .ok (.bool (!decide (a = 0 ∧ b = 0))) W) := fun a b W => ft_neq a b 0 0 W
 have HR : Hid ((R1, R2) = if x1 = 0 ∧ x2 = 0 then (y1, y2) else (x1, x2)) := hR
 clear h hB0 h20 h30 hR
 go_enter Tryz.func22, Tryz.ntmps22
 go_wp2_with fail
 rw [← HW0.out]
 go_loopw [8] (fun i wr => ∃ k : Nat, k ≤ 2 ∧ i = .int .i64 k ∧ Hid ((0 < k → x1 = 0 ∧ x2 = 0) ∧ (1 < k → y1 = 0 ∧ y2 = 0)) ∧ Hid (Below W0.heap.size W0 wr)) (fun i _ => 2 - (intOf i).toNat)
 case atStart => exact ⟨0, by omega, rfl, ⟨fun h => absurd h (by omega), fun h => absurd h (by omega)⟩, Below.refl _ _⟩
 case round =>
  obtain ⟨k, hk, rfl, hS, hX⟩ := hrel
  obtain ⟨j1, j2, j3, j4⟩ := HC.out wr hX.out
  by_cases hlt : k < 2
  ·have pick : ∃ a b : Int, wr.cell? ⟨g, k * 2, none⟩ = some (.int .i64 a) ∧ wr.cell? ⟨g, k * 2 + 1, none⟩ = some (.int .i64 b) ∧ Hid ((a = 0 ∧ b = 0) → (0 < k + 1 → x1 = 0 ∧ x2 = 0) ∧ (1 < k + 1 → y1 = 0 ∧ y2 = 0)) ∧ Hid (¬ (a = 0 ∧ b = 0) → (R1, R2) = (a, b)) := by
    obtain ⟨c0, c1, c2, c3⟩ := ft4_cells j1
    rcases (by omega : k = 0 ∨ k = 1) with e | e <;> subst e
    ·exact ⟨x1, x2, c0, c1, fun q => ⟨fun _ => q, fun h => absurd h (by omega)⟩, fun q => by rw [HR.out, if_neg q]⟩
    ·exact ⟨y1, y2, c2, c3, fun q => ⟨fun _ => hS.out.1 (by omega), fun _ => q⟩, fun q => by rw [HR.out, if_pos (hS.out.1 (by omega))]⟩
   obtain ⟨a, b, c0, c1, HZ, HNZ⟩ := pick
   obtain ⟨X, HX⟩ : ∃ X, Hid (X = wr.alloc (.cells #[.int .i64 a, .int .i64 b] 28)) := ⟨_, rfl⟩
   have HXB : Hid (Below W0.heap.size W0 X) := by rw [HX.out]; exact hX.out.alloc hX.out.size _
   obtain ⟨i1, i2, i3, i4⟩ := HC.out X HXB.out
   obtain ⟨z0, z1⟩ := two_cells2 i3
   obtain ⟨r0, r1⟩ := two_cells2 i2
   obtain ⟨f0, f1, _, _⟩ := vc_free i2
   have HI2 : Hid (X.heap[w.heap.size]? = some (.cells #[.int .i64 0, .int .i64 0] 28 (0, 0))) := i2
   have HI4 : Hid (Below w.heap.size w X) := i4
   have b5 : X.heap[wr.heap.size]? = some (.cells #[.int .i64 a, .int .i64 b] 28 (0, 0)) := by rw [HX.out]; exact heap_alloc_last _ _
   obtain ⟨u0, u1⟩ := two_cells2 b5
   have hq := HNE.out a b X
   clear j1 j2 j3 j4 i1 i2 i3 i4 b5 hS hX HC HR
   by_cases h0 : a = 0 ∧ b = 0
   ·have HZ1 : Hid _ := HZ.out h0
    obtain ⟨rfl, rfl⟩ := h0
    clear HZ HNZ hq
    rw [HX.out] at z0 z1 u0 u1
    go_wp2_with fail
    rw [← HX.out]
    exact ⟨⟨k + 1, by omega, by go_num, HZ1, HXB⟩, by simp [intOf]; omega⟩
   ·have HZ1 : Hid ((R1, R2) = (a, b)) := HNZ.out h0
    clear HZ HNZ hq
    rw [HX.out] at z0 z1 u0 u1 r0 r1 f0 f1
    by_cases ha : a = 0
    ·subst ha
     have hb : ¬ b = 0 := fun q => h0 ⟨rfl, q⟩
     clear h0
     go_wp2_with fail
     rw [← HX.out]
     exact bodyPost_ret (v := .agg #[.int .i64 0, .int .i64 b]) (results_row (p := 2) (ty := 28) Tryz.results22 _ _ w.heap.size 28 #[.int .i64 0, .int .i64 b] (0, 0) _ rfl (set2_same HI2.out) Tryz.underlying28 rfl (by rw [sizeFt]; rfl)) rfl ⟨by have := HZ1.out; injection this with t1 t2; rw [t1, t2], (HI4.out.setCell (Nat.le_refl _) _).setCell (Nat.le_refl _) _⟩
    ·clear h0
     go_wp2_with fail
     rw [← HX.out]
     exact bodyPost_ret (v := .agg #[.int .i64 a, .int .i64 b]) (results_row (p := 2) (ty := 28) Tryz.results22 _ _ w.heap.size 28 #[.int .i64 a, .int .i64 b] (0, 0) _ rfl (set2_same HI2.out) Tryz.underlying28 rfl (by rw [sizeFt]; rfl)) rfl ⟨by have := HZ1.out; injection this with t1 t2; rw [t1, t2], (HI4.out.setCell (Nat.le_refl _) _).setCell (Nat.le_refl _) _⟩
  ·obtain rfl : k = 2 := by omega
   have HZ1 : Hid ((R1, R2) = ((0 : Int), (0 : Int))) := by
    rw [HR.out, if_pos (hS.out.1 (by omega))]
    obtain ⟨e1, e2⟩ := hS.out.2 (by omega)
    rw [e1, e2]; rfl
   obtain ⟨r0, r1⟩ := two_cells2 j2
   obtain ⟨z0, z1⟩ := two_cells2 j3
   obtain ⟨f0, f1, _, _⟩ := vc_free j2
   have HI2 : Hid (wr.heap[w.heap.size]? = some (.cells #[.int .i64 0, .int .i64 0] 28 (0, 0))) := j2
   have HI4 : Hid (Below w.heap.size w wr) := j4
   clear j1 j2 j3 j4 hS hX HC HR
   go_wp2_with fail
   exact bodyPost_ret (v := .agg #[.int .i64 0, .int .i64 0]) (results_row (p := 2) (ty := 28) Tryz.results22 _ _ w.heap.size 28 #[.int .i64 0, .int .i64 0] (0, 0) _ rfl (set2_same HI2.out) Tryz.underlying28 rfl (by rw [sizeFt]; rfl)) rfl ⟨by have := HZ1.out; injection this with t1 t2; rw [t1, t2], (HI4.out.setCell (Nat.le_refl _) _).setCell (Nat.le_refl _) _⟩
namespace Pl
structure Net.Wf (n : Net) : Prop where
 addr : ∀ i, i < n.K → (Lit.int .u64 (n.bs i).addr).wf = true
 link : ∀ i, i < n.L → (Lit.int .i64 (n.ls i).a).wf = true ∧ (Lit.int .i64 (n.ls i).pa).wf = true ∧ (Lit.int .i64 (n.ls i).b).wf = true ∧ (Lit.int .i64 (n.ls i).pb).wf = true
end Pl
set_option maxRecDepth 100000 in
set_option maxHeartbeats 4000000 in
theorem pwrong_any (n : Net) (w : World) (hat : n.at' w) (hwf : n.Wf) :
  Calls Tryz.prog 10 #[n.val] w fun e w' => e = .returned (.agg (ftA n.wrong)) ∧ Below w.heap.size w w' := by
 obtain ⟨bao, K, bcap, bs, lao, L, lcap, ls⟩ := n
 obtain ⟨hbr, heach, hlk, hmB, hmL⟩ := hat
 obtain ⟨hwa, hwl⟩ := hwf
 simp only at hbr heach hlk hmB hmL hwa hwl
 simp only [Pl.Net.val]
 have HE : Hid (Pl.Net.wrong ⟨bao, K, bcap, bs, lao, L, lcap, ls⟩ = if 12 < K ∨ 40 < L then (5, 0) else if (Pl.firstTo (Pl.bErr bs) K).1 ≠ 0 then Pl.firstTo (Pl.bErr bs) K else Pl.firstTo (Pl.lErr K ls) L) := rfl
 rw [HE.out]
 clear HE
 obtain ⟨X, HX⟩ : ∃ X, Hid (X = (w.alloc (.cells #[.slice bao K bcap, .slice lao L lcap] 25)).alloc (.cells #[.int .i64 0, .int .i64 0] 28)) := ⟨_, rfl⟩
 have hXB : Below w.heap.size w X := by rw [HX.out]; exact below_alloc2 _ _ _
 have hXn : X.heap[w.heap.size]? = some (.cells #[.slice bao K bcap, .slice lao L lcap] 25 (0, 0)) := by rw [HX.out]; exact heap_alloc2_old w _ _
 have hXf : X.heap[w.heap.size + 1]? = some (.cells #[.int .i64 0, .int .i64 0] 28 (0, 0)) := by rw [HX.out]; exact heap_alloc2_new w _ _
 have HC : Hid (∀ W, Below X.heap.size X W → (W.cell? ⟨w.heap.size, 0, none⟩ = some (.slice bao K bcap) ∧ W.cell? ⟨w.heap.size, 1, none⟩ = some (.slice lao L lcap)) ∧ (W.cell? ⟨w.heap.size + 1, 0, none⟩ = some (.int .i64 0) ∧ W.cell? ⟨w.heap.size + 1, 1, none⟩ = some (.int .i64 0)) ∧ W.frozen? ⟨w.heap.size + 1, 0, none⟩ = false ∧ W.frozen? ⟨w.heap.size + 1, 1, none⟩ = false) := fun W hW =>
  ⟨two_cells2 (keep hXn hW), two_cells2 (keep hXf hW), (vc_free (keep hXf hW)).1, (vc_free (keep hXf hW)).2.1⟩
 have HF : Hid (∀ W, Below X.heap.size X W → W.heap[w.heap.size + 1]? = some (.cells #[.int .i64 0, .int .i64 0] 28 (0, 0)) ∧ Below w.heap.size w W) := fun W hW => ⟨keep hXf hW, hXB.trans (hW.mono hXB.size)⟩
 obtain ⟨⟨c0, c1⟩, ⟨d0, d1⟩, e0, e1⟩ := HC.out X (Below.refl _ _)
 by_cases h12 : 12 < K
 ·rw [if_pos (Or.inl h12)]
  have h12z : (12 : Int) < (K : Int) := by omega
  clear hbr heach hlk hwa hwl hXn hXf HC HF hXB
  rw [HX.out] at c0 c1 d0 d1 e0 e1
  go_enter Tryz.func10, Tryz.ntmps10
  go_wp2_with fail
  exact bodyPost_ret (v := .agg #[.int .i64 5, .int .i64 0]) (results_row (p := 2) (ty := 28) Tryz.results10 _ _ (w.heap.size + 1) 28 #[.int .i64 5, .int .i64 0] (0, 0) _ rfl (heap_alloc2_new w _ _) Tryz.underlying28 rfl (by rw [sizeFt]; rfl)) rfl ⟨rfl, below_alloc2 _ _ _⟩
 ·have h12z : ¬ (12 : Int) < (K : Int) := by omega
  by_cases h40 : 40 < L
  ·rw [if_pos (Or.inr h40)]
   have h40z : (40 : Int) < (L : Int) := by omega
   clear hbr heach hlk hwa hwl hXn hXf HC HF hXB
   rw [HX.out] at c0 c1 d0 d1 e0 e1
   go_enter Tryz.func10, Tryz.ntmps10
   go_wp2_with fail
   exact bodyPost_ret (v := .agg #[.int .i64 5, .int .i64 0]) (results_row (p := 2) (ty := 28) Tryz.results10 _ _ (w.heap.size + 1) 28 #[.int .i64 5, .int .i64 0] (0, 0) _ rfl (heap_alloc2_new w _ _) Tryz.underlying28 rfl (by rw [sizeFt]; rfl)) rfl ⟨rfl, below_alloc2 _ _ _⟩
  ·rw [if_neg (fun q => by rcases q with q | q; exact h12 q; exact h40 q)]
   have h40z : ¬ (40 : Int) < (L : Int) := by omega
   have HWB : Hid (∀ W, Below X.heap.size X W → Calls Tryz.prog 23 #[.slice bao K bcap] W fun e w' => e = .returned (.agg (ftA (Pl.firstTo (Pl.bErr bs) K))) ∧ Hid (Below X.heap.size X w')) := fun W hW => by
    have hW2 : Below w.heap.size w W := hXB.trans (hW.mono hXB.size)
    refine (pwrongBridges_any bao K bcap bs W (by omega) (CRow.below hbr hW2) (fun i hi => (heach i hi).below hW2) hwa).mono ?_
    rintro e w' ⟨rfl, z⟩
    exact ⟨rfl, hW.trans (z.mono hW.size)⟩
   have HWL : Hid (∀ W, Below X.heap.size X W → Calls Tryz.prog 24 #[.slice lao L lcap, .int .i64 K] W fun e w' => e = .returned (.agg (ftA (Pl.firstTo (Pl.lErr K ls) L))) ∧ Hid (Below X.heap.size X w')) := fun W hW => by
    have hW2 : Below w.heap.size w W := hXB.trans (hW.mono hXB.size)
    refine (pwrongLinks_any lao L lcap ls K (by omega) W (by omega) (CRow.below hlk hW2) hwl).mono ?_
    rintro e w' ⟨rfl, z⟩
    exact ⟨rfl, hW.trans (z.mono hW.size)⟩
   have HEQ : Hid ((if (Pl.firstTo (Pl.bErr bs) K).1 ≠ 0 then Pl.firstTo (Pl.bErr bs) K else Pl.firstTo (Pl.lErr K ls) L) = if (Pl.firstTo (Pl.bErr bs) K).1 = 0 ∧ (Pl.firstTo (Pl.bErr bs) K).2 = 0 then ((Pl.firstTo (Pl.lErr K ls) L).1, (Pl.firstTo (Pl.lErr K ls) L).2) else ((Pl.firstTo (Pl.bErr bs) K).1, (Pl.firstTo (Pl.bErr bs) K).2)) := by
    show (if _ then _ else _) = _
    by_cases q : (Pl.firstTo (Pl.bErr bs) K).1 = 0
    ·rw [if_neg (fun p => p q), if_pos ⟨q, by rw [(Pl.firstTo_zero _ _ q).1]⟩]
    ·rw [if_pos q, if_neg (fun p => q p.1)]
   clear hbr heach hlk hwa hwl hXn hXf hXB
   generalize Pl.firstTo (Pl.bErr bs) K = x at *
   generalize Pl.firstTo (Pl.lErr K ls) L = y at *
   obtain ⟨x1, x2⟩ := x
   obtain ⟨y1, y2⟩ := y
   generalize (if (x1, x2).1 ≠ 0 then (x1, x2) else (y1, y2)) = R at *
   obtain ⟨R1, R2⟩ := R
   simp only [ftA] at *
   have HOR : Hid (∀ (g : Nat) (ty : TypeId) (W : World), Below X.heap.size X W → W.heap[g]? = some (.cells #[.int .i64 x1, .int .i64 x2, .int .i64 y1, .int .i64 y2] ty (0, 0)) → Calls Tryz.prog 22 #[.slice (some ⟨g, 0, none⟩) 2 2] W fun e w' => e = .returned (.agg #[.int .i64 R1, .int .i64 R2]) ∧ Hid (Below X.heap.size X w')) := fun g ty W hW h => by
    refine (corf2 x1 x2 y1 y2 g ty W h R1 R2 HEQ.out).mono ?_
    rintro e w' ⟨rfl, z⟩
    exact ⟨rfl, hW.trans (z.mono hW.size)⟩
   have HXX : Hid (Below X.heap.size X X.drew) := Below.drew (Below.refl _ _)
   clear HEQ
   rw [HX.out] at c0 c1
   go_enter Tryz.func10, Tryz.ntmps10
   go_wp2_with fail
   rw [← HX.out] at c0 c1 ⊢
   go_region_with (first | (go_at_call 23; (with_reducible refine (HWB.out _ (by first | exact (Below.refl _ _).drew | exact below_drewN (Below.refl _ _) _ | exact Below.refl _ _)).mono ?_); rintro e w1 ⟨rfl, Hw1⟩; obtain ⟨⟨k0, k1⟩, ⟨m0, m1⟩, n0, n1⟩ := HC.out w1 Hw1.out) | (go_at_call 24; (with_reducible refine (HWL.out _ (by first | exact Hw1.out | exact Hw1.out.drew | exact below_drewN Hw1.out _)).mono ?_); rintro e w2 ⟨rfl, Hw2⟩; obtain ⟨⟨k0, k1⟩, ⟨m0, m1⟩, n0, n1⟩ := HC.out w2 Hw2.out) | (go_at_call 22; refine (HOR.out _ _ _ (Hw2.out.alloc Hw2.out.size _) (heap_alloc_last _ _)).mono ?_; rintro e w3 ⟨rfl, Hw3⟩; obtain ⟨⟨k0, k1⟩, ⟨m0, m1⟩, n0, n1⟩ := HC.out w3 Hw3.out))
   all_goals go_wp2_with fail
   all_goals exact bodyPost_ret (v := .agg #[.int .i64 R1, .int .i64 R2]) (results_row (p := 2) (ty := 28) Tryz.results10 _ _ (w.heap.size + 1) 28 #[.int .i64 R1, .int .i64 R2] (0, 0) _ rfl (set2_same (HF.out _ Hw3.out).1) Tryz.underlying28 rfl (by rw [sizeFt]; rfl)) rfl ⟨rfl, ((HF.out _ Hw3.out).2.setCell (Nat.le_add_right _ _) _).setCell (Nat.le_add_right _ _) _⟩
end
section
open Go.ChangeShapes Go.WideShapes Go.ChangeAt Go.RowKit
theorem gTurns : Tryz.prog.globalNamed "hedgerow/md5.turns" = some 1 := by kernel_rfl
theorem gTurnsType : (Tryz.prog.globals[1]?).map (·.type) = some 193 := by kernel_rfl
theorem gAdds : Tryz.prog.globalNamed "hedgerow/md5.addends" = some 0 := by kernel_rfl
theorem gAddsType : (Tryz.prog.globals[0]?).map (·.type) = some 189 := by kernel_rfl
theorem cells52 : Tryz.prog.cellsOf 189 = 64 := by kernel_rfl
theorem cells55 : Tryz.prog.cellsOf 192 = 4 := by kernel_rfl
theorem cells32 : Tryz.prog.cellsOf 150 = 1 := by kernel_rfl
theorem cells3 : Tryz.prog.cellsOf 3 = 1 := by kernel_rfl
theorem tabs_of {W : World} (h : laidMetH Tryz.prog [("hedgerow/md5.turns", Rows.laid_hedgerow_md5_turns), ("hedgerow/md5.addends", Rows.laid_hedgerow_md5_addends)] W) : Tabs W := by
 have h' : laidMet Tryz.prog [("hedgerow/md5.turns", Rows.laid_hedgerow_md5_turns), ("hedgerow/md5.addends", Rows.laid_hedgerow_md5_addends)] W := h
 refine ⟨fun i hi => ?_, fun i hi => ?_⟩
 ·have ht : laidMet Tryz.prog [("hedgerow/md5.addends", Lib.tabData .u32 Md.tab)] W := laidMet.tail h'
  have := Lib.tabIs_of_head (rest := []) gAdds gAddsType Tryz.underlying189 Tryz.underlying150 cells32 cells52 ht
  exact this.cell gAdds i hi
 ·obtain ⟨ps, ⟨g', t', cs, fuel, p, q, hg', ht', hvar, hd, _, _⟩, _⟩ := h'
  obtain rfl := Option.some.inj (gTurns.symm.trans hg')
  obtain rfl := Option.some.inj (gTurnsType.symm.trans ht')
  obtain ⟨xs, m, rfl, hx, hl, hxl, hall⟩ := DataW.trod_array Tryz.underlying193 hd
  have hx1 : xs.map (·.1) = [Lib.tabData .i64 [7, 12, 17, 22], Lib.tabData .i64 [5, 9, 14, 20], Lib.tabData .i64 [4, 11, 16, 23], Lib.tabData .i64 [6, 10, 15, 21]] := by
   have := congrArg Prod.fst hx
   simp only [Rows.laid_hedgerow_md5_turns] at this
   exact (DataW.agg.inj this).symm
  have row : ∀ r zs, r < 4 → (xs.map (·.1))[r]? = some (Lib.tabData .i64 zs) → (cs.toList.drop (r * 4)).take 4 = zs.map fun z => Value.int .i64 z := by
   intro r zs hr hz
   have h1 := hall r hr
   rw [cells55] at h1
   simp only [List.getElem?_map, Option.map_eq_some_iff] at hz
   obtain ⟨y, hy, hy1⟩ := hz
   rw [hy] at h1
   obtain ⟨y1, y2⟩ := y
   simp only at hy1
   subst hy1
   exact Lib.cells_of_tab Tryz.underlying192 Tryz.underlying3 cells3 cells55 h1
  have cell := World.var?_cell gTurns hvar i
  rw [cell]
  have hget : ∀ r j, j < 4 → cs[r * 4 + j]? = ((cs.toList.drop (r * 4)).take 4)[j]? := by
   intro r j hj
   rw [List.getElem?_take_of_lt hj, List.getElem?_drop, Array.getElem?_toList]
  rcases (show (∃ j, j < 4 ∧ i = 0 * 4 + j) ∨ (∃ j, j < 4 ∧ i = 1 * 4 + j) ∨ (∃ j, j < 4 ∧ i = 2 * 4 + j) ∨ (∃ j, j < 4 ∧ i = 3 * 4 + j) from by
   by_cases h1 : i < 4
   ·exact Or.inl ⟨i, h1, by omega⟩
   ·by_cases h2 : i < 8
    ·exact Or.inr (Or.inl ⟨i - 4, by omega, by omega⟩)
    ·by_cases h3 : i < 12
     ·exact Or.inr (Or.inr (Or.inl ⟨i - 8, by omega, by omega⟩))
     ·exact Or.inr (Or.inr (Or.inr ⟨i - 12, by omega, by omega⟩))) with ⟨j, hj, rfl⟩ | ⟨j, hj, rfl⟩ | ⟨j, hj, rfl⟩ | ⟨j, hj, rfl⟩
  ·rw [hget 0 j hj, row 0 [7, 12, 17, 22] (by omega) (by rw [hx1]; rfl)]
   rcases (show j = 0 ∨ j = 1 ∨ j = 2 ∨ j = 3 by omega) with rfl | rfl | rfl | rfl <;> rfl
  ·rw [hget 1 j hj, row 1 [5, 9, 14, 20] (by omega) (by rw [hx1]; rfl)]
   rcases (show j = 0 ∨ j = 1 ∨ j = 2 ∨ j = 3 by omega) with rfl | rfl | rfl | rfl <;> rfl
  ·rw [hget 2 j hj, row 2 [4, 11, 16, 23] (by omega) (by rw [hx1]; rfl)]
   rcases (show j = 0 ∨ j = 1 ∨ j = 2 ∨ j = 3 by omega) with rfl | rfl | rfl | rfl <;> rfl
  ·rw [hget 3 j hj, row 3 [6, 10, 15, 21] (by omega) (by rw [hx1]; rfl)]
   rcases (show j = 0 ∨ j = 1 ∨ j = 2 ∨ j = 3 by omega) with rfl | rfl | rfl | rfl <;> rfl
def rowPut (cs : Array Value) : Obj → Obj
 | .cells _ t frozen => .cells cs t frozen
 | o => o
def laidW (w : World) : World :=
 { w with heap := (w.heap.modify 0 (rowPut (Md.tab.map (Value.int .u32)).toArray)).modify 1 (rowPut (Md.trn.map (Value.int .i64)).toArray) }
theorem cellsWay : Tryz.prog.cellsOf 108 = 2 := by kernel_rfl
theorem cellsInt : Tryz.prog.cellsOf 3 = 1 := by kernel_rfl
theorem ways_cell {H : Type} {enc : TypeId × Value → H} {W : World} {v : Value} {fuel : Nat} {x : DataW H × List MemPlace}
  (hf : DataW.trod enc Tryz.prog W 0 (fun _ => true) true fuel 36 [v] = some x) :
  ∃ ao n cap vs ts, v = .slice ao n cap ∧ WayRow W ao n cap vs ts ∧ n ≤ 9223372036854775807 := by
 rcases Deep.open_slice_pairs Tryz.underlying36 Tryz.underlying108 cellsWay rfl rfl cellsInt cellsInt hf with ⟨hcs, _⟩ | ⟨a, len, cap, m, k, V0, V1, D0, D1, P0, P1, hcs, _, hl, hm, hmm, _, hx⟩
 ·simp at hcs
  subst hcs
  exact ⟨none, 0, 0, fun _ => 0, fun _ => 0, rfl, ⟨Nat.le_refl _, fun h => absurd h (by omega)⟩, by omega⟩
 ·simp at hcs
  subst hcs
  rw [if_pos rfl] at hmm
  have each : ∀ i, i < len → ∃ q : Int × Int, V0 i = .int .i64 q.1 ∧ V1 i = .int .i64 q.2 := by
   intro i hi
   obtain ⟨_, _, t0, t1⟩ := hx i (by omega)
   obtain ⟨y0, e0, _, _⟩ := DataW.trod_int Tryz.underlying3 t0
   obtain ⟨y1, e1, _, _⟩ := DataW.trod_int Tryz.underlying3 t1
   exact ⟨(y0, y1), one_of e0, one_of e1⟩
  obtain ⟨q, hq⟩ := Deep.choose_lt each
  refine ⟨some a, len, cap, fun i => (q i).1, fun i => (q i).2, rfl, ⟨hl, fun hp => ?_⟩, by unfold maxLen at hm; omega⟩
  obtain ⟨b, off, spot⟩ := a
  have hspot : spot = none := by
   have h0 := (hx 0 (by omega)).1
   simpa [Addr.add] using World.cell?_spot h0
  subst hspot
  have hc : ∀ i, i < len → W.cell? ⟨b, off + i * 2, none⟩ = some (.int .i64 (q i).1) ∧ W.cell? ⟨b, off + i * 2 + 1, none⟩ = some (.int .i64 (q i).2) := by
   intro i hi
   obtain ⟨c0, c1, _, _⟩ := hx i (by omega)
   rw [add_row, (hq i hi).1] at c0
   rw [add_row, (hq i hi).2] at c1
   exact ⟨c0, c1⟩
  exact ⟨b, off, rfl, block_lt_of_cell (hc 0 hp).1, hc⟩
end
section
open Go.ChangeShapes Go.WideShapes Go.ChangeAt Go.RowKit
open Pl (Br Net Pc Lk En St)
theorem cellsNt : Tryz.prog.cellsOf 25 = 2 := by kernel_rfl
theorem cellsBg : Tryz.prog.cellsOf 40 = 5 := by kernel_rfl
theorem cellsLk : Tryz.prog.cellsOf 46 = 6 := by kernel_rfl
theorem bytesLk : Tryz.prog.bytesOf 46 = 48 := by kernel_rfl
theorem plist2 {α : Type} {l : List α} (h : l.length = 2) : ∃ c0 c1, l = [c0, c1] := by
 match l, h with
 | [c0, c1], _ => exact ⟨c0, c1, rfl⟩
theorem plist3 {α : Type} {l : List α} (h : l.length = 3) : ∃ c0 c1 c2, l = [c0, c1, c2] := by
 match l, h with
 | [c0, c1, c2], _ => exact ⟨c0, c1, c2, rfl⟩
theorem plist5 {α : Type} {l : List α} (h : l.length = 5) : ∃ c0 c1 c2 c3 c4, l = [c0, c1, c2, c3, c4] := by
 match l, h with
 | [c0, c1, c2, c3, c4], _ => exact ⟨c0, c1, c2, c3, c4, rfl⟩
theorem plist6 {α : Type} {l : List α} (h : l.length = 6) : ∃ c0 c1 c2 c3 c4 c5, l = [c0, c1, c2, c3, c4, c5] := by
 match l, h with
 | [c0, c1, c2, c3, c4, c5], _ => exact ⟨c0, c1, c2, c3, c4, c5, rfl⟩
theorem rows_cell {α : Type} [Inhabited α] {H : Type} {enc : TypeId × Value → H} {W : World} {t e : TypeId} {k : Nat} (hk : 0 < k) (ht : Tryz.prog.underlying t = some (.slice e)) (hc : Tryz.prog.cellsOf e = k) (C : α → Nat → Value) (Q : α → Prop)
  (elem : ∀ fuel cs x, cs.length = k → DataW.trod enc Tryz.prog W 0 (fun _ => true) true fuel e cs = some x → ∃ a : α, (∀ j, j < k → cs[j]? = some (C a j)) ∧ Q a)
  {v : Value} {fuel : Nat} {x : DataW H × List MemPlace} (hf : DataW.trod enc Tryz.prog W 0 (fun _ => true) true fuel t [v] = some x) :
  ∃ (ao : Option Addr) (n cap : Nat) (f : Nat → α), v = .slice ao n cap ∧ CRow W ao n cap k (fun i => C (f i)) ∧ NilOk ao n cap ∧ n ≤ 9223372036854775807 ∧ ∀ i, i < n → Q (f i) := by
 rcases Deep.open_slice ht hf with ⟨hcs, _⟩ | ⟨a, len, cap, m, q, D, Pl, hcs, _, hl, hm, hmm, _, hx⟩
 ·simp at hcs
  subst hcs
  exact ⟨none, 0, 0, fun _ => default, rfl, CRow.none _ _ _ _ _, fun _ => ⟨rfl, rfl⟩, by omega, fun i hi => absurd hi (by omega)⟩
 ·simp at hcs
  subst hcs
  rw [if_pos rfl] at hmm
  have each : ∀ i, i < len → ∃ t : α, (∀ j, j < k → W.cell? (a.add (i * k + j)) = some (C t j)) ∧ Q t := by
   intro i hi
   obtain ⟨cs', h1, h2⟩ := hx i (by omega)
   rw [hc] at h1
   obtain ⟨_, hlen, hcell⟩ := World.cells?_some h1
   obtain ⟨t, h3, h4⟩ := elem _ _ _ hlen h2
   refine ⟨t, fun j hj => ?_, h4⟩
   have kj := hcell j (by omega)
   rw [Deep.add_add] at kj
   rw [kj]
   exact h3 j hj
  obtain ⟨f, hq⟩ := Deep.choose_lt each
  refine ⟨some a, len, cap, f, rfl, ⟨hl, fun hp => ?_⟩, (fun e => by cases e), by unfold maxLen at hm; omega, fun i hi => (hq i hi).2⟩
  obtain ⟨b, off, spot⟩ := a
  have hspot : spot = none := by
   have h0 := (hq 0 (by omega)).1 0 (by omega)
   simpa [Addr.add] using World.cell?_spot h0
  subst hspot
  have hc : ∀ i, i < len → ∀ j, j < k → _ := fun i hi j hj => (hq i hi).1 j hj
  simp only [add_row] at hc
  refine ⟨b, off, rfl, block_lt_of_cell (hc 0 hp 0 hk), fun i hi j hj => ?_⟩
  have := hc i hi j hj
  rw [← Nat.add_assoc] at this
  exact this
set_option maxRecDepth 100000 in
theorem ints_cell {H : Type} {enc : TypeId × Value → H} {W : World} {v : Value} {fuel : Nat} {x : DataW H × List MemPlace}
  (hf : DataW.trod enc Tryz.prog W 0 (fun _ => true) true fuel 35 [v] = some x) :
  ∃ (ao : Option Addr) (n cap : Nat) (f : Nat → Int), v = .slice ao n cap ∧ IRow W ao n cap f ∧ NilOk ao n cap ∧ n ≤ 9223372036854775807 := by
 obtain ⟨ao, n, cap, f, h1, h2, h3, h4, _⟩ := rows_cell (by omega) Tryz.underlying35 cellsInt (fun (x : Int) _ => .int .i64 x) (fun _ => True) (fun fuel cs x hl h => by
  obtain ⟨y, e, _, _⟩ := DataW.trod_int Tryz.underlying3 h
  exact ⟨y, fun j hj => by
   obtain rfl : j = 0 := by omega
   rw [e]; rfl, trivial⟩) hf
 exact ⟨ao, n, cap, f, h1, h2, h3, h4⟩
set_option maxRecDepth 100000 in
theorem links_cell {H : Type} {enc : TypeId × Value → H} {W : World} {v : Value} {fuel : Nat} {x : DataW H × List MemPlace}
  (hf : DataW.trod enc Tryz.prog W 0 (fun _ => true) true fuel 23 [v] = some x) :
  ∃ (ao : Option Addr) (n cap : Nat) (f : Nat → Lk), v = .slice ao n cap ∧ LRow W ao n cap f ∧ NilOk ao n cap ∧ n ≤ 9223372036854775807 ∧ ∀ i, i < n → (Lit.int .i64 (f i).a).wf = true ∧ (Lit.int .i64 (f i).pa).wf = true ∧ (Lit.int .i64 (f i).b).wf = true ∧ (Lit.int .i64 (f i).pb).wf = true := by
 haveI : Inhabited Lk := ⟨⟨0, 0, 0, 0, 0, false⟩⟩
 refine rows_cell (by omega) Tryz.underlying23 cellsLk lkC (fun l => (Lit.int .i64 l.a).wf = true ∧ (Lit.int .i64 l.pa).wf = true ∧ (Lit.int .i64 l.b).wf = true ∧ (Lit.int .i64 l.pb).wf = true) (fun fuel cs x hl h => ?_) hf
 obtain ⟨c0, c1, c2, c3, c4, c5, rfl⟩ := plist6 hl
 obtain ⟨xs, m, _, _, _, hlen, hfs⟩ := DataW.trod_struct Tryz.underlying46 h
 obtain ⟨y0, y1, y2, y3, y4, y5, rfl⟩ := plist6 (by simpa using hlen)
 obtain ⟨a, e0, _, w0⟩ := DataW.trod_int Tryz.underlying3 (hfs 0 _ rfl)
 obtain ⟨pa, e1, _, w1⟩ := DataW.trod_int Tryz.underlying3 (hfs 1 _ rfl)
 obtain ⟨b, e2, _, w2⟩ := DataW.trod_int Tryz.underlying3 (hfs 2 _ rfl)
 obtain ⟨pb, e3, _, w3⟩ := DataW.trod_int Tryz.underlying3 (hfs 3 _ rfl)
 obtain ⟨co, e4, _, _⟩ := DataW.trod_int Tryz.underlying3 (hfs 4 _ rfl)
 obtain ⟨up, e5, _⟩ := DataW.trod_bool Tryz.underlying4 (hfs 5 _ rfl)
 refine ⟨⟨a, pa, b, pb, co, up⟩, fun j hj => ?_, w0, w1, w2, w3⟩
 rw [one_of e0, one_of e1, one_of e2, one_of e3, one_of e4, one_of e5]
 rcases (by omega : j = 0 ∨ j = 1 ∨ j = 2 ∨ j = 3 ∨ j = 4 ∨ j = 5) with q | q | q | q | q | q <;> subst q <;> rfl
set_option maxRecDepth 100000 in
theorem region_cells {H : Type} {enc : TypeId × Value → H} {W : World} {c0 c1 c2 : Value} {fuel : Nat} {x : DataW H × List MemPlace}
  (hf : DataW.trod enc Tryz.prog W 0 (fun _ => true) true fuel 38 [c0, c1, c2] = some x) :
  ∃ r : Rg.Reg, c0 = .string r.s ∧ c1 = .int .i64 r.rev ∧ c2 = .slice r.ao r.n r.cap ∧ r.at' W ∧ r.n ≤ 9223372036854775807 := by
 obtain ⟨xs, m, _, _, _, hlen, hfs⟩ := DataW.trod_struct Tryz.underlying38 hf
 obtain ⟨y0, y1, y2, rfl⟩ := plist3 (by simpa using hlen)
 have g2 := hfs 2 _ rfl
 obtain ⟨s, e0, _⟩ := DataW.trod_string Tryz.underlying9 (hfs 0 _ rfl)
 obtain ⟨rev, e1, _, _⟩ := DataW.trod_int Tryz.underlying3 (hfs 1 _ rfl)
 obtain ⟨ao, n, cap, vs, ts, e2, hr, hn⟩ := ways_cell g2
 exact ⟨⟨s, rev, ao, n, cap, vs, ts⟩, one_of e0, one_of e1, e2, hr, hn⟩
set_option maxRecDepth 100000 in
theorem bridges_cell {H : Type} {enc : TypeId × Value → H} {W : World} {v : Value} {fuel : Nat} {x : DataW H × List MemPlace}
  (hf : DataW.trod enc Tryz.prog W 0 (fun _ => true) true fuel 22 [v] = some x) :
  ∃ (ao : Option Addr) (n cap : Nat) (f : Nat → Br), v = .slice ao n cap ∧ BRow W ao n cap f ∧ NilOk ao n cap ∧ n ≤ 9223372036854775807 ∧ ∀ i, i < n → (f i).at' W ∧ (Lit.int .u64 (f i).addr).wf = true := by
 haveI : Inhabited Br := ⟨⟨0, none, 0, 0, fun _ => 0, ⟨⟨#[]⟩, 0, none, 0, 0, fun _ => 0, fun _ => 0⟩⟩⟩
 refine rows_cell (by omega) Tryz.underlying22 cellsBg brC (fun b => b.at' W ∧ (Lit.int .u64 b.addr).wf = true) (fun fuel cs x hl h => ?_) hf
 obtain ⟨c0, c1, c2, c3, c4, rfl⟩ := plist5 hl
 obtain ⟨xs, m, _, _, _, hlen, hfs⟩ := DataW.trod_struct Tryz.underlying40 h
 obtain ⟨y0, y1, y2, rfl⟩ := plist3 (by simpa using hlen)
 obtain ⟨a, e0, _, w0⟩ := DataW.trod_int Tryz.underlying34 (hfs 0 _ rfl)
 have g1 := hfs 1 _ rfl
 have g2 := hfs 2 _ rfl
 obtain ⟨pao, pn, pcap, pv, e1, hp, _, hpn⟩ := ints_cell g1
 obtain ⟨r, e2, e3, e4, hr, hn⟩ := region_cells g2
 refine ⟨⟨a, pao, pn, pcap, pv, r⟩, fun j hj => ?_, ⟨hp, hr, hpn, hn⟩, w0⟩
 rw [one_of e0, e1, e2, e3, e4]
 rcases (by omega : j = 0 ∨ j = 1 ∨ j = 2 ∨ j = 3 ∨ j = 4) with q | q | q | q | q <;> subst q <;> rfl
set_option maxRecDepth 100000 in
theorem links_many {H : Type} {enc : TypeId × Value → H} {W : World} {ao : Option Addr} {n cap : Nat} {fuel : Nat} {x : DataW H × List MemPlace}
  (hf : DataW.trod enc Tryz.prog W 0 (fun _ => true) true fuel 23 [.slice ao n cap] = some x) (hz : (x.1.weights Tryz.prog 23).all (· ≤ reachBytes) = true) : n * 48 ≤ reachBytes := by
 rcases Deep.open_slice Tryz.underlying23 hf with ⟨hcs, _⟩ | ⟨a, len, cap', m, k, D, Pl, hcs, _, hl, hm, hmm, hx, _⟩
 ·simp at hcs
  omega
 ·simp at hcs
  obtain ⟨_, rfl, rfl⟩ := hcs
  rw [if_pos rfl] at hmm
  rw [hx] at hz
  unfold DataW.weights at hz
  rw [Tryz.underlying23] at hz
  simp only [List.all_cons, Bool.and_eq_true, decide_eq_true_eq, List.length_map, List.length_range, bytesLk] at hz
  have := hz.1
  omega
set_option maxRecDepth 100000 in
theorem net_in {H : Type} {enc : TypeId × Value → H} {W : World} {base : Nat} {v : Value} {D : DataW H} {ps : List MemPlace}
  (hv : Value.okWide Tryz.prog W .any base 25 v) (h : DataW.Trod enc Tryz.prog W 0 (fun _ => true) true 25 v D ps) :
  ∃ n : Net, v = n.val ∧ n.at' W ∧ n.Wf ∧ ((D.weights Tryz.prog 25).all (· ≤ reachBytes) = true → n.L * 48 ≤ reachBytes) := by
 obtain ⟨cs, rfl, hcs⟩ := okWide_struct Tryz.underlying25 hv
 rw [cellsNt] at hcs
 obtain ⟨l⟩ := cs
 obtain ⟨c0, c1, rfl⟩ := plist2 (by simpa using hcs)
 obtain ⟨fuel, hf⟩ := h
 obtain ⟨xs, m, _, hxy, _, hlen, hfs⟩ := DataW.trod_struct Tryz.underlying25 hf
 obtain ⟨y0, y1, rfl⟩ := plist2 (by simpa using hlen)
 have g0 := hfs 0 _ rfl
 have g1 := hfs 1 _ rfl
 simp only [Value.cells] at g0 g1
 obtain ⟨bao, K, bcap, bs, rfl, hb, _, hbn, hb2⟩ := bridges_cell g0
 obtain ⟨lao, L, lcap, ls, rfl, hl, _, hln, hl2⟩ := links_cell g1
 refine ⟨⟨bao, K, bcap, bs, lao, L, lcap, ls⟩, rfl, ⟨hb, fun i hi => (hb2 i hi).1, hl, hbn, hln⟩, ⟨fun i hi => (hb2 i hi).2, hl2⟩, fun hz => ?_⟩
 simp only [Prod.mk.injEq] at hxy
 rw [hxy.1] at hz
 unfold DataW.weights at hz
 rw [Tryz.underlying25] at hz
 simp only [List.map_cons, List.map_nil, DataW.weightsEach, List.all_append, Bool.and_eq_true] at hz
 exact links_many g1 hz.2.1
end
section
open Go.RowKit
theorem append_at (w : World) (t e : TypeId) (z : Value) (k bytes : Nat) (ht : Tryz.prog.underlying t = some (.slice e)) (hinfo : (Tryz.prog.info? e).map (fun i => (i.zero, i.size, i.bytes)) = some (some z, k, bytes)) (hzk : z.cells.size = k) (hk : 0 < k)
  (base : Nat) (v : Value) (n : Nat) (c : Nat → Nat → Value) (hown : w.ownsRow base e k v n (cellsL n k c)) (ad : Addr) (m cp : Nat) (d : Nat → Nat → Value) (hd : ∀ i j, (d i j).oneCell' = true) (hr : CRow w (some ad) m cp k d) (h63 : n + m ≤ maxLen) (hb : (n + m) * bytes ≤ 140737488355328) (hbase : base ≤ w.heap.size) :
  ∃ a1 c1 w', (Builtin.append_ #[t, t] t #[v, .slice (some ad) m cp]).run Tryz.prog w = .ok (.slice a1 (n + m) c1) w' ∧ w'.ownsRow base e k (.slice a1 (n + m) c1) (n + m) (cellsL (n + m) k (catC n c d)) ∧ w.grownBy w' v.ownBlock ∧ Below base w w' ∧ ((Value.slice a1 (n + m) c1).ownBlock = v.ownBlock ∨ (Value.slice a1 (n + m) c1).ownBlock = some w.heap.size) := by
 obtain ⟨i0, hi, hz0, hz1, hz2⟩ := info_parts hinfo
 obtain ⟨v', w', hrun, h1, h2, _, h3⟩ := run_append_own_at (P := Tryz.prog) w base t t e i0 z k bytes ht hi hz0 hz1 hz2 hzk hk v n _ hown ad m cp (cellsL m k d) (cellsL_length _ _ _) (src_cells hk hr rfl) (cellsL_one _ _ _ hd) h63 hb hbase
 rw [cellsL_cat n m k hk] at h1
 obtain ⟨a1, c1, rfl, _⟩ := owns_c hk h1
 exact ⟨a1, c1, w', hrun, h1, h2, (Below.refl _ _).grown h2 hbase (fun q hq => (ownsC_block hown q hq).1), h3⟩
end
end Go.Proofs.YtcbpafpaimpfnaaGreatDoor
