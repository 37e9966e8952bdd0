/- walks: hedgelaw6.PlanTells (written by tools/gen_pqt.py) -/
import Derived.Test.YtcbpafpaimpfnaaGreatDoorP32
import Derived.Test.YtcbpafpaimpfnaaGreatDoorP28
import Derived.Test.YtcbpafpaimpfnaaGreatDoorP40
import Derived.BigQuiet
namespace Go.Proofs.YtcbpafpaimpfnaaGreatDoor
section
open Go.RowKit
def pt1_ops : Array Oper := #[⟨some 11, .load 25 (.tmp 2), 25, "law.go:23", #[], none⟩, ⟨some 12, .call { callee := .value (.func 10), args := #[.tmp 11], argTypes := #[25] }, 28, "law.go:23", #[⟨0, .data⟩], none⟩, ⟨some 13, .load 25 (.tmp 2), 25, "law.go:23", #[], none⟩, ⟨some 14, .call { callee := .value (.func 11), args := #[.tmp 13], argTypes := #[25] }, 28, "law.go:23", #[⟨2, .data⟩, ⟨1, .chain⟩], none⟩, ⟨some 15, .binOp .neq 28 (.tmp 12) (.tmp 14) 28, 4, "law.go:23", #[⟨1, .data⟩, ⟨3, .data⟩], none⟩]
section
variable {Q : Exit → Act → World → Prop} (df : List Deferred) (X : World) (BN : Nat) (nb nl : Value) (E1 E2 : Int)
variable (x0 x1 x3 x4 x5 x6 x7 x8 x9 x10 x16 x17 x18 x19 x20 x21 x22 x23 x24 x25 x26 x27 x28 x29 x30 x31 x32 x33 x34 x35 x36 x37 x38 x39 x40 x41 x42 x43 x44 x45 x46 x47 x48 x49 x50 x51 x52 x53 x54 x55 x56 x57 x58 x59 x60 x61 x62 x63 : Value)
variable (hQ : ∀ c (a : Act) (d : Tmp) (v : Value) (w : World), Q (.panic c) (a.put (some d) v) w → Q (.panic c) a w)
variable (hC : ∀ V, Below X.heap.size X V → V.cell? ⟨BN, 0, none⟩ = some nb ∧ V.cell? ⟨BN, 1, none⟩ = some nl)
variable (hW : ∀ W, Below X.heap.size X W → Calls Tryz.prog 10 #[.agg #[nb, nl]] W fun e w' => e = .returned (.agg #[.int .i64 E1, .int .i64 E2]) ∧ Below W.heap.size W w')
variable (hR : ∀ W, Below X.heap.size X W → Calls Tryz.prog 11 #[.agg #[nb, nl]] W fun e w' => e = .returned (.agg #[.int .i64 E1, .int .i64 E2]) ∧ Below W.heap.size W w')
variable (fin : ∀ (w' : World), Below X.heap.size X w' → Q .normal { tmps := #[x0, x1, (.pointer (some ⟨BN, 0, none⟩)), x3, x4, x5, x6, x7, x8, x9, x10, (.agg #[nb, nl]), (.agg #[.int .i64 E1, .int .i64 E2]), (.agg #[nb, nl]), (.agg #[.int .i64 E1, .int .i64 E2]), (.bool false), x16, x17, x18, x19, x20, x21, x22, x23, x24, x25, x26, x27, x28, x29, x30, x31, x32, x33, x34, x35, x36, x37, x38, x39, x40, x41, x42, x43, x44, x45, x46, x47, x48, x49, x50, x51, x52, x53, x54, x55, x56, x57, x58, x59, x60, x61, x62, x63], defers := df } w')
include hQ hC hW hR fin in
set_option maxRecDepth 100000 in
set_option maxHeartbeats 4000000 in
theorem pt1 (x11 x12 x13 x14 x15 : Value) : (Code.region 1 pt1_ops true).wp Tryz.prog Q { tmps := #[x0, x1, (.pointer (some ⟨BN, 0, none⟩)), x3, x4, x5, x6, x7, x8, x9, x10, x11, x12, x13, x14, x15, x16, x17, x18, x19, x20, x21, x22, x23, x24, x25, x26, x27, x28, x29, x30, x31, x32, x33, x34, x35, x36, x37, x38, x39, x40, x41, x42, x43, x44, x45, x46, x47, x48, x49, x50, x51, x52, x53, x54, x55, x56, x57, x58, x59, x60, x61, x62, x63], defers := df } X := by
 have hX0 : Below X.heap.size X X.drew := Below.drew (Below.refl _ _)
 refine wp_region_z (z := 4) (C := fun W => W.cell? ⟨BN, 0, none⟩ = some nb ∧ W.cell? ⟨BN, 1, none⟩ = some nl) (by kernel_rfl) (hC _ hX0) (fun hHeld => ?_)
 refine z_load (i := 0) (oi := ⟨some 11, .load 25 (.tmp 2), 25, "law.go:23", #[], none⟩) (v := ?_) (some 11) rfl rfl (by kernel_rfl) (by kernel_rfl) (by kernel_rfl) (by kernel_rfl) (fun c a w h => hQ c a _ _ w h) (by rfl) ?_ hHeld ?_
 rotate_left 1
 ·(intro wq hSw; go_simp; try with_reducible rfl)
 (try simp only [Act.put, List.setIfInBounds_toArray, List.set_cons_zero, List.set_cons_succ])
 refine z_load (i := 2) (oi := ⟨some 13, .load 25 (.tmp 2), 25, "law.go:23", #[], none⟩) (v := ?_) (some 13) rfl rfl (by kernel_rfl) (by kernel_rfl) (by kernel_rfl) (by kernel_rfl) (fun c a w h => hQ c a _ _ w h) (by rfl) ?_ hHeld ?_
 rotate_left 1
 ·(intro wq hSw; go_simp; try with_reducible rfl)
 (try simp only [Act.put, List.setIfInBounds_toArray, List.set_cons_zero, List.set_cons_succ])
 refine z_one (i := 1) (o := ⟨some 12, .call { callee := .value (.func 10), args := #[.tmp 11], argTypes := #[25] }, 28, "law.go:23", #[⟨0, .data⟩], none⟩) (by kernel_rfl) rfl (fun K hK => ?_)
 go_simp
 refine (hW _ hX0).mono ?_
 rintro e w1 ⟨rfl, hb⟩
 have hX1 : Below X.heap.size X w1 := hX0.trans (hb.mono hX0.size)
 clear hHeld hb
 refine hK.out _ _ (Or.inr (hC _ hX1)) (fun hHeld => ?_)
 clear hK K
 (try simp only [List.setIfInBounds_toArray, List.set_cons_zero, List.set_cons_succ])
 refine z_one (i := 3) (o := ⟨some 14, .call { callee := .value (.func 11), args := #[.tmp 13], argTypes := #[25] }, 28, "law.go:23", #[⟨2, .data⟩, ⟨1, .chain⟩], none⟩) (by kernel_rfl) rfl (fun K hK => ?_)
 go_simp
 refine (hR _ hX1).mono ?_
 rintro e w2 ⟨rfl, hb⟩
 have hX2 : Below X.heap.size X w2 := hX1.trans (hb.mono hX1.size)
 clear hHeld hb
 refine hK.out _ _ (Or.inr (hC _ hX2)) (fun hHeld => ?_)
 clear hK K
 (try simp only [List.setIfInBounds_toArray, List.set_cons_zero, List.set_cons_succ])
 refine z_one (i := 4) (o := ⟨some 15, .binOp .neq 28 (.tmp 12) (.tmp 14) 28, 4, "law.go:23", #[⟨1, .data⟩, ⟨3, .data⟩], none⟩) (by kernel_rfl) rfl (fun K hK => ?_)
 go_simp
 refine hK.out _ _ (Or.inl (by kernel_rfl)) (fun hHeld => ?_)
 (try simp only [List.setIfInBounds_toArray, List.set_cons_zero, List.set_cons_succ])
 refine z_done (by kernel_rfl) ?_ _
 exact fin _ hX2
end
def pt12_ops : Array Oper := #[⟨some 56, .load 40 (.tmp 10), 40, "law.go:35", #[], none⟩, ⟨some 57, .move (.tmp 1), 3, "law.go:35", #[], none⟩, ⟨some 58, .call { callee := .value (.func 15), args := #[.tmp 56, .tmp 57], argTypes := #[40, 3] }, 34, "law.go:35", #[⟨0, .data⟩, ⟨1, .data⟩], none⟩, ⟨some 59, .load 40 (.tmp 10), 40, "law.go:35", #[], none⟩, ⟨some 60, .move (.tmp 1), 3, "law.go:35", #[], none⟩, ⟨some 61, .call { callee := .value (.func 16), args := #[.tmp 59, .tmp 60], argTypes := #[40, 3] }, 34, "law.go:35", #[⟨3, .data⟩, ⟨4, .data⟩, ⟨2, .chain⟩], none⟩, ⟨some 62, .binOp .neq 34 (.tmp 58) (.tmp 61) 34, 4, "law.go:35", #[⟨2, .data⟩, ⟨5, .data⟩], none⟩]
section
variable {Q : Exit → Act → World → Prop} (df : List Deferred) (X : World) (B : Nat) (tree id : Int) (y0 y1 y2 y3 y4 : Value)
variable (x0 x2 x3 x4 x5 x6 x7 x8 x9 x11 x12 x13 x14 x15 x16 x17 x18 x19 x20 x21 x22 x23 x24 x25 x26 x27 x28 x29 x30 x31 x32 x33 x34 x35 x36 x37 x38 x39 x40 x41 x42 x43 x44 x45 x46 x47 x48 x49 x50 x51 x52 x53 x54 x55 x63 : Value)
variable (hQ : ∀ c (a : Act) (d : Tmp) (v : Value) (w : World), Q (.panic c) (a.put (some d) v) w → Q (.panic c) a w)
variable (hC : ∀ V, Below X.heap.size X V → V.cell? ⟨B, 0, none⟩ = some y0 ∧ V.cell? ⟨B, 1, none⟩ = some y1 ∧ V.cell? ⟨B, 2, none⟩ = some y2 ∧ V.cell? ⟨B, 3, none⟩ = some y3 ∧ V.cell? ⟨B, 4, none⟩ = some y4)
variable (hW : ∀ W, Below X.heap.size X W → Calls Tryz.prog 15 #[.agg #[y0, y1, y2, y3, y4], .int .i64 tree] W fun e w' => e = .returned (.int .u64 id) ∧ Below W.heap.size W w')
variable (hR : ∀ W, Below X.heap.size X W → Calls Tryz.prog 16 #[.agg #[y0, y1, y2, y3, y4], .int .i64 tree] W fun e w' => e = .returned (.int .u64 id) ∧ Below W.heap.size W w')
variable (fin : ∀ (w' : World), Below X.heap.size X w' → Q .normal { tmps := #[x0, (.int .i64 tree), x2, x3, x4, x5, x6, x7, x8, x9, (.pointer (some ⟨B, 0, none⟩)), x11, x12, x13, x14, x15, x16, x17, x18, x19, x20, x21, x22, x23, x24, x25, x26, x27, x28, x29, x30, x31, x32, x33, x34, x35, x36, x37, x38, x39, x40, x41, x42, x43, x44, x45, x46, x47, x48, x49, x50, x51, x52, x53, x54, x55, (.agg #[y0, y1, y2, y3, y4]), (.int .i64 tree), (.int .u64 id), (.agg #[y0, y1, y2, y3, y4]), (.int .i64 tree), (.int .u64 id), (.bool false), x63], defers := df } w')
include hQ hC hW hR fin in
set_option maxRecDepth 100000 in
set_option maxHeartbeats 4000000 in
theorem pt12 (x56 x57 x58 x59 x60 x61 x62 : Value) : (Code.region 12 pt12_ops true).wp Tryz.prog Q { tmps := #[x0, (.int .i64 tree), x2, x3, x4, x5, x6, x7, x8, x9, (.pointer (some ⟨B, 0, none⟩)), x11, x12, x13, x14, x15, x16, x17, x18, x19, x20, x21, x22, x23, x24, x25, x26, x27, x28, x29, x30, x31, x32, x33, x34, x35, x36, x37, x38, x39, x40, x41, x42, x43, x44, x45, x46, x47, x48, x49, x50, x51, x52, x53, x54, x55, x56, x57, x58, x59, x60, x61, x62, x63], defers := df } X := by
 have hX0 : Below X.heap.size X X.drew := Below.drew (Below.refl _ _)
 refine wp_region_z (z := 6) (C := fun W => W.cell? ⟨B, 0, none⟩ = some y0 ∧ W.cell? ⟨B, 1, none⟩ = some y1 ∧ W.cell? ⟨B, 2, none⟩ = some y2 ∧ W.cell? ⟨B, 3, none⟩ = some y3 ∧ W.cell? ⟨B, 4, none⟩ = some y4) (by kernel_rfl) (hC _ hX0) (fun hHeld => ?_)
 refine z_load (i := 0) (oi := ⟨some 56, .load 40 (.tmp 10), 40, "law.go:35", #[], none⟩) (v := ?_) (some 56) rfl rfl (by kernel_rfl) (by kernel_rfl) (by kernel_rfl) (by kernel_rfl) (fun c a w h => hQ c a _ _ w h) (by rfl) ?_ hHeld ?_
 rotate_left 1
 ·(intro wq hSw; go_simp; try with_reducible rfl)
 (try simp only [Act.put, List.setIfInBounds_toArray, List.set_cons_zero, List.set_cons_succ])
 refine z_take (i := 1) (oi := ⟨some 57, .move (.tmp 1), 3, "law.go:35", #[], none⟩) (v := ?_) (some 57) rfl rfl (by kernel_rfl) (by kernel_rfl) (by kernel_rfl) (by decide) (fun c a w h => hQ c a _ _ w h) (by rfl) ?_ hHeld ?_
 rotate_left 1
 ·(intro wq; go_simp; try with_reducible rfl)
 (try simp only [Act.put, List.setIfInBounds_toArray, List.set_cons_zero, List.set_cons_succ])
 refine z_load (i := 3) (oi := ⟨some 59, .load 40 (.tmp 10), 40, "law.go:35", #[], none⟩) (v := ?_) (some 59) rfl rfl (by kernel_rfl) (by kernel_rfl) (by kernel_rfl) (by kernel_rfl) (fun c a w h => hQ c a _ _ w h) (by rfl) ?_ hHeld ?_
 rotate_left 1
 ·(intro wq hSw; go_simp; try with_reducible rfl)
 (try simp only [Act.put, List.setIfInBounds_toArray, List.set_cons_zero, List.set_cons_succ])
 refine z_take (i := 4) (oi := ⟨some 60, .move (.tmp 1), 3, "law.go:35", #[], none⟩) (v := ?_) (some 60) rfl rfl (by kernel_rfl) (by kernel_rfl) (by kernel_rfl) (by decide) (fun c a w h => hQ c a _ _ w h) (by rfl) ?_ hHeld ?_
 rotate_left 1
 ·(intro wq; go_simp; try with_reducible rfl)
 (try simp only [Act.put, List.setIfInBounds_toArray, List.set_cons_zero, List.set_cons_succ])
 refine z_one (i := 2) (o := ⟨some 58, .call { callee := .value (.func 15), args := #[.tmp 56, .tmp 57], argTypes := #[40, 3] }, 34, "law.go:35", #[⟨0, .data⟩, ⟨1, .data⟩], none⟩) (by kernel_rfl) rfl (fun K hK => ?_)
 go_simp
 refine (hW _ hX0).mono ?_
 rintro e w1 ⟨rfl, hb⟩
 have hX1 : Below X.heap.size X w1 := hX0.trans (hb.mono hX0.size)
 clear hHeld hb
 refine hK.out _ _ (Or.inr (hC _ hX1)) (fun hHeld => ?_)
 clear hK K
 (try simp only [List.setIfInBounds_toArray, List.set_cons_zero, List.set_cons_succ])
 refine z_one (i := 5) (o := ⟨some 61, .call { callee := .value (.func 16), args := #[.tmp 59, .tmp 60], argTypes := #[40, 3] }, 34, "law.go:35", #[⟨3, .data⟩, ⟨4, .data⟩, ⟨2, .chain⟩], none⟩) (by kernel_rfl) rfl (fun K hK => ?_)
 go_simp
 refine (hR _ hX1).mono ?_
 rintro e w2 ⟨rfl, hb⟩
 have hX2 : Below X.heap.size X w2 := hX1.trans (hb.mono hX1.size)
 clear hHeld hb
 refine hK.out _ _ (Or.inr (hC _ hX2)) (fun hHeld => ?_)
 clear hK K
 (try simp only [List.setIfInBounds_toArray, List.set_cons_zero, List.set_cons_succ])
 refine z_one (i := 6) (o := ⟨some 62, .binOp .neq 34 (.tmp 58) (.tmp 61) 34, 4, "law.go:35", #[⟨2, .data⟩, ⟨5, .data⟩], none⟩) (by kernel_rfl) rfl (fun K hK => ?_)
 go_simp
 refine hK.out _ _ (Or.inl (by kernel_rfl)) (fun hHeld => ?_)
 (try simp only [List.setIfInBounds_toArray, List.set_cons_zero, List.set_cons_succ])
 refine z_done (by kernel_rfl) ?_ _
 exact fin _ hX2
end
end
section
open Go.RowKit
open Vc (V Of)
open Pl (Br Net Pc Lk En St)
set_option maxRecDepth 100000 in
set_option maxHeartbeats 1000000 in
theorem rints_any (ao bo : Option Addr) (n c1 c2 : Nat) (f : Nat → Int) (w : World) (hn : n ≤ 1000) (h1 : IRow w ao n c1 f) (h2 : IRow w bo n c2 f) :
  Calls Tryz.prog 38 #[.slice ao n c1, .slice bo n c2] w fun e w' => e = .returned (.bool true) ∧ ∃ m, w' = w.drewN m := by
 have HA : Hid (∀ m, IRow (w.drewN m) ao n c1 f ∧ IRow (w.drewN m) bo n c2 f) := fun m => ⟨CRow.below h1 (below_drewN (Below.refl _ _) m), CRow.below h2 (below_drewN (Below.refl _ _) m)⟩
 have k1 := h1.1
 have k2 := h2.1
 clear h1 h2
 go_enter Tryz.func38, Tryz.ntmps38
 go_wp2_with fail
 go_loopw [13] (fun i wr => ∃ k m : Nat, k ≤ n ∧ i = .int .i64 k ∧ wr = w.drewN m) (fun i _ => n - (intOf i).toNat)
 case atStart => exact ⟨0, 0, by omega, rfl, rfl⟩
 case round =>
  obtain ⟨k, m, hk, rfl, HW⟩ := hrel
  by_cases hlt : k < n
  ·obtain ⟨r1, r2⟩ := HA.out m
   rw [← HW] at r1 r2
   obtain ⟨b1, o1, rfl, _⟩ := CRow.some r1 (by omega)
   obtain ⟨b2, o2, rfl, _⟩ := CRow.some r2 (by omega)
   have x1 := IRow.cells r1 hlt
   have x2 := IRow.cells r2 hlt
   have HE : Hid (wr = w.drewN m) := HW
   have i0 : (0 : Int) ≤ (k : Int) := by omega
   have i1 : (k : Int) < (n : Int) := by omega
   clear r1 r2 HA HW
   generalize f k = z at *
   go_wp2_with fail
   go_quiet (fail)
   go_wp2_with fail
   exact ⟨⟨k + 1, _, by omega, by go_num, by rw [HE.out, World.drewN_drewN]⟩, by simp [intOf]; omega⟩
  ·have hnk : ¬ (k : Int) < (n : Int) := by omega
   have HE : Hid (wr = w.drewN m) := HW
   clear HA HW
   go_wp2_with fail
   go_ret
   exact ⟨rfl, m, HE.out⟩
theorem vec_neq (a b c d : Int) (W : World) : (binOp .neq 48 (.agg #[.int .u64 a, .int .i64 b, .int .u64 c, .int .i64 d]) (.agg #[.int .u64 a, .int .i64 b, .int .u64 c, .int .i64 d])).run Tryz.prog W = .ok (.bool false) W := by go_simp
def OneSame (w : World) (P a Q b : Nat) : Prop :=
 ∃ (s : St) (len : Nat) (p q : Option Addr) (pc qc : Nat) (r t : Option Addr) (rc tc : Nat) (f g : Nat → Int), len ≤ 1000 ∧
  (w.cell? ⟨P, a, none⟩ = some (.int .u64 s.v.root) ∧ w.cell? ⟨P, a + 1, none⟩ = some (.int .i64 s.v.cost) ∧ w.cell? ⟨P, a + 2, none⟩ = some (.int .u64 s.v.bridge) ∧ w.cell? ⟨P, a + 3, none⟩ = some (.int .i64 s.v.port) ∧ w.cell? ⟨P, a + 4, none⟩ = some (.int .i64 s.rp) ∧ w.cell? ⟨P, a + 5, none⟩ = some (.slice p len pc) ∧ w.cell? ⟨P, a + 6, none⟩ = some (.slice r len rc)) ∧
  (w.cell? ⟨Q, b, none⟩ = some (.int .u64 s.v.root) ∧ w.cell? ⟨Q, b + 1, none⟩ = some (.int .i64 s.v.cost) ∧ w.cell? ⟨Q, b + 2, none⟩ = some (.int .u64 s.v.bridge) ∧ w.cell? ⟨Q, b + 3, none⟩ = some (.int .i64 s.v.port) ∧ w.cell? ⟨Q, b + 4, none⟩ = some (.int .i64 s.rp) ∧ w.cell? ⟨Q, b + 5, none⟩ = some (.slice q len qc) ∧ w.cell? ⟨Q, b + 6, none⟩ = some (.slice t len tc)) ∧
  (IRow w p len pc f ∧ IRow w q len qc f) ∧ (IRow w r len rc g ∧ IRow w t len tc g)
theorem OneSame.drewN {w : World} {P a Q b : Nat} (h : OneSame w P a Q b) (m : Nat) : OneSame (w.drewN m) P a Q b := by
 obtain ⟨s, len, p, q, pc, qc, r, t, rc, tc, f, g, h0, h1, h2, ⟨h3, h4⟩, h5, h6⟩ := h
 have hb := below_drewN (Below.refl w.heap.size w) m
 exact ⟨s, len, p, q, pc, qc, r, t, rc, tc, f, g, h0, h1, h2, ⟨CRow.below h3 hb, CRow.below h4 hb⟩, CRow.below h5 hb, CRow.below h6 hb⟩
set_option maxRecDepth 100000 in
set_option maxHeartbeats 4000000 in
theorem rsame6_any (n P oP cP Q oQ cQ : Nat) (w : World) (hn : n ≤ 1000) (h : ∀ i, i < n → OneSame w P (oP + i * 7) Q (oQ + i * 7)) :
  Calls Tryz.prog 14 #[.slice (some ⟨P, oP, none⟩) n cP, .slice (some ⟨Q, oQ, none⟩) n cQ] w fun e w' => e = .returned (.bool true) ∧ ∃ m, w' = w.drewN m := by
 have HA : Hid (∀ i, i < n → ∀ m, OneSame (w.drewN m) P (oP + i * 7) Q (oQ + i * 7)) := fun i hi m => (h i hi).drewN m
 clear h
 go_enter Tryz.func14, Tryz.ntmps14
 go_wp2_with fail
 go_loopw [13] (fun i wr => ∃ k m : Nat, k ≤ n ∧ i = .int .i64 k ∧ wr = w.drewN m) (fun i _ => n - (intOf i).toNat)
 case atStart => exact ⟨0, 0, by omega, rfl, rfl⟩
 case round =>
  obtain ⟨k, m, hk, rfl, HW⟩ := hrel
  by_cases hlt : k < n
  ·have hs := HA.out k hlt m
   rw [← HW] at hs
   obtain ⟨⟨⟨v0, v1, v2, v3⟩, rp⟩, len, p, q, pc, qc, r, t, rc, tc, f, g, h0, ⟨x0, x1, x2, x3, x4, x5, x6⟩, ⟨y0, y1, y2, y3, y4, y5, y6⟩, ⟨r1, r2⟩, r3, r4⟩ := hs
   simp only at x0 x1 x2 x3 x4 y0 y1 y2 y3 y4
   have HI1 : Hid (∀ q', Calls Tryz.prog 38 #[.slice p len pc, .slice q len qc] (wr.drewN q') fun e w' => e = .returned (.bool true) ∧ ∃ m, w' = (wr.drewN q').drewN m) := fun q' => rints_any p q len pc qc f (wr.drewN q') h0 (CRow.below r1 (below_drewN (Below.refl _ _) q')) (CRow.below r2 (below_drewN (Below.refl _ _) q'))
   have HI2 : Hid (∀ q', Calls Tryz.prog 38 #[.slice r len rc, .slice t len tc] (wr.drewN q') fun e w' => e = .returned (.bool true) ∧ ∃ m, w' = (wr.drewN q').drewN m) := fun q' => rints_any r t len rc tc g (wr.drewN q') h0 (CRow.below r3 (below_drewN (Below.refl _ _) q')) (CRow.below r4 (below_drewN (Below.refl _ _) q'))
   have hne := vec_neq v0 v1 v2 v3
   have HE : Hid (wr = w.drewN m) := HW
   have i0 : (0 : Int) ≤ (k : Int) := by omega
   have i1 : (k : Int) < (n : Int) := by omega
   clear r1 r2 r3 r4 HA HW h0
   go_wp2_with fail
   go_quiet (first | (go_at_call 38; (with_reducible exact Calls.quiet_of (HI1.out _))) | (go_at_call 38; (with_reducible exact Calls.quiet_of (HI2.out _))))
   all_goals go_wp2_with fail
   all_goals exact ⟨⟨k + 1, _, by omega, by go_num, by rw [HE.out, World.drewN_drewN]⟩, by simp [intOf]; omega⟩
  ·have hnk : ¬ (k : Int) < (n : Int) := by omega
   have HE : Hid (wr = w.drewN m) := HW
   clear HA HW
   go_wp2_with fail
   go_ret
   exact ⟨rfl, m, HE.out⟩
end
section
open Go.RowKit
open Vc (V Of)
open Pl (Br Net Pc Lk En St LN)
theorem same_rpl {w : World} {P K : Nat} {x : Nat → St} {E : Nat → List En} {Q off cap : Nat} (h1 : PlacesAt w P K x E K) (h2 : RplAt w (some ⟨Q, off, none⟩) K cap x E) {i : Nat} (hi : i < K) (hl : (E i).length ≤ 1000) : OneSame w P (0 + i * 7) Q (off + i * 7) := by
 obtain ⟨c, a1, a2, _, a4⟩ := h1
 obtain ⟨d, b1, b2⟩ := h2
 obtain ⟨p, r, pc, rc, p5, p6, hp, hr, _, _⟩ := a4 i hi
 obtain ⟨b3, q, t, qc, tc, q5, q6, hq, ht⟩ := b2 i hi
 have A : ∀ s, s < 7 → w.cell? ⟨P, 0 + i * 7 + s, none⟩ = some (c i s) := fun s hs => by rw [Nat.zero_add]; exact rowC_cell a1 hi hs
 have B : ∀ s, s < 7 → w.cell? ⟨Q, off + i * 7 + s, none⟩ = some (d i s) := fun s hs => by
  obtain ⟨b', off', e, _, hc⟩ := b1.2 (by omega)
  cases e
  exact hc i hi s hs
 have a2' := a2 i hi
 refine ⟨x i, (E i).length, p, q, pc, qc, r, t, rc, tc, _, _, hl, ⟨?_, ?_, ?_, ?_, ?_, ?_, ?_⟩, ⟨?_, ?_, ?_, ?_, ?_, ?_, ?_⟩, ⟨hp, hq⟩, hr, ht⟩
 ·have := A 0 (by omega); rw [a2' 0 (by omega)] at this; exact this
 ·have := A 1 (by omega); rw [a2' 1 (by omega)] at this; exact this
 ·have := A 2 (by omega); rw [a2' 2 (by omega)] at this; exact this
 ·have := A 3 (by omega); rw [a2' 3 (by omega)] at this; exact this
 ·have := A 4 (by omega); rw [a2' 4 (by omega)] at this; exact this
 ·have := A 5 (by omega); rw [p5] at this; exact this
 ·have := A 6 (by omega); rw [p6] at this; exact this
 ·have := B 0 (by omega); rw [b3 0 (by omega)] at this; exact this
 ·have := B 1 (by omega); rw [b3 1 (by omega)] at this; exact this
 ·have := B 2 (by omega); rw [b3 2 (by omega)] at this; exact this
 ·have := B 3 (by omega); rw [b3 3 (by omega)] at this; exact this
 ·have := B 4 (by omega); rw [b3 4 (by omega)] at this; exact this
 ·have := B 5 (by omega); rw [q5] at this; exact this
 ·have := B 6 (by omega); rw [q6] at this; exact this
set_option maxHeartbeats 1000000 in
theorem rsame6_zero (a b : Option Addr) (c1 c2 : Nat) (w : World) : Calls Tryz.prog 14 #[.slice a 0 c1, .slice b 0 c2] w fun e w' => e = .returned (.bool true) ∧ Below w.heap.size w w' := by
 go_enter Tryz.func14, Tryz.ntmps14
 go_wp2_with fail
 go_loopw [13] (fun i wr => i = .int .i64 0 ∧ wr = w) (fun _ _ => 0)
 case atStart => exact ⟨rfl, rfl⟩
 case round =>
  obtain ⟨rfl, rfl⟩ := hrel
  go_wp2_with fail
  go_ret
  exact ⟨rfl, Below.refl _ _⟩
theorem pfa_err (a b : Int) (w : World) : (Instr.field 28 (.agg #[.int .i64 a, .int .i64 b]) 0).run Tryz.prog w = .ok (.int .i64 a) w := by kernel_rfl
structure TwoPl (n : Net) (tree : Int) (W : World) (a b : Option Addr) (k c1 c2 : Nat) (f1 f2 : Int) : Prop where
 same : ∀ V, Below W.heap.size W V → Calls Tryz.prog 14 #[.slice a k c1, .slice b k c2] V fun e w' => e = .returned (.bool true) ∧ Below V.heap.size V w'
set_option maxRecDepth 100000 in
set_option maxHeartbeats 6000000 in
theorem pplantells_any (n : Net) (tree : Int) (w : World) (hat : n.at' w) (hwf : n.Wf) (ht : Tabs w) (hbt : 2 ≤ w.heap.size) : Calls Tryz.prog 3 #[n.val, .int .i64 tree] w fun e w' => e = .returned (.bool true) ∧ Below w.heap.size w w' := by
 obtain ⟨X, HX⟩ : ∃ X, Hid (X = w.alloc (.cells #[.slice n.bao n.K n.bcap, .slice n.lao n.L n.lcap] 25)) := ⟨_, rfl⟩
 have hXB : Below w.heap.size w X := by rw [HX.out]; exact below_alloc1 _ _
 have hX0 : X.heap[w.heap.size]? = some (.cells #[.slice n.bao n.K n.bcap, .slice n.lao n.L n.lcap] 25 (0, 0)) := by rw [HX.out]; exact heap_alloc_last _ _
 obtain ⟨BN, HBN⟩ : ∃ BN, Hid (BN = w.heap.size) := ⟨_, rfl⟩
 have HC : Hid (∀ V, Below X.heap.size X V → (V.cell? ⟨BN, 0, none⟩ = some (.slice n.bao n.K n.bcap) ∧ V.cell? ⟨BN, 1, none⟩ = some (.slice n.lao n.L n.lcap)) ∧ n.at' V ∧ (Tabs V ∧ 2 ≤ V.heap.size) ∧ Below w.heap.size w V) := fun V hV => by
  have h := hXB.trans (hV.mono hXB.size)
  rw [HBN.out]
  exact ⟨two_cells2 (keep hX0 hV), hat.below h, ⟨ht.below h hbt, Nat.le_trans hbt h.size⟩, h⟩
 have HWF : Hid n.Wf := hwf
 have HRI : Hid (n.wrong.1 = 0 → n.Right) := right_of hwf
 have hcap := hat.brs.1
 have HPW : Hid (∀ W, Below X.heap.size X W → Calls Tryz.prog 10 #[.agg #[.slice n.bao n.K n.bcap, .slice n.lao n.L n.lcap]] W fun e w' => e = .returned (.agg (ftA n.wrong)) ∧ Below W.heap.size W w') := fun W hW => pwrong_any n W (HC.out W hW).2.1 HWF.out
 have HRW : Hid (∀ W, Below X.heap.size X W → Calls Tryz.prog 11 #[.agg #[.slice n.bao n.K n.bcap, .slice n.lao n.L n.lcap]] W fun e w' => e = .returned (.agg (ftA n.wrong)) ∧ Below W.heap.size W w') := fun W hW => rwrong6_any n W (HC.out W hW).2.1
 have HBO : Hid (∀ W, Below X.heap.size X W → Calls Tryz.prog 12 #[.agg #[.slice n.bao n.K n.bcap, .slice n.lao n.L n.lcap], .int .i64 tree] W fun e w1 => ∃ a k c1 f1 f2, e = .returned (.tuple #[.slice a k c1, .agg #[.int .i64 f1, .int .i64 f2]]) ∧ Hid (Below X.heap.size X w1 ∧ ∀ W2, Below w1.heap.size w1 W2 → Calls Tryz.prog 13 #[.agg #[.slice n.bao n.K n.bcap, .slice n.lao n.L n.lcap], .int .i64 tree] W2 fun e w3 => ∃ b c2, e = .returned (.tuple #[.slice b k c2, .agg #[.int .i64 f1, .int .i64 f2]]) ∧ Hid (Below W2.heap.size W2 w3 ∧ Below X.heap.size X w3 ∧ TwoPl n tree w3 a b k c1 c2 f1 f2))) := fun W hW => by
  obtain ⟨_, hat1, ⟨t1, t2⟩, _⟩ := HC.out W hW
  refine (pplan_any n tree W hat1 HWF.out t1 t2).mono ?_
  rintro e w1 ⟨hb1, h1⟩
  have hX1 : Below X.heap.size X w1 := hW.trans (hb1.mono hW.size)
  rcases h1 with ⟨q1, rfl⟩ | ⟨q1, q2, rfl⟩ | ⟨q1, q2, Pp, rfl, hPl, _⟩
  ·refine ⟨none, 0, 0, n.wrong.1, n.wrong.2, rfl, hX1, fun W2 hW2 => ?_⟩
   have hX2 := hX1.trans (hW2.mono hX1.size)
   refine (rplan6_any n tree W2 (HC.out W2 hX2).2.1 HWF.out).mono ?_
   rintro e w3 ⟨hb3, h3⟩
   rcases h3 with ⟨_, rfl⟩ | ⟨q3, _⟩ | ⟨q3, _⟩
   ·exact ⟨none, 0, rfl, hb3, hX2.trans (hb3.mono hX2.size), ⟨fun V _ => rsame6_zero none none 0 0 V⟩⟩
   ·exact absurd q3 q1
   ·exact absurd q3 q1
  ·refine ⟨none, 0, 0, 3, 0, rfl, hX1, fun W2 hW2 => ?_⟩
   have hX2 := hX1.trans (hW2.mono hX1.size)
   refine (rplan6_any n tree W2 (HC.out W2 hX2).2.1 HWF.out).mono ?_
   rintro e w3 ⟨hb3, h3⟩
   rcases h3 with ⟨q3, _⟩ | ⟨_, _, rfl⟩ | ⟨_, q3, _⟩
   ·exact absurd q1 q3
   ·exact ⟨none, 0, rfl, hb3, hX2.trans (hb3.mono hX2.size), ⟨fun V _ => rsame6_zero none none 0 0 V⟩⟩
   ·exact absurd q3 q2
  ·refine ⟨some ⟨Pp, 0, none⟩, n.K, n.K, 0, 0, rfl, hX1, fun W2 hW2 => ?_⟩
   have hX2 := hX1.trans (hW2.mono hX1.size)
   refine (rplan6_any n tree W2 (HC.out W2 hX2).2.1 HWF.out).mono ?_
   rintro e w3 ⟨hb3, h3⟩
   rcases h3 with ⟨q3, _⟩ | ⟨_, q3, _⟩ | ⟨_, _, ao, cap, rfl, hR, hnil⟩
   ·exact absurd q1 q3
   ·exact absurd q2 q3
   ·refine ⟨ao, cap, rfl, hb3, hX2.trans (hb3.mono hX2.size), ⟨fun V hV => ?_⟩⟩
    have hRt := HRI.out q1
    have hK := hRt.few
    by_cases h0 : n.K = 0
    ·rw [h0]
     exact rsame6_zero _ _ _ _ V
    ·obtain ⟨c, hr, hx⟩ := hR
     obtain ⟨Q, off, rfl, _⟩ := CRow.some hr (by omega)
     have hP3 : PlacesAt V Pp n.K (Pl.rounds (n.ids tree) n.ends n.K n.K) n.ends n.K := ((hPl.below hW2).below hb3).below hV
     have hR3 : RplAt V (some ⟨Q, off, none⟩) n.K cap (Pl.rounds (n.ids tree) n.ends n.K n.K) n.ends := ⟨c, CRow.below hr hV, fun i hi => by
      obtain ⟨z1, p, r, pc, rc, z2, z3, z4, z5⟩ := hx i hi
      exact ⟨z1, p, r, pc, rc, z2, z3, CRow.below z4 hV, CRow.below z5 hV⟩⟩
     refine (rsame6_any n.K Pp 0 n.K Q off cap V (by omega) (fun i hi => same_rpl hP3 hR3 hi (Nat.le_trans (ends_few n i hRt.fewL) (by omega)))).mono ?_
     rintro e w' ⟨rfl, m, rfl⟩
     exact ⟨rfl, below_drewN (Below.refl _ _) m⟩
 have HID : Hid (n.wrong.1 = 0 → (0 ≤ tree ∧ tree ≤ 15) → ∀ (q : Nat) (W : World), q < n.K → Below X.heap.size X W → (Calls Tryz.prog 15 #[.agg (brA (n.bs q)), .int .i64 tree] W fun e w' => e = .returned (.int .u64 (n.ids tree q)) ∧ Below W.heap.size W w') ∧ (Calls Tryz.prog 16 #[.agg (brA (n.bs q)), .int .i64 tree] W fun e w' => e = .returned (.int .u64 (n.ids tree q)) ∧ Below W.heap.size W w')) := fun h0 htr q W hq hW => ⟨pident_any (n.bs q) tree W ((HC.out W hW).2.1.each q hq) ((HRI.out h0).fine q hq), rid6_any (n.bs q) tree W ((HC.out W hW).2.1.each q hq) ((HRI.out h0).fine q hq) htr⟩
 obtain ⟨n0, n1⟩ := (HC.out X (Below.refl _ _)).1
 clear hat hwf ht hbt hXB hX0
 obtain ⟨⟨E1, E2⟩, hE⟩ : ∃ E, E = n.wrong := ⟨_, rfl⟩
 rw [← hE] at HPW HRW HID
 have HEE : Hid (E1 = 0 → n.K ≤ 12) := fun h => (HRI.out (by rw [← hE]; exact h)).few
 clear hE HRI
 simp only [ftA, Pl.Net.val] at *
 rw [HX.out, HBN.out] at n0 n1
 go_enter Tryz.func3, Tryz.ntmps3
 go_wp2_with fail
 rw [← HX.out]
 rw [← HBN.out]
 clear n0 n1
 refine pt1 [] X BN (.slice n.bao n.K n.bcap) (.slice n.lao n.L n.lcap) E1 E2 _ _ _ _ _ _ _ _ _ _ _ _ _ _ _ _ _ _ _ _ _ _ _ _ _ _ _ _ _ _ _ _ _ _ _ _ _ _ _ _ _ _ _ _ _ _ _ _ _ _ _ _ _ _ _ _ _ _ ?hQ ?hC ?hW ?hR ?fin _ _ _ _ _
 case hQ => exact fun _ _ _ _ _ h => h
 case hC => exact fun V hV => (HC.out V hV).1
 case hW => exact HPW.out
 case hR => exact HRW.out
 case fin =>
  intro w2 hw2
  obtain ⟨⟨n0, n1⟩, _⟩ := HC.out w2 hw2
  have HW2 : Hid (Below X.heap.size X w2) := hw2
  clear hw2 HPW
  go_wp2_with fail
  refine (HBO.out w2 HW2.out).mono ?_
  rintro e w3 ⟨a, k, c1, f1, f2, rfl, H3⟩
  obtain ⟨Y, HY⟩ : ∃ Y, Hid (Y = w3.alloc (.cells #[.int .i64 f1, .int .i64 f2] 28)) := ⟨_, rfl⟩
  have hYB : Below w3.heap.size w3 Y := by rw [HY.out]; exact below_alloc1 _ _
  have hYf : Y.heap[w3.heap.size]? = some (.cells #[.int .i64 f1, .int .i64 f2] 28 (0, 0)) := by rw [HY.out]; exact heap_alloc_last _ _
  have hXY : Below X.heap.size X Y := H3.out.1.trans (hYB.mono H3.out.1.size)
  have H4 : Hid (Calls Tryz.prog 13 #[.agg #[.slice n.bao n.K n.bcap, .slice n.lao n.L n.lcap], .int .i64 tree] Y fun e w3 => ∃ b c2, e = .returned (.tuple #[.slice b k c2, .agg #[.int .i64 f1, .int .i64 f2]]) ∧ Hid (Below Y.heap.size Y w3 ∧ Below X.heap.size X w3 ∧ TwoPl n tree w3 a b k c1 c2 f1 f2)) := H3.out.2 Y hYB
  have HYF : Hid (∀ V, Below Y.heap.size Y V → V.cell? ⟨w3.heap.size, 0, none⟩ = some (.int .i64 f1) ∧ V.cell? ⟨w3.heap.size, 1, none⟩ = some (.int .i64 f2)) := fun V hV => two_cells2 (keep hYf hV)
  obtain ⟨⟨n0, n1⟩, _⟩ := HC.out Y hXY
  rw [HY.out] at n0 n1
  clear H3 hYB hYf hXY HBO
  go_wp2_with fail
  rw [← HY.out]
  refine H4.out.mono ?_
  rintro e w4 ⟨b, c2, rfl, H5⟩
  obtain ⟨Z, HZ⟩ : ∃ Z, Hid (Z = w4.alloc (.cells #[.int .i64 f1, .int .i64 f2] 28)) := ⟨_, rfl⟩
  have hZB : Below w4.heap.size w4 Z := by rw [HZ.out]; exact below_alloc1 _ _
  have hZf : Z.heap[w4.heap.size]? = some (.cells #[.int .i64 f1, .int .i64 f2] 28 (0, 0)) := by rw [HZ.out]; exact heap_alloc_last _ _
  obtain ⟨y0, y1⟩ := HYF.out Z (H5.out.1.trans (hZB.mono H5.out.1.size))
  obtain ⟨z0, z1⟩ := two_cells2 hZf
  have hXZ : Below X.heap.size X Z := H5.out.2.1.trans (hZB.mono H5.out.2.1.size)
  have HSM : Hid (Calls Tryz.prog 14 #[.slice a k c1, .slice b k c2] Z fun e w' => e = .returned (.bool true) ∧ Hid (Below X.heap.size X w')) := by
   refine (H5.out.2.2.same Z hZB).mono ?_
   rintro e w' ⟨rfl, hb⟩
   exact ⟨rfl, hXZ.trans (hb.mono hXZ.size)⟩
  rw [HZ.out] at y0 y1 z0 z1
  clear H4 H5 HYF hZB hZf hXZ n0 n1
  go_wp2_with fail
  rw [← HZ.out]
  refine HSM.out.mono ?_
  rintro e w5 ⟨rfl, HB5⟩
  obtain ⟨⟨n0, n1⟩, _⟩ := HC.out w5 HB5.out
  clear HSM y0 y1 z0 z1
  go_wp2_with fail
  refine (HRW.out w5 HB5.out).mono ?_
  rintro e w6 ⟨rfl, hb6⟩
  have HB6 : Hid (Below X.heap.size X w6) := HB5.out.trans (hb6.mono HB5.out.size)
  clear hb6 HRW n0 n1
  have hfa : ∀ (a b : Int) (w : World), (Instr.field 28 (.agg #[.int .i64 a, .int .i64 b]) 0).run Tryz.prog w = .ok (.int .i64 a) w := pfa_err
  by_cases e0 : E1 = 0
  ·subst e0
   by_cases t1 : tree < 0
   ·go_wp2_with fail
    go_ret
    exact ⟨rfl, (HC.out w6 HB6.out).2.2.2⟩
   ·by_cases t2 : 15 < tree
    ·go_wp2_with fail
     go_ret
     exact ⟨rfl, (HC.out w6 HB6.out).2.2.2⟩
    ·obtain ⟨⟨n0, n1⟩, _⟩ := HC.out w6 HB6.out
     have hK := HEE.out rfl
     go_wp2_with fail
     clear n0 n1
     go_loopw [52] (fun i wr => ∃ q : Nat, q ≤ n.K ∧ i = .int .i64 q ∧ Hid (Below X.heap.size X wr)) (fun i _ => n.K - (intOf i).toNat)
     case atStart => exact ⟨0, by omega, rfl, HB6⟩
     case round =>
      obtain ⟨q, hq, rfl, hB⟩ := hrel
      by_cases hlq : q < n.K
      ·have i1 : (q : Int) < (n.K : Int) := by omega
       have i0 : (0 : Int) ≤ (q : Int) := by omega
       have wq : IntKind.i64.wrap ((q : Int) + 1) = ((q + 1 : Nat) : Int) := by rw [IntKind.wrap_i64]; omega
       have hbr := (HC.out wr hB.out).2.1.brs
       obtain ⟨bb, boff, ebb, _⟩ := CRow.some hbr (by omega)
       rw [ebb] at hbr ⊢
       obtain ⟨c0, c1', c2', c3, c4⟩ := BRow.cells hbr hlq
       have HIQ : Hid (∀ W, Below X.heap.size X W → _) := fun W hW => HID.out (by first | exact rfl | trivial) (by omega) q W hlq hW
       obtain ⟨b, hb⟩ : ∃ b, b = n.bs q := ⟨_, rfl⟩
       rw [← hb] at c0 c1' c2' c3 c4 HIQ
       obtain ⟨V, HV⟩ : ∃ V, Hid (V = wr.alloc (.cells #[.int .u64 b.addr, .slice b.pao b.pn b.pcap, .string b.reg.s, .int .i64 b.reg.rev, .slice b.reg.ao b.reg.n b.reg.cap] 40)) := ⟨_, rfl⟩
       have hVB : Below wr.heap.size wr V := by rw [HV.out]; exact below_alloc1 _ _
       have hV5 : V.heap[wr.heap.size]? = some (.cells #[.int .u64 b.addr, .slice b.pao b.pn b.pcap, .string b.reg.s, .int .i64 b.reg.rev, .slice b.reg.ao b.reg.n b.reg.cap] 40 (0, 0)) := by rw [HV.out]; exact heap_alloc_last _ _
       have HVX : Hid (∀ W, Below V.heap.size V W → Below X.heap.size X W ∧ W.heap[wr.heap.size]? = some (.cells #[.int .u64 b.addr, .slice b.pao b.pn b.pcap, .string b.reg.s, .int .i64 b.reg.rev, .slice b.reg.ao b.reg.n b.reg.cap] 40 (0, 0))) := fun W hW => by
        have h := hVB.trans (hW.mono hVB.size)
        exact ⟨hB.out.trans (h.mono hB.out.size), keep hV5 hW⟩
       clear hbr hb hVB hV5 hB HID
       go_upto_region 12 with fail
       rw [← HV.out]
       refine pt12 [] V wr.heap.size tree (n.ids tree q) (.int .u64 b.addr) (.slice b.pao b.pn b.pcap) (.string b.reg.s) (.int .i64 b.reg.rev) (.slice b.reg.ao b.reg.n b.reg.cap) _ _ _ _ _ _ _ _ _ _ _ _ _ _ _ _ _ _ _ _ _ _ _ _ _ _ _ _ _ _ _ _ _ _ _ _ _ _ _ _ _ _ _ _ _ _ _ _ _ _ _ _ _ _ _ ?hQ ?hC ?hW ?hR ?fin _ _ _ _ _ _ _
       case hQ => exact fun _ _ _ _ _ h => h
       case hC => exact fun W hW => br_cells (HVX.out W hW).2
       case hW => exact fun W hW => (HIQ.out W (HVX.out W hW).1).1
       case hR => exact fun W hW => (HIQ.out W (HVX.out W hW).1).2
       case fin =>
        intro w8 hw8
        have HB8 : Hid (Below X.heap.size X w8) := (HVX.out w8 hw8).1
        clear HIQ HVX c0 c1' c2' c3 c4 hw8
        go_wp2_with fail
        exact ⟨⟨q + 1, by omega, by go_num, HB8⟩, by simp [intOf]; omega⟩
      ·obtain rfl : q = n.K := by omega
       have i1 : ¬ (n.K : Int) < (n.K : Int) := by omega
       have HB9 : Hid (Below w.heap.size w wr) := (HC.out wr hB.out).2.2.2
       clear hB HID
       go_wp2_with fail
       go_ret
       exact ⟨rfl, HB9.out⟩
  ·have e1 : (E1 == 0) = false := beq_eq_false_iff_ne.2 e0
   have e2 : (E1 != 0) = true := by simp [bne, e1]
   go_wp2_with fail
   go_ret
   exact ⟨rfl, (HC.out w6 HB6.out).2.2.2⟩
end
end Go.Proofs.YtcbpafpaimpfnaaGreatDoor
