/- walks: package vec's Role -/
import Derived.Test.YtaneiffnhphkhaaGreatDoorK13
import Derived.Test.YtaneiffnhphkhaaGreatDoorK07
import Derived.Test.YtaneiffnhphkhaaGreatDoorK12
import Derived.Test.YtaneiffnhphkhaaGreatDoorK01
import Derived.Deep.RegionHeld3
import Derived.Deep.DeepCutAuto
import Derived.Shelf.Sort.Plain
import Derived.Shelf.Slices.In.SortNone
import Derived.Sort.OwnSortedInts
namespace Go.Proofs.YtaneiffnhphkhaaGreatDoor
open Go.RowKit
open Vc (V Of)

set_option maxRecDepth 100000 in
set_option maxHeartbeats 4000000 in
theorem vchoose_any (id : Int) (ao : Option Addr) (n cap : Nat) (os : Nat → Of) (w : World) (hn : n ≤ 9223372036854775807) (hr : ORow w ao n cap os) :
    Calls Tryz.prog 55 #[.int .u64 id, .slice ao n cap] w fun e w' => e = .returned (.tuple #[.agg (vA (Vc.chV id os n)), .int .i64 (Vc.chA id os n), .int .i64 (Vc.chP id os n)]) ∧ Below w.heap.size w w' := by
  obtain ⟨W0, HW0⟩ : ∃ W0, Hid (W0 = w.alloc (.cells #[.int .u64 0, .int .i64 0, .int .u64 0, .int .i64 0] 58)) := ⟨_, rfl⟩
  have HB0 : Hid (Below w.heap.size w W0) := by rw [HW0.out]; exact below_alloc1 _ _
  have HR0 : Hid (W0.heap[w.heap.size]? = some (.cells #[.int .u64 0, .int .i64 0, .int .u64 0, .int .i64 0] 58 (0, 0))) := by rw [HW0.out]; exact heap_alloc_last _ _
  have HRW : Hid (∀ W, Below w.heap.size w W → ORow W ao n cap os) := fun W hW => CRow.other hr (fun q _ _ hq => hW.block q hq) hW.size
  have HBB : Hid (∀ b off, ao = some ⟨b, off, none⟩ → 0 < n → b < w.heap.size) := fun b off e hp => by
    obtain ⟨b', off', e', hb', _⟩ := hr.2 hp
    rw [e] at e'
    cases e'
    exact hb'
  have hcap := hr.1
  have HBO : Hid (Calls Tryz.prog 89 #[.int .u64 id, .slice ao n cap] W0 fun e w' => e = .returned (.tuple #[.int .i64 (atTo id os n), .agg (vA (bestV id os n))]) ∧ Below W0.heap.size W0 w') := vbestOffer_any id ao n cap os W0 hn (HRW.out W0 HB0.out)
  clear hr
  go_enter Tryz.func55, Tryz.ntmps55
  go_wp2_with fail
  rw [← HW0.out]
  refine HBO.out.mono ?_
  rintro e w1 ⟨rfl, hb1⟩
  obtain ⟨B, hB⟩ : ∃ B, bestV id os n = B := ⟨_, rfl⟩
  rw [hB]
  obtain ⟨vr, vc, vb, vp⟩ := B
  simp only [vA]
  obtain ⟨X, HX⟩ : ∃ X, Hid (X = w1.alloc (.cells #[.int .u64 vr, .int .i64 vc, .int .u64 vb, .int .i64 vp] 58)) := ⟨_, rfl⟩
  obtain ⟨G, HG⟩ : ∃ G, Hid (G = w1.heap.size) := ⟨_, rfl⟩
  have HXB : Hid (Below W0.heap.size W0 X) := by rw [HX.out]; exact hb1.alloc hb1.size _
  have HXL : Hid (Below w.heap.size w X) := HB0.out.trans (HXB.out.mono HB0.out.size)
  have HXV : Hid (X.heap[G]? = some (.cells #[.int .u64 vr, .int .i64 vc, .int .u64 vb, .int .i64 vp] 58 (0, 0))) := by rw [HX.out, HG.out]; exact heap_alloc_last _ _
  have HRES : Hid (X.heap[w.heap.size]? = some (.cells #[.int .u64 0, .int .i64 0, .int .u64 0, .int .i64 0] 58 (0, 0))) := keep HR0.out HXB.out
  have hne : w.heap.size ≠ G := by
    have h1 := hb1.size
    have h2 := (Array.getElem?_eq_some_iff.1 HR0.out).1
    rw [HG.out]; omega
  obtain ⟨b0, b1, b2, b3⟩ := vc_cells HXV.out
  obtain ⟨r0, r1, r2, r3⟩ := vc_cells HRES.out
  obtain ⟨f0, f1, f2, f3⟩ := vc_free HRES.out
  have HBVV : Hid (bestV id os n = ⟨vr, vc, vb, vp⟩) := hB
  clear hb1 hB HBO
  cases hc : Vc.chTo id os n with
  | none =>
    have hat : atTo id os n = -1 := by unfold atTo; rw [hc]
    have HOUT : Hid ((Ending.returned (.tuple #[.agg (vA (Vc.chV id os n)), .int .i64 (Vc.chA id os n), .int .i64 (Vc.chP id os n)]) : Ending) = .returned (.tuple #[.agg #[.int .u64 id, .int .i64 0, .int .u64 id, .int .i64 0], .int .i64 0, .int .i64 (-1)])) := by
      show (Ending.returned _ : Ending) = _
      unfold Vc.chV Vc.chA Vc.chP; rw [hc]; rfl
    rw [hat]
    have HLOW : Hid (Below w.heap.size w ((((X.setCell ⟨w.heap.size, 0, none⟩ (.int .u64 id)).setCell ⟨w.heap.size, 1, none⟩ (.int .i64 0)).setCell ⟨w.heap.size, 2, none⟩ (.int .u64 id)).setCell ⟨w.heap.size, 3, none⟩ (.int .i64 0))) := (((HXL.out.setCell (Nat.le_refl _) _).setCell (Nat.le_refl _) _).setCell (Nat.le_refl _) _).setCell (Nat.le_refl _) _
    clear hat hc
    rw [HX.out] at r0 r1 r2 r3 f0 f1 f2 f3
    go_wp2_with fail
    rw [← HX.out]
    exact bodyPost_ret (v := .tuple #[.agg #[.int .u64 id, .int .i64 0, .int .u64 id, .int .i64 0], .int .i64 0, .int .i64 (-1)]) (results_row_tmp2 (p := 4) (u := 5) (x := 6) (ty := 58) Tryz.results55 _ _ w.heap.size 58 #[.int .u64 id, .int .i64 0, .int .u64 id, .int .i64 0] (0, 0) _ rfl (vc_set4 HRES.out) Tryz.underlying58 rfl (by rw [sizeVc]; rfl)) rfl ⟨HOUT.out.symm, HLOW.out⟩
  | some j =>
    have hat : atTo id os n = (j : Int) := by unfold atTo; rw [hc]
    have hbv : (os j).v = ⟨vr, vc, vb, vp⟩ := by rw [← HBVV.out]; unfold bestV; rw [hc]
    obtain ⟨hjk, hmj, _⟩ := Vc.chTo_some id os n j hc
    obtain ⟨b, off, rfl, _⟩ := CRow.some (HRW.out X HXL.out) (by omega)
    have hbn : b ≠ w.heap.size := by have := HBB.out b off rfl (by omega); omega
    have hbn2 : w.heap.size ≠ b := fun e => hbn e.symm
    obtain ⟨a0, _, a2, _⟩ := ORow.cells (HRW.out X HXL.out) hjk
    have ha1 : 0 ≤ (os j).age := hmj.2.2.1.1
    have ha2 : (os j).age < 20 := hmj.2.2.1.2
    have wa : IntKind.i64.wrap ((os j).age + 1) = (os j).age + 1 := wraps_i64 _ (by omega) (by omega)
    have HOUT : Hid ((Ending.returned (.tuple #[.agg (vA (Vc.chV id os n)), .int .i64 (Vc.chA id os n), .int .i64 (Vc.chP id os n)]) : Ending) = .returned (.tuple #[.agg #[.int .u64 vr, .int .i64 vc, .int .u64 id, .int .i64 0], .int .i64 ((os j).age + 1), .int .i64 (os j).port])) := by
      show (Ending.returned _ : Ending) = _
      unfold Vc.chV Vc.chA Vc.chP; rw [hc]; simp only; rw [hbv]; rfl
    have ij : (0 : Int) ≤ (j : Int) := by omega
    have jn : (j : Int) < (n : Int) := by omega
    rw [hat]
    clear hat hbv hc hmj HRW HBB HBVV b2 b3 HXV HXB
    generalize (os j).age = oa at *
    generalize (os j).port = op at *
    have HLOW : Hid (Below w.heap.size w ((((X.setCell ⟨w.heap.size, 0, none⟩ (.int .u64 vr)).setCell ⟨w.heap.size, 1, none⟩ (.int .i64 vc)).setCell ⟨w.heap.size, 2, none⟩ (.int .u64 id)).setCell ⟨w.heap.size, 3, none⟩ (.int .i64 0)).drew) := ((((HXL.out.setCell (Nat.le_refl _) _).setCell (Nat.le_refl _) _).setCell (Nat.le_refl _) _).setCell (Nat.le_refl _) _).drew
    go_wp2_with fail
    rw [← HX.out, ← HG.out]
    go_region_held3 (fun W => (W.cell? ⟨G, 0, none⟩ = some (.int .u64 vr) ∧ W.cell? ⟨G, 1, none⟩ = some (.int .i64 vc)) ∧ W.cell? ⟨b, off + j * 7, none⟩ = some (.int .i64 op) ∧ W.cell? ⟨b, off + j * 7 + 2, none⟩ = some (.int .i64 oa))
      (go_keep)
      (fail)
    all_goals go_wp2_with fail
    all_goals exact bodyPost_ret (v := .tuple #[.agg #[.int .u64 vr, .int .i64 vc, .int .u64 id, .int .i64 0], .int .i64 (oa + 1), .int .i64 op]) (results_row_tmp2 (p := 4) (u := 5) (x := 6) (ty := 58) Tryz.results55 _ _ w.heap.size 58 #[.int .u64 vr, .int .i64 vc, .int .u64 id, .int .i64 0] (0, 0) _ rfl (drew_row (vc_set4 HRES.out)) Tryz.underlying58 rfl (by rw [sizeVc]; rfl)) rfl ⟨HOUT.out.symm, HLOW.out⟩
end Go.Proofs.YtaneiffnhphkhaaGreatDoor

namespace Go.Proofs.YtaneiffnhphkhaaGreatDoor
open Go.RowKit
open Vc (V Of)
open Pl (Br Net Pc Lk En St)

theorem infoTl : (Tryz.prog.info? 104).map (fun i => (i.zero, i.size, i.bytes)) = some (some (.agg #[.int .i64 0, .int .u64 0, .int .i64 0, .int .u64 0, .int .i64 0, .int .i64 0]), 6, 48) := by kernel_rfl
theorem infoI : (Tryz.prog.info? 3).map (fun i => (i.zero, i.size, i.bytes)) = some (some (.int .i64 0), 1, 8) := by kernel_rfl
/-- A tale without a tree, so old. -/
def tlC (v : V) (a : Int) (j : Nat) : Value := if j = 0 then .int .i64 0 else if j < 5 then vC v (j - 1) else .int .i64 a
def TlAt (w : World) (g K : Nat) (x : Nat → St) : Prop := w.heap[g]? = some (.cells (rowC K 6 (fun i => tlC (x i).v 0)) 104 (0, 0))
def RpAt (w : World) (g K : Nat) (x : Nat → St) : Prop := w.heap[g]? = some (.cells (rowC K 1 (fun i _ => .int .i64 (x i).rp)) 3 (0, 0))
/-- What bridges say in block g, their root ports in the next one. -/
def PlAt (w : World) (g K : Nat) (x : Nat → St) : Prop := TlAt w g K x ∧ RpAt w (g + 1) K x
/-- The minds that tell it. -/
def mdS (x : Nat → St) (i : Nat) : Tk.Md := ⟨(x i).v, 0, (x i).rp⟩
theorem PlAt.told {w : World} {g K : Nat} {x : Nat → St} (h : PlAt w g K x) : ToldAt w g K (mdS x) :=
  ⟨(Array.getElem?_eq_some_iff.1 h.1).1, fun i hi => ⟨fun j hj => by
    have := rowC_cell h.1 hi (show 1 + j < 6 by omega)
    rw [← Nat.add_assoc] at this
    rw [this]
    unfold tlC
    rw [if_neg (by omega), if_pos (by omega), show 1 + j - 1 = j by omega]
    rfl, rowC_cell h.1 hi (show 5 < 6 by omega)⟩⟩
theorem PlAt.below {w w' : World} {g K : Nat} {x : Nat → St} (h : PlAt w g K x) (hb : Below w.heap.size w w') : PlAt w' g K x := ⟨keep h.1 hb, keep h.2 hb⟩
theorem PlAt.cells {w : World} {g K : Nat} {x : Nat → St} (h : PlAt w g K x) {i : Nat} (hi : i < K) :
    (w.cell? ⟨g, i * 6 + 1, none⟩ = some (.int .u64 (x i).v.root) ∧ w.cell? ⟨g, i * 6 + 2, none⟩ = some (.int .i64 (x i).v.cost) ∧ w.cell? ⟨g, i * 6 + 3, none⟩ = some (.int .u64 (x i).v.bridge) ∧ w.cell? ⟨g, i * 6 + 4, none⟩ = some (.int .i64 (x i).v.port) ∧ w.cell? ⟨g + 1, i, none⟩ = some (.int .i64 (x i).rp)) ∧
    (w.frozen? ⟨g, i * 6 + 1, none⟩ = false ∧ w.frozen? ⟨g, i * 6 + 2, none⟩ = false ∧ w.frozen? ⟨g, i * 6 + 3, none⟩ = false ∧ w.frozen? ⟨g, i * 6 + 4, none⟩ = false ∧ w.frozen? ⟨g + 1, i, none⟩ = false) := by
  have e : (⟨g + 1, i, none⟩ : Addr) = ⟨g + 1, i * 1 + 0, none⟩ := by simp
  refine ⟨⟨rowC_cell h.1 hi (show 1 < 6 by omega), rowC_cell h.1 hi (show 2 < 6 by omega), rowC_cell h.1 hi (show 3 < 6 by omega), rowC_cell h.1 hi (show 4 < 6 by omega), ?_⟩,
    frozen_of_row _ _ _ _ _ h.1, frozen_of_row _ _ _ _ _ h.1, frozen_of_row _ _ _ _ _ h.1, frozen_of_row _ _ _ _ _ h.1, frozen_of_row _ _ _ _ _ h.2⟩
  rw [e]
  exact rowC_cell h.2 hi (show 0 < 1 by omega)
theorem TlAt.head {w : World} {g K : Nat} {x : Nat → St} (h : TlAt w g K x) {i : Nat} (hi : i < K) : w.cell? ⟨g, i * 6, none⟩ = some (.int .i64 0) ∧ w.cell? ⟨g, i * 6 + 5, none⟩ = some (.int .i64 0) :=
  ⟨rowC_cell h hi (show 0 < 6 by omega), rowC_cell h hi (show 5 < 6 by omega)⟩
/-- The vector of tale i is stored. -/
theorem pl_set4 {w : World} {g K : Nat} {x : Nat → St} (h : PlAt w g K x) {i : Nat} (hi : i < K) (v : V) :
    PlAt ((((w.setCell ⟨g, i * 6 + 1, none⟩ (.int .u64 v.root)).setCell ⟨g, i * 6 + 2, none⟩ (.int .i64 v.cost)).setCell ⟨g, i * 6 + 3, none⟩ (.int .u64 v.bridge)).setCell ⟨g, i * 6 + 4, none⟩ (.int .i64 v.port)) g K (fun j => if j = i then ⟨v, (x i).rp⟩ else x j) := by
  have h0 := rowC_set h.1 hi (show 1 < 6 by omega) (.int .u64 v.root)
  have h1 := rowC_set h0 hi (show 2 < 6 by omega) (.int .i64 v.cost)
  have h2 := rowC_set h1 hi (show 3 < 6 by omega) (.int .u64 v.bridge)
  have h3 := rowC_set h2 hi (show 4 < 6 by omega) (.int .i64 v.port)
  refine ⟨?_, ?_⟩
  · unfold TlAt
    rw [h3, rowC_congr2 (d := fun j => tlC (if j = i then (⟨v, (x i).rp⟩ : St) else x j).v 0) (fun j _ m hm => ?_)]
    unfold updC
    by_cases q : j = i
    · subst q
      rcases (by omega : m = 0 ∨ m = 1 ∨ m = 2 ∨ m = 3 ∨ m = 4 ∨ m = 5) with e | e | e | e | e | e <;> subst e <;> simp [tlC, vC]
    · simp [q]
  · have o : ∀ (W : World) (k : Nat) (u : Value), (W.setCell ⟨g, k, none⟩ u).heap[g + 1]? = W.heap[g + 1]? := fun W k u => heap_setCell_other _ _ _ _ (show g + 1 ≠ g by omega)
    unfold RpAt
    rw [o, o, o, o, h.2, rowC_congr2 (d := fun j _ => .int .i64 (if j = i then (⟨v, (x i).rp⟩ : St) else x j).rp) (fun j _ m _ => ?_)]
    by_cases q : j = i
    · subst q; simp
    · simp [q]
/-- .. and its root port. -/
theorem pl_set5 {w : World} {g K : Nat} {x : Nat → St} (h : PlAt w g K x) {i : Nat} (hi : i < K) (r : Int) :
    PlAt (w.setCell ⟨g + 1, i, none⟩ (.int .i64 r)) g K (fun j => if j = i then ⟨(x i).v, r⟩ else x j) := by
  have h0 := rowC_set h.2 hi (show 0 < 1 by omega) (.int .i64 r)
  rw [show i * 1 + 0 = i by omega] at h0
  refine ⟨?_, ?_⟩
  · unfold TlAt
    rw [heap_setCell_other _ _ _ _ (show g ≠ g + 1 by omega), h.1, rowC_congr2 (d := fun j => tlC (if j = i then (⟨(x i).v, r⟩ : St) else x j).v 0) (fun j _ m _ => ?_)]
    by_cases q : j = i
    · subst q; simp
    · simp [q]
  · unfold RpAt
    rw [h0, rowC_congr2 (d := fun j _ => .int .i64 (if j = i then (⟨(x i).v, r⟩ : St) else x j).rp) (fun j _ m hm => ?_)]
    unfold updC
    by_cases q : j = i
    · subst q; simp; omega
    · simp [q]
theorem PlAt.congr {w : World} {g K : Nat} {x y : Nat → St} (h : PlAt w g K x) (e : ∀ i, i < K → x i = y i) : PlAt w g K y := by
  obtain ⟨h1, h2⟩ := h
  unfold TlAt at h1
  unfold RpAt at h2
  refine ⟨?_, ?_⟩
  · unfold TlAt
    rw [h1, rowC_congr (d := fun i => tlC (y i).v 0) (fun i hi => by rw [e i hi])]
  · unfold RpAt
    rw [h2, rowC_congr (d := fun i _ => .int .i64 (y i).rp) (fun i hi => by rw [e i hi])]
/-- At the beginning: the first k have their identity. -/
def sInit (ids : Nat → Int) (k i : Nat) : St := if i < k then ⟨⟨ids i, 0, ids i, 0⟩, 0⟩ else ⟨⟨0, 0, 0, 0⟩, 0⟩
end Go.Proofs.YtaneiffnhphkhaaGreatDoor

namespace Go.Proofs
open Go.Shelf
def Tryz.sortI_ren : Go.Shelf.Ren := ⟨fun | 125 => 91 | 128 => 130 | 129 => 131 | 189 => 56 | 215 => 111 | 216 => 127 | 257 => 90 | 294 => 121 | 295 => 122 | 296 => 123 | 297 => 124 | 298 => 125 | 299 => 126 | 300 => 128 | 301 => 129 | 328 => 147 | 329 => 148 | 330 => 149 | 331 => 150 | 332 => 151 | 343 => 161 | n => n, fun | 0 => 0 | 3 => 3 | 4 => 4 | 5 => 5 | 9 => 9 | 28 => 59 | 46 => 114 | 51 => 193 | 53 => 56 | 131 => 190 | 182 => 184 | 183 => 185 | 218 => 206 | 222 => 210 | 228 => 218 | 229 => 219 | n => n, fun | n => n⟩
theorem Tryz.sortI : Go.Proofs.Lays.n189 Tryz.prog Tryz.sortI_ren := {
  mixed := by kernel_rfl
  f125 := Tryz.func91.trans (congrArg some (by kernel_rfl))
  f128 := Tryz.func130.trans (congrArg some (by kernel_rfl))
  f129 := Tryz.func131.trans (congrArg some (by kernel_rfl))
  f189 := Tryz.func56.trans (congrArg some (by kernel_rfl))
  f215 := Tryz.func111.trans (congrArg some (by kernel_rfl))
  f216 := Tryz.func127.trans (congrArg some (by kernel_rfl))
  f257 := Tryz.func90.trans (congrArg some (by kernel_rfl))
  f294 := Tryz.func121.trans (congrArg some (by kernel_rfl))
  f295 := Tryz.func122.trans (congrArg some (by kernel_rfl))
  f296 := Tryz.func123.trans (congrArg some (by kernel_rfl))
  f297 := Tryz.func124.trans (congrArg some (by kernel_rfl))
  f298 := Tryz.func125.trans (congrArg some (by kernel_rfl))
  f299 := Tryz.func126.trans (congrArg some (by kernel_rfl))
  f300 := Tryz.func128.trans (congrArg some (by kernel_rfl))
  f301 := Tryz.func129.trans (congrArg some (by kernel_rfl))
  f328 := Tryz.func147.trans (congrArg some (by kernel_rfl))
  f329 := Tryz.func148.trans (congrArg some (by kernel_rfl))
  f330 := Tryz.func149.trans (congrArg some (by kernel_rfl))
  f331 := Tryz.func150.trans (congrArg some (by kernel_rfl))
  f332 := Tryz.func151.trans (congrArg some (by kernel_rfl))
  f343 := Tryz.func161.trans (congrArg some (by kernel_rfl))
  t0 := Tryz.underlying0
  a0 := Tryz.isAgg0
  z0 := Tryz.sizeOf0
  v0 := Tryz.zeroValue0
  t3 := Tryz.underlying3
  a3 := Tryz.isAgg3
  z3 := Tryz.sizeOf3
  v3 := Tryz.zeroValue3
  t4 := Tryz.underlying4
  a4 := Tryz.isAgg4
  z4 := Tryz.sizeOf4
  v4 := Tryz.zeroValue4
  t5 := Tryz.underlying5
  a5 := Tryz.isAgg5
  z5 := Tryz.sizeOf5
  v5 := Tryz.zeroValue5
  t9 := Tryz.underlying9
  a9 := Tryz.isAgg9
  z9 := Tryz.sizeOf9
  v9 := Tryz.zeroValue9
  t28 := Tryz.underlying59
  a28 := Tryz.isAgg59
  z28 := Tryz.sizeOf59
  v28 := Tryz.zeroValue59
  t46 := Tryz.underlying114
  a46 := Tryz.isAgg114
  z46 := Tryz.sizeOf114
  v46 := Tryz.zeroValue114
  t51 := Tryz.underlying193
  a51 := Tryz.isAgg193
  z51 := Tryz.sizeOf193
  v51 := Tryz.zeroValue193
  t53 := Tryz.underlying56
  a53 := Tryz.isAgg56
  z53 := Tryz.sizeOf56
  v53 := Tryz.zeroValue56
  t131 := Tryz.underlying190
  a131 := Tryz.isAgg190
  z131 := Tryz.sizeOf190
  v131 := Tryz.zeroValue190
  t182 := Tryz.underlying184
  a182 := Tryz.isAgg184
  z182 := Tryz.sizeOf184
  v182 := Tryz.zeroValue184
  t183 := Tryz.underlying185
  a183 := Tryz.isAgg185
  z183 := Tryz.sizeOf185
  v183 := Tryz.zeroValue185
  t218 := Tryz.underlying206
  a218 := Tryz.isAgg206
  z218 := Tryz.sizeOf206
  v218 := Tryz.zeroValue206
  t222 := Tryz.underlying210
  a222 := Tryz.isAgg210
  z222 := Tryz.sizeOf210
  v222 := Tryz.zeroValue210
  t228 := Tryz.underlying218
  a228 := Tryz.isAgg218
  z228 := Tryz.sizeOf218
  v228 := Tryz.zeroValue218
  t229 := Tryz.underlying219
  a229 := Tryz.isAgg219
  z229 := Tryz.sizeOf219
  v229 := Tryz.zeroValue219 }
end Go.Proofs

namespace Go.Proofs.YtaneiffnhphkhaaGreatDoor
open Go.RowKit
open Vc (V Of)
open Pl (Br Net Pc Lk En St)

/-- A list of ints, as it lies. -/
abbrev IL (l : List Int) (j : Nat) : Int := l.getD j 0
abbrev intCells (l : List Int) : List Value := cellsL l.length 1 (fun j _ => .int .i64 (IL l j))
theorem int_snoc (l : List Int) (z : Int) : cellsL (l.length + 1) 1 (catC l.length (fun j _ => .int .i64 (IL l j)) (fun _ _ => .int .i64 z)) = intCells (l ++ [z]) := by
  unfold intCells
  rw [List.length_append]
  apply cellsL_congr
  intro i hi
  simp only [catC]
  by_cases q : i < l.length
  · rw [if_pos q]
    simp [IL, List.getD, List.getElem?_append_left q]
  · rw [if_neg q]
    obtain rfl : i = l.length := by omega
    simp [IL, List.getD]
theorem one_int_row {w : World} {g : Nat} {z : Int} {ty : TypeId} (h : w.heap[g]? = some (.cells #[.int .i64 z] ty (0, 0))) : IRow w (some ⟨g, 0, none⟩) 1 1 (fun _ => z) := by
  refine ⟨Nat.le_refl _, fun _ => ⟨g, 0, rfl, (Array.getElem?_eq_some_iff.1 h).1, fun i hi j hj => ?_⟩⟩
  obtain rfl : i = 0 := by omega
  obtain rfl : j = 0 := by omega
  exact cell_of_row w g 0 _ _ _ h
/-- One int more. -/
theorem int_more {W : World} {base : Nat} {ao : Option Addr} {cap : Nat} {l : List Int} (h : W.ownsRow base 3 1 (.slice ao l.length cap) l.length (intCells l)) (hb : base ≤ W.heap.size) (hl : l.length ≤ 100000) (z : Int) :
    ∃ a1 c1 w2, (Builtin.append_ #[59, 59] 59 #[.slice ao l.length cap, .slice (some ⟨W.heap.size, 0, none⟩) 1 1]).run Tryz.prog (W.alloc (.cells #[.int .i64 z] 3)) = .ok (.slice a1 (l ++ [z]).length c1) w2 ∧ w2.ownsRow base 3 1 (.slice a1 (l ++ [z]).length c1) (l ++ [z]).length (intCells (l ++ [z])) ∧ Below base W w2 := by
  have hB : Below W.heap.size W (W.alloc (.cells #[.int .i64 z] 3)) := below_alloc1 _ _
  obtain ⟨a1, c1, w2, r, ho, hb2, _⟩ := append_c (W.alloc (.cells #[.int .i64 z] 3)) 59 3 _ 1 8 Tryz.underlying59 infoI rfl (by omega) base (.slice ao l.length cap) l.length (fun j _ => .int .i64 (IL l j)) (ownsC_below h hB) (some ⟨W.heap.size, 0, none⟩) 1 1 (fun _ _ => .int .i64 z) (fun _ _ => rfl) (one_int_row (heap_alloc_last _ _)) (fun h => by cases h) (by unfold maxLen; omega) (by omega) (by simp; omega)
  rw [int_snoc] at ho
  have e : (l ++ [z]).length = l.length + 1 := by simp
  rw [← e] at r ho
  exact ⟨a1, c1, w2, r, ho, (hB.mono hb).trans hb2⟩
/-- .. and what else is as it was. -/
theorem int_more2 {Z Zd : World} {base : Nat} {v : Value} {l : List Int} (ho : Z.ownsRow base 3 1 v l.length (intCells l)) (hbase : base ≤ Z.heap.size) (hl : l.length ≤ 100000) (z : Int) (hZ : Below Z.heap.size Z Zd) (hs : Zd.heap.size = Z.heap.size) :
    ∃ vo vc w2, (Builtin.append_ #[59, 59] 59 #[v, .slice (some ⟨Z.heap.size, 0, none⟩) 1 1]).run Tryz.prog (Zd.alloc (.cells #[.int .i64 z] 3)) = .ok (.slice vo (l ++ [z]).length vc) w2 ∧ w2.ownsRow base 3 1 (.slice vo (l ++ [z]).length vc) (l ++ [z]).length (intCells (l ++ [z])) ∧
      (∀ q, q < Z.heap.size → v.ownBlock ≠ some q → w2.heap[q]? = Z.heap[q]?) ∧ ((Value.slice vo (l ++ [z]).length vc).ownBlock = v.ownBlock ∨ (Value.slice vo (l ++ [z]).length vc).ownBlock = some (Z.heap.size + 1)) ∧ Below base Z w2 ∧ Z.heap.size ≤ w2.heap.size := by
  obtain ⟨i0, hi0, hz0, hz1, hz2⟩ := info_parts infoI
  obtain ⟨C, hC⟩ : ∃ C, C = Zd.alloc (.cells #[.int .i64 z] 3) := ⟨_, rfl⟩
  have hCb : Below Z.heap.size Z C := by rw [hC]; exact hZ.alloc (by omega) _
  have hCs : C.heap.size = Z.heap.size + 1 := by rw [hC]; simp [hs]
  have hCl : C.heap[Z.heap.size]? = some (.cells #[.int .i64 z] 3 (0, 0)) := by rw [hC, ← hs]; exact heap_alloc_last Zd _
  have hO := ownsC_below ho hCb
  obtain ⟨v', w2, hrun, h1, h2, _, h3⟩ := run_append_own_at (P := Tryz.prog) C base 59 59 3 i0 _ 1 8 Tryz.underlying59 hi0 hz0 hz1 hz2 rfl (by omega) v l.length (intCells l) hO ⟨Z.heap.size, 0, none⟩ 1 1 [.int .i64 z] rfl (fun j u hj => by
    have hl : j = 0 := by
      have := (List.getElem?_eq_some_iff.1 hj).1
      simpa using this
    subst hl
    rw [add_row, Nat.zero_add]
    simp at hj
    subst hj
    exact cell_of_row C Z.heap.size 0 _ _ _ hCl) (fun u hu => by simp at hu; subst hu; rfl) (by unfold maxLen; omega) (by omega) (by omega)
  have e1 : intCells l ++ [.int .i64 z] = intCells (l ++ [z]) := by
    have : ([.int .i64 z] : List Value) = cellsL 1 1 (fun _ _ => .int .i64 z) := by simp [cellsL]
    rw [this, cellsL_cat _ _ _ (by omega), int_snoc]
  have e2 : (l ++ [z]).length = l.length + 1 := by simp
  rw [e1, ← e2] at h1
  obtain ⟨ao, cap, rfl, _⟩ := owns_c (by omega) h1
  refine ⟨ao, cap, w2, by rw [← hC]; exact hrun, h1, fun q hq hne => (h2.block q (by omega) (fun p => hne p.symm)).trans (hCb.block q hq), ?_, ?_, by have := h2.size; omega⟩
  · rcases h3 with h3 | h3
    · exact Or.inl h3
    · exact Or.inr (by rw [h3, hCs])
  · exact (hCb.mono hbase).trans ((Below.refl _ _).grown h2 (by omega) (fun q hq => (ownsC_block hO q hq).1))
theorem intCells_map (l : List Int) : intCells l = l.map (Value.int .i64) := by
  apply List.ext_getElem
  · simp [intCells, cellsL]
  · intro i h1 h2
    have hi : i < l.length := by simpa using h2
    simp [intCells, cellsL, IL, List.getD, List.getElem?_eq_getElem hi]
theorem IL_row {w : World} {base : Nat} {v : Value} {l : List Int} (h : w.ownsRow base 3 1 v l.length (intCells l)) : ∃ ao cap, v = .slice ao l.length cap ∧ IRow w ao l.length cap (IL l) ∧ ∀ ad, ao = some ad → base ≤ ad.block := by
  obtain ⟨ao, cap, e, h1, _, h3⟩ := owns_c (by omega) h
  exact ⟨ao, cap, e, h1, h3⟩
/-- THE SORT OF INTS. -/
theorem isort_any (base : Nat) (v : Value) (l : List Int) (w : World) (hl : l.length ≤ 100000) (ho : w.ownsRow base 3 1 v l.length (intCells l)) :
    Calls Tryz.prog 56 #[v] w fun e w' => e = .returned (.tuple #[]) ∧ w'.ownsRow base 3 1 v (l.mergeSort fun x y => decide (x ≤ y)).length (intCells (l.mergeSort fun x y => decide (x ≤ y))) ∧ w.grownBy w' v.ownBlock := by
  obtain ⟨_, h2⟩ := ho
  rcases h2 with ⟨rfl, h0⟩ | ⟨g, cap, cur, rfl, hg, hh, hn, hm, hs, hx⟩
  · have e0 : l = [] := List.eq_nil_of_length_eq_zero h0
    subst e0
    refine (Any.slices_Sort_int_none Tryz.sortI none 0 w).mono ?_
    rintro e w' ⟨rfl, rfl⟩
    refine ⟨rfl, ?_, ⟨rfl, rfl, rfl, Nat.le_refl _, fun _ _ _ => rfl⟩⟩
    have : ([] : List Int).mergeSort (fun x y => decide (x ≤ y)) = [] := by simp
    rw [this]
    exact ⟨by simp [intCells, cellsL], Or.inl ⟨rfl, rfl⟩⟩
  · have hH : Go.Sort.Holds (Value.int .i64) w g 0 l.toArray := holds_of_blockI hh (by rw [← intCells_map, ← hx, Nat.mul_one])
    have hc := Any.slices_Sort_int Tryz.sortI g 0 cap l w hH (Array.getElem?_eq_some_iff.1 hh).1 (by omega)
    change Calls Tryz.prog 56 _ _ _ at hc
    refine hc.mono ?_
    rintro e w' ⟨rfl, n, os, rfl⟩
    have hlen : (l.mergeSort fun x y => decide (x ≤ y)).length = l.length := List.length_mergeSort _
    refine ⟨rfl, ?_, grownBy_sortedI _⟩
    rw [intCells_map, hlen]
    exact ownsRow_sortedI hlen hg hh hn hm hs
end Go.Proofs.YtaneiffnhphkhaaGreatDoor

namespace Go.Proofs.YtaneiffnhphkhaaGreatDoor
open Go.RowKit
open Vc (V Of)

set_option maxHeartbeats 1000000 in
theorem vrole_any (s : V) (root port : Int) (ao : Option Addr) (n cap : Nat) (os : Nat → Of) (w : World) (hn : n ≤ 9223372036854775807) (hr : ORow w ao n cap os) :
    Calls Tryz.prog 79 #[.agg #[.int .u64 s.root, .int .i64 s.cost, .int .u64 s.bridge, .int .i64 s.port], .int .i64 root, .int .i64 port, .slice ao n cap] w fun e w' => e = .returned (.int .i64 (Vc.role s root port os n)) ∧ Below w.heap.size w w' := by
  have HR : Hid (ORow w ao n cap os) := hr
  clear hr
  unfold Vc.role
  by_cases h0 : port = root
  · rw [if_pos h0]
    subst h0
    go_enter Tryz.func79, Tryz.ntmps79
    go_wp2_with fail
    go_ret
    exact ⟨rfl, below_alloc1 _ _⟩
  · rw [if_neg h0]
    obtain ⟨R, hR⟩ : ∃ R : Int, (if Vc.someTo (fun i => decide (Vc.hears s port (os i))) n = true then (3 : Int) else 2) = R := ⟨_, rfl⟩
    rw [hR]
    have HR3 : Hid (Vc.someTo (fun i => decide (Vc.hears s port (os i))) n = true → R = 3) := fun h => by rw [← hR, if_pos h]
    have HR2 : Hid (Vc.someTo (fun i => decide (Vc.hears s port (os i))) n = false → R = 2) := fun h => by rw [← hR, h]; rfl
    clear hR
    have d0 : (port == root) = false := by simp [h0]
    have HBT : Hid (∀ (a b : V) (W : World), Calls Tryz.prog 112 #[.agg #[.int .u64 a.root, .int .i64 a.cost, .int .u64 a.bridge, .int .i64 a.port], .agg #[.int .u64 b.root, .int .i64 b.cost, .int .u64 b.bridge, .int .i64 b.port]] W fun e w' => e = .returned (.bool (decide (Vc.lt a b))) ∧ Below W.heap.size W w') := fun a b W => vbetter_any a b W
    have HH : Hid (∀ o, decide (Vc.hears s port o) = decide (o.port = port ∧ (0 ≤ o.age ∧ o.age ≤ 20) ∧ Vc.lt o.vec ⟨s.root, s.cost, s.bridge, port⟩)) := fun o => rfl
    go_enter Tryz.func79, Tryz.ntmps79
    go_wp2_with fail
    go_loopw [18] (fun i wr => ∃ k : Nat, k ≤ n ∧ i = .int .i64 k ∧ Hid (Vc.someTo (fun i => decide (Vc.hears s port (os i))) k = false) ∧ Hid (wr.heap[w.heap.size]? = some (.cells #[.int .u64 s.root, .int .i64 s.cost, .int .u64 s.bridge, .int .i64 port] 58 (0, 0)) ∧ Below w.heap.size w wr)) (fun i _ => n - (intOf i).toNat)
    case atStart => exact ⟨0, by omega, rfl, rfl, heap_alloc_last w _, below_alloc1 _ _⟩
    case round =>
      obtain ⟨k, hk, rfl, hS, hX⟩ := hrel
      by_cases hlt : k < n
      · obtain ⟨b, off, rfl, hb⟩ := CRow.some HR.out (by omega)
        have hcap := HR.out.1
        obtain ⟨c0, c1, c2, c3, c4, c5, c6⟩ := ORow.cells (CRow.other HR.out (w' := wr) (fun q _ _ hq => hX.out.2.block q hq) hX.out.2.size) hlt
        obtain ⟨v0, v1, v2, v3⟩ := vc_cells hX.out.1
        have HNO : Hid (decide (Vc.hears s port (os k)) = false → Vc.someTo (fun i => decide (Vc.hears s port (os i))) (k + 1) = false) := fun h => by
          show (Vc.someTo _ k || decide (Vc.hears s port (os k))) = false
          rw [h, hS.out]; rfl
        have HYES : Hid (decide (Vc.hears s port (os k)) = true → Vc.someTo (fun i => decide (Vc.hears s port (os i))) n = true) := fun h => someTo_stay _ k h n hlt
        rw [HH.out] at HNO HYES
        have HX2 : Hid (∀ o, (wr.alloc o).heap[w.heap.size]? = some (.cells #[.int .u64 s.root, .int .i64 s.cost, .int .u64 s.bridge, .int .i64 port] 58 (0, 0)) ∧ Below w.heap.size w (wr.alloc o)) := fun o => ⟨keep hX.out.1 (below_alloc1 _ _), hX.out.2.alloc hX.out.2.size _⟩
        have u0 : ∀ o, (wr.alloc o).cell? ⟨w.heap.size, 0, none⟩ = some (.int .u64 s.root) := fun o => (vc_cells (HX2.out o).1).1
        have u1 : ∀ o, (wr.alloc o).cell? ⟨w.heap.size, 1, none⟩ = some (.int .i64 s.cost) := fun o => (vc_cells (HX2.out o).1).2.1
        have u2 : ∀ o, (wr.alloc o).cell? ⟨w.heap.size, 2, none⟩ = some (.int .u64 s.bridge) := fun o => (vc_cells (HX2.out o).1).2.2.1
        have u3 : ∀ o, (wr.alloc o).cell? ⟨w.heap.size, 3, none⟩ = some (.int .i64 port) := fun o => (vc_cells (HX2.out o).1).2.2.2
        clear hX hS hb HH HR
        generalize os k = o at *
        obtain ⟨op, oc, oa, ⟨vr, vc, vb, vp⟩⟩ := o
        simp only at c0 c1 c2 c3 c4 c5 c6 HNO HYES
        have HWI : Hid (∀ W, Calls Tryz.prog 30 #[.int .i64 oa, .int .i64 0, .int .i64 20] W fun e w' => e = .returned (.bool (decide (0 ≤ oa ∧ oa ≤ 20))) ∧ w' = W) := fun W => vwithin_any oa 0 20 W
        by_cases p1 : op = port
        · have e1 : (op == port) = true := by simp [p1]
          by_cases p2 : 0 ≤ oa ∧ oa ≤ 20
          · rw [decide_eq_true p2] at HWI
            have HB1 : Hid (∀ W, Calls Tryz.prog 112 #[.agg #[.int .u64 vr, .int .i64 vc, .int .u64 vb, .int .i64 vp], .agg #[.int .u64 s.root, .int .i64 s.cost, .int .u64 s.bridge, .int .i64 port]] W fun e w' => e = .returned (.bool (decide (Vc.lt ⟨vr, vc, vb, vp⟩ ⟨s.root, s.cost, s.bridge, port⟩))) ∧ Below W.heap.size W w') := fun W => HBT.out ⟨vr, vc, vb, vp⟩ ⟨s.root, s.cost, s.bridge, port⟩ W
            by_cases p4 : Vc.lt ⟨vr, vc, vb, vp⟩ ⟨s.root, s.cost, s.bridge, port⟩
            · have HF : Hid (Vc.someTo (fun i => decide (Vc.hears s port (os i))) n = true) := HYES.out (decide_eq_true ⟨p1, p2, p4⟩)
              rw [decide_eq_true p4] at HB1
              clear p4 HNO HYES p1 p2
              go_wp2_with fail
              refine (HWI.out _).mono ?_
              rintro e w2 ⟨rfl, rfl⟩
              go_wp2_with fail
              refine (HB1.out _).mono ?_
              rintro e w2 ⟨rfl, hb2⟩
              have HB2 : Hid (Below w.heap.size w w2) := (HX2.out _).2.trans (hb2.mono (HX2.out _).2.size)
              clear hb2
              go_wp2_with fail
              go_ret
              exact ⟨by rw [HR3.out HF.out]; rfl, HB2.out⟩
            · have HF : Hid (Vc.someTo (fun i => decide (Vc.hears s port (os i))) (k + 1) = false) := HNO.out (decide_eq_false (fun q => p4 q.2.2))
              rw [decide_eq_false p4] at HB1
              clear p4 HNO HYES p1 p2
              go_wp2_with fail
              refine (HWI.out _).mono ?_
              rintro e w2 ⟨rfl, rfl⟩
              go_wp2_with fail
              refine (HB1.out _).mono ?_
              rintro e w2 ⟨rfl, hb2⟩
              have HB2 : Hid (w2.heap[w.heap.size]? = some (.cells #[.int .u64 s.root, .int .i64 s.cost, .int .u64 s.bridge, .int .i64 port] 58 (0, 0)) ∧ Below w.heap.size w w2) := ⟨keep (HX2.out _).1 hb2, (HX2.out _).2.trans (hb2.mono (HX2.out _).2.size)⟩
              clear hb2
              go_wp2_with fail
              exact ⟨⟨k + 1, by omega, by go_num, HF, HB2⟩, by simp [intOf]; omega⟩
          · have HF : Hid (Vc.someTo (fun i => decide (Vc.hears s port (os i))) (k + 1) = false) := HNO.out (decide_eq_false (fun q => p2 q.2.1))
            rw [decide_eq_false p2] at HWI
            clear HNO HYES p1 p2
            go_wp2_with fail
            refine (HWI.out _).mono ?_
            rintro e w2 ⟨rfl, rfl⟩
            go_wp2_with fail
            exact ⟨⟨k + 1, by omega, by go_num, HF, HX2.out _⟩, by simp [intOf]; omega⟩
        · have e1 : (op == port) = false := by simp [p1]
          have HF : Hid (Vc.someTo (fun i => decide (Vc.hears s port (os i))) (k + 1) = false) := HNO.out (decide_eq_false (fun q => p1 q.1))
          clear HNO HYES p1
          go_wp2_with fail
          exact ⟨⟨k + 1, by omega, by go_num, HF, HX2.out _⟩, by simp [intOf]; omega⟩
      · obtain rfl : k = n := by omega
        go_wp2_with fail
        go_ret
        exact ⟨by rw [HR2.out hS.out]; rfl, hX.out.2⟩
end Go.Proofs.YtaneiffnhphkhaaGreatDoor
