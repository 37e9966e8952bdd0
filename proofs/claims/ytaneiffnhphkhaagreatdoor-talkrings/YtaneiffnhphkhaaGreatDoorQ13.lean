/- Plain: minds with roles and calm, tick by tick; in the end roles are as they must be; who is calm was root or designated -/
import Derived.Test.YtaneiffnhphkhaaGreatDoorQ07
import Derived.Test.YtaneiffnhphkhaaGreatDoorQ11
import Derived.Test.YtaneiffnhphkhaaGreatDoorQ12
import Derived.Test.YtaneiffnhphkhaaGreatDoorQ01
import Derived.Deep.RegionHeld3
import Derived.Deep.DeepCutAuto
import Derived.Shelf.Sort.Plain
import Derived.Shelf.Slices.In.SortNone
import Derived.Sort.OwnSortedInts
namespace Go.Proofs.YtaneiffnhphkhaaGreatDoor
open Go.RowKit
open Vc (V Of)
open Pl (Br Net Pc Lk En St)
theorem infoTl : (Tryz.prog.info? 104).map (fun i => (i.zero, i.size, i.bytes)) = some (some (.agg #[.int .i64 0, .int .u64 0, .int .i64 0, .int .u64 0, .int .i64 0, .int .i64 0]), 6, 48) := by kernel_rfl
theorem infoI : (Tryz.prog.info? 3).map (fun i => (i.zero, i.size, i.bytes)) = some (some (.int .i64 0), 1, 8) := by kernel_rfl
def tlC (v : V) (a : Int) (j : Nat) : Value := if j = 0 then .int .i64 0 else if j < 5 then vC v (j - 1) else .int .i64 a
def TlAt (w : World) (g K : Nat) (x : Nat → St) : Prop := w.heap[g]? = some (.cells (rowC K 6 (fun i => tlC (x i).v 0)) 104 (0, 0))
def RpAt (w : World) (g K : Nat) (x : Nat → St) : Prop := w.heap[g]? = some (.cells (rowC K 1 (fun i _ => .int .i64 (x i).rp)) 3 (0, 0))
def PlAt (w : World) (g K : Nat) (x : Nat → St) : Prop := TlAt w g K x ∧ RpAt w (g + 1) K x
def mdS (x : Nat → St) (i : Nat) : Tk.Md := ⟨(x i).v, 0, (x i).rp⟩
theorem PlAt.told {w : World} {g K : Nat} {x : Nat → St} (h : PlAt w g K x) : ToldAt w g K (mdS x) :=
 ⟨(Array.getElem?_eq_some_iff.1 h.1).1, fun i hi => ⟨fun j hj => by
  have := rowC_cell h.1 hi (show 1 + j < 6 by omega)
  rw [← Nat.add_assoc] at this
  rw [this]
  unfold tlC
  rw [if_neg (by omega), if_pos (by omega), show 1 + j - 1 = j by omega]
  rfl, rowC_cell h.1 hi (show 5 < 6 by omega)⟩⟩
theorem PlAt.below {w w' : World} {g K : Nat} {x : Nat → St} (h : PlAt w g K x) (hb : Below w.heap.size w w') : PlAt w' g K x := ⟨keep h.1 hb, keep h.2 hb⟩
theorem PlAt.cells {w : World} {g K : Nat} {x : Nat → St} (h : PlAt w g K x) {i : Nat} (hi : i < K) :
  (w.cell? ⟨g, i * 6 + 1, none⟩ = some (.int .u64 (x i).v.root) ∧ w.cell? ⟨g, i * 6 + 2, none⟩ = some (.int .i64 (x i).v.cost) ∧ w.cell? ⟨g, i * 6 + 3, none⟩ = some (.int .u64 (x i).v.bridge) ∧ w.cell? ⟨g, i * 6 + 4, none⟩ = some (.int .i64 (x i).v.port) ∧ w.cell? ⟨g + 1, i, none⟩ = some (.int .i64 (x i).rp)) ∧
  (w.frozen? ⟨g, i * 6 + 1, none⟩ = false ∧ w.frozen? ⟨g, i * 6 + 2, none⟩ = false ∧ w.frozen? ⟨g, i * 6 + 3, none⟩ = false ∧ w.frozen? ⟨g, i * 6 + 4, none⟩ = false ∧ w.frozen? ⟨g + 1, i, none⟩ = false) := by
 have e : (⟨g + 1, i, none⟩ : Addr) = ⟨g + 1, i * 1 + 0, none⟩ := by simp
 refine ⟨⟨rowC_cell h.1 hi (show 1 < 6 by omega), rowC_cell h.1 hi (show 2 < 6 by omega), rowC_cell h.1 hi (show 3 < 6 by omega), rowC_cell h.1 hi (show 4 < 6 by omega), ?_⟩,
  frozen_of_row _ _ _ _ _ h.1, frozen_of_row _ _ _ _ _ h.1, frozen_of_row _ _ _ _ _ h.1, frozen_of_row _ _ _ _ _ h.1, frozen_of_row _ _ _ _ _ h.2⟩
 rw [e]
 exact rowC_cell h.2 hi (show 0 < 1 by omega)
theorem TlAt.head {w : World} {g K : Nat} {x : Nat → St} (h : TlAt w g K x) {i : Nat} (hi : i < K) : w.cell? ⟨g, i * 6, none⟩ = some (.int .i64 0) ∧ w.cell? ⟨g, i * 6 + 5, none⟩ = some (.int .i64 0) :=
 ⟨rowC_cell h hi (show 0 < 6 by omega), rowC_cell h hi (show 5 < 6 by omega)⟩
theorem pl_set4 {w : World} {g K : Nat} {x : Nat → St} (h : PlAt w g K x) {i : Nat} (hi : i < K) (v : V) :
  PlAt ((((w.setCell ⟨g, i * 6 + 1, none⟩ (.int .u64 v.root)).setCell ⟨g, i * 6 + 2, none⟩ (.int .i64 v.cost)).setCell ⟨g, i * 6 + 3, none⟩ (.int .u64 v.bridge)).setCell ⟨g, i * 6 + 4, none⟩ (.int .i64 v.port)) g K (fun j => if j = i then ⟨v, (x i).rp⟩ else x j) := by
 have h0 := rowC_set h.1 hi (show 1 < 6 by omega) (.int .u64 v.root)
 have h1 := rowC_set h0 hi (show 2 < 6 by omega) (.int .i64 v.cost)
 have h2 := rowC_set h1 hi (show 3 < 6 by omega) (.int .u64 v.bridge)
 have h3 := rowC_set h2 hi (show 4 < 6 by omega) (.int .i64 v.port)
 refine ⟨?_, ?_⟩
 ·unfold TlAt
  rw [h3, rowC_congr2 (d := fun j => tlC (if j = i then (⟨v, (x i).rp⟩ : St) else x j).v 0) (fun j _ m hm => ?_)]
  unfold updC
  by_cases q : j = i
  ·subst q
   rcases (by omega : m = 0 ∨ m = 1 ∨ m = 2 ∨ m = 3 ∨ m = 4 ∨ m = 5) with e | e | e | e | e | e <;> subst e <;> simp [tlC, vC]
  ·simp [q]
 ·have o : ∀ (W : World) (k : Nat) (u : Value), (W.setCell ⟨g, k, none⟩ u).heap[g + 1]? = W.heap[g + 1]? := fun W k u => heap_setCell_other _ _ _ _ (show g + 1 ≠ g by omega)
  unfold RpAt
  rw [o, o, o, o, h.2, rowC_congr2 (d := fun j _ => .int .i64 (if j = i then (⟨v, (x i).rp⟩ : St) else x j).rp) (fun j _ m _ => ?_)]
  by_cases q : j = i
  ·subst q; simp
  ·simp [q]
theorem pl_set5 {w : World} {g K : Nat} {x : Nat → St} (h : PlAt w g K x) {i : Nat} (hi : i < K) (r : Int) :
  PlAt (w.setCell ⟨g + 1, i, none⟩ (.int .i64 r)) g K (fun j => if j = i then ⟨(x i).v, r⟩ else x j) := by
 have h0 := rowC_set h.2 hi (show 0 < 1 by omega) (.int .i64 r)
 rw [show i * 1 + 0 = i by omega] at h0
 refine ⟨?_, ?_⟩
 ·unfold TlAt
  rw [heap_setCell_other _ _ _ _ (show g ≠ g + 1 by omega), h.1, rowC_congr2 (d := fun j => tlC (if j = i then (⟨(x i).v, r⟩ : St) else x j).v 0) (fun j _ m _ => ?_)]
  by_cases q : j = i
  ·subst q; simp
  ·simp [q]
 ·unfold RpAt
  rw [h0, rowC_congr2 (d := fun j _ => .int .i64 (if j = i then (⟨(x i).v, r⟩ : St) else x j).rp) (fun j _ m hm => ?_)]
  unfold updC
  by_cases q : j = i
  ·subst q; simp; omega
  ·simp [q]
theorem PlAt.congr {w : World} {g K : Nat} {x y : Nat → St} (h : PlAt w g K x) (e : ∀ i, i < K → x i = y i) : PlAt w g K y := by
 obtain ⟨h1, h2⟩ := h
 unfold TlAt at h1
 unfold RpAt at h2
 refine ⟨?_, ?_⟩
 ·unfold TlAt
  rw [h1, rowC_congr (d := fun i => tlC (y i).v 0) (fun i hi => by rw [e i hi])]
 ·unfold RpAt
  rw [h2, rowC_congr (d := fun i _ => .int .i64 (y i).rp) (fun i hi => by rw [e i hi])]
def sInit (ids : Nat → Int) (k i : Nat) : St := if i < k then ⟨⟨ids i, 0, ids i, 0⟩, 0⟩ else ⟨⟨0, 0, 0, 0⟩, 0⟩
end Go.Proofs.YtaneiffnhphkhaaGreatDoor
namespace Go.Proofs
open Go.Shelf
def Tryz.sortI_ren : Go.Shelf.Ren := ⟨fun | 125 => 91 | 128 => 130 | 129 => 131 | 189 => 56 | 215 => 111 | 216 => 127 | 257 => 90 | 294 => 121 | 295 => 122 | 296 => 123 | 297 => 124 | 298 => 125 | 299 => 126 | 300 => 128 | 301 => 129 | 328 => 147 | 329 => 148 | 330 => 149 | 331 => 150 | 332 => 151 | 343 => 161 | n => n, fun | 0 => 0 | 3 => 3 | 4 => 4 | 5 => 5 | 9 => 9 | 28 => 59 | 46 => 114 | 51 => 193 | 53 => 56 | 131 => 190 | 182 => 184 | 183 => 185 | 218 => 206 | 222 => 210 | 228 => 218 | 229 => 219 | n => n, fun | n => n⟩
theorem Tryz.sortI : Go.Proofs.Lays.n189 Tryz.prog Tryz.sortI_ren := {
 mixed := by kernel_rfl
 f125 := Tryz.func91.trans (congrArg some (by kernel_rfl))
 f128 := Tryz.func130.trans (congrArg some (by kernel_rfl))
 f129 := Tryz.func131.trans (congrArg some (by kernel_rfl))
 f189 := Tryz.func56.trans (congrArg some (by kernel_rfl))
 f215 := Tryz.func111.trans (congrArg some (by kernel_rfl))
 f216 := Tryz.func127.trans (congrArg some (by kernel_rfl))
 f257 := Tryz.func90.trans (congrArg some (by kernel_rfl))
 f294 := Tryz.func121.trans (congrArg some (by kernel_rfl))
 f295 := Tryz.func122.trans (congrArg some (by kernel_rfl))
 f296 := Tryz.func123.trans (congrArg some (by kernel_rfl))
 f297 := Tryz.func124.trans (congrArg some (by kernel_rfl))
 f298 := Tryz.func125.trans (congrArg some (by kernel_rfl))
 f299 := Tryz.func126.trans (congrArg some (by kernel_rfl))
 f300 := Tryz.func128.trans (congrArg some (by kernel_rfl))
 f301 := Tryz.func129.trans (congrArg some (by kernel_rfl))
 f328 := Tryz.func147.trans (congrArg some (by kernel_rfl))
 f329 := Tryz.func148.trans (congrArg some (by kernel_rfl))
 f330 := Tryz.func149.trans (congrArg some (by kernel_rfl))
 f331 := Tryz.func150.trans (congrArg some (by kernel_rfl))
 f332 := Tryz.func151.trans (congrArg some (by kernel_rfl))
 f343 := Tryz.func161.trans (congrArg some (by kernel_rfl))
 t0 := Tryz.underlying0
 a0 := Tryz.isAgg0
 z0 := Tryz.sizeOf0
 v0 := Tryz.zeroValue0
 t3 := Tryz.underlying3
 a3 := Tryz.isAgg3
 z3 := Tryz.sizeOf3
 v3 := Tryz.zeroValue3
 t4 := Tryz.underlying4
 a4 := Tryz.isAgg4
 z4 := Tryz.sizeOf4
 v4 := Tryz.zeroValue4
 t5 := Tryz.underlying5
 a5 := Tryz.isAgg5
 z5 := Tryz.sizeOf5
 v5 := Tryz.zeroValue5
 t9 := Tryz.underlying9
 a9 := Tryz.isAgg9
 z9 := Tryz.sizeOf9
 v9 := Tryz.zeroValue9
 t28 := Tryz.underlying59
 a28 := Tryz.isAgg59
 z28 := Tryz.sizeOf59
 v28 := Tryz.zeroValue59
 t46 := Tryz.underlying114
 a46 := Tryz.isAgg114
 z46 := Tryz.sizeOf114
 v46 := Tryz.zeroValue114
 t51 := Tryz.underlying193
 a51 := Tryz.isAgg193
 z51 := Tryz.sizeOf193
 v51 := Tryz.zeroValue193
 t53 := Tryz.underlying56
 a53 := Tryz.isAgg56
 z53 := Tryz.sizeOf56
 v53 := Tryz.zeroValue56
 t131 := Tryz.underlying190
 a131 := Tryz.isAgg190
 z131 := Tryz.sizeOf190
 v131 := Tryz.zeroValue190
 t182 := Tryz.underlying184
 a182 := Tryz.isAgg184
 z182 := Tryz.sizeOf184
 v182 := Tryz.zeroValue184
 t183 := Tryz.underlying185
 a183 := Tryz.isAgg185
 z183 := Tryz.sizeOf185
 v183 := Tryz.zeroValue185
 t218 := Tryz.underlying206
 a218 := Tryz.isAgg206
 z218 := Tryz.sizeOf206
 v218 := Tryz.zeroValue206
 t222 := Tryz.underlying210
 a222 := Tryz.isAgg210
 z222 := Tryz.sizeOf210
 v222 := Tryz.zeroValue210
 t228 := Tryz.underlying218
 a228 := Tryz.isAgg218
 z228 := Tryz.sizeOf218
 v228 := Tryz.zeroValue218
 t229 := Tryz.underlying219
 a229 := Tryz.isAgg219
 z229 := Tryz.sizeOf219
 v229 := Tryz.zeroValue219 }
end Go.Proofs
namespace Go.Proofs.YtaneiffnhphkhaaGreatDoor
open Go.RowKit
open Vc (V Of)
open Pl (Br Net Pc Lk En St)
abbrev IL (l : List Int) (j : Nat) : Int := l.getD j 0
abbrev intCells (l : List Int) : List Value := cellsL l.length 1 (fun j _ => .int .i64 (IL l j))
theorem int_snoc (l : List Int) (z : Int) : cellsL (l.length + 1) 1 (catC l.length (fun j _ => .int .i64 (IL l j)) (fun _ _ => .int .i64 z)) = intCells (l ++ [z]) := by
 unfold intCells
 rw [List.length_append]
 apply cellsL_congr
 intro i hi
 simp only [catC]
 by_cases q : i < l.length
 ·rw [if_pos q]
  simp [IL, List.getD, List.getElem?_append_left q]
 ·rw [if_neg q]
  obtain rfl : i = l.length := by omega
  simp [IL, List.getD]
theorem one_int_row {w : World} {g : Nat} {z : Int} {ty : TypeId} (h : w.heap[g]? = some (.cells #[.int .i64 z] ty (0, 0))) : IRow w (some ⟨g, 0, none⟩) 1 1 (fun _ => z) := by
 refine ⟨Nat.le_refl _, fun _ => ⟨g, 0, rfl, (Array.getElem?_eq_some_iff.1 h).1, fun i hi j hj => ?_⟩⟩
 obtain rfl : i = 0 := by omega
 obtain rfl : j = 0 := by omega
 exact cell_of_row w g 0 _ _ _ h
theorem int_more {W : World} {base : Nat} {ao : Option Addr} {cap : Nat} {l : List Int} (h : W.ownsRow base 3 1 (.slice ao l.length cap) l.length (intCells l)) (hb : base ≤ W.heap.size) (hl : l.length ≤ 100000) (z : Int) :
  ∃ a1 c1 w2, (Builtin.append_ #[59, 59] 59 #[.slice ao l.length cap, .slice (some ⟨W.heap.size, 0, none⟩) 1 1]).run Tryz.prog (W.alloc (.cells #[.int .i64 z] 3)) = .ok (.slice a1 (l ++ [z]).length c1) w2 ∧ w2.ownsRow base 3 1 (.slice a1 (l ++ [z]).length c1) (l ++ [z]).length (intCells (l ++ [z])) ∧ Below base W w2 := by
 have hB : Below W.heap.size W (W.alloc (.cells #[.int .i64 z] 3)) := below_alloc1 _ _
 obtain ⟨a1, c1, w2, r, ho, hb2, _⟩ := append_c (W.alloc (.cells #[.int .i64 z] 3)) 59 3 _ 1 8 Tryz.underlying59 infoI rfl (by omega) base (.slice ao l.length cap) l.length (fun j _ => .int .i64 (IL l j)) (ownsC_below h hB) (some ⟨W.heap.size, 0, none⟩) 1 1 (fun _ _ => .int .i64 z) (fun _ _ => rfl) (one_int_row (heap_alloc_last _ _)) (fun h => by cases h) (by unfold maxLen; omega) (by omega) (by simp; omega)
 rw [int_snoc] at ho
 have e : (l ++ [z]).length = l.length + 1 := by simp
 rw [← e] at r ho
 exact ⟨a1, c1, w2, r, ho, (hB.mono hb).trans hb2⟩
theorem int_more2 {Z Zd : World} {base : Nat} {v : Value} {l : List Int} (ho : Z.ownsRow base 3 1 v l.length (intCells l)) (hbase : base ≤ Z.heap.size) (hl : l.length ≤ 100000) (z : Int) (hZ : Below Z.heap.size Z Zd) (hs : Zd.heap.size = Z.heap.size) :
  ∃ vo vc w2, (Builtin.append_ #[59, 59] 59 #[v, .slice (some ⟨Z.heap.size, 0, none⟩) 1 1]).run Tryz.prog (Zd.alloc (.cells #[.int .i64 z] 3)) = .ok (.slice vo (l ++ [z]).length vc) w2 ∧ w2.ownsRow base 3 1 (.slice vo (l ++ [z]).length vc) (l ++ [z]).length (intCells (l ++ [z])) ∧
   (∀ q, q < Z.heap.size → v.ownBlock ≠ some q → w2.heap[q]? = Z.heap[q]?) ∧ ((Value.slice vo (l ++ [z]).length vc).ownBlock = v.ownBlock ∨ (Value.slice vo (l ++ [z]).length vc).ownBlock = some (Z.heap.size + 1)) ∧ Below base Z w2 ∧ Z.heap.size ≤ w2.heap.size := by
 obtain ⟨i0, hi0, hz0, hz1, hz2⟩ := info_parts infoI
 obtain ⟨C, hC⟩ : ∃ C, C = Zd.alloc (.cells #[.int .i64 z] 3) := ⟨_, rfl⟩
 have hCb : Below Z.heap.size Z C := by rw [hC]; exact hZ.alloc (by omega) _
 have hCs : C.heap.size = Z.heap.size + 1 := by rw [hC]; simp [hs]
 have hCl : C.heap[Z.heap.size]? = some (.cells #[.int .i64 z] 3 (0, 0)) := by rw [hC, ← hs]; exact heap_alloc_last Zd _
 have hO := ownsC_below ho hCb
 obtain ⟨v', w2, hrun, h1, h2, _, h3⟩ := run_append_own_at (P := Tryz.prog) C base 59 59 3 i0 _ 1 8 Tryz.underlying59 hi0 hz0 hz1 hz2 rfl (by omega) v l.length (intCells l) hO ⟨Z.heap.size, 0, none⟩ 1 1 [.int .i64 z] rfl (fun j u hj => by
  have hl : j = 0 := by
   have := (List.getElem?_eq_some_iff.1 hj).1
   simpa using this
  subst hl
  rw [add_row, Nat.zero_add]
  simp at hj
  subst hj
  exact cell_of_row C Z.heap.size 0 _ _ _ hCl) (fun u hu => by simp at hu; subst hu; rfl) (by unfold maxLen; omega) (by omega) (by omega)
 have e1 : intCells l ++ [.int .i64 z] = intCells (l ++ [z]) := by
  have : ([.int .i64 z] : List Value) = cellsL 1 1 (fun _ _ => .int .i64 z) := by simp [cellsL]
  rw [this, cellsL_cat _ _ _ (by omega), int_snoc]
 have e2 : (l ++ [z]).length = l.length + 1 := by simp
 rw [e1, ← e2] at h1
 obtain ⟨ao, cap, rfl, _⟩ := owns_c (by omega) h1
 refine ⟨ao, cap, w2, by rw [← hC]; exact hrun, h1, fun q hq hne => (h2.block q (by omega) (fun p => hne p.symm)).trans (hCb.block q hq), ?_, ?_, by have := h2.size; omega⟩
 ·rcases h3 with h3 | h3
  ·exact Or.inl h3
  ·exact Or.inr (by rw [h3, hCs])
 ·exact (hCb.mono hbase).trans ((Below.refl _ _).grown h2 (by omega) (fun q hq => (ownsC_block hO q hq).1))
theorem intCells_map (l : List Int) : intCells l = l.map (Value.int .i64) := by
 apply List.ext_getElem
 ·simp [intCells, cellsL]
 ·intro i h1 h2
  have hi : i < l.length := by simpa using h2
  simp [intCells, cellsL, IL, List.getD, List.getElem?_eq_getElem hi]
theorem IL_row {w : World} {base : Nat} {v : Value} {l : List Int} (h : w.ownsRow base 3 1 v l.length (intCells l)) : ∃ ao cap, v = .slice ao l.length cap ∧ IRow w ao l.length cap (IL l) ∧ ∀ ad, ao = some ad → base ≤ ad.block := by
 obtain ⟨ao, cap, e, h1, _, h3⟩ := owns_c (by omega) h
 exact ⟨ao, cap, e, h1, h3⟩
theorem isort_any (base : Nat) (v : Value) (l : List Int) (w : World) (hl : l.length ≤ 100000) (ho : w.ownsRow base 3 1 v l.length (intCells l)) :
  Calls Tryz.prog 56 #[v] w fun e w' => e = .returned (.tuple #[]) ∧ w'.ownsRow base 3 1 v (l.mergeSort fun x y => decide (x ≤ y)).length (intCells (l.mergeSort fun x y => decide (x ≤ y))) ∧ w.grownBy w' v.ownBlock := by
 obtain ⟨_, h2⟩ := ho
 rcases h2 with ⟨rfl, h0⟩ | ⟨g, cap, cur, rfl, hg, hh, hn, hm, hs, hx⟩
 ·have e0 : l = [] := List.eq_nil_of_length_eq_zero h0
  subst e0
  refine (Any.slices_Sort_int_none Tryz.sortI none 0 w).mono ?_
  rintro e w' ⟨rfl, rfl⟩
  refine ⟨rfl, ?_, ⟨rfl, rfl, rfl, Nat.le_refl _, fun _ _ _ => rfl⟩⟩
  have : ([] : List Int).mergeSort (fun x y => decide (x ≤ y)) = [] := by simp
  rw [this]
  exact ⟨by simp [intCells, cellsL], Or.inl ⟨rfl, rfl⟩⟩
 ·have hH : Go.Sort.Holds (Value.int .i64) w g 0 l.toArray := holds_of_blockI hh (by rw [← intCells_map, ← hx, Nat.mul_one])
  have hc := Any.slices_Sort_int Tryz.sortI g 0 cap l w hH (Array.getElem?_eq_some_iff.1 hh).1 (by omega)
  change Calls Tryz.prog 56 _ _ _ at hc
  refine hc.mono ?_
  rintro e w' ⟨rfl, n, os, rfl⟩
  have hlen : (l.mergeSort fun x y => decide (x ≤ y)).length = l.length := List.length_mergeSort _
  refine ⟨rfl, ?_, grownBy_sortedI _⟩
  rw [intCells_map, hlen]
  exact ownsRow_sortedI hlen hg hh hn hm hs
end Go.Proofs.YtaneiffnhphkhaaGreatDoor
namespace Go.Proofs.YtaneiffnhphkhaaGreatDoor
open Go.RowKit
open Vc (V Of)
set_option maxHeartbeats 1000000 in
theorem vrole_any (s : V) (root port : Int) (ao : Option Addr) (n cap : Nat) (os : Nat → Of) (w : World) (hn : n ≤ 9223372036854775807) (hr : ORow w ao n cap os) :
  Calls Tryz.prog 79 #[.agg #[.int .u64 s.root, .int .i64 s.cost, .int .u64 s.bridge, .int .i64 s.port], .int .i64 root, .int .i64 port, .slice ao n cap] w fun e w' => e = .returned (.int .i64 (Vc.role s root port os n)) ∧ Below w.heap.size w w' := by
 have HR : Hid (ORow w ao n cap os) := hr
 clear hr
 unfold Vc.role
 by_cases h0 : port = root
 ·rw [if_pos h0]
  subst h0
  go_enter Tryz.func79, Tryz.ntmps79
  go_wp2_with fail
  go_ret
  exact ⟨rfl, below_alloc1 _ _⟩
 ·rw [if_neg h0]
  obtain ⟨R, hR⟩ : ∃ R : Int, (if Vc.someTo (fun i => decide (Vc.hears s port (os i))) n = true then (3 : Int) else 2) = R := ⟨_, rfl⟩
  rw [hR]
  have HR3 : Hid (Vc.someTo (fun i => decide (Vc.hears s port (os i))) n = true → R = 3) := fun h => by rw [← hR, if_pos h]
  have HR2 : Hid (Vc.someTo (fun i => decide (Vc.hears s port (os i))) n = false → R = 2) := fun h => by rw [← hR, h]; rfl
  clear hR
  have d0 : (port == root) = false := by simp [h0]
  have HBT : Hid (∀ (a b : V) (W : World), Calls Tryz.prog 112 #[.agg #[.int .u64 a.root, .int .i64 a.cost, .int .u64 a.bridge, .int .i64 a.port], .agg #[.int .u64 b.root, .int .i64 b.cost, .int .u64 b.bridge, .int .i64 b.port]] W fun e w' => e = .returned (.bool (decide (Vc.lt a b))) ∧ Below W.heap.size W w') := fun a b W => vbetter_any a b W
  have HH : Hid (∀ o, decide (Vc.hears s port o) = decide (o.port = port ∧ (0 ≤ o.age ∧ o.age ≤ 20) ∧ Vc.lt o.vec ⟨s.root, s.cost, s.bridge, port⟩)) := fun o => rfl
  go_enter Tryz.func79, Tryz.ntmps79
  go_wp2_with fail
  go_loopw [18] (fun i wr => ∃ k : Nat, k ≤ n ∧ i = .int .i64 k ∧ Hid (Vc.someTo (fun i => decide (Vc.hears s port (os i))) k = false) ∧ Hid (wr.heap[w.heap.size]? = some (.cells #[.int .u64 s.root, .int .i64 s.cost, .int .u64 s.bridge, .int .i64 port] 58 (0, 0)) ∧ Below w.heap.size w wr)) (fun i _ => n - (intOf i).toNat)
  case atStart => exact ⟨0, by omega, rfl, rfl, heap_alloc_last w _, below_alloc1 _ _⟩
  case round =>
   obtain ⟨k, hk, rfl, hS, hX⟩ := hrel
   by_cases hlt : k < n
   ·obtain ⟨b, off, rfl, hb⟩ := CRow.some HR.out (by omega)
    have hcap := HR.out.1
    obtain ⟨c0, c1, c2, c3, c4, c5, c6⟩ := ORow.cells (CRow.other HR.out (w' := wr) (fun q _ _ hq => hX.out.2.block q hq) hX.out.2.size) hlt
    obtain ⟨v0, v1, v2, v3⟩ := vc_cells hX.out.1
    have HNO : Hid (decide (Vc.hears s port (os k)) = false → Vc.someTo (fun i => decide (Vc.hears s port (os i))) (k + 1) = false) := fun h => by
     show (Vc.someTo _ k || decide (Vc.hears s port (os k))) = false
     rw [h, hS.out]; rfl
    have HYES : Hid (decide (Vc.hears s port (os k)) = true → Vc.someTo (fun i => decide (Vc.hears s port (os i))) n = true) := fun h => someTo_stay _ k h n hlt
    rw [HH.out] at HNO HYES
    have HX2 : Hid (∀ o, (wr.alloc o).heap[w.heap.size]? = some (.cells #[.int .u64 s.root, .int .i64 s.cost, .int .u64 s.bridge, .int .i64 port] 58 (0, 0)) ∧ Below w.heap.size w (wr.alloc o)) := fun o => ⟨keep hX.out.1 (below_alloc1 _ _), hX.out.2.alloc hX.out.2.size _⟩
    have u0 : ∀ o, (wr.alloc o).cell? ⟨w.heap.size, 0, none⟩ = some (.int .u64 s.root) := fun o => (vc_cells (HX2.out o).1).1
    have u1 : ∀ o, (wr.alloc o).cell? ⟨w.heap.size, 1, none⟩ = some (.int .i64 s.cost) := fun o => (vc_cells (HX2.out o).1).2.1
    have u2 : ∀ o, (wr.alloc o).cell? ⟨w.heap.size, 2, none⟩ = some (.int .u64 s.bridge) := fun o => (vc_cells (HX2.out o).1).2.2.1
    have u3 : ∀ o, (wr.alloc o).cell? ⟨w.heap.size, 3, none⟩ = some (.int .i64 port) := fun o => (vc_cells (HX2.out o).1).2.2.2
    clear hX hS hb HH HR
    generalize os k = o at *
    obtain ⟨op, oc, oa, ⟨vr, vc, vb, vp⟩⟩ := o
    simp only at c0 c1 c2 c3 c4 c5 c6 HNO HYES
    have HWI : Hid (∀ W, Calls Tryz.prog 30 #[.int .i64 oa, .int .i64 0, .int .i64 20] W fun e w' => e = .returned (.bool (decide (0 ≤ oa ∧ oa ≤ 20))) ∧ w' = W) := fun W => vwithin_any oa 0 20 W
    by_cases p1 : op = port
    ·have e1 : (op == port) = true := by simp [p1]
     by_cases p2 : 0 ≤ oa ∧ oa ≤ 20
     ·rw [decide_eq_true p2] at HWI
      have HB1 : Hid (∀ W, Calls Tryz.prog 112 #[.agg #[.int .u64 vr, .int .i64 vc, .int .u64 vb, .int .i64 vp], .agg #[.int .u64 s.root, .int .i64 s.cost, .int .u64 s.bridge, .int .i64 port]] W fun e w' => e = .returned (.bool (decide (Vc.lt ⟨vr, vc, vb, vp⟩ ⟨s.root, s.cost, s.bridge, port⟩))) ∧ Below W.heap.size W w') := fun W => HBT.out ⟨vr, vc, vb, vp⟩ ⟨s.root, s.cost, s.bridge, port⟩ W
      by_cases p4 : Vc.lt ⟨vr, vc, vb, vp⟩ ⟨s.root, s.cost, s.bridge, port⟩
      ·have HF : Hid (Vc.someTo (fun i => decide (Vc.hears s port (os i))) n = true) := HYES.out (decide_eq_true ⟨p1, p2, p4⟩)
       rw [decide_eq_true p4] at HB1
       clear p4 HNO HYES p1 p2
       go_wp2_with fail
       refine (HWI.out _).mono ?_
       rintro e w2 ⟨rfl, rfl⟩
       go_wp2_with fail
       refine (HB1.out _).mono ?_
       rintro e w2 ⟨rfl, hb2⟩
       have HB2 : Hid (Below w.heap.size w w2) := (HX2.out _).2.trans (hb2.mono (HX2.out _).2.size)
       clear hb2
       go_wp2_with fail
       go_ret
       exact ⟨by rw [HR3.out HF.out]; rfl, HB2.out⟩
      ·have HF : Hid (Vc.someTo (fun i => decide (Vc.hears s port (os i))) (k + 1) = false) := HNO.out (decide_eq_false (fun q => p4 q.2.2))
       rw [decide_eq_false p4] at HB1
       clear p4 HNO HYES p1 p2
       go_wp2_with fail
       refine (HWI.out _).mono ?_
       rintro e w2 ⟨rfl, rfl⟩
       go_wp2_with fail
       refine (HB1.out _).mono ?_
       rintro e w2 ⟨rfl, hb2⟩
       have HB2 : Hid (w2.heap[w.heap.size]? = some (.cells #[.int .u64 s.root, .int .i64 s.cost, .int .u64 s.bridge, .int .i64 port] 58 (0, 0)) ∧ Below w.heap.size w w2) := ⟨keep (HX2.out _).1 hb2, (HX2.out _).2.trans (hb2.mono (HX2.out _).2.size)⟩
       clear hb2
       go_wp2_with fail
       exact ⟨⟨k + 1, by omega, by go_num, HF, HB2⟩, by simp [intOf]; omega⟩
     ·have HF : Hid (Vc.someTo (fun i => decide (Vc.hears s port (os i))) (k + 1) = false) := HNO.out (decide_eq_false (fun q => p2 q.2.1))
      rw [decide_eq_false p2] at HWI
      clear HNO HYES p1 p2
      go_wp2_with fail
      refine (HWI.out _).mono ?_
      rintro e w2 ⟨rfl, rfl⟩
      go_wp2_with fail
      exact ⟨⟨k + 1, by omega, by go_num, HF, HX2.out _⟩, by simp [intOf]; omega⟩
    ·have e1 : (op == port) = false := by simp [p1]
     have HF : Hid (Vc.someTo (fun i => decide (Vc.hears s port (os i))) (k + 1) = false) := HNO.out (decide_eq_false (fun q => p1 q.1))
     clear HNO HYES p1
     go_wp2_with fail
     exact ⟨⟨k + 1, by omega, by go_num, HF, HX2.out _⟩, by simp [intOf]; omega⟩
   ·obtain rfl : k = n := by omega
    go_wp2_with fail
    go_ret
    exact ⟨by rw [HR2.out hS.out]; rfl, hX.out.2⟩
end Go.Proofs.YtaneiffnhphkhaaGreatDoor
namespace Go.Proofs.YtaneiffnhphkhaaGreatDoor
open Go.RowKit
open Vc (V Of)
open Pl (Br Net Pc Lk En St)
def enA (e : En) : Array Value := #[.int .i64 e.port, .int .i64 e.cost, .int .i64 e.other, .int .i64 e.oport, .bool e.live]
def rlF (m : Tk.Md) (os : List Of) (es : List En) (k j : Nat) : Int := if j < k then Tk.roleM m os (EL es j) else 0
def RlAt (W : World) (g n : Nat) (f : Nat → Int) : Prop := W.heap[g]? = some (.cells (rowC n 1 (fun j _ => .int .i64 (f j))) 3 (0, 0))
theorem RlAt.set {W : World} {g n : Nat} {f : Nat → Int} (h : RlAt W g n f) {i : Nat} (hi : i < n) (z : Int) : RlAt (W.setCell ⟨g, i, none⟩ (.int .i64 z)) g n (fun j => if j = i then z else f j) := by
 have h0 := rowC_set h hi (show 0 < 1 by omega) (.int .i64 z)
 rw [show i * 1 + 0 = i by omega] at h0
 unfold RlAt
 rw [h0, rowC_congr2 (d := fun j _ => .int .i64 (if j = i then z else f j)) (fun j _ m hm => ?_)]
 unfold updC
 by_cases q : j = i
 ·subst q; simp; omega
 ·simp [q]
theorem RlAt.congr {W : World} {g n : Nat} {f h : Nat → Int} (hr : RlAt W g n f) (e : ∀ i, i < n → f i = h i) : RlAt W g n h := by
 unfold RlAt at hr ⊢
 rw [hr, rowC_congr (d := fun j _ => .int .i64 (h j)) (fun i hi => by rw [e i hi])]
theorem RlAt.cell {W : World} {g n : Nat} {f : Nat → Int} (h : RlAt W g n f) {i : Nat} (hi : i < n) : W.cell? ⟨g, i, none⟩ = some (.int .i64 (f i)) ∧ W.frozen? ⟨g, i, none⟩ = false := by
 have e : (⟨g, i, none⟩ : Addr) = ⟨g, i * 1 + 0, none⟩ := by simp
 refine ⟨?_, frozen_of_row _ _ _ _ _ h⟩
 rw [e]
 exact rowC_cell h hi (show 0 < 1 by omega)
set_option maxRecDepth 100000 in
set_option maxHeartbeats 2000000 in
theorem proles_any (m : Tk.Md) (es : List En) (eao : Option Addr) (ecap : Nat) (os : List Of) (oao : Option Addr) (ocap : Nat) (w : World) (hlen : es.length ≤ 1000) (hol : os.length ≤ 1000) (hr : ERow w eao es.length ecap (EL es)) (ho : ORow w oao os.length ocap (Pl.lf os)) :
  Calls Tryz.prog 50 #[.slice eao es.length ecap, .agg #[.int .u64 m.v.root, .int .i64 m.v.cost, .int .u64 m.v.bridge, .int .i64 m.v.port], .int .i64 m.rp, .slice oao os.length ocap] w fun e w' => ∃ G, e = .returned (.slice (some ⟨G, 0, none⟩) es.length es.length) ∧ RlAt w' G es.length (fun j => Tk.roleM m os (EL es j)) ∧ Below w.heap.size w w' ∧ w.heap.size ≤ G := by
 obtain ⟨X, HX⟩ : ∃ X, Hid (X = w.alloc (.cells #[.int .u64 m.v.root, .int .i64 m.v.cost, .int .u64 m.v.bridge, .int .i64 m.v.port] 58)) := ⟨_, rfl⟩
 have hXB : Below w.heap.size w X := by rw [HX.out]; exact below_alloc1 _ _
 have hXv : X.heap[w.heap.size]? = some (.cells #[.int .u64 m.v.root, .int .i64 m.v.cost, .int .u64 m.v.bridge, .int .i64 m.v.port] 58 (0, 0)) := by rw [HX.out]; exact heap_alloc_last _ _
 have hXs : X.heap.size = w.heap.size + 1 := by rw [HX.out]; simp
 have hcap := hr.1
 have hmk : ∀ W : World, (Instr.makeSlice 59 (.int .i64 (es.length : Int)) (.int .i64 (es.length : Int))).run Tryz.prog W = .ok (.slice (some ⟨W.heap.size, 0, none⟩) es.length es.length) (W.alloc (.cells (rowC es.length 1 (fun j _ => .int .i64 (rlF m os es 0 j))) 3)) := fun W => make_rowD W 59 3 _ 1 8 es.length Tryz.underlying59 infoI (by omega) rfl (by omega) (by omega) _ (fun _ j hj => by rw [show j = 0 by omega]; rfl)
 have HRW : Hid (∀ W, Below X.heap.size X W → ERow W eao es.length ecap (EL es) ∧ ORow W oao os.length ocap (Pl.lf os) ∧ W.heap[w.heap.size]? = some (.cells #[.int .u64 m.v.root, .int .i64 m.v.cost, .int .u64 m.v.bridge, .int .i64 m.v.port] 58 (0, 0)) ∧ Below w.heap.size w W) := fun W hW => by
  have h1 := hXB.trans (hW.mono hXB.size)
  exact ⟨CRow.below hr h1, CRow.below ho h1, keep hXv hW, h1⟩
 obtain ⟨G, HG⟩ : ∃ G, Hid (G = X.heap.size) := ⟨_, rfl⟩
 have H0 : Hid (RlAt (X.alloc (.cells (rowC es.length 1 (fun j _ => .int .i64 (rlF m os es 0 j))) 3)) G es.length (rlF m os es 0) ∧ Below X.heap.size X (X.alloc (.cells (rowC es.length 1 (fun j _ => .int .i64 (rlF m os es 0 j))) 3))) := by
  rw [HG.out]
  exact ⟨heap_alloc_last _ _, below_alloc1 _ _⟩
 have HXS : Hid (w.heap.size + 1 = G) := by rw [HG.out]; exact hXs.symm
 have HGX : Hid (X.heap.size ≤ G) := by rw [HG.out]; exact Nat.le_refl _
 clear hr ho hXv hXB hXs
 go_enter Tryz.func50, Tryz.ntmps50
 go_wp2_with fail
 rw [← HX.out]
 rw [HXS.out]
 obtain ⟨S, HS⟩ : ∃ S, Hid (S = w.heap.size) := ⟨_, rfl⟩
 rw [← HS.out]
 go_loopw [17] (fun q wr => ∃ k : Nat, k ≤ es.length ∧ q = .int .i64 k ∧ Hid (RlAt wr G es.length (rlF m os es k) ∧ Below X.heap.size X wr)) (fun q _ => es.length - (intOf q).toNat)
 case atStart => exact ⟨0, by omega, rfl, H0⟩
 case round =>
  obtain ⟨k, hk, rfl, hX⟩ := hrel
  clear H0
  by_cases hlt : k < es.length
  ·obtain ⟨hR, hB⟩ := hX.out
   obtain ⟨f1, f2, f3, _⟩ := HRW.out wr hB
   obtain ⟨eb, eoff, rfl, _⟩ := CRow.some f1 (by omega)
   obtain ⟨c0, c1, c2, c3, c4⟩ := ERow.cells f1 hlt
   obtain ⟨Y, HY⟩ : ∃ Y, Hid (Y = wr.alloc (.cells (enA (EL es k)) 135)) := ⟨_, rfl⟩
   have hYB : Below wr.heap.size wr Y := by rw [HY.out]; exact below_alloc1 _ _
   have hYe : Y.heap[wr.heap.size]? = some (.cells (enA (EL es k)) 135 (0, 0)) := by rw [HY.out]; exact heap_alloc_last _ _
   have hRY : RlAt Y G es.length (rlF m os es k) := keep hR hYB
   have hBY : Below X.heap.size X Y := hB.trans (hYB.mono hB.size)
   have hGl : G < wr.heap.size := (Array.getElem?_eq_some_iff.1 hR).1
   have hSG : S ≠ G := by rw [HS.out, ← HXS.out]; omega
   obtain ⟨g0, g1⟩ := hRY.cell hlt
   have hk0 : rlF m os es k k = 0 := by unfold rlF; rw [if_neg (Nat.lt_irrefl _)]
   rw [hk0] at g0
   have hR0 : RlAt (Y.setCell ⟨G, k, none⟩ (.int .i64 0)) G es.length (rlF m os es k) := (hRY.set hlt 0).congr (fun j _ => by
    by_cases q : j = k
    ·rw [if_pos q, q, hk0]
    ·rw [if_neg q])
   have hBW : Below Y.heap.size Y (Y.setCell ⟨G, k, none⟩ (.int .i64 0)) ∨ True := Or.inr trivial
   have hB0 : Below X.heap.size X (Y.setCell ⟨G, k, none⟩ (.int .i64 0)) := hBY.setCell HGX.out _
   obtain ⟨Z, HZ⟩ : ∃ Z, Hid (Z = Y.setCell ⟨G, k, none⟩ (.int .i64 0)) := ⟨_, rfl⟩
   have hZe : Z.heap[wr.heap.size]? = some (.cells (enA (EL es k)) 135 (0, 0)) := by
    rw [HZ.out]
    exact (heap_setCell_other _ _ _ _ (by show wr.heap.size ≠ G; omega)).trans hYe
   rw [← HZ.out] at hR0 hB0
   have HNX : Hid (∀ (W : World) (z : Int), Below Z.heap.size Z W → z = Tk.roleM m os (EL es k) → RlAt (W.setCell ⟨G, k, none⟩ (.int .i64 z)) G es.length (rlF m os es (k + 1)) ∧ Below X.heap.size X (W.setCell ⟨G, k, none⟩ (.int .i64 z))) := fun W z hW hz => by
    have h1 : RlAt W G es.length (rlF m os es k) := keep hR0 hW
    refine ⟨(h1.set hlt z).congr (fun j _ => ?_), (hB0.trans (hW.mono hB0.size)).setCell HGX.out _⟩
    unfold rlF
    by_cases q : j = k
    ·rw [if_pos q, if_pos (by omega), q, hz]
    ·rw [if_neg q]
     by_cases q2 : j < k
     ·rw [if_pos q2, if_pos (by omega)]
     ·rw [if_neg q2, if_neg (by omega)]
   have HNS : Hid (Tk.roleM m os (EL es k) = 0 → RlAt Z G es.length (rlF m os es (k + 1)) ∧ Below X.heap.size X Z) := fun hz => by
    refine ⟨hR0.congr (fun j _ => ?_), hB0⟩
    unfold rlF
    by_cases q : j < k
    ·rw [if_pos q, if_pos (by omega)]
    ·rw [if_neg q]
     by_cases q2 : j = k
     ·rw [if_pos (by omega), q2, hz]
     ·rw [if_neg (by omega)]
   have i0 : (0 : Int) ≤ (k : Int) := by omega
   have i1 : (k : Int) < (es.length : Int) := by omega
   have hRV : Tk.roleM m os (EL es k) = if (EL es k).live = true then Vc.role m.v m.rp (EL es k).port (Pl.lf os) os.length else 0 := rfl
   have HRO : Hid (∀ W, Below X.heap.size X W → Calls Tryz.prog 79 #[.agg #[.int .u64 m.v.root, .int .i64 m.v.cost, .int .u64 m.v.bridge, .int .i64 m.v.port], .int .i64 m.rp, .int .i64 (EL es k).port, .slice oao os.length ocap] W fun e w' => e = .returned (.int .i64 (Vc.role m.v m.rp (EL es k).port (Pl.lf os) os.length)) ∧ Below W.heap.size W w') := fun W hW => vrole_any m.v m.rp (EL es k).port oao os.length ocap (Pl.lf os) W (by omega) (HRW.out W hW).2.1
   have HZV : Hid (∀ W, Below Z.heap.size Z W → W.heap[S]? = some (.cells #[.int .u64 m.v.root, .int .i64 m.v.cost, .int .u64 m.v.bridge, .int .i64 m.v.port] 58 (0, 0))) := fun W hW => by rw [HS.out]; exact (HRW.out W (hB0.trans (hW.mono hB0.size))).2.2.1
   obtain ⟨v0, v1, v2, v3⟩ := vc_cells (HZV.out Z (Below.refl _ _))
   obtain ⟨y0, y1, y2, y3, y4⟩ := br_cells hZe
   have HBZ : Hid (Below X.heap.size X Z) := hB0
   have HRC : Hid (∀ W, Below Z.heap.size Z W → W.cell? ⟨G, k, none⟩ = some (.int .i64 0) ∧ W.frozen? ⟨G, k, none⟩ = false) := fun W hW => by
    have h1 : RlAt W G es.length (rlF m os es k) := keep hR0 hW
    obtain ⟨z0, z1⟩ := h1.cell hlt
    rw [hk0] at z0
    exact ⟨z0, z1⟩
   clear hX hR hB f1 f2 f3 hYB hYe hRY hBY hGl hR0 hB0 hBW hZe hk0 HRW
   generalize EL es k = e at *
   obtain ⟨port, cost, other, oport, live⟩ := e
   simp only [enA] at *
   rw [HY.out] at g0 g1
   cases live with
   | false =>
    rw [if_neg (by decide)] at hRV
    have HN := HNS.out hRV
    have HN2 : Hid (RlAt Z G es.length (rlF m os es (k + 1)) ∧ Below X.heap.size X Z) := HN
    clear HN HNS HNX HRO HRC HZV
    rw [HZ.out, HY.out] at y4
    go_wp2_with fail
    rw [← HY.out, ← HZ.out]
    exact ⟨⟨k + 1, by omega, by go_num, HN2⟩, by simp [intOf]; omega⟩
   | true =>
    rw [if_pos rfl] at hRV
    have HRO2 : Hid (Calls Tryz.prog 79 #[.agg #[.int .u64 m.v.root, .int .i64 m.v.cost, .int .u64 m.v.bridge, .int .i64 m.v.port], .int .i64 m.rp, .int .i64 port, .slice oao os.length ocap] Z fun e w' => e = .returned (.int .i64 (Vc.role m.v m.rp port (Pl.lf os) os.length)) ∧ Hid (Below Z.heap.size Z w')) := HRO.out Z HBZ.out
    have HRV : Hid (Vc.role m.v m.rp port (Pl.lf os) os.length = Tk.roleM m os ⟨port, cost, other, oport, true⟩) := hRV.symm
    clear hRV HNS HRO
    rw [HZ.out, HY.out] at y0 y4 v0 v1 v2 v3
    go_wp2_with fail
    rw [← HY.out, ← HZ.out]
    refine HRO2.out.mono ?_
    rintro e w2 ⟨rfl, HB2⟩
    obtain ⟨z0, z1⟩ := HRC.out w2 HB2.out
    have HN2 : Hid _ := HNX.out w2 _ HB2.out HRV.out
    clear HRO2 HNX HRC HZV y0 y4 v0 v1 v2 v3
    go_wp2_with fail
    exact ⟨⟨k + 1, by omega, by go_num, HN2⟩, by simp [intOf]; omega⟩
  ·obtain rfl : k = es.length := by omega
   obtain ⟨hR, hB⟩ := hX.out
   have HF : Hid (RlAt wr G es.length (fun j => Tk.roleM m os (EL es j)) ∧ Below w.heap.size w wr ∧ w.heap.size ≤ G) := ⟨hR.congr (fun j hj => by unfold rlF; rw [if_pos hj]), (HRW.out wr hB).2.2.2, by rw [← HXS.out]; omega⟩
   clear hX hR hB HRW
   go_wp2_with fail
   go_ret
   exact ⟨G, rfl, HF.out.1, HF.out.2⟩
end Go.Proofs.YtaneiffnhphkhaaGreatDoor
namespace Go.Proofs.YtaneiffnhphkhaaGreatDoor
namespace Tk
open Vc (V Of)
open Pl (Lk En St fin offs)
def calmOf (r c : Int) : Int := if r = 1 ∨ r = 2 then (if c < 49 then c else 49) + 1 else 0
theorem calmOf_pos {r c : Int} (h : 0 < calmOf r c) : r = 1 ∨ r = 2 := by
 unfold calmOf at h
 by_cases q : r = 1 ∨ r = 2
 ·exact q
 ·rw [if_neg q] at h; omega
theorem calmOf_back {r c n : Int} (h : n ≤ calmOf r c) (hn : 0 < n) : n - 1 ≤ c := by
 have := calmOf_pos (r := r) (c := c) (by omega)
 unfold calmOf at h
 rw [if_pos this] at h
 split at h <;> omega
structure Mnd where
 md : Md
 roles : List Int
 calm : List Int
def tickF (ids : Nat → Int) (E : Nat → List En) (x : Nat → Mnd) (i : Nat) : Mnd :=
 ⟨chM (ids i) (heard (E i) (fun j => (x j).md)), (E i).map (roleM (chM (ids i) (heard (E i) (fun j => (x j).md))) (heard (E i) (fun j => (x j).md))),
  List.zipWith calmOf ((E i).map (roleM (chM (ids i) (heard (E i) (fun j => (x j).md))) (heard (E i) (fun j => (x j).md)))) (x i).calm⟩
def ticksF (ids : Nat → Int) (E : Nat → List En) (x : Nat → Mnd) : Nat → (Nat → Mnd)
 | 0 => x
 | t + 1 => tickF ids E (ticksF ids E x t)
section
variable {ids : Nat → Int} {E : Nat → List En} {K : Nat}
theorem ticksF_md (x : Nat → Mnd) : ∀ t i, (ticksF ids E x t i).md = ticks ids E (fun j => (x j).md) t i
 | 0, _ => rfl
 | t + 1, i => by
  have e : (fun j => (ticksF ids E x t j).md) = ticks ids E (fun j => (x j).md) t := funext (fun j => ticksF_md x t j)
  simp only [ticksF, tickF, ticks, tick]
  rw [e]
theorem ticksF_add (x : Nat → Mnd) (a : Nat) : ∀ b, ticksF ids E (ticksF ids E x a) b = ticksF ids E x (a + b)
 | 0 => rfl
 | b + 1 => by
  show tickF ids E (ticksF ids E (ticksF ids E x a) b) = tickF ids E (ticksF ids E x (a + b))
  rw [ticksF_add x a b]
theorem settledF (G : Pl.Good ids E K) (one : ∀ i, i < K → ∀ p q, p ∈ E i → q ∈ E i → p.port = q.port → p = q) (x : Nat → Mnd) {t : Nat} (ht : 33 ≤ t) {i : Nat} (hi : i < K) :
  (ticksF ids E x t i).md.v = (fin ids E K i).v ∧ (ticksF ids E x t i).md.rp = (fin ids E K i).rp ∧ (ticksF ids E x t i).roles = (E i).map (Pl.roleAt (fin ids E K i) (offs (E i) (fin ids E K))) := by
 obtain ⟨dep, hd, hs⟩ := settled G one (fun j => (x j).md)
 have h1 := hs t (by omega) i hi
 rw [ticksF_md, h1]
 refine ⟨rfl, rfl, ?_⟩
 obtain ⟨s, rfl⟩ : ∃ s, t = s + 1 := ⟨t - 1, by omega⟩
 have e : (fun j => (ticksF ids E x s j).md) = ticks ids E (fun j => (x j).md) s := funext (fun j => ticksF_md x s j)
 simp only [ticksF, tickF]
 rw [e]
 have h2 : chM (ids i) (heard (E i) (ticks ids E (fun j => (x j).md) s)) = ⟨(fin ids E K i).v, dep i, (fin ids E K i).rp⟩ := h1
 rw [h2]
 apply List.map_congr_left
 intro e _
 refine role_same _ _ rfl rfl (E i) _ _ (fun q hq hl => ?_) e
 have hj := Pl.toNat_lt (G.lt i hi q hq hl).1
 rw [hs s (by omega) q.other.toNat hj]
 have := hd q.other.toNat hj
 exact ⟨rfl, by simp only; omega, by simp only; omega⟩
theorem quietF (G : Pl.Good ids E K) (one : ∀ i, i < K → ∀ p q, p ∈ E i → q ∈ E i → p.port = q.port → p = q) (x : Nat → Mnd) {t s : Nat} (ht : 32 ≤ t) (hs : 32 ≤ s) {i : Nat} (hi : i < K) : (ticksF ids E x t i).md = (ticksF ids E x s i).md := by
 obtain ⟨dep, _, h⟩ := settled G one (fun j => (x j).md)
 rw [ticksF_md, ticksF_md, h t ht i hi, h s hs i hi]
def Fit (E : Nat → List En) (K : Nat) (x : Nat → Mnd) : Prop := ∀ i, i < K → (x i).roles.length = (E i).length ∧ (x i).calm.length = (E i).length
def Calm (x : Nat → Mnd) (K : Nat) : Prop := ∀ i, i < K → ∀ j, 0 ≤ (x i).calm.getD j 0 ∧ (0 < (x i).calm.getD j 0 → (x i).roles.getD j 0 = 1 ∨ (x i).roles.getD j 0 = 2)
theorem getD_zip (rs cs : List Int) (h : rs.length = cs.length) (j : Nat) (hj : j < rs.length) : (List.zipWith calmOf rs cs).getD j 0 = calmOf (rs.getD j 0) (cs.getD j 0) := by
 rw [List.getD_eq_getElem?_getD, List.getD_eq_getElem?_getD, List.getD_eq_getElem?_getD, List.getElem?_zipWith, List.getElem?_eq_getElem hj, List.getElem?_eq_getElem (by omega)]
 rfl
theorem getD_out (l : List Int) (j : Nat) (hj : l.length ≤ j) : l.getD j 0 = 0 := by
 rw [List.getD_eq_getElem?_getD, List.getElem?_eq_none hj]; rfl
theorem tickF_fit {x : Nat → Mnd} (h : Fit E K x) : Fit E K (tickF ids E x) := fun i hi => by
 have := h i hi
 simp only [tickF, List.length_map, List.length_zipWith]
 exact ⟨trivial, by omega⟩
theorem ticksF_fit {x : Nat → Mnd} (h : Fit E K x) : ∀ t, Fit E K (ticksF ids E x t)
 | 0 => h
 | t + 1 => tickF_fit (ticksF_fit h t)
theorem tickF_calm {x : Nat → Mnd} (h : Fit E K x) {i : Nat} (hi : i < K) {j : Nat} (hj : j < (E i).length) : (tickF ids E x i).calm.getD j 0 = calmOf ((tickF ids E x i).roles.getD j 0) ((x i).calm.getD j 0) := by
 simp only [tickF]
 exact getD_zip _ _ (by rw [List.length_map]; exact (h i hi).2.symm) j (by rw [List.length_map]; exact hj)
theorem calmOf_nonneg {r c : Int} (h : 0 ≤ c) : 0 ≤ calmOf r c := by
 unfold calmOf
 split
 ·split <;> omega
 ·omega
theorem tickF_Calm {x : Nat → Mnd} (h : Fit E K x) (hc : Calm x K) : Calm (tickF ids E x) K := fun i hi j => by
 by_cases hj : j < (E i).length
 ·rw [tickF_calm h hi hj]
  exact ⟨calmOf_nonneg (hc i hi j).1, fun q => calmOf_pos q⟩
 ·rw [getD_out _ j (by rw [(tickF_fit (ids := ids) h i hi).2]; omega)]
  exact ⟨Int.le_refl _, fun q => by omega⟩
theorem ticksF_Calm {x : Nat → Mnd} (h : Fit E K x) (hc : Calm x K) : ∀ t, Calm (ticksF ids E x t) K
 | 0 => hc
 | t + 1 => tickF_Calm (ticksF_fit h t) (ticksF_Calm h hc t)
theorem calm_back {x : Nat → Mnd} (h : Fit E K x) {i : Nat} (hi : i < K) {j : Nat} (hj : j < (E i).length) : ∀ (t : Nat) (n : Int), (t : Int) < n → n ≤ (ticksF ids E x t i).calm.getD j 0 → n - t ≤ (x i).calm.getD j 0
 | 0, n, _, hc => by simpa [ticksF] using hc
 | t + 1, n, hn, hc => by
  simp only [ticksF] at hc
  rw [tickF_calm (ticksF_fit h t) hi hj] at hc
  have := calm_back h hi hj t (n - 1) (by omega) (calmOf_back hc (by omega))
  omega
theorem calm_on {x : Nat → Mnd} (h : Fit E K x) (hc : Calm x K) {i : Nat} (hi : i < K) {j : Nat} (hj : j < (E i).length) (s : Nat) (hr : ∀ t, s < t → (ticksF ids E x t i).roles.getD j 0 = 1 ∨ (ticksF ids E x t i).roles.getD j 0 = 2) : ∀ n : Nat, n ≤ 50 → (n : Int) ≤ (ticksF ids E x (s + n) i).calm.getD j 0
 | 0, _ => (ticksF_Calm h hc s i hi j).1
 | n + 1, hn => by
  have ih := calm_on h hc hi hj s hr n (by omega)
  have hr' := hr (s + n + 1) (by omega)
  show _ ≤ (ticksF ids E x (s + n + 1) i).calm.getD j 0
  simp only [ticksF] at hr' ⊢
  rw [tickF_calm (ticksF_fit h _) hi hj]
  unfold calmOf
  rw [if_pos hr']
  split <;> omega
theorem calm_off {x : Nat → Mnd} (h : Fit E K x) {i : Nat} (hi : i < K) {j : Nat} (hj : j < (E i).length) {t : Nat} (hr : ¬ ((ticksF ids E x (t + 1) i).roles.getD j 0 = 1 ∨ (ticksF ids E x (t + 1) i).roles.getD j 0 = 2)) : (ticksF ids E x (t + 1) i).calm.getD j 0 = 0 := by
 simp only [ticksF] at hr ⊢
 rw [tickF_calm (ticksF_fit h _) hi hj]
 unfold calmOf
 rw [if_neg hr]
end
end Tk
end Go.Proofs.YtaneiffnhphkhaaGreatDoor
