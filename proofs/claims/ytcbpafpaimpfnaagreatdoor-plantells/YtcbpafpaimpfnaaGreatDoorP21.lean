/- walks: the document's Ports of a bridge -/
import Derived.Test.YtcbpafpaimpfnaaGreatDoorP01
import Derived.Test.YtcbpafpaimpfnaaGreatDoorP20
import Derived.Test.YtcbpafpaimpfnaaGreatDoorP13
import Derived.Test.YtcbpafpaimpfnaaGreatDoorP09
import Derived.Test.YtcbpafpaimpfnaaGreatDoorP14
import Derived.Test.YtcbpafpaimpfnaaGreatDoorP08
import Derived.Shelf.Sort.Plain
import Derived.Shelf.Slices.In.SortNone
import Derived.Sort.OwnSortedInts
namespace Go.Proofs
open Go.Shelf
def Tryz.sortI_ren : Go.Shelf.Ren := ⟨fun | 125 => 75 | 128 => 98 | 129 => 99 | 189 => 59 | 215 => 72 | 216 => 95 | 257 => 74 | 294 => 89 | 295 => 90 | 296 => 91 | 297 => 92 | 298 => 93 | 299 => 94 | 300 => 96 | 301 => 97 | 328 => 109 | 329 => 110 | 330 => 111 | 331 => 112 | 332 => 113 | 343 => 125 | n => n, fun | 0 => 0 | 3 => 3 | 4 => 4 | 5 => 5 | 9 => 9 | 28 => 35 | 46 => 90 | 51 => 150 | 53 => 34 | 131 => 147 | 182 => 141 | 183 => 142 | 218 => 159 | 222 => 163 | 228 => 179 | 229 => 180 | n => n, fun | n => n⟩
theorem Tryz.sortI : Go.Proofs.Lays.n189 Tryz.prog Tryz.sortI_ren := {
 mixed := by kernel_rfl
 f125 := Tryz.func75.trans (congrArg some (by kernel_rfl))
 f128 := Tryz.func98.trans (congrArg some (by kernel_rfl))
 f129 := Tryz.func99.trans (congrArg some (by kernel_rfl))
 f189 := Tryz.func59.trans (congrArg some (by kernel_rfl))
 f215 := Tryz.func72.trans (congrArg some (by kernel_rfl))
 f216 := Tryz.func95.trans (congrArg some (by kernel_rfl))
 f257 := Tryz.func74.trans (congrArg some (by kernel_rfl))
 f294 := Tryz.func89.trans (congrArg some (by kernel_rfl))
 f295 := Tryz.func90.trans (congrArg some (by kernel_rfl))
 f296 := Tryz.func91.trans (congrArg some (by kernel_rfl))
 f297 := Tryz.func92.trans (congrArg some (by kernel_rfl))
 f298 := Tryz.func93.trans (congrArg some (by kernel_rfl))
 f299 := Tryz.func94.trans (congrArg some (by kernel_rfl))
 f300 := Tryz.func96.trans (congrArg some (by kernel_rfl))
 f301 := Tryz.func97.trans (congrArg some (by kernel_rfl))
 f328 := Tryz.func109.trans (congrArg some (by kernel_rfl))
 f329 := Tryz.func110.trans (congrArg some (by kernel_rfl))
 f330 := Tryz.func111.trans (congrArg some (by kernel_rfl))
 f331 := Tryz.func112.trans (congrArg some (by kernel_rfl))
 f332 := Tryz.func113.trans (congrArg some (by kernel_rfl))
 f343 := Tryz.func125.trans (congrArg some (by kernel_rfl))
 t0 := Tryz.underlying0
 a0 := Tryz.isAgg0
 z0 := Tryz.sizeOf0
 v0 := Tryz.zeroValue0
 t3 := Tryz.underlying3
 a3 := Tryz.isAgg3
 z3 := Tryz.sizeOf3
 v3 := Tryz.zeroValue3
 t4 := Tryz.underlying4
 a4 := Tryz.isAgg4
 z4 := Tryz.sizeOf4
 v4 := Tryz.zeroValue4
 t5 := Tryz.underlying5
 a5 := Tryz.isAgg5
 z5 := Tryz.sizeOf5
 v5 := Tryz.zeroValue5
 t9 := Tryz.underlying9
 a9 := Tryz.isAgg9
 z9 := Tryz.sizeOf9
 v9 := Tryz.zeroValue9
 t28 := Tryz.underlying35
 a28 := Tryz.isAgg35
 z28 := Tryz.sizeOf35
 v28 := Tryz.zeroValue35
 t46 := Tryz.underlying90
 a46 := Tryz.isAgg90
 z46 := Tryz.sizeOf90
 v46 := Tryz.zeroValue90
 t51 := Tryz.underlying150
 a51 := Tryz.isAgg150
 z51 := Tryz.sizeOf150
 v51 := Tryz.zeroValue150
 t53 := Tryz.underlying34
 a53 := Tryz.isAgg34
 z53 := Tryz.sizeOf34
 v53 := Tryz.zeroValue34
 t131 := Tryz.underlying147
 a131 := Tryz.isAgg147
 z131 := Tryz.sizeOf147
 v131 := Tryz.zeroValue147
 t182 := Tryz.underlying141
 a182 := Tryz.isAgg141
 z182 := Tryz.sizeOf141
 v182 := Tryz.zeroValue141
 t183 := Tryz.underlying142
 a183 := Tryz.isAgg142
 z183 := Tryz.sizeOf142
 v183 := Tryz.zeroValue142
 t218 := Tryz.underlying159
 a218 := Tryz.isAgg159
 z218 := Tryz.sizeOf159
 v218 := Tryz.zeroValue159
 t222 := Tryz.underlying163
 a222 := Tryz.isAgg163
 z222 := Tryz.sizeOf163
 v222 := Tryz.zeroValue163
 t228 := Tryz.underlying179
 a228 := Tryz.isAgg179
 z228 := Tryz.sizeOf179
 v228 := Tryz.zeroValue179
 t229 := Tryz.underlying180
 a229 := Tryz.isAgg180
 z229 := Tryz.sizeOf180
 v229 := Tryz.zeroValue180 }
end Go.Proofs
namespace Go.Proofs.YtcbpafpaimpfnaaGreatDoor
section
open Go.RowKit
open Vc (V Of)
open Pl (Br Net Pc Lk En St)
abbrev IL (l : List Int) (j : Nat) : Int := l.getD j 0
abbrev intCells (l : List Int) : List Value := cellsL l.length 1 (fun j _ => .int .i64 (IL l j))
theorem int_snoc (l : List Int) (z : Int) : cellsL (l.length + 1) 1 (catC l.length (fun j _ => .int .i64 (IL l j)) (fun _ _ => .int .i64 z)) = intCells (l ++ [z]) := by
 unfold intCells
 rw [List.length_append]
 apply cellsL_congr
 intro i hi
 simp only [catC]
 by_cases q : i < l.length
 ·rw [if_pos q]
  simp [IL, List.getD, List.getElem?_append_left q]
 ·rw [if_neg q]
  obtain rfl : i = l.length := by omega
  simp [IL, List.getD]
theorem one_int_row {w : World} {g : Nat} {z : Int} {ty : TypeId} (h : w.heap[g]? = some (.cells #[.int .i64 z] ty (0, 0))) : IRow w (some ⟨g, 0, none⟩) 1 1 (fun _ => z) := by
 refine ⟨Nat.le_refl _, fun _ => ⟨g, 0, rfl, (Array.getElem?_eq_some_iff.1 h).1, fun i hi j hj => ?_⟩⟩
 obtain rfl : i = 0 := by omega
 obtain rfl : j = 0 := by omega
 exact cell_of_row w g 0 _ _ _ h
theorem int_more {W : World} {base : Nat} {ao : Option Addr} {cap : Nat} {l : List Int} (h : W.ownsRow base 3 1 (.slice ao l.length cap) l.length (intCells l)) (hb : base ≤ W.heap.size) (hl : l.length ≤ 100000) (z : Int) :
  ∃ a1 c1 w2, (Builtin.append_ #[35, 35] 35 #[.slice ao l.length cap, .slice (some ⟨W.heap.size, 0, none⟩) 1 1]).run Tryz.prog (W.alloc (.cells #[.int .i64 z] 3)) = .ok (.slice a1 (l ++ [z]).length c1) w2 ∧ w2.ownsRow base 3 1 (.slice a1 (l ++ [z]).length c1) (l ++ [z]).length (intCells (l ++ [z])) ∧ Below base W w2 := by
 have hB : Below W.heap.size W (W.alloc (.cells #[.int .i64 z] 3)) := below_alloc1 _ _
 obtain ⟨a1, c1, w2, r, ho, hb2, _⟩ := append_c (W.alloc (.cells #[.int .i64 z] 3)) 35 3 _ 1 8 Tryz.underlying35 infoI rfl (by omega) base (.slice ao l.length cap) l.length (fun j _ => .int .i64 (IL l j)) (ownsC_below h hB) (some ⟨W.heap.size, 0, none⟩) 1 1 (fun _ _ => .int .i64 z) (fun _ _ => rfl) (one_int_row (heap_alloc_last _ _)) (fun h => by cases h) (by unfold maxLen; omega) (by omega) (by simp; omega)
 rw [int_snoc] at ho
 have e : (l ++ [z]).length = l.length + 1 := by simp
 rw [← e] at r ho
 exact ⟨a1, c1, w2, r, ho, (hB.mono hb).trans hb2⟩
theorem int_more2 {Z Zd : World} {base : Nat} {v : Value} {l : List Int} (ho : Z.ownsRow base 3 1 v l.length (intCells l)) (hbase : base ≤ Z.heap.size) (hl : l.length ≤ 100000) (z : Int) (hZ : Below Z.heap.size Z Zd) (hs : Zd.heap.size = Z.heap.size) :
  ∃ vo vc w2, (Builtin.append_ #[35, 35] 35 #[v, .slice (some ⟨Z.heap.size, 0, none⟩) 1 1]).run Tryz.prog (Zd.alloc (.cells #[.int .i64 z] 3)) = .ok (.slice vo (l ++ [z]).length vc) w2 ∧ w2.ownsRow base 3 1 (.slice vo (l ++ [z]).length vc) (l ++ [z]).length (intCells (l ++ [z])) ∧
   (∀ q, q < Z.heap.size → v.ownBlock ≠ some q → w2.heap[q]? = Z.heap[q]?) ∧ ((Value.slice vo (l ++ [z]).length vc).ownBlock = v.ownBlock ∨ (Value.slice vo (l ++ [z]).length vc).ownBlock = some (Z.heap.size + 1)) ∧ Below base Z w2 ∧ Z.heap.size ≤ w2.heap.size := by
 obtain ⟨i0, hi0, hz0, hz1, hz2⟩ := info_parts infoI
 obtain ⟨C, hC⟩ : ∃ C, C = Zd.alloc (.cells #[.int .i64 z] 3) := ⟨_, rfl⟩
 have hCb : Below Z.heap.size Z C := by rw [hC]; exact hZ.alloc (by omega) _
 have hCs : C.heap.size = Z.heap.size + 1 := by rw [hC]; simp [hs]
 have hCl : C.heap[Z.heap.size]? = some (.cells #[.int .i64 z] 3 (0, 0)) := by rw [hC, ← hs]; exact heap_alloc_last Zd _
 have hO := ownsC_below ho hCb
 obtain ⟨v', w2, hrun, h1, h2, _, h3⟩ := run_append_own_at (P := Tryz.prog) C base 35 35 3 i0 _ 1 8 Tryz.underlying35 hi0 hz0 hz1 hz2 rfl (by omega) v l.length (intCells l) hO ⟨Z.heap.size, 0, none⟩ 1 1 [.int .i64 z] rfl (fun j u hj => by
  have hl : j = 0 := by
   have := (List.getElem?_eq_some_iff.1 hj).1
   simpa using this
  subst hl
  rw [add_row, Nat.zero_add]
  simp at hj
  subst hj
  exact cell_of_row C Z.heap.size 0 _ _ _ hCl) (fun u hu => by simp at hu; subst hu; rfl) (by unfold maxLen; omega) (by omega) (by omega)
 have e1 : intCells l ++ [.int .i64 z] = intCells (l ++ [z]) := by
  have : ([.int .i64 z] : List Value) = cellsL 1 1 (fun _ _ => .int .i64 z) := by simp [cellsL]
  rw [this, cellsL_cat _ _ _ (by omega), int_snoc]
 have e2 : (l ++ [z]).length = l.length + 1 := by simp
 rw [e1, ← e2] at h1
 obtain ⟨ao, cap, rfl, _⟩ := owns_c (by omega) h1
 refine ⟨ao, cap, w2, by rw [← hC]; exact hrun, h1, fun q hq hne => (h2.block q (by omega) (fun p => hne p.symm)).trans (hCb.block q hq), ?_, ?_, by have := h2.size; omega⟩
 ·rcases h3 with h3 | h3
  ·exact Or.inl h3
  ·exact Or.inr (by rw [h3, hCs])
 ·exact (hCb.mono hbase).trans ((Below.refl _ _).grown h2 (by omega) (fun q hq => (ownsC_block hO q hq).1))
theorem intCells_map (l : List Int) : intCells l = l.map (Value.int .i64) := by
 apply List.ext_getElem
 ·simp [intCells, cellsL]
 ·intro i h1 h2
  have hi : i < l.length := by simpa using h2
  simp [intCells, cellsL, IL, List.getD, List.getElem?_eq_getElem hi]
theorem IL_row {w : World} {base : Nat} {v : Value} {l : List Int} (h : w.ownsRow base 3 1 v l.length (intCells l)) : ∃ ao cap, v = .slice ao l.length cap ∧ IRow w ao l.length cap (IL l) ∧ ∀ ad, ao = some ad → base ≤ ad.block := by
 obtain ⟨ao, cap, e, h1, _, h3⟩ := owns_c (by omega) h
 exact ⟨ao, cap, e, h1, h3⟩
theorem isort_any (base : Nat) (v : Value) (l : List Int) (w : World) (hl : l.length ≤ 100000) (ho : w.ownsRow base 3 1 v l.length (intCells l)) :
  Calls Tryz.prog 59 #[v] w fun e w' => e = .returned (.tuple #[]) ∧ w'.ownsRow base 3 1 v (l.mergeSort fun x y => decide (x ≤ y)).length (intCells (l.mergeSort fun x y => decide (x ≤ y))) ∧ w.grownBy w' v.ownBlock := by
 obtain ⟨_, h2⟩ := ho
 rcases h2 with ⟨rfl, h0⟩ | ⟨g, cap, cur, rfl, hg, hh, hn, hm, hs, hx⟩
 ·have e0 : l = [] := List.eq_nil_of_length_eq_zero h0
  subst e0
  refine (Any.slices_Sort_int_none Tryz.sortI none 0 w).mono ?_
  rintro e w' ⟨rfl, rfl⟩
  refine ⟨rfl, ?_, ⟨rfl, rfl, rfl, Nat.le_refl _, fun _ _ _ => rfl⟩⟩
  have : ([] : List Int).mergeSort (fun x y => decide (x ≤ y)) = [] := by simp
  rw [this]
  exact ⟨by simp [intCells, cellsL], Or.inl ⟨rfl, rfl⟩⟩
 ·have hH : Go.Sort.Holds (Value.int .i64) w g 0 l.toArray := holds_of_blockI hh (by rw [← intCells_map, ← hx, Nat.mul_one])
  have hc := Any.slices_Sort_int Tryz.sortI g 0 cap l w hH (Array.getElem?_eq_some_iff.1 hh).1 (by omega)
  change Calls Tryz.prog 59 _ _ _ at hc
  refine hc.mono ?_
  rintro e w' ⟨rfl, n, os, rfl⟩
  have hlen : (l.mergeSort fun x y => decide (x ≤ y)).length = l.length := List.length_mergeSort _
  refine ⟨rfl, ?_, grownBy_sortedI _⟩
  rw [intCells_map, hlen]
  exact ownsRow_sortedI hlen hg hh hn hm hs
def curP (ls : Nat → Lk) (L i q k : Nat) : List Int := Pl.ptsAll ls L i q ++ Pl.ptsTo ls i ((q : Int) + 1) k
theorem curP_zero (ls : Nat → Lk) (L i q : Nat) : curP ls L i q 0 = Pl.ptsAll ls L i q := by unfold curP; simp [Pl.ptsTo]
theorem curP_next (ls : Nat → Lk) (L i q : Nat) : curP ls L i q L = Pl.ptsAll ls L i (q + 1) := rfl
theorem curP_more (ls : Nat → Lk) (L i q k : Nat) : curP ls L i q (k + 1) = curP ls L i q k ++ if Pl.isEnd (ls k) (i : Int) ((q : Int) + 1) = true then [(q : Int) + 1] else [] := by
 unfold curP
 simp only [Pl.ptsTo]
 rw [List.append_assoc]
theorem ptsTo_few (ls : Nat → Lk) (i : Nat) (p : Int) : ∀ k, (Pl.ptsTo ls i p k).length ≤ k
 | 0 => Nat.le_refl _
 | k + 1 => by
  have := ptsTo_few ls i p k
  simp only [Pl.ptsTo, List.length_append]
  split <;> simp <;> omega
theorem ptsAll_few (ls : Nat → Lk) (L i : Nat) : ∀ q, (Pl.ptsAll ls L i q).length ≤ q * L
 | 0 => by simp [Pl.ptsAll]
 | q + 1 => by
  have h1 := ptsAll_few ls L i q
  have h2 := ptsTo_few ls i ((q : Int) + 1) L
  simp only [Pl.ptsAll, List.length_append]
  rw [Nat.add_mul]
  omega
set_option maxRecDepth 100000 in
set_option maxHeartbeats 4000000 in
theorem rports_any (n : Net) (i : Nat) (w : World) (hat : n.at' w) (hL : n.L ≤ 40) (R : Pl.RightL n.K n.L n.ls) :
  Calls Tryz.prog 36 #[n.val, .int .i64 i] w fun e w' => ∃ ao cap, e = .returned (.slice ao (Pl.ptsAll n.ls n.L i 30).length cap) ∧ IRow w' ao (Pl.ptsAll n.ls n.L i 30).length cap (IL (Pl.ptsAll n.ls n.L i 30)) ∧ NilOk ao (Pl.ptsAll n.ls n.L i 30).length cap ∧ (∀ ad, ao = some ad → w.heap.size ≤ ad.block) ∧ Below w.heap.size w w' := by
 obtain ⟨X, HX⟩ : ∃ X, Hid (X = w.alloc (.cells #[.slice n.bao n.K n.bcap, .slice n.lao n.L n.lcap] 25)) := ⟨_, rfl⟩
 have hXB : Below w.heap.size w X := by rw [HX.out]; exact below_alloc1 _ _
 have hXn : X.heap[w.heap.size]? = some (.cells #[.slice n.bao n.K n.bcap, .slice n.lao n.L n.lcap] 25 (0, 0)) := by rw [HX.out]; exact heap_alloc_last _ _
 have HC : Hid (∀ W, Below X.heap.size X W → (W.cell? ⟨w.heap.size, 0, none⟩ = some (.slice n.bao n.K n.bcap) ∧ W.cell? ⟨w.heap.size, 1, none⟩ = some (.slice n.lao n.L n.lcap)) ∧ LRow W n.lao n.L n.lcap n.ls ∧ Below w.heap.size w W) := fun W hW => by
  have h1 : Below w.heap.size w W := hXB.trans (hW.mono hXB.size)
  exact ⟨two_cells2 (keep hXn hW), CRow.below hat.lks h1, h1⟩
 have HR : Hid (Pl.RightL n.K n.L n.ls) := R
 have hcapL := hat.lks.1
 have H0 : Hid (X.ownsRow X.heap.size 3 1 (.slice none (Pl.ptsAll n.ls n.L i 0).length 0) (Pl.ptsAll n.ls n.L i 0).length (intCells (Pl.ptsAll n.ls n.L i 0)) ∧ Below X.heap.size X X) := ⟨ownsC_nil _ _ _ _ _, Below.refl _ _⟩
 have hwX := hXB.size
 clear hat R hXn hXB
 simp only [Pl.Net.val]
 go_enter Tryz.func36, Tryz.ntmps36
 go_wp2_with fail
 rw [← HX.out]
 go_loopw [5, 6] (fun s5 s6 wr => ∃ (q : Nat) (ao : Option Addr) (cap : Nat), (q : Int) ≤ 30 ∧ s6 = .int .i64 ((q : Int) + 1) ∧ s5 = .slice ao (Pl.ptsAll n.ls n.L i q).length cap ∧ Hid (wr.ownsRow X.heap.size 3 1 (.slice ao (Pl.ptsAll n.ls n.L i q).length cap) (Pl.ptsAll n.ls n.L i q).length (intCells (Pl.ptsAll n.ls n.L i q)) ∧ Below X.heap.size X wr)) (fun _ s6 _ => 31 - (intOf s6).toNat)
 case atStart => exact ⟨0, none, 0, by omega, rfl, rfl, H0⟩
 case round =>
  obtain ⟨q, ao, cap, hq, rfl, rfl, hW⟩ := hrel
  clear H0
  by_cases hlt : (q : Int) < 30
  ·obtain ⟨⟨m0, m1⟩, _, _⟩ := HC.out wr hW.out.2
   have c1 : (q : Int) + 1 ≤ 30 := by omega
   have H1 : Hid (wr.ownsRow X.heap.size 3 1 (.slice ao (curP n.ls n.L i q 0).length cap) (curP n.ls n.L i q 0).length (intCells (curP n.ls n.L i q 0)) ∧ Below X.heap.size X wr) := by rw [curP_zero]; exact hW
   have HL0 : Hid ((Pl.ptsAll n.ls n.L i q).length = (curP n.ls n.L i q 0).length) := by show _ = _; rw [curP_zero]
   clear hW
   go_wp2_with fail
   clear m0 m1
   go_loopw [5, 16] (fun s5 s16 wr => ∃ (k : Nat) (ao : Option Addr) (cap : Nat), k ≤ n.L ∧ s16 = .int .i64 k ∧ s5 = .slice ao (curP n.ls n.L i q k).length cap ∧ Hid (wr.ownsRow X.heap.size 3 1 (.slice ao (curP n.ls n.L i q k).length cap) (curP n.ls n.L i q k).length (intCells (curP n.ls n.L i q k)) ∧ Below X.heap.size X wr)) (fun _ s16 _ => n.L - (intOf s16).toNat)
   case atStart => exact ⟨0, ao, cap, by omega, rfl, by rw [HL0.out], H1⟩
   case round =>
    obtain ⟨k, ao, cap, hk, rfl, rfl, hY⟩ := hrel
    clear H1 HL0
    by_cases hkL : k < n.L
    ·obtain ⟨_, f1, _⟩ := HC.out wr hY.out.2
     obtain ⟨lb, loff, el, _⟩ := CRow.some f1 (by omega)
     rw [el] at f1 ⊢
     obtain ⟨c0, c1', c2, c3, c4, c5⟩ := LRow.cells f1 hkL
     obtain ⟨_, _, o3, _⟩ := HR.out.ok k hkL
     have hmore := curP_more n.ls n.L i q k
     have hend : Pl.isEnd (n.ls k) (i : Int) ((q : Int) + 1) = (decide ((n.ls k).a = (i : Int) ∧ (n.ls k).pa = (q : Int) + 1) || decide ((n.ls k).b = (i : Int) ∧ (n.ls k).pb = (q : Int) + 1)) := rfl
     have hfew : (curP n.ls n.L i q k).length ≤ 100000 := by
      have h1 := ptsAll_few n.ls n.L i q
      have h2 := ptsTo_few n.ls i ((q : Int) + 1) k
      unfold curP
      rw [List.length_append]
      have h3 : q * n.L ≤ 30 * 40 := Nat.mul_le_mul (by omega) hL
      omega
     obtain ⟨Z, HZ⟩ : ∃ Z, Hid (Z = wr.alloc (.cells (lkA (n.ls k)) 46)) := ⟨_, rfl⟩
     have hZB : Below wr.heap.size wr Z := by rw [HZ.out]; exact below_alloc1 _ _
     have hZs : Z.heap.size = wr.heap.size + 1 := by rw [HZ.out]; simp
     have hsz := hY.out.2.size
     have HNO : Hid (Pl.isEnd (n.ls k) (i : Int) ((q : Int) + 1) = false → Z.ownsRow X.heap.size 3 1 (.slice ao (curP n.ls n.L i q (k + 1)).length cap) (curP n.ls n.L i q (k + 1)).length (intCells (curP n.ls n.L i q (k + 1))) ∧ Below X.heap.size X Z) := fun h => by
      rw [hmore, h, if_neg (by decide), List.append_nil]
      exact ⟨ownsC_below hY.out.1 hZB, hY.out.2.trans (hZB.mono hY.out.2.size)⟩
     have HLN : Hid (Pl.isEnd (n.ls k) (i : Int) ((q : Int) + 1) = false → (curP n.ls n.L i q (k + 1)).length = (curP n.ls n.L i q k).length) := fun h => by rw [hmore, h, if_neg (by decide), List.append_nil]
     have HYES : Hid (Pl.isEnd (n.ls k) (i : Int) ((q : Int) + 1) = true → ∃ a1 c1 w2, (Builtin.append_ #[35, 35] 35 #[.slice ao (curP n.ls n.L i q k).length cap, .slice (some ⟨wr.heap.size + 1, 0, none⟩) 1 1]).run Tryz.prog (Z.alloc (.cells #[.int .i64 ((q : Int) + 1)] 3)) = .ok (.slice a1 (curP n.ls n.L i q (k + 1)).length c1) w2 ∧ Hid (w2.ownsRow X.heap.size 3 1 (.slice a1 (curP n.ls n.L i q (k + 1)).length c1) (curP n.ls n.L i q (k + 1)).length (intCells (curP n.ls n.L i q (k + 1))) ∧ Below X.heap.size X w2)) := fun h => by
      obtain ⟨a1, c1, w2, r, ho, hb⟩ := int_more (ownsC_below hY.out.1 hZB) (by omega) hfew ((q : Int) + 1)
      rw [hmore, h, if_pos rfl]
      rw [hZs] at r
      have hBZ : Below X.heap.size X Z := hY.out.2.trans (hZB.mono hY.out.2.size)
      exact ⟨a1, c1, w2, r, ho, hBZ.trans hb⟩
     have i0 : (0 : Int) ≤ (k : Int) := by omega
     have i1 : (k : Int) < (n.L : Int) := by omega
     clear hY f1 hmore hZB hZs hfew HC HR el
     generalize Pl.isEnd (n.ls k) (i : Int) ((q : Int) + 1) = D at *
     generalize n.ls k = l at *
     obtain ⟨la, pa, lb', pb, co, up⟩ := l
     simp only at c0 c1' c2 c3 c4 c5 o3 hend
     simp only [lkA] at *
     by_cases ea : la = (i : Int)
     ·have fb : ¬ lb' = (i : Int) := by omega
      by_cases ep : pa = (q : Int) + 1
      ·have hD : D = true := by rw [hend, decide_eq_true ⟨ea, ep⟩, Bool.true_or]
       obtain ⟨a1, c1, w2, r, HN⟩ := HYES.out hD
       have HRR : Hid _ := r
       rw [HZ.out] at HRR
       clear r HYES HNO HLN hend hD
       subst ea
       subst ep
       go_wp2_with (at_builtin; refine wpList_append_run rfl (.tmp 42) (.tmp 44) 35 rfl _ _ _ rfl rfl HRR.out ?_)
       exact ⟨⟨k + 1, a1, c1, by omega, by go_num, rfl, HN⟩, by simp [intOf]; omega⟩
      ·have hD : D = false := by rw [hend, decide_eq_false (fun h => ep h.2), decide_eq_false (fun h => fb h.1)]; rfl
       have HN : Hid _ := HNO.out hD
       have HLE : Hid _ := HLN.out hD
       have g1 : (pa == (q : Int) + 1) = false := by simp [ep]
       have g2 : (lb' == (i : Int)) = false := by simp [fb]
       rw [HZ.out] at HN
       clear HYES HNO HLN hend hD
       subst ea
       go_wp2_with fail
       exact ⟨⟨k + 1, ao, cap, by omega, by go_num, by rw [HLE.out], HN⟩, by simp [intOf]; omega⟩
     ·have g0 : (la == (i : Int)) = false := by simp [ea]
      by_cases eb : lb' = (i : Int)
      ·by_cases ep : pb = (q : Int) + 1
       ·have hD : D = true := by rw [hend, decide_eq_true (⟨eb, ep⟩ : lb' = (i : Int) ∧ pb = (q : Int) + 1), Bool.or_true]
        obtain ⟨a1, c1, w2, r, HN⟩ := HYES.out hD
        have HRR : Hid _ := r
        rw [HZ.out] at HRR
        clear r HYES HNO HLN hend hD
        subst eb
        subst ep
        go_wp2_with (at_builtin; refine wpList_append_run rfl (.tmp 42) (.tmp 44) 35 rfl _ _ _ rfl rfl HRR.out ?_)
        exact ⟨⟨k + 1, a1, c1, by omega, by go_num, rfl, HN⟩, by simp [intOf]; omega⟩
       ·have hD : D = false := by rw [hend, decide_eq_false (fun h => ea h.1), decide_eq_false (fun h => ep h.2)]; rfl
        have HN : Hid _ := HNO.out hD
        have HLE : Hid _ := HLN.out hD
        have g1 : (pb == (q : Int) + 1) = false := by simp [ep]
        rw [HZ.out] at HN
        clear HYES HNO HLN hend hD
        subst eb
        go_wp2_with fail
        exact ⟨⟨k + 1, ao, cap, by omega, by go_num, by rw [HLE.out], HN⟩, by simp [intOf]; omega⟩
      ·have hD : D = false := by rw [hend, decide_eq_false (fun h => ea h.1), decide_eq_false (fun h => eb h.1)]; rfl
       have HN : Hid _ := HNO.out hD
       have HLE : Hid _ := HLN.out hD
       have g1 : (lb' == (i : Int)) = false := by simp [eb]
       rw [HZ.out] at HN
       clear HYES HNO HLN hend hD
       go_wp2_with fail
       exact ⟨⟨k + 1, ao, cap, by omega, by go_num, by rw [HLE.out], HN⟩, by simp [intOf]; omega⟩
    ·have hnk : ¬ (k : Int) < (n.L : Int) := by omega
     have hkk : k = n.L := by omega
     rw [hkk] at hY
     have HN : Hid (wr.ownsRow X.heap.size 3 1 (.slice ao (Pl.ptsAll n.ls n.L i (q + 1)).length cap) (Pl.ptsAll n.ls n.L i (q + 1)).length (intCells (Pl.ptsAll n.ls n.L i (q + 1))) ∧ Below X.heap.size X wr) := hY
     have HLE : Hid ((curP n.ls n.L i q k).length = (Pl.ptsAll n.ls n.L i (q + 1)).length) := by show _ = _; rw [hkk, curP_next]
     clear hY hkk HC
     go_wp2_with fail
     exact ⟨⟨q + 1, ao, cap, by omega, by go_num, by rw [HLE.out], HN⟩, by simp [intOf]; omega⟩
  ·have hq30 : q = 30 := by omega
   subst hq30
   obtain ⟨hO, hB⟩ := hW.out
   have hlow := (HC.out wr hB).2.2
   obtain ⟨a1, c1, e1, h1, h2, h3⟩ := owns_c (by omega) hO
   injection e1 with e1 _ e2
   subst e1
   subst e2
   have HE : Hid (IRow wr ao (Pl.ptsAll n.ls n.L i 30).length cap (IL (Pl.ptsAll n.ls n.L i 30)) ∧ NilOk ao (Pl.ptsAll n.ls n.L i 30).length cap ∧ (∀ ad, ao = some ad → w.heap.size ≤ ad.block) ∧ Below w.heap.size w wr) := ⟨h1, h2, fun ad e => Nat.le_trans hwX (h3 ad e), hlow⟩
   clear hW hO hB hlow h1 h2 h3 HC
   go_wp2_with fail
   go_ret
   exact ⟨ao, cap, rfl, HE.out.1, HE.out.2.1, HE.out.2.2.1, HE.out.2.2.2⟩
end
end Go.Proofs.YtcbpafpaimpfnaaGreatDoor
