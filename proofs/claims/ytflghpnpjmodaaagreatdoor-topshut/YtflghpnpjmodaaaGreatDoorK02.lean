/- What package plan's functions come to: plain functions -/
import Derived.Test.YtflghpnpjmodaaaGreatDoorK01
import Derived.Deep.RegionWith
import Derived.ProofKit
import Derived.OpenShut
import Derived.ChangeOld
import Derived.ChangeSlices
import Derived.SizedLaws
import Derived.Deep.DeepHandedRow
import Derived.Lib.LaidTab
import Derived.Stop.LaidErr
namespace Go.Proofs.YtflghpnpjmodaaaGreatDoor
open Go.RowKit

theorem mix_out (s : Md.St) (b off cap : Nat) (bs : Nat → Int) (w : World) (ht : Tabs w) (hb : b < w.heap.size) (hcap : 64 ≤ cap) (hc : ∀ i, i < 64 → w.cell? ⟨b, off + i, none⟩ = some (.int .u8 (bs i))) :
    Calls Tryz.prog 124 #[.agg #[.int .u32 s.a, .int .u32 s.b, .int .u32 s.c, .int .u32 s.d], .slice (some ⟨b, off, none⟩) 64 cap] w fun e w' => e = .returned (.agg #[.int .u32 (Md.mixS s bs).a, .int .u32 (Md.mixS s bs).b, .int .u32 (Md.mixS s bs).c, .int .u32 (Md.mixS s bs).d]) ∧ Below w.heap.size w w' :=
  mix_any s b off cap bs w ht hb hcap hc
theorem set4 {w : World} {g : Nat} {q s' : Md.St} (hA : w.heap[g]? = some (.cells (Md.stA q) 170 (0, 0))) :
    ((((w.setCell ⟨g, 0, none⟩ (.int .u32 s'.a)).setCell ⟨g, 1, none⟩ (.int .u32 s'.b)).setCell ⟨g, 2, none⟩ (.int .u32 s'.c)).setCell ⟨g, 3, none⟩ (.int .u32 s'.d)).heap[g]? = some (.cells (Md.stA s') 170 (0, 0)) ∧
    (∀ k, k ≠ g → ((((w.setCell ⟨g, 0, none⟩ (.int .u32 s'.a)).setCell ⟨g, 1, none⟩ (.int .u32 s'.b)).setCell ⟨g, 2, none⟩ (.int .u32 s'.c)).setCell ⟨g, 3, none⟩ (.int .u32 s'.d)).heap[k]? = w.heap[k]?) ∧
    (∀ B a, B ≤ g → Below B a w → Below B a ((((w.setCell ⟨g, 0, none⟩ (.int .u32 s'.a)).setCell ⟨g, 1, none⟩ (.int .u32 s'.b)).setCell ⟨g, 2, none⟩ (.int .u32 s'.c)).setCell ⟨g, 3, none⟩ (.int .u32 s'.d))) := by
  refine ⟨?_, fun k hk => ?_, fun B a hB hb => (((hb.setCell hB _).setCell hB _).setCell hB _).setCell hB _⟩
  · rw [heap_setCell_same _ _ _ _ _ _ (heap_setCell_same _ _ _ _ _ _ (heap_setCell_same _ _ _ _ _ _ (heap_setCell_same _ _ _ _ _ _ hA)))]
    rfl
  · rw [heap_setCell_other _ _ _ _ hk, heap_setCell_other _ _ _ _ hk, heap_setCell_other _ _ _ _ hk, heap_setCell_other _ _ _ _ hk]
theorem four {wr w2 : World} {g : Nat} {q : Md.St} (hb : Below wr.drew.heap.size wr.drew w2) (hA : wr.heap[g]? = some (.cells (Md.stA q) 170 (0, 0))) :
    w2.cell? ⟨g, 0, none⟩ = some (.int .u32 q.a) ∧ w2.cell? ⟨g, 1, none⟩ = some (.int .u32 q.b) ∧ w2.cell? ⟨g, 2, none⟩ = some (.int .u32 q.c) ∧ w2.cell? ⟨g, 3, none⟩ = some (.int .u32 q.d) ∧
    w2.frozen? ⟨g, 0, none⟩ = false ∧ w2.frozen? ⟨g, 1, none⟩ = false ∧ w2.frozen? ⟨g, 2, none⟩ = false ∧ w2.frozen? ⟨g, 3, none⟩ = false := by
  have hlt : g < wr.heap.size := block_lt_of_cell (cell_of_row wr g 0 _ _ _ hA)
  have h2 : w2.heap[g]? = some (.cells (Md.stA q) 170 (0, 0)) := (hb.block g hlt).trans hA
  exact ⟨cell_of_row w2 g 0 _ _ _ h2, cell_of_row w2 g 1 _ _ _ h2, cell_of_row w2 g 2 _ _ _ h2, cell_of_row w2 g 3 _ _ _ h2, frozen_of_row _ _ _ _ _ h2, frozen_of_row _ _ _ _ _ h2, frozen_of_row _ _ _ _ _ h2, frozen_of_row _ _ _ _ _ h2⟩

set_option maxHeartbeats 1000000 in
theorem mixAll_any (s : Md.St) (ao : Option Addr) (m cap : Nat) (bs : Nat → Int) (w : World) (ht : Tabs w) (hr : ByteRow w ao (64 * m) cap bs) (hm : 64 * m ≤ 140737488355328) :
    Calls Tryz.prog 121 #[.agg (Md.stA s), .slice ao (64 * m) cap] w fun e w' => e = .returned (.agg (Md.stA (Md.mixN s bs m))) ∧ Below w.heap.size w w' := by
  have HT : Hid (Tabs w) := ht
  have HR : Hid _ := hr
  have hbt := ht.lt
  clear ht hr
  unfold Md.stA
  go_enter Tryz.func121, Tryz.ntmps121
  go_wp2
  go_loopw [5] (fun i wr => ∃ k : Nat, k ≤ m ∧ i = .int .i64 (64 * k) ∧ wr.heap[w.heap.size]? = some (.cells (Md.stA (Md.mixN s bs k)) 170 (0, 0)) ∧ wr.heap[w.heap.size + 1]? = some (.cells (Md.stA ⟨0, 0, 0, 0⟩) 170 (0, 0)) ∧ Below w.heap.size w wr) (fun i _ => 64 * m - (intOf i).toNat)
  case atStart => exact ⟨0, by omega, rfl, heap_alloc2_old w _ _, heap_alloc2_new w _ _, ((Below.refl _ _).alloc (Nat.le_refl _) _).alloc (by simp) _⟩
  case round =>
    obtain ⟨k, hk, rfl, hA, hB, hbel⟩ := hrel
    by_cases hlt : k < m
    · obtain ⟨hcap, hrow⟩ := HR.out
      obtain ⟨b, off, rfl, hb, hc⟩ := hrow (by omega)
      have HA : Hid _ := hA
      have HB : Hid _ := hB
      have HBL : Hid _ := hbel
      have HC : Hid _ := hc
      have hs := hbel.size
      have hsz := block_lt_of_cell (cell_of_row wr _ 0 _ _ _ hB)
      have a0 : wr.cell? ⟨w.heap.size, 0, none⟩ = some (.int .u32 (Md.mixN s bs k).a) := cell_of_row wr _ 0 _ _ _ hA
      have a1 : wr.cell? ⟨w.heap.size, 1, none⟩ = some (.int .u32 (Md.mixN s bs k).b) := cell_of_row wr _ 1 _ _ _ hA
      have a2 : wr.cell? ⟨w.heap.size, 2, none⟩ = some (.int .u32 (Md.mixN s bs k).c) := cell_of_row wr _ 2 _ _ _ hA
      have a3 : wr.cell? ⟨w.heap.size, 3, none⟩ = some (.int .u32 (Md.mixN s bs k).d) := cell_of_row wr _ 3 _ _ _ hA
      have hw : IntKind.i64.wrap (64 * (k : Int) + 64) = ((64 * k + 64 : Nat) : Int) := by simp [IntKind.wrap, IntKind.bits, IntKind.signed]; omega
      have h64 : (64 * k + 64 : Nat) ≤ cap := by omega
      have h65 : ((64 * k + 64 : Nat) : Int) ≤ (cap : Int) := by omega
      have HT' : Hid (Tabs wr.drew) := HT.out.below hbel.drew (by omega)
      have HB' : Hid (b < wr.drew.heap.size) := (show b < wr.heap.size from by omega)
      have HC' : Hid (∀ i, i < 64 → wr.drew.cell? ⟨b, off + 64 * k + i, none⟩ = some (.int .u8 (bs (64 * k + i)))) := fun i hi => ((hbel.drew.cell (by exact hb)).trans (by rw [Nat.add_assoc]; exact hc (64 * k + i) (by omega)))
      clear hA hB hbel hc hrow HR HC HT
      have HQ : Hid (Md.mixN s bs (k + 1) = Md.mixS (Md.mixN s bs k) fun i => bs (64 * k + i)) := rfl
      generalize Md.mixN s bs k = q at *
      go_wp2_with fail
      go_region_with (go_at_call 124; refine (mix_out q b (off + 64 * k) (cap - 64 * k) (fun i => bs (64 * k + i)) _ HT'.out HB'.out (by omega) HC'.out).mono ?_; rintro e w2 ⟨rfl, hb2⟩; have c2 := four hb2 HA.out; obtain ⟨c20, c21, c22, c23, f20, f21, f22, f23⟩ := c2; have HB2 : Hid _ := hb2; clear hb2)
      all_goals go_wp2
      all_goals
        have hset := set4 (s' := Md.mixS q fun i => bs (64 * k + i)) ((HB2.out.block w.heap.size (show _ < wr.heap.size from by omega)).trans HA.out)
        exact ⟨⟨k + 1, by omega, by go_num, by rw [HQ.out]; exact hset.1, (hset.2.1 _ (by omega)).trans ((HB2.out.block (w.heap.size + 1) (show _ < wr.heap.size from by omega)).trans HB.out), hset.2.2 _ _ (Nat.le_refl _) (HBL.out.drew.trans (HB2.out.mono (show _ ≤ wr.heap.size from by omega)))⟩, by simp [intOf]; omega⟩
    · obtain rfl : k = m := by omega
      clear HR HT
      go_wp2_with (first | refine wpList_load_row rfl 170 _ rfl (w.heap.size) rfl 170 _ (0, 0) _ hA Tryz.underlying170 rfl (by rw [size34, Md.stA_size]) ?_ | refine wpList_store_row rfl 170 _ _ rfl (w.heap.size + 1) (Md.stA (Md.mixN s bs k)) rfl rfl 170 _ hB (by rw [size34, Md.stA_size]) (by rfl) (Md.stA_all _) ?_)
      exact bodyPost_ret (v := .agg (Md.stA (Md.mixN s bs k))) (results_cell_row (p := 4) (ty := 170) rfl _ _ (w.heap.size + 1) 170 _ (0, 0) _ rfl (setRow_heap _ _ _ _ _ _ hB) Tryz.underlying170 rfl (by rw [size34, Md.stA_size])) rfl ⟨rfl, below_setRow hbel (by omega) _⟩
end Go.Proofs.YtflghpnpjmodaaaGreatDoor

namespace Go.Proofs.YtflghpnpjmodaaaGreatDoor
open Go.ChangeShapes Go.WideShapes Go.ChangeAt Go.RowKit

theorem own : ownKnob Tryz.prog.godebug = none := by kernel_rfl
theorem laidOut : laidOutB Tryz.prog = true := by kernel_rfl
theorem one_of {a b : Value} (h : [a] = [b]) : a = b := by simpa using h
theorem wf_u64 {n : Int} (h : (Lit.int .u64 n).wf = true) : 0 ≤ n ∧ n < 18446744073709551616 := by
  simp only [Lit.wf, Bool.and_eq_true, decide_eq_true_eq] at h
  have h1 : IntKind.u64.min = 0 := by decide
  have h2 : IntKind.u64.max = 18446744073709551615 := by decide
  rw [h1, h2] at h
  omega
end Go.Proofs.YtflghpnpjmodaaaGreatDoor

namespace Go.Proofs.YtflghpnpjmodaaaGreatDoor
open Go.ChangeShapes Go.WideShapes Go.ChangeAt Go.RowKit

theorem cells5 : Tryz.prog.cellsOf 5 = 1 := by kernel_rfl
/-- A SLICE OF BYTES, by its one cell. -/
theorem bytes_cell {H : Type} {enc : TypeId × Value → H} {W : World} {v : Value} {fuel : Nat} {x : DataW H × List MemPlace}
    (hf : DataW.trod enc Tryz.prog W 0 (fun _ => true) true fuel 60 [v] = some x) :
    ∃ ao n cap bs, v = .slice ao n cap ∧ ByteRow W ao n cap bs ∧ (∀ i, i < n → 0 ≤ bs i ∧ bs i ≤ 255) ∧ (ao = none → n = 0 ∧ cap = 0) := by
  rcases open_ints Tryz.underlying60 Tryz.underlying5 cells5 hf with ⟨hcs, _⟩ | ⟨x, l, c, zs, hcs, _, hl, hm, hz, _, hcell, hwz⟩
  · simp at hcs
    subst hcs
    exact ⟨none, 0, 0, fun _ => 0, rfl, ⟨Nat.le_refl _, fun h => absurd h (by omega)⟩, fun i hi => absurd hi (by omega), fun _ => ⟨rfl, rfl⟩⟩
  · simp at hcs
    subst hcs
    rw [if_pos rfl] at hz
    refine ⟨some x, l, c, fun i => zs.getD i 0, rfl, ⟨hl, fun hp => ?_⟩, fun i _ => ?_, fun h => by cases h⟩
    · obtain ⟨b, off, rfl, hc⟩ := ints_at hcell (by omega)
      exact ⟨b, off, rfl, block_lt_of_cell (hc 0 (by omega)), fun i hi => hc i (by omega)⟩
    · have := range_u8 hwz i
      simpa [List.getD] using this
set_option maxRecDepth 100000 in
/-- A SLICE OF BYTES THAT CAME IN. -/
theorem bytes_in {H : Type} {enc : TypeId × Value → H} {W : World} {base : Nat} {v : Value} {d : DataW H} {p : List MemPlace}
    (hv : Value.okWide Tryz.prog W .any base 60 v) (h : DataW.Trod enc Tryz.prog W 0 (fun _ => true) true 60 v d p) :
    ∃ ao n cap bs, v = .slice ao n cap ∧ ByteRow W ao n cap bs ∧ (∀ i, i < n → 0 ≤ bs i ∧ bs i ≤ 255) ∧ (ao = none → n = 0 ∧ cap = 0) := by
  obtain ⟨a0, len0, cap0, rfl⟩ := okWide_slice Tryz.underlying60 hv
  obtain ⟨fuel, hf⟩ := h
  exact bytes_cell hf
end Go.Proofs.YtflghpnpjmodaaaGreatDoor

namespace Go.Proofs.YtflghpnpjmodaaaGreatDoor
open Go.ChangeShapes Go.WideShapes Go.ChangeAt Go.RowKit

theorem gTurns : Tryz.prog.globalNamed "hedgerow/md5.turns" = some 1 := by kernel_rfl
theorem gTurnsType : (Tryz.prog.globals[1]?).map (·.type) = some 279 := by kernel_rfl
theorem gAdds : Tryz.prog.globalNamed "hedgerow/md5.addends" = some 0 := by kernel_rfl
theorem gAddsType : (Tryz.prog.globals[0]?).map (·.type) = some 274 := by kernel_rfl
theorem cells52 : Tryz.prog.cellsOf 274 = 64 := by kernel_rfl
theorem cells55 : Tryz.prog.cellsOf 278 = 4 := by kernel_rfl
theorem cells32 : Tryz.prog.cellsOf 168 = 1 := by kernel_rfl
theorem cells3 : Tryz.prog.cellsOf 3 = 1 := by kernel_rfl
theorem bytes5 : Tryz.prog.bytesOf 5 = 1 := by kernel_rfl

theorem tabs_of {W : World} (h : laidMetH Tryz.prog [("hedgerow/md5.turns", Rows.laid_hedgerow_md5_turns), ("hedgerow/md5.addends", Rows.laid_hedgerow_md5_addends)] W) : Tabs W := by
  have h' : laidMet Tryz.prog [("hedgerow/md5.turns", Rows.laid_hedgerow_md5_turns), ("hedgerow/md5.addends", Rows.laid_hedgerow_md5_addends)] W := h
  refine ⟨fun i hi => ?_, fun i hi => ?_⟩
  · have ht : laidMet Tryz.prog [("hedgerow/md5.addends", Lib.tabData .u32 Md.tab)] W := laidMet.tail h'
    have := Lib.tabIs_of_head (rest := []) gAdds gAddsType Tryz.underlying274 Tryz.underlying168 cells32 cells52 ht
    exact this.cell gAdds i hi
  · obtain ⟨ps, ⟨g', t', cs, fuel, p, q, hg', ht', hvar, hd, _, _⟩, _⟩ := h'
    obtain rfl := Option.some.inj (gTurns.symm.trans hg')
    obtain rfl := Option.some.inj (gTurnsType.symm.trans ht')
    obtain ⟨xs, m, rfl, hx, hl, hxl, hall⟩ := DataW.trod_array Tryz.underlying279 hd
    have hx1 : xs.map (·.1) = [Lib.tabData .i64 [7, 12, 17, 22], Lib.tabData .i64 [5, 9, 14, 20], Lib.tabData .i64 [4, 11, 16, 23], Lib.tabData .i64 [6, 10, 15, 21]] := by
      have := congrArg Prod.fst hx
      simp only [Rows.laid_hedgerow_md5_turns] at this
      exact (DataW.agg.inj this).symm
    have row : ∀ r zs, r < 4 → (xs.map (·.1))[r]? = some (Lib.tabData .i64 zs) → (cs.toList.drop (r * 4)).take 4 = zs.map fun z => Value.int .i64 z := by
      intro r zs hr hz
      have h1 := hall r hr
      rw [cells55] at h1
      simp only [List.getElem?_map, Option.map_eq_some_iff] at hz
      obtain ⟨y, hy, hy1⟩ := hz
      rw [hy] at h1
      obtain ⟨y1, y2⟩ := y
      simp only at hy1
      subst hy1
      exact Lib.cells_of_tab Tryz.underlying278 Tryz.underlying3 cells3 cells55 h1
    have cell := World.var?_cell gTurns hvar i
    rw [cell]
    have hget : ∀ r j, j < 4 → cs[r * 4 + j]? = ((cs.toList.drop (r * 4)).take 4)[j]? := by
      intro r j hj
      rw [List.getElem?_take_of_lt hj, List.getElem?_drop, Array.getElem?_toList]
    rcases (show (∃ j, j < 4 ∧ i = 0 * 4 + j) ∨ (∃ j, j < 4 ∧ i = 1 * 4 + j) ∨ (∃ j, j < 4 ∧ i = 2 * 4 + j) ∨ (∃ j, j < 4 ∧ i = 3 * 4 + j) from by
      by_cases h1 : i < 4
      · exact Or.inl ⟨i, h1, by omega⟩
      · by_cases h2 : i < 8
        · exact Or.inr (Or.inl ⟨i - 4, by omega, by omega⟩)
        · by_cases h3 : i < 12
          · exact Or.inr (Or.inr (Or.inl ⟨i - 8, by omega, by omega⟩))
          · exact Or.inr (Or.inr (Or.inr ⟨i - 12, by omega, by omega⟩))) with ⟨j, hj, rfl⟩ | ⟨j, hj, rfl⟩ | ⟨j, hj, rfl⟩ | ⟨j, hj, rfl⟩
    · rw [hget 0 j hj, row 0 [7, 12, 17, 22] (by omega) (by rw [hx1]; rfl)]
      rcases (show j = 0 ∨ j = 1 ∨ j = 2 ∨ j = 3 by omega) with rfl | rfl | rfl | rfl <;> rfl
    · rw [hget 1 j hj, row 1 [5, 9, 14, 20] (by omega) (by rw [hx1]; rfl)]
      rcases (show j = 0 ∨ j = 1 ∨ j = 2 ∨ j = 3 by omega) with rfl | rfl | rfl | rfl <;> rfl
    · rw [hget 2 j hj, row 2 [4, 11, 16, 23] (by omega) (by rw [hx1]; rfl)]
      rcases (show j = 0 ∨ j = 1 ∨ j = 2 ∨ j = 3 by omega) with rfl | rfl | rfl | rfl <;> rfl
    · rw [hget 3 j hj, row 3 [6, 10, 15, 21] (by omega) (by rw [hx1]; rfl)]
      rcases (show j = 0 ∨ j = 1 ∨ j = 2 ∨ j = 3 by omega) with rfl | rfl | rfl | rfl <;> rfl

set_option maxRecDepth 100000 in
/-- A SLICE OF BYTES THAT CAME IN. -/
theorem bytes_in_d {H : Type} {enc : TypeId × Value → H} {W : World} {base : Nat} {v : Value} {d : DataW H} {p : List MemPlace}
    (hv : Value.okWide Tryz.prog W .any base 60 v) (h : DataW.Trod enc Tryz.prog W 0 (fun _ => true) true 60 v d p) :
    ∃ ao n cap bs, v = .slice ao n cap ∧ ByteRow W ao n cap bs ∧ (∀ i, i < n → 0 ≤ bs i ∧ bs i ≤ 255) ∧ (d = .nil ∧ n = 0 ∨ ∃ el sp, d = .slice el sp ∧ n ≤ el.length) ∧ (ao = none → n = 0 ∧ cap = 0) := by
  obtain ⟨a0, len0, cap0, rfl⟩ := okWide_slice Tryz.underlying60 hv
  obtain ⟨fuel, hf⟩ := h
  rcases open_ints Tryz.underlying60 Tryz.underlying5 cells5 hf with ⟨hcs, hx⟩ | ⟨x, l, c, zs, hcs, _, hl, hm, hz, hx, hcell, hwz⟩
  · simp [Value.cells] at hcs
    obtain ⟨rfl, rfl, rfl⟩ := hcs
    refine ⟨none, 0, 0, fun _ => 0, rfl, ⟨Nat.le_refl _, fun h => absurd h (by omega)⟩, fun i hi => absurd hi (by omega), ?_⟩
    exact ⟨Or.inl ⟨congrArg Prod.fst hx, rfl⟩, fun _ => ⟨rfl, rfl⟩⟩
  · simp [Value.cells] at hcs
    obtain ⟨rfl, rfl, rfl⟩ := hcs
    rw [if_pos rfl] at hz
    refine ⟨some x, len0, cap0, fun i => zs.getD i 0, rfl, ⟨hl, fun hp => ?_⟩, fun i _ => ?_, Or.inr ⟨_, _, congrArg Prod.fst hx, by simp [lits, hz, hl]⟩, fun h => by cases h⟩
    · obtain ⟨b, off, rfl, hc⟩ := ints_at hcell (by omega)
      exact ⟨b, off, rfl, block_lt_of_cell (hc 0 (by omega)), fun i hi => hc i (by omega)⟩
    · have := range_u8 hwz i
      simpa [List.getD] using this

/-- Such a slice's length is within the form's own reach. -/
theorem reach_in {H : Type} {ts : List TypeId} {ds : List (DataW H)} {d : DataW H} {n j : Nat} (hsz : (DataW.weightsEach Tryz.prog ts ds).all (· ≤ reachBytes) = true) (ht : ts[j]? = some 60) (hd : ds[j]? = some d)
    (h : d = .nil ∧ n = 0 ∨ ∃ el sp, d = .slice el sp ∧ n ≤ el.length) : n ≤ 140737488351232 := by
  rcases h with ⟨_, rfl⟩ | ⟨el, sp, rfl, hn⟩
  · omega
  · have := sized_slice hsz ht hd Tryz.underlying60
    rw [bytes5] at this
    simp only [reachBytes] at this
    omega

/-- A WORLD FOR THE WITNESS: w, the two tables (blocks 0 and 1) holding what their initialisers lay. -/
def rowPut (cs : Array Value) : Obj → Obj
  | .cells _ t frozen => .cells cs t frozen
  | o => o
def laidW (w : World) : World :=
  { w with heap := (w.heap.modify 0 (rowPut (Md.tab.map (Value.int .u32)).toArray)).modify 1 (rowPut (Md.trn.map (Value.int .i64)).toArray) }
end Go.Proofs.YtflghpnpjmodaaaGreatDoor

namespace Go.Proofs.YtflghpnpjmodaaaGreatDoor
namespace Vc
/-- A vector. -/
structure V where
  root : Int
  cost : Int
  bridge : Int
  port : Int
theorem V.eq {a b : V} (h0 : a.root = b.root) (h1 : a.cost = b.cost) (h2 : a.bridge = b.bridge) (h3 : a.port = b.port) : a = b := by
  cases a; cases b; simp_all
theorem V.eq_iff {a b : V} : a = b ↔ a.root = b.root ∧ a.cost = b.cost ∧ a.bridge = b.bridge ∧ a.port = b.port :=
  ⟨fun h => by subst h; exact ⟨rfl, rfl, rfl, rfl⟩, fun ⟨h0, h1, h2, h3⟩ => V.eq h0 h1 h2 h3⟩
instance (a b : V) : Decidable (a = b) := decidable_of_iff _ V.eq_iff.symm
/-- Better. -/
def lt (a b : V) : Prop := a.root < b.root ∨ (a.root = b.root ∧ (a.cost < b.cost ∨ (a.cost = b.cost ∧ (a.bridge < b.bridge ∨ (a.bridge = b.bridge ∧ a.port < b.port)))))
instance (a b : V) : Decidable (lt a b) := by unfold lt; infer_instance
theorem lt_irrefl (a : V) : ¬ lt a a := by unfold lt; omega
theorem lt_trans {a b c : V} (h : lt a b) (k : lt b c) : lt a c := by unfold lt at *; omega
theorem lt_asymm {a b : V} (h : lt a b) : ¬ lt b a := fun k => lt_irrefl a (lt_trans h k)
theorem lt_total (a b : V) : lt a b ∨ a = b ∨ lt b a := by
  rw [V.eq_iff]
  unfold lt
  omega
theorem eq_of {a b : V} (h : ¬ lt a b) (k : ¬ lt b a) : a = b := by
  rcases lt_total a b with e | e | e
  · exact absurd e h
  · exact e
  · exact absurd e k
def cmp (a b : V) : Int := if lt a b then -1 else if lt b a then 1 else 0
theorem cmp_lt {a b : V} : cmp a b < 0 ↔ lt a b := by
  unfold cmp
  by_cases h : lt a b
  · simp [h]
  · by_cases k : lt b a
    · simp [h, k]
    · simp [h, k]
theorem cmp_gt {a b : V} : cmp a b > 0 ↔ lt b a := by
  unfold cmp
  by_cases h : lt a b
  · simp [h, lt_asymm h]
  · by_cases k : lt b a
    · simp [h, k]
    · simp [h, k]
theorem cmp_zero {a b : V} : cmp a b = 0 ↔ a = b := by
  unfold cmp
  by_cases h : lt a b
  · simp only [h, if_true]
    constructor
    · intro e; omega
    · intro e; subst e; exact absurd h (lt_irrefl _)
  · by_cases k : lt b a
    · simp only [h, k, if_true, if_false]
      constructor
      · intro e; omega
      · intro e; subst e; exact absurd k (lt_irrefl _)
    · simp only [h, k, if_false, true_iff]
      exact eq_of h k
/-- A vector over a link. -/
def fitsOver (v : V) (c : Int) : Prop := (0 ≤ v.cost ∧ v.cost ≤ 1000000000) ∧ (0 ≤ c ∧ c ≤ 1000000000) ∧ v.cost + c ≤ 1000000000
instance (v : V) (c : Int) : Decidable (fitsOver v c) := by unfold fitsOver; infer_instance
def add (v : V) (c : Int) : V := ⟨v.root, v.cost + c, v.bridge, v.port⟩
def v0 : V := ⟨0, 0, 0, 0⟩
def overV (v : V) (c : Int) : V := if fitsOver v c then add v c else v0
theorem cmp_add (a b : V) (x : Int) : cmp (add a x) (add b x) = cmp a b := by
  have h1 : lt (add a x) (add b x) ↔ lt a b := by unfold lt add; simp only; omega
  have h2 : lt (add b x) (add a x) ↔ lt b a := by unfold lt add; simp only; omega
  unfold cmp
  simp only [h1, h2]
theorem cmp_farther (a : V) (x : Int) (h : 0 < x) : cmp (add a x) a = 1 := by
  unfold cmp
  have h2 : lt a (add a x) := by
    unfold lt add
    exact Or.inr ⟨rfl, Or.inl (by show a.cost < a.cost + x; omega)⟩
  rw [if_neg (lt_asymm h2), if_pos h2]
theorem add_add (a : V) (x y : Int) : add (add a x) y = add a (x + y) := by
  unfold add; simp only [Int.add_assoc]
/-- An offer. -/
structure Of where
  port : Int
  cost : Int
  age : Int
  vec : V
/-- A bridge may take it. -/
def may (id : Int) (o : Of) : Prop := fitsOver o.vec o.cost ∧ 0 ≤ o.port ∧ (0 ≤ o.age ∧ o.age < 20) ∧ o.vec.root < id
instance (id : Int) (o : Of) : Decidable (may id o) := by unfold may; infer_instance
def Of.v (o : Of) : V := add o.vec o.cost
/-- Offer o (vector v) goes ahead of offer p. -/
def ahead (o p : Of) : Prop := lt o.v p.v ∨ (o.v = p.v ∧ o.port < p.port)
instance (o p : Of) : Decidable (ahead o p) := by unfold ahead; infer_instance
/-- The best of the first n offers. -/
def chTo (id : Int) (os : Nat → Of) : Nat → Option Nat
  | 0 => none
  | k + 1 => if may id (os k) then (match chTo id os k with | none => some k | some i => if ahead (os k) (os i) then some k else some i) else chTo id os k
theorem chTo_none (id : Int) (os : Nat → Of) : ∀ n, chTo id os n = none → ∀ j, j < n → ¬ may id (os j)
  | 0, _, j, hj => by omega
  | k + 1, h, j, hj => by
    simp only [chTo] at h
    by_cases hm : may id (os k)
    · rw [if_pos hm] at h
      cases hc : chTo id os k with
      | none => rw [hc] at h; cases h
      | some i =>
        rw [hc] at h
        simp only at h
        by_cases ha : ahead (os k) (os i)
        · rw [if_pos ha] at h; cases h
        · rw [if_neg ha] at h; cases h
    · rw [if_neg hm] at h
      by_cases e : j = k
      · subst e; exact hm
      · exact chTo_none id os k h j (by omega)
theorem ahead_irrefl (a : Of) : ¬ ahead a a := by
  rintro (h | ⟨_, h⟩)
  · exact lt_irrefl _ h
  · omega
theorem ahead_trans {a b c : Of} (h : ahead a b) (k : ahead b c) : ahead a c := by
  rcases h with h | ⟨h, h2⟩ <;> rcases k with k | ⟨k, k2⟩
  · exact Or.inl (lt_trans h k)
  · exact Or.inl (by rw [← k]; exact h)
  · exact Or.inl (by rw [h]; exact k)
  · exact Or.inr ⟨h.trans k, by omega⟩
theorem chTo_some (id : Int) (os : Nat → Of) : ∀ n i, chTo id os n = some i → i < n ∧ may id (os i) ∧ ∀ j, j < n → may id (os j) → ¬ ahead (os j) (os i)
  | 0, i, h => by cases h
  | k + 1, i, h => by
    simp only [chTo] at h
    by_cases hm : may id (os k)
    · rw [if_pos hm] at h
      cases hc : chTo id os k with
      | none =>
        rw [hc] at h
        simp only [Option.some.injEq] at h
        subst h
        refine ⟨by omega, hm, fun j hj hmj => ?_⟩
        by_cases e : j = k
        · subst e; exact ahead_irrefl _
        · exact absurd hmj (chTo_none id os k hc j (by omega))
      | some i' =>
        rw [hc] at h
        simp only at h
        obtain ⟨h1, h2, h3⟩ := chTo_some id os k i' hc
        by_cases ha : ahead (os k) (os i')
        · rw [if_pos ha] at h
          simp only [Option.some.injEq] at h
          subst h
          refine ⟨by omega, hm, fun j hj hmj => ?_⟩
          by_cases e : j = k
          · subst e; exact ahead_irrefl _
          · exact fun q => h3 j (by omega) hmj (ahead_trans q ha)
        · rw [if_neg ha] at h
          simp only [Option.some.injEq] at h
          subst h
          refine ⟨by omega, h2, fun j hj hmj => ?_⟩
          by_cases e : j = k
          · subst e; exact ha
          · exact h3 j (by omega) hmj
    · rw [if_neg hm] at h
      obtain ⟨h1, h2, h3⟩ := chTo_some id os k i h
      refine ⟨by omega, h2, fun j hj hmj => ?_⟩
      by_cases e : j = k
      · subst e; exact absurd hmj hm
      · exact h3 j (by omega) hmj
/-- Two that none goes ahead of have the same vector and port. -/
theorem not_ahead {a b : Of} (h : ¬ ahead a b) (k : ¬ ahead b a) : a.v = b.v ∧ a.port = b.port := by
  have e : a.v = b.v := eq_of (fun q => h (Or.inl q)) (fun q => k (Or.inl q))
  have h1 : ¬ a.port < b.port := fun q => h (Or.inr ⟨e, q⟩)
  have h2 : ¬ b.port < a.port := fun q => k (Or.inr ⟨e.symm, q⟩)
  exact ⟨e, by omega⟩
/-- What a bridge says, how old it is, and its root port. -/
def chV (id : Int) (os : Nat → Of) (n : Nat) : V := match chTo id os n with | none => ⟨id, 0, id, 0⟩ | some i => ⟨(os i).v.root, (os i).v.cost, id, 0⟩
def chA (id : Int) (os : Nat → Of) (n : Nat) : Int := match chTo id os n with | none => 0 | some i => (os i).age + 1
def chP (id : Int) (os : Nat → Of) (n : Nat) : Int := match chTo id os n with | none => -1 | some i => (os i).port
/-- NO MATTER IN WHICH ORDER. -/
theorem ch_back (id : Int) (os ps : Nat → Of) (n : Nat) (h : ∀ j, j < n → ∃ i, i < n ∧ ps j = os i) (k : ∀ i, i < n → ∃ j, j < n ∧ os i = ps j) : chV id ps n = chV id os n ∧ chP id ps n = chP id os n := by
  cases h1 : chTo id os n with
  | none =>
    have e : chTo id ps n = none := by
      cases h2 : chTo id ps n with
      | none => rfl
      | some j =>
        obtain ⟨q1, q2, _⟩ := chTo_some id ps n j h2
        obtain ⟨i, hi, e⟩ := h j q1
        rw [e] at q2
        exact absurd q2 (chTo_none id os n h1 i hi)
    unfold chV chP
    rw [h1, e]
    exact ⟨rfl, rfl⟩
  | some i =>
    obtain ⟨p1, p2, p3⟩ := chTo_some id os n i h1
    cases h2 : chTo id ps n with
    | none =>
      obtain ⟨j, hj, e⟩ := k i p1
      rw [e] at p2
      exact absurd p2 (chTo_none id ps n h2 j hj)
    | some j =>
      obtain ⟨q1, q2, q3⟩ := chTo_some id ps n j h2
      obtain ⟨j', hj', e⟩ := h j q1
      obtain ⟨i', hi', e'⟩ := k i p1
      have r1 : ¬ ahead (ps j) (os i) := by rw [e]; exact p3 j' hj' (by rw [← e]; exact q2)
      have r2 : ¬ ahead (os i) (ps j) := by rw [e']; exact q3 i' hi' (by rw [← e']; exact p2)
      obtain ⟨z1, z2⟩ := not_ahead r1 r2
      unfold chV chP
      rw [h1, h2]
      simp only
      rw [z1, z2]
      exact ⟨rfl, rfl⟩
/-- What a port is. -/
def hears (says : V) (port : Int) (o : Of) : Prop := o.port = port ∧ (0 ≤ o.age ∧ o.age ≤ 20) ∧ lt o.vec ⟨says.root, says.cost, says.bridge, port⟩
instance (says : V) (port : Int) (o : Of) : Decidable (hears says port o) := by unfold hears; infer_instance
def someTo (p : Nat → Bool) : Nat → Bool
  | 0 => false
  | k + 1 => someTo p k || p k
def role (says : V) (root port : Int) (os : Nat → Of) (n : Nat) : Int := if port = root then 1 else if someTo (fun i => decide (hears says port (os i))) n = true then 3 else 2
/-- The best of n vectors. -/
def bestTo (vs : Nat → V) : Nat → Int
  | 0 => -1
  | k + 1 => if bestTo vs k < 0 ∨ lt (vs k) (vs (bestTo vs k).toNat) then (k : Int) else bestTo vs k
theorem bestTo_range (vs : Nat → V) : ∀ n, -1 ≤ bestTo vs n ∧ bestTo vs n < n ∧ (0 < n → 0 ≤ bestTo vs n)
  | 0 => ⟨by simp [bestTo], by simp [bestTo], fun h => by omega⟩
  | k + 1 => by
    have h := bestTo_range vs k
    simp only [bestTo]
    by_cases c : bestTo vs k < 0 ∨ lt (vs k) (vs (bestTo vs k).toNat)
    · rw [if_pos c]; exact ⟨by omega, by omega, fun _ => by omega⟩
    · rw [if_neg c]
      have : ¬ bestTo vs k < 0 := fun q => c (Or.inl q)
      exact ⟨by omega, by omega, fun _ => by omega⟩
theorem bestTo_least (vs : Nat → V) : ∀ n i, i < n → ¬ lt (vs i) (vs (bestTo vs n).toNat)
  | 0, i, h => by omega
  | k + 1, i, h => by
    have hr := bestTo_range vs k
    simp only [bestTo]
    by_cases c : bestTo vs k < 0 ∨ lt (vs k) (vs (bestTo vs k).toNat)
    · rw [if_pos c, Int.toNat_natCast]
      by_cases e : i = k
      · subst e; exact lt_irrefl _
      · rcases c with c | c
        · have := hr.2.2 (by omega); omega
        · exact fun q => bestTo_least vs k i (by omega) (lt_trans q c)
    · rw [if_neg c]
      by_cases e : i = k
      · subst e; exact fun q => c (Or.inr q)
      · exact bestTo_least vs k i (by omega)
/-- The better ones first. -/
def Sorted : List V → Prop
  | [] => True
  | a :: l => (∀ b ∈ l, ¬ lt b a) ∧ Sorted l
theorem sorted_unique : ∀ {l m : List V}, Sorted l → Sorted m → l.Perm m → l = m
  | [], m, _, _, h => by simpa using h.symm.eq_nil.symm
  | a :: l, [], _, _, h => by simpa using h.eq_nil
  | a :: l, b :: m, hl, hm, h => by
    have e : a = b := by
      have h1 : a ∈ b :: m := h.subset (List.mem_cons_self ..)
      have h2 : b ∈ a :: l := h.symm.subset (List.mem_cons_self ..)
      rcases List.mem_cons.1 h1 with h1 | h1
      · exact h1
      · rcases List.mem_cons.1 h2 with h2 | h2
        · exact h2.symm
        · exact eq_of (hm.1 a h1) (hl.1 b h2)
    subst e
    rw [sorted_unique hl.2 hm.2 (List.Perm.cons_inv h)]
/-- What k comes to, from the right, for v to go in. -/
def spot (v : V) (vs : Nat → V) : Nat → Nat
  | 0 => 0
  | k + 1 => if lt v (vs k) then spot v vs k else k + 1
theorem spot_le (v : V) (vs : Nat → V) : ∀ k, spot v vs k ≤ k
  | 0 => Nat.le_refl _
  | k + 1 => by
    simp only [spot]
    by_cases c : lt v (vs k)
    · rw [if_pos c]; have := spot_le v vs k; omega
    · rw [if_neg c]; omega
end Vc
end Go.Proofs.YtflghpnpjmodaaaGreatDoor

namespace Go.Proofs.YtflghpnpjmodaaaGreatDoor
namespace Pl
open Vc (V Of)
/-- A link; what a bridge has of a link. -/
structure Lk where
  a : Int
  pa : Int
  b : Int
  pb : Int
  cost : Int
  up : Bool
structure En where
  port : Int
  cost : Int
  other : Int
  oport : Int
  live : Bool
/-- The first error of n, and where. -/
def firstTo (f : Nat → Int) : Nat → Int × Int
  | 0 => (0, 0)
  | k + 1 => if (firstTo f k).1 ≠ 0 then firstTo f k else if f k ≠ 0 then (f k, (k : Int)) else (0, 0)
theorem firstTo_zero (f : Nat → Int) : ∀ n, (firstTo f n).1 = 0 → firstTo f n = (0, 0) ∧ ∀ i, i < n → f i = 0
  | 0, _ => ⟨rfl, fun i hi => absurd hi (by omega)⟩
  | k + 1, h => by
    simp only [firstTo] at h ⊢
    by_cases h1 : (firstTo f k).1 = 0
    · obtain ⟨e1, e2⟩ := firstTo_zero f k h1
      by_cases h2 : f k = 0
      · refine ⟨by simp [h1, h2], fun i hi => ?_⟩
        by_cases e : i = k
        · subst e; exact h2
        · exact e2 i (by omega)
      · simp [h1, h2] at h
    · simp [h1] at h
theorem firstTo_here (f : Nat → Int) (k : Nat) (h : ∀ i, i < k → f i = 0) (hk : f k ≠ 0) : ∀ n, k < n → firstTo f n = (f k, (k : Int)) := by
  have h0 : ∀ m, m ≤ k → firstTo f m = (0, 0) := by
    intro m
    induction m with
    | zero => intro _; rfl
    | succ m ih =>
      intro hm
      simp [firstTo, ih (by omega), h m (by omega)]
  intro n hn
  induction n with
  | zero => omega
  | succ n ih =>
    by_cases e : k = n
    · subst e
      simp [firstTo, h0 k (Nat.le_refl _), hk]
    · have := ih (by omega)
      simp [firstTo, this, hk]
theorem firstTo_all (f : Nat → Int) (n : Nat) (h : ∀ i, i < n → f i = 0) : firstTo f n = (0, 0) := by
  induction n with
  | zero => rfl
  | succ n ih => simp [firstTo, ih (fun i hi => h i (by omega)), h n (by omega)]
def oddP (p : Int) : Bool := !decide (0 ≤ p ∧ p ≤ 61440) || decide (p % 4096 ≠ 0)
def lkErr (K : Nat) (l : Lk) : Int :=
  if ¬ (0 ≤ l.a ∧ l.a ≤ (K : Int) - 1) ∨ ¬ (0 ≤ l.b ∧ l.b ≤ (K : Int) - 1) then 6 else if l.a = l.b then 8
  else if ¬ (1 ≤ l.pa ∧ l.pa ≤ 30) ∨ ¬ (1 ≤ l.pb ∧ l.pb ≤ 30) ∨ ¬ (1 ≤ l.cost ∧ l.cost ≤ 200000) then 3 else 0
def isEnd (l : Lk) (x p : Int) : Bool := decide (l.a = x ∧ l.pa = p) || decide (l.b = x ∧ l.pb = p)
def lErr (K : Nat) (ls : Nat → Lk) (i : Nat) : Int :=
  if lkErr K (ls i) ≠ 0 then lkErr K (ls i) else if Vc.someTo (fun j => isEnd (ls j) (ls i).a (ls i).pa || isEnd (ls j) (ls i).b (ls i).pb) i = true then 7 else 0
/-- The ends at bridge i of the first k links. -/
def endsAt (l : Lk) (lv : Bool) (i : Nat) : List En := (if l.a = (i : Int) then [⟨l.pa, l.cost, l.b, l.pb, lv⟩] else []) ++ (if l.b = (i : Int) then [⟨l.pb, l.cost, l.a, l.pa, lv⟩] else [])
def endsTo (ls : Nat → Lk) (lv : Nat → Bool) (i : Nat) : Nat → List En
  | 0 => []
  | k + 1 => endsTo ls lv i k ++ endsAt (ls k) (lv k) i
/-- .. as their ports rise. -/
def leP (x y : En) : Bool := decide (x.port ≤ y.port)
def ends (ls : Nat → Lk) (lv : Nat → Bool) (L i : Nat) : List En := (endsTo ls lv i L).mergeSort leP
/-- What a bridge says, and its root port. -/
structure St where
  v : V
  rp : Int
def offerOf (x : Nat → St) (e : En) : Of := ⟨e.port, e.cost, 0, ⟨(x e.other.toNat).v.root, (x e.other.toNat).v.cost, (x e.other.toNat).v.bridge, e.oport⟩⟩
def o0 : Of := ⟨0, 0, 0, Vc.v0⟩
def offs (E : List En) (x : Nat → St) : List Of := (E.filter (·.live)).map (offerOf x)
def lf (l : List Of) (j : Nat) : Of := l.getD j o0
def chS (id : Int) (l : List Of) : St := ⟨Vc.chV id (lf l) l.length, Vc.chP id (lf l) l.length⟩
def step (ids : Nat → Int) (E : Nat → List En) (x : Nat → St) (i : Nat) : Nat → St := fun j => if j = i then chS (ids i) (offs (E i) x) else x j
def roundTo (ids : Nat → Int) (E : Nat → List En) (x : Nat → St) : Nat → (Nat → St)
  | 0 => x
  | k + 1 => step ids E (roundTo ids E x k) k
def rounds (ids : Nat → Int) (E : Nat → List En) (K : Nat) : Nat → (Nat → St)
  | 0 => fun i => ⟨⟨ids i, 0, ids i, 0⟩, 0⟩
  | r + 1 => roundTo ids E (rounds ids E K r) K
/-- Its own name stays. -/
theorem chS_bridge (id : Int) (l : List Of) : (chS id l).v.bridge = id ∧ (chS id l).v.port = 0 := by
  unfold chS Vc.chV
  cases Vc.chTo id (lf l) l.length <;> exact ⟨rfl, rfl⟩
theorem roundTo_bridge (ids : Nat → Int) (E : Nat → List En) (x : Nat → St) (h : ∀ i, (x i).v.bridge = ids i ∧ (x i).v.port = 0) : ∀ k i, (roundTo ids E x k i).v.bridge = ids i ∧ (roundTo ids E x k i).v.port = 0
  | 0, i => h i
  | k + 1, i => by
    simp only [roundTo, step]
    by_cases e : i = k
    · rw [if_pos e, e]; exact chS_bridge _ _
    · rw [if_neg e]; exact roundTo_bridge ids E x h k i
theorem rounds_bridge (ids : Nat → Int) (E : Nat → List En) (K : Nat) : ∀ r i, (rounds ids E K r i).v.bridge = ids i ∧ (rounds ids E K r i).v.port = 0
  | 0, _ => ⟨rfl, rfl⟩
  | r + 1, i => roundTo_bridge ids E _ (rounds_bridge ids E K r) K i
def roleAt (s : St) (l : List Of) (e : En) : Int := if e.live = true then Vc.role s.v s.rp e.port (lf l) l.length else 0
/-- Rising lists of the same ends are the same. -/
theorem sorted_unique {l l' : List En} (hp : l.Perm l') (h : l.Pairwise (fun x y => x.port < y.port)) (h' : l'.Pairwise (fun x y => x.port < y.port)) : l = l' :=
  hp.eq_of_pairwise (fun a b _ _ h1 h2 => by omega) h h'
end Pl
end Go.Proofs.YtflghpnpjmodaaaGreatDoor
