/- What all four rows ask: the tables out of the row's list; a slice of bytes that came in; a world for the witness. -/
import Derived.Test.YtllpfebmbpbffaaDoorW4
import Derived.ProofKit
import Derived.OpenShut
import Derived.ChangeOld
import Derived.SizedLaws
import Derived.Deep.DeepHandedRow
import Derived.Lib.LaidTab
import Derived.Stop.LaidErr
namespace Go.Proofs.YtllpfebmbpbffaaDoor
open Go.ChangeShapes Go.WideShapes Go.ChangeAt Go.RowKit

theorem own : ownKnob Tryd.prog.godebug = none := by kernel_rfl
theorem laidOut : laidOutB Tryd.prog = true := by kernel_rfl
theorem gTurns : Tryd.prog.globalNamed "hedgerow/md5.turns" = some 1 := by kernel_rfl
theorem gTurnsType : (Tryd.prog.globals[1]?).map (·.type) = some 56 := by kernel_rfl
theorem gAdds : Tryd.prog.globalNamed "hedgerow/md5.addends" = some 0 := by kernel_rfl
theorem gAddsType : (Tryd.prog.globals[0]?).map (·.type) = some 52 := by kernel_rfl
theorem cells52 : Tryd.prog.cellsOf 52 = 64 := by kernel_rfl
theorem cells55 : Tryd.prog.cellsOf 55 = 4 := by kernel_rfl
theorem cells32 : Tryd.prog.cellsOf 32 = 1 := by kernel_rfl
theorem cells3 : Tryd.prog.cellsOf 3 = 1 := by kernel_rfl
theorem cells5 : Tryd.prog.cellsOf 5 = 1 := by kernel_rfl
theorem bytes5 : Tryd.prog.bytesOf 5 = 1 := by kernel_rfl

theorem tabs_of {W : World} (h : laidMetH Tryd.prog [("hedgerow/md5.turns", Rows.laid_hedgerow_md5_turns), ("hedgerow/md5.addends", Rows.laid_hedgerow_md5_addends)] W) : Tabs W := by
  have h' : laidMet Tryd.prog [("hedgerow/md5.turns", Rows.laid_hedgerow_md5_turns), ("hedgerow/md5.addends", Rows.laid_hedgerow_md5_addends)] W := h
  refine ⟨fun i hi => ?_, fun i hi => ?_⟩
  · have ht : laidMet Tryd.prog [("hedgerow/md5.addends", Lib.tabData .u32 Md.tab)] W := laidMet.tail h'
    have := Lib.tabIs_of_head (rest := []) gAdds gAddsType Tryd.underlying52 Tryd.underlying32 cells32 cells52 ht
    exact this.cell gAdds i hi
  · obtain ⟨ps, ⟨g', t', cs, fuel, p, q, hg', ht', hvar, hd, _, _⟩, _⟩ := h'
    obtain rfl := Option.some.inj (gTurns.symm.trans hg')
    obtain rfl := Option.some.inj (gTurnsType.symm.trans ht')
    obtain ⟨xs, m, rfl, hx, hl, hxl, hall⟩ := DataW.trod_array Tryd.underlying56 hd
    have hx1 : xs.map (·.1) = [Lib.tabData .i64 [7, 12, 17, 22], Lib.tabData .i64 [5, 9, 14, 20], Lib.tabData .i64 [4, 11, 16, 23], Lib.tabData .i64 [6, 10, 15, 21]] := by
      have := congrArg Prod.fst hx
      simp only [Rows.laid_hedgerow_md5_turns] at this
      exact (DataW.agg.inj this).symm
    have row : ∀ r zs, r < 4 → (xs.map (·.1))[r]? = some (Lib.tabData .i64 zs) → (cs.toList.drop (r * 4)).take 4 = zs.map fun z => Value.int .i64 z := by
      intro r zs hr hz
      have h1 := hall r hr
      rw [cells55] at h1
      simp only [List.getElem?_map, Option.map_eq_some_iff] at hz
      obtain ⟨y, hy, hy1⟩ := hz
      rw [hy] at h1
      obtain ⟨y1, y2⟩ := y
      simp only at hy1
      subst hy1
      exact Lib.cells_of_tab Tryd.underlying55 Tryd.underlying3 cells3 cells55 h1
    have cell := World.var?_cell gTurns hvar i
    rw [cell]
    have hget : ∀ r j, j < 4 → cs[r * 4 + j]? = ((cs.toList.drop (r * 4)).take 4)[j]? := by
      intro r j hj
      rw [List.getElem?_take_of_lt hj, List.getElem?_drop, Array.getElem?_toList]
    rcases (show (∃ j, j < 4 ∧ i = 0 * 4 + j) ∨ (∃ j, j < 4 ∧ i = 1 * 4 + j) ∨ (∃ j, j < 4 ∧ i = 2 * 4 + j) ∨ (∃ j, j < 4 ∧ i = 3 * 4 + j) from by
      by_cases h1 : i < 4
      · exact Or.inl ⟨i, h1, by omega⟩
      · by_cases h2 : i < 8
        · exact Or.inr (Or.inl ⟨i - 4, by omega, by omega⟩)
        · by_cases h3 : i < 12
          · exact Or.inr (Or.inr (Or.inl ⟨i - 8, by omega, by omega⟩))
          · exact Or.inr (Or.inr (Or.inr ⟨i - 12, by omega, by omega⟩))) with ⟨j, hj, rfl⟩ | ⟨j, hj, rfl⟩ | ⟨j, hj, rfl⟩ | ⟨j, hj, rfl⟩
    · rw [hget 0 j hj, row 0 [7, 12, 17, 22] (by omega) (by rw [hx1]; rfl)]
      rcases (show j = 0 ∨ j = 1 ∨ j = 2 ∨ j = 3 by omega) with rfl | rfl | rfl | rfl <;> rfl
    · rw [hget 1 j hj, row 1 [5, 9, 14, 20] (by omega) (by rw [hx1]; rfl)]
      rcases (show j = 0 ∨ j = 1 ∨ j = 2 ∨ j = 3 by omega) with rfl | rfl | rfl | rfl <;> rfl
    · rw [hget 2 j hj, row 2 [4, 11, 16, 23] (by omega) (by rw [hx1]; rfl)]
      rcases (show j = 0 ∨ j = 1 ∨ j = 2 ∨ j = 3 by omega) with rfl | rfl | rfl | rfl <;> rfl
    · rw [hget 3 j hj, row 3 [6, 10, 15, 21] (by omega) (by rw [hx1]; rfl)]
      rcases (show j = 0 ∨ j = 1 ∨ j = 2 ∨ j = 3 by omega) with rfl | rfl | rfl | rfl <;> rfl

/-- A SLICE OF BYTES THAT CAME IN. -/
theorem bytes_in {H : Type} {enc : TypeId × Value → H} {W : World} {base : Nat} {v : Value} {d : DataW H} {p : List MemPlace}
    (hv : Value.okWide Tryd.prog W .any base 22 v) (h : DataW.Trod enc Tryd.prog W 0 (fun _ => true) true 22 v d p) :
    ∃ ao n cap bs, v = .slice ao n cap ∧ ByteRow W ao n cap bs ∧ (∀ i, i < n → 0 ≤ bs i ∧ bs i ≤ 255) ∧ (d = .nil ∧ n = 0 ∨ ∃ el sp, d = .slice el sp ∧ n ≤ el.length) ∧ (ao = none → n = 0 ∧ cap = 0) := by
  obtain ⟨a0, len0, cap0, rfl⟩ := okWide_slice Tryd.underlying22 hv
  obtain ⟨fuel, hf⟩ := h
  rcases open_ints Tryd.underlying22 Tryd.underlying5 cells5 hf with ⟨hcs, hx⟩ | ⟨x, l, c, zs, hcs, _, hl, hm, hz, hx, hcell, hwz⟩
  · simp [Value.cells] at hcs
    obtain ⟨rfl, rfl, rfl⟩ := hcs
    refine ⟨none, 0, 0, fun _ => 0, rfl, ⟨Nat.le_refl _, fun h => absurd h (by omega)⟩, fun i hi => absurd hi (by omega), ?_⟩
    exact ⟨Or.inl ⟨congrArg Prod.fst hx, rfl⟩, fun _ => ⟨rfl, rfl⟩⟩
  · simp [Value.cells] at hcs
    obtain ⟨rfl, rfl, rfl⟩ := hcs
    rw [if_pos rfl] at hz
    refine ⟨some x, len0, cap0, fun i => zs.getD i 0, rfl, ⟨hl, fun hp => ?_⟩, fun i _ => ?_, Or.inr ⟨_, _, congrArg Prod.fst hx, by simp [lits, hz, hl]⟩, fun h => by cases h⟩
    · obtain ⟨b, off, rfl, hc⟩ := ints_at hcell (by omega)
      exact ⟨b, off, rfl, block_lt_of_cell (hc 0 (by omega)), fun i hi => hc i (by omega)⟩
    · have := range_u8 hwz i
      simpa [List.getD] using this

/-- Such a slice's length is within the form's own reach. -/
theorem reach_in {H : Type} {ts : List TypeId} {ds : List (DataW H)} {d : DataW H} {n j : Nat} (hsz : (DataW.weightsEach Tryd.prog ts ds).all (· ≤ reachBytes) = true) (ht : ts[j]? = some 22) (hd : ds[j]? = some d)
    (h : d = .nil ∧ n = 0 ∨ ∃ el sp, d = .slice el sp ∧ n ≤ el.length) : n ≤ 140737488351232 := by
  rcases h with ⟨_, rfl⟩ | ⟨el, sp, rfl, hn⟩
  · omega
  · have := sized_slice hsz ht hd Tryd.underlying22
    rw [bytes5] at this
    simp only [reachBytes] at this
    omega

/-- A WORLD FOR THE WITNESS: w, the two tables (blocks 0 and 1) holding what their initialisers lay. -/
def rowPut (cs : Array Value) : Obj → Obj
  | .cells _ t frozen => .cells cs t frozen
  | o => o
def laidW (w : World) : World :=
  { w with heap := (w.heap.modify 0 (rowPut (Md.tab.map (Value.int .u32)).toArray)).modify 1 (rowPut (Md.trn.map (Value.int .i64)).toArray) }
end Go.Proofs.YtllpfebmbpbffaaDoor
