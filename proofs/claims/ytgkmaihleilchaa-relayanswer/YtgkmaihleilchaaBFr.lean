/- What the rows of books ask: a slice of entries, a number without a sign, that came in. -/
import Derived.Test.YtgkmaihleilchaaBB
import Derived.Test.YtgkmaihleilchaaFrB
import Derived.Deep.Slices
namespace Go.Proofs.Ytgkmaihleilchaa
open Go.ChangeShapes Go.WideShapes Go.ChangeAt Go.RowKit
set_option maxRecDepth 100000
open Bk (E)

theorem cellsE4 : Try.prog.cellsOf 76 = 4 := by kernel_rfl
theorem elist4 {α : Type} {l : List α} (h : l.length = 4) : ∃ c0 c1 c2 c3, l = [c0, c1, c2, c3] := by
  match l, h with
  | [c0, c1, c2, c3], _ => exact ⟨c0, c1, c2, c3, rfl⟩
/-- AN ENTRY, by its four cells. -/
theorem entry_cells {H : Type} {enc : TypeId × Value → H} {W : World} {c0 c1 c2 c3 : Value} {fuel : Nat} {x : DataW H × List MemPlace}
    (hf : DataW.trod enc Try.prog W 0 (fun _ => true) true fuel 76 [c0, c1, c2, c3] = some x) :
    ∃ v : E, c0 = .int .i64 v.vid ∧ c1 = .int .u64 v.addr ∧ c2 = .int .i64 v.port ∧ c3 = .int .i64 v.age := by
  obtain ⟨xs, m, _, _, _, hlen, hfs⟩ := DataW.trod_struct Try.underlying76 hf
  obtain ⟨y0, y1, y2, y3, rfl⟩ := elist4 (by simpa using hlen)
  obtain ⟨ro, e0, _, _⟩ := DataW.trod_int Try.underlying3 (hfs 0 _ rfl)
  obtain ⟨co, e1, _, _⟩ := DataW.trod_int Try.underlying27 (hfs 1 _ rfl)
  obtain ⟨br, e2, _, _⟩ := DataW.trod_int Try.underlying3 (hfs 2 _ rfl)
  obtain ⟨po, e3, _, _⟩ := DataW.trod_int Try.underlying3 (hfs 3 _ rfl)
  exact ⟨⟨ro, co, br, po⟩, one_of e0, one_of e1, one_of e2, one_of e3⟩
/-- A SLICE OF ENTRIES, by its one cell. -/
theorem entries_cell {H : Type} {enc : TypeId × Value → H} {W : World} {v : Value} {fuel : Nat} {x : DataW H × List MemPlace}
    (hf : DataW.trod enc Try.prog W 0 (fun _ => true) true fuel 26 [v] = some x) :
    ∃ ao cap l, v = .slice ao l.length cap ∧ BEL W ao cap l ∧ NilOk ao l.length cap ∧ l.length ≤ 9223372036854775807 := by
  rcases Deep.open_slice Try.underlying26 hf with ⟨hcs, _⟩ | ⟨a, len, cap, m, k, D, Pl, hcs, _, hl, hm, hmm, _, hx⟩
  · simp at hcs
    subst hcs
    exact ⟨none, 0, [], rfl, CRow.none _ _ _ _ _, fun _ => ⟨rfl, rfl⟩, by simp⟩
  · simp at hcs
    subst hcs
    rw [if_pos rfl] at hmm
    have each : ∀ i, i < len → ∃ t : E, ∀ j, j < 4 → W.cell? (a.add (i * 4 + j)) = some (eC t j) := by
      intro i hi
      obtain ⟨cs', h1, h2⟩ := hx i (by omega)
      rw [cellsE4] at h1
      obtain ⟨_, hlen, hcell⟩ := World.cells?_some h1
      obtain ⟨c0, c1, c2, c3, rfl⟩ := elist4 hlen
      obtain ⟨t, rfl, rfl, rfl, rfl⟩ := entry_cells h2
      refine ⟨t, fun j hj => ?_⟩
      have kj := hcell j (by omega)
      rw [Deep.add_add] at kj
      rw [kj]
      rcases (show j = 0 ∨ j = 1 ∨ j = 2 ∨ j = 3 by omega) with rfl | rfl | rfl | rfl
      · rfl
      · rfl
      · rfl
      · rfl
    haveI : Inhabited E := ⟨⟨0, 0, 0, 0⟩⟩
    obtain ⟨q, hq⟩ := Deep.choose_lt each
    have hrow : CRow W (some a) len cap 4 (fun i => eC (q i)) := by
      refine ⟨hl, fun hp => ?_⟩
      obtain ⟨b, off, spot⟩ := a
      have hspot : spot = none := by
        have h0 := hq 0 (by omega) 0 (by omega)
        simpa [Addr.add] using World.cell?_spot h0
      subst hspot
      have hc : ∀ i, i < len → ∀ j, j < 4 → _ := fun i hi j hj => hq i hi j hj
      simp only [add_row] at hc
      exact ⟨b, off, rfl, block_lt_of_cell (hc 0 hp 0 (by omega)), fun i hi j hj => by have := hc i hi j hj; rw [← Nat.add_assoc] at this; exact this⟩
    refine ⟨some a, cap, Bk.listOf len q, by rw [Bk.listOf_length], BEL.of hrow, (fun e => by cases e), by rw [Bk.listOf_length]; unfold maxLen at hm; omega⟩
theorem entries_in {H : Type} {enc : TypeId × Value → H} {W : World} {base : Nat} {v : Value} {D : DataW H} {ps : List MemPlace}
    (hv : Value.okWide Try.prog W .any base 26 v) (h : DataW.Trod enc Try.prog W 0 (fun _ => true) true 26 v D ps) :
    ∃ ao cap l, v = .slice ao l.length cap ∧ BEL W ao cap l ∧ NilOk ao l.length cap ∧ l.length ≤ 9223372036854775807 := by
  obtain ⟨a0, len0, cap0, rfl⟩ := okWide_slice Try.underlying26 hv
  obtain ⟨fuel, hf⟩ := h
  exact entries_cell hf
/-- A NUMBER WITHOUT A SIGN THAT CAME IN. -/
theorem u64_in {H : Type} {enc : TypeId × Value → H} {W : World} {base : Nat} {v : Value} {D : DataW H} {ps : List MemPlace}
    (hv : Value.okWide Try.prog W .any base 27 v) (h : DataW.Trod enc Try.prog W 0 (fun _ => true) true 27 v D ps) :
    ∃ z, v = .int .u64 z ∧ 0 ≤ z ∧ z < 18446744073709551616 := by
  obtain ⟨z0, rfl⟩ := okWide_int Try.underlying27 hv
  obtain ⟨fuel, hf⟩ := h
  obtain ⟨z, e, _, w⟩ := DataW.trod_int Try.underlying27 hf
  have := wf_u64 w
  have e2 := one_of e
  injection e2 with _ e3
  exact ⟨z0, rfl, by omega, by omega⟩
end Go.Proofs.Ytgkmaihleilchaa
