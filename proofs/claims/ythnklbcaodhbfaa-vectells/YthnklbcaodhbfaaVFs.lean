/- What the rows of vectors ask: slices of vectors, and of offers, that came in. -/
import Derived.Test.YthnklbcaodhbfaaVFr
namespace Go.Proofs.Ythnklbcaodhbfaa
open Go.ChangeShapes Go.WideShapes Go.ChangeAt Go.RowKit
open Vc (V Of)

theorem cellsO7 : Try.prog.cellsOf 42 = 7 := by kernel_rfl
theorem vlist7 {α : Type} {l : List α} (h : l.length = 7) : ∃ c0 c1 c2 c3 c4 c5 c6, l = [c0, c1, c2, c3, c4, c5, c6] := by
  match l, h with
  | [c0, c1, c2, c3, c4, c5, c6], _ => exact ⟨c0, c1, c2, c3, c4, c5, c6, rfl⟩
/-- AN OFFER, by its seven cells. -/
theorem of_seven {H : Type} {enc : TypeId × Value → H} {W : World} {c0 c1 c2 c3 c4 c5 c6 : Value} {fuel : Nat} {x : DataW H × List MemPlace}
    (hf : DataW.trod enc Try.prog W 0 (fun _ => true) true fuel 42 [c0, c1, c2, c3, c4, c5, c6] = some x) :
    ∃ o : Of, [c0, c1, c2, c3, c4, c5, c6] = [ofC o 0, ofC o 1, ofC o 2, ofC o 3, ofC o 4, ofC o 5, ofC o 6] := by
  obtain ⟨xs, m, _, _, _, hlen, hfs⟩ := DataW.trod_struct Try.underlying42 hf
  obtain ⟨y0, y1, y2, y3, rfl⟩ := vlist4 (by simpa using hlen)
  obtain ⟨po, e0, _, _⟩ := DataW.trod_int Try.underlying3 (hfs 0 _ rfl)
  obtain ⟨co, e1, _, _⟩ := DataW.trod_int Try.underlying3 (hfs 1 _ rfl)
  obtain ⟨ag, e2, _, _⟩ := DataW.trod_int Try.underlying3 (hfs 2 _ rfl)
  have g3 := hfs 3 _ rfl
  obtain ⟨v, e3, e4, e5, e6⟩ := vq_cells g3
  refine ⟨⟨po, co, ag, v⟩, ?_⟩
  rw [one_of e0, one_of e1, one_of e2, e3, e4, e5, e6]
  rfl
/-- A SLICE OF VECTORS, by its one cell. -/
theorem vecs_cell {H : Type} {enc : TypeId × Value → H} {W : World} {v : Value} {fuel : Nat} {x : DataW H × List MemPlace}
    (hf : DataW.trod enc Try.prog W 0 (fun _ => true) true fuel 22 [v] = some x) :
    ∃ ao n cap vs, v = .slice ao n cap ∧ VRow W ao n cap vs ∧ NilOk ao n cap ∧ n ≤ 9223372036854775807 := by
  rcases Deep.open_slice Try.underlying22 hf with ⟨hcs, _⟩ | ⟨a, len, cap, m, k, D, Pl, hcs, _, hl, hm, hmm, _, hx⟩
  · simp at hcs
    subst hcs
    exact ⟨none, 0, 0, fun _ => ⟨0, 0, 0, 0⟩, rfl, CRow.none _ _ _ _ _, fun _ => ⟨rfl, rfl⟩, by omega⟩
  · simp at hcs
    subst hcs
    rw [if_pos rfl] at hmm
    have each : ∀ i, i < len → ∃ t : V, ∀ j, j < 4 → W.cell? (a.add (i * 4 + j)) = some (vC t j) := by
      intro i hi
      obtain ⟨cs', h1, h2⟩ := hx i (by omega)
      rw [cellsV4] at h1
      obtain ⟨_, hlen, hcell⟩ := World.cells?_some h1
      obtain ⟨c0, c1, c2, c3, rfl⟩ := vlist4 hlen
      obtain ⟨t, rfl, rfl, rfl, rfl⟩ := vq_cells h2
      refine ⟨t, fun j hj => ?_⟩
      have kj := hcell j (by omega)
      rw [Deep.add_add] at kj
      rw [kj]
      rcases (show j = 0 ∨ j = 1 ∨ j = 2 ∨ j = 3 by omega) with rfl | rfl | rfl | rfl
      · rfl
      · rfl
      · rfl
      · rfl
    haveI : Inhabited V := ⟨⟨0, 0, 0, 0⟩⟩
    obtain ⟨q, hq⟩ := Deep.choose_lt each
    refine ⟨some a, len, cap, q, rfl, ⟨hl, fun hp => ?_⟩, (fun e => by cases e), by unfold maxLen at hm; omega⟩
    obtain ⟨b, off, spot⟩ := a
    have hspot : spot = none := by
      have h0 := hq 0 (by omega) 0 (by omega)
      simpa [Addr.add] using World.cell?_spot h0
    subst hspot
    have hc : ∀ i, i < len → ∀ j, j < 4 → _ := fun i hi j hj => hq i hi j hj
    simp only [add_row] at hc
    exact ⟨b, off, rfl, block_lt_of_cell (hc 0 hp 0 (by omega)), fun i hi j hj => by have := hc i hi j hj; rw [← Nat.add_assoc] at this; exact this⟩
theorem vecs_in {H : Type} {enc : TypeId × Value → H} {W : World} {base : Nat} {v : Value} {D : DataW H} {ps : List MemPlace}
    (hv : Value.okWide Try.prog W .any base 22 v) (h : DataW.Trod enc Try.prog W 0 (fun _ => true) true 22 v D ps) :
    ∃ ao n cap vs, v = .slice ao n cap ∧ VRow W ao n cap vs ∧ NilOk ao n cap ∧ n ≤ 9223372036854775807 := by
  obtain ⟨a0, len0, cap0, rfl⟩ := okWide_slice Try.underlying22 hv
  obtain ⟨fuel, hf⟩ := h
  exact vecs_cell hf
/-- A SLICE OF OFFERS, by its one cell. -/
theorem offers_cell {H : Type} {enc : TypeId × Value → H} {W : World} {v : Value} {fuel : Nat} {x : DataW H × List MemPlace}
    (hf : DataW.trod enc Try.prog W 0 (fun _ => true) true fuel 24 [v] = some x) :
    ∃ ao n cap vs, v = .slice ao n cap ∧ ORow W ao n cap vs ∧ NilOk ao n cap ∧ n ≤ 9223372036854775807 := by
  rcases Deep.open_slice Try.underlying24 hf with ⟨hcs, _⟩ | ⟨a, len, cap, m, k, D, Pl, hcs, _, hl, hm, hmm, _, hx⟩
  · simp at hcs
    subst hcs
    exact ⟨none, 0, 0, fun _ => ⟨0, 0, 0, ⟨0, 0, 0, 0⟩⟩, rfl, CRow.none _ _ _ _ _, fun _ => ⟨rfl, rfl⟩, by omega⟩
  · simp at hcs
    subst hcs
    rw [if_pos rfl] at hmm
    have each : ∀ i, i < len → ∃ t : Of, ∀ j, j < 7 → W.cell? (a.add (i * 7 + j)) = some (ofC t j) := by
      intro i hi
      obtain ⟨cs', h1, h2⟩ := hx i (by omega)
      rw [cellsO7] at h1
      obtain ⟨_, hlen, hcell⟩ := World.cells?_some h1
      obtain ⟨c0, c1, c2, c3, c4, c5, c6, rfl⟩ := vlist7 hlen
      obtain ⟨t, ht⟩ := of_seven h2
      rw [ht] at hcell
      refine ⟨t, fun j hj => ?_⟩
      have kj := hcell j (by omega)
      rw [Deep.add_add] at kj
      rw [kj]
      rcases (show j = 0 ∨ j = 1 ∨ j = 2 ∨ j = 3 ∨ j = 4 ∨ j = 5 ∨ j = 6 by omega) with rfl | rfl | rfl | rfl | rfl | rfl | rfl
      · rfl
      · rfl
      · rfl
      · rfl
      · rfl
      · rfl
      · rfl
    haveI : Inhabited Of := ⟨⟨0, 0, 0, ⟨0, 0, 0, 0⟩⟩⟩
    obtain ⟨q, hq⟩ := Deep.choose_lt each
    refine ⟨some a, len, cap, q, rfl, ⟨hl, fun hp => ?_⟩, (fun e => by cases e), by unfold maxLen at hm; omega⟩
    obtain ⟨b, off, spot⟩ := a
    have hspot : spot = none := by
      have h0 := hq 0 (by omega) 0 (by omega)
      simpa [Addr.add] using World.cell?_spot h0
    subst hspot
    have hc : ∀ i, i < len → ∀ j, j < 7 → _ := fun i hi j hj => hq i hi j hj
    simp only [add_row] at hc
    exact ⟨b, off, rfl, block_lt_of_cell (hc 0 hp 0 (by omega)), fun i hi j hj => by have := hc i hi j hj; rw [← Nat.add_assoc] at this; exact this⟩
theorem offers_in {H : Type} {enc : TypeId × Value → H} {W : World} {base : Nat} {v : Value} {D : DataW H} {ps : List MemPlace}
    (hv : Value.okWide Try.prog W .any base 24 v) (h : DataW.Trod enc Try.prog W 0 (fun _ => true) true 24 v D ps) :
    ∃ ao n cap vs, v = .slice ao n cap ∧ ORow W ao n cap vs ∧ NilOk ao n cap ∧ n ≤ 9223372036854775807 := by
  obtain ⟨a0, len0, cap0, rfl⟩ := okWide_slice Try.underlying24 hv
  obtain ⟨fuel, hf⟩ := h
  exact offers_cell hf
end Go.Proofs.Ythnklbcaodhbfaa
