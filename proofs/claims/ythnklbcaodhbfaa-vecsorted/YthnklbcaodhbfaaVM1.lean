/- Vectors as a map's keys -/
import Derived.Test.YthnklbcaodhbfaaVFs
import Derived.Maps.Range
import Derived.Maps.RangeWalk
import Derived.WideKeyEntry
import Derived.DeepKeys4
import Derived.MapViews
namespace Go.Proofs.Ythnklbcaodhbfaa
open Go.ChangeShapes Go.WideShapes Go.ChangeAt Go.RowKit Go.Maps
open Vc (V Of)

theorem vrowT : (27 : TypeId) < Try.prog.types.size := of_decide_eq_true (by kernel_rfl)
theorem vdeep : Try.prog.keyTypeAt (Try.prog.types.size + 1) 27 = true := by kernel_rfl
theorem vwide : (match Try.prog.underlying 27 with | some (.array _ _) | some (.struct _) => true | _ => false) = true := by rw [Try.underlying27]
theorem vklaw : WideMaps.KeyLaw Try.prog 27 := deep_law_laid laidOut (m := 3) (by omega) vrowT (by kernel_rfl) vwide
theorem vkeyed : Keyed Try.prog 27 := Keyed.of_law vklaw
theorem vformed (c0 c1 c2 c3 : Value) : (Value.agg #[c0, c1, c2, c3]).formed Try.prog 27 = true := by simp [Value.formed, Try.underlying27, cellsV4]
/-- It may be a key. -/
def VKey (v : V) : Prop := ∃ kl, keyOf Try.prog 27 (.agg (vA v)) = some kl
theorem vkey_of {H : Type} {enc : TypeId × Value → H} {W : World} {t : V} {fuel : Nat} {x : DataW H × List MemPlace} (hf : DataW.trod enc Try.prog W 0 (fun _ => true) true fuel 27 [vC t 0, vC t 1, vC t 2, vC t 3] = some x) : VKey t :=
  ⟨_, (keyOf_asKey vdeep vwide (vformed _ _ _ _) (v := .agg (vA t)) (d := x.1) (ps := x.2) ⟨fuel, hf⟩).1⟩
/-- A SLICE OF VECTORS, by its one cell. -/
theorem vkeys_cell {H : Type} {enc : TypeId × Value → H} {W : World} {v : Value} {fuel : Nat} {x : DataW H × List MemPlace}
    (hf : DataW.trod enc Try.prog W 0 (fun _ => true) true fuel 22 [v] = some x) :
    ∃ ao n cap vs, v = .slice ao n cap ∧ VRow W ao n cap vs ∧ NilOk ao n cap ∧ n ≤ 9223372036854775807 ∧ ∀ i, i < n → VKey (vs i) := by
  rcases Deep.open_slice Try.underlying22 hf with ⟨hcs, _⟩ | ⟨a, len, cap, m, k, D, Pl, hcs, _, hl, hm, hmm, _, hx⟩
  · simp at hcs
    subst hcs
    exact ⟨none, 0, 0, fun _ => ⟨0, 0, 0, 0⟩, rfl, CRow.none _ _ _ _ _, fun _ => ⟨rfl, rfl⟩, by omega, fun i hi => by omega⟩
  · simp at hcs
    subst hcs
    rw [if_pos rfl] at hmm
    have each : ∀ i, i < len → ∃ t : V, VKey t ∧ ∀ j, j < 4 → W.cell? (a.add (i * 4 + j)) = some (vC t j) := by
      intro i hi
      obtain ⟨cs', h1, h2⟩ := hx i (by omega)
      rw [cellsV4] at h1
      obtain ⟨_, hlen, hcell⟩ := World.cells?_some h1
      obtain ⟨c0, c1, c2, c3, rfl⟩ := vlist4 hlen
      obtain ⟨t, rfl, rfl, rfl, rfl⟩ := vq_cells h2
      refine ⟨t, vkey_of h2, fun j hj => ?_⟩
      have kj := hcell j (by omega)
      rw [Deep.add_add] at kj
      rw [kj]
      rcases (show j = 0 ∨ j = 1 ∨ j = 2 ∨ j = 3 by omega) with rfl | rfl | rfl | rfl
      · rfl
      · rfl
      · rfl
      · rfl
    haveI : Inhabited V := ⟨⟨0, 0, 0, 0⟩⟩
    obtain ⟨q, hq⟩ := Deep.choose_lt each
    refine ⟨some a, len, cap, q, rfl, ⟨hl, fun hp => ?_⟩, (fun e => by cases e), by unfold maxLen at hm; omega, fun i hi => (hq i hi).1⟩
    obtain ⟨b, off, spot⟩ := a
    have hspot : spot = none := by
      have h0 := (hq 0 (by omega)).2 0 (by omega)
      simpa [Addr.add] using World.cell?_spot h0
    subst hspot
    have hc : ∀ i, i < len → ∀ j, j < 4 → _ := fun i hi j hj => (hq i hi).2 j hj
    simp only [add_row] at hc
    exact ⟨b, off, rfl, block_lt_of_cell (hc 0 hp 0 (by omega)), fun i hi j hj => by have := hc i hi j hj; rw [← Nat.add_assoc] at this; exact this⟩
theorem vkeys_in {H : Type} {enc : TypeId × Value → H} {W : World} {base : Nat} {v : Value} {D : DataW H} {ps : List MemPlace}
    (hv : Value.okWide Try.prog W .any base 22 v) (h : DataW.Trod enc Try.prog W 0 (fun _ => true) true 22 v D ps) :
    ∃ ao n cap vs, v = .slice ao n cap ∧ VRow W ao n cap vs ∧ NilOk ao n cap ∧ n ≤ 9223372036854775807 ∧ ∀ i, i < n → VKey (vs i) := by
  obtain ⟨a0, len0, cap0, rfl⟩ := okWide_slice Try.underlying22 hv
  obtain ⟨fuel, hf⟩ := h
  exact vkeys_cell hf
end Go.Proofs.Ythnklbcaodhbfaa
