/- What rows ask: a slice of bytes that came in. -/
import Derived.Test.YtcbpafpaimpfnaaGreatDoorG
import Derived.Test.YtcbpafpaimpfnaaGreatDoorFrB
import Derived.ProofKit
import Derived.OpenShut
import Derived.ChangeOld
import Derived.ChangeSlices
namespace Go.Proofs.YtcbpafpaimpfnaaGreatDoor
open Go.ChangeShapes Go.WideShapes Go.ChangeAt Go.RowKit

theorem cells5 : Tryz.prog.cellsOf 5 = 1 := by kernel_rfl
/-- A SLICE OF BYTES, by its one cell. -/
theorem bytes_cell {H : Type} {enc : TypeId × Value → H} {W : World} {v : Value} {fuel : Nat} {x : DataW H × List MemPlace}
    (hf : DataW.trod enc Tryz.prog W 0 (fun _ => true) true fuel 93 [v] = some x) :
    ∃ ao n cap bs, v = .slice ao n cap ∧ ByteRow W ao n cap bs ∧ (∀ i, i < n → 0 ≤ bs i ∧ bs i ≤ 255) ∧ (ao = none → n = 0 ∧ cap = 0) := by
  rcases open_ints Tryz.underlying93 Tryz.underlying5 cells5 hf with ⟨hcs, _⟩ | ⟨x, l, c, zs, hcs, _, hl, hm, hz, _, hcell, hwz⟩
  · simp at hcs
    subst hcs
    exact ⟨none, 0, 0, fun _ => 0, rfl, ⟨Nat.le_refl _, fun h => absurd h (by omega)⟩, fun i hi => absurd hi (by omega), fun _ => ⟨rfl, rfl⟩⟩
  · simp at hcs
    subst hcs
    rw [if_pos rfl] at hz
    refine ⟨some x, l, c, fun i => zs.getD i 0, rfl, ⟨hl, fun hp => ?_⟩, fun i _ => ?_, fun h => by cases h⟩
    · obtain ⟨b, off, rfl, hc⟩ := ints_at hcell (by omega)
      exact ⟨b, off, rfl, block_lt_of_cell (hc 0 (by omega)), fun i hi => hc i (by omega)⟩
    · have := range_u8 hwz i
      simpa [List.getD] using this
set_option maxRecDepth 100000 in
/-- A SLICE OF BYTES THAT CAME IN. -/
theorem bytes_in {H : Type} {enc : TypeId × Value → H} {W : World} {base : Nat} {v : Value} {d : DataW H} {p : List MemPlace}
    (hv : Value.okWide Tryz.prog W .any base 93 v) (h : DataW.Trod enc Tryz.prog W 0 (fun _ => true) true 93 v d p) :
    ∃ ao n cap bs, v = .slice ao n cap ∧ ByteRow W ao n cap bs ∧ (∀ i, i < n → 0 ≤ bs i ∧ bs i ≤ 255) ∧ (ao = none → n = 0 ∧ cap = 0) := by
  obtain ⟨a0, len0, cap0, rfl⟩ := okWide_slice Tryz.underlying93 hv
  obtain ⟨fuel, hf⟩ := h
  exact bytes_cell hf
end Go.Proofs.YtcbpafpaimpfnaaGreatDoor
