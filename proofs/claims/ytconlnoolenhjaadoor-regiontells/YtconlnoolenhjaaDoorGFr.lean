/- What the rows of regions ask: a region that came in. -/
import Derived.Test.YtconlnoolenhjaaDoorGW7a
import Derived.Test.YtconlnoolenhjaaDoorDFr
import Derived.Deep.SlicePairs
namespace Go.Proofs.YtconlnoolenhjaaDoor
open Go.ChangeShapes Go.WideShapes Go.ChangeAt Go.RowKit

theorem cellsRg : Tryd.prog.cellsOf 24 = 3 := by kernel_rfl
theorem cellsWay : Tryd.prog.cellsOf 36 = 2 := by kernel_rfl
theorem cellsInt : Tryd.prog.cellsOf 3 = 1 := by kernel_rfl
theorem list3 {α : Type} {l : List α} (h : l.length = 3) : ∃ c0 c1 c2, l = [c0, c1, c2] := by
  match l, h with
  | [c0, c1, c2], _ => exact ⟨c0, c1, c2, rfl⟩
/-- A SLICE OF WAYS, by its one cell. -/
theorem ways_cell {H : Type} {enc : TypeId × Value → H} {W : World} {v : Value} {fuel : Nat} {x : DataW H × List MemPlace}
    (hf : DataW.trod enc Tryd.prog W 0 (fun _ => true) true fuel 22 [v] = some x) :
    ∃ ao n cap vs ts, v = .slice ao n cap ∧ WayRow W ao n cap vs ts ∧ n ≤ 9223372036854775807 := by
  rcases Deep.open_slice_pairs Tryd.underlying22 Tryd.underlying36 cellsWay rfl rfl cellsInt cellsInt hf with ⟨hcs, _⟩ | ⟨a, len, cap, m, k, V0, V1, D0, D1, P0, P1, hcs, _, hl, hm, hmm, _, hx⟩
  · simp at hcs
    subst hcs
    exact ⟨none, 0, 0, fun _ => 0, fun _ => 0, rfl, ⟨Nat.le_refl _, fun h => absurd h (by omega)⟩, by omega⟩
  · simp at hcs
    subst hcs
    rw [if_pos rfl] at hmm
    have each : ∀ i, i < len → ∃ q : Int × Int, V0 i = .int .i64 q.1 ∧ V1 i = .int .i64 q.2 := by
      intro i hi
      obtain ⟨_, _, t0, t1⟩ := hx i (by omega)
      obtain ⟨y0, e0, _, _⟩ := DataW.trod_int Tryd.underlying3 t0
      obtain ⟨y1, e1, _, _⟩ := DataW.trod_int Tryd.underlying3 t1
      exact ⟨(y0, y1), one_of e0, one_of e1⟩
    obtain ⟨q, hq⟩ := Deep.choose_lt each
    refine ⟨some a, len, cap, fun i => (q i).1, fun i => (q i).2, rfl, ⟨hl, fun hp => ?_⟩, by unfold maxLen at hm; omega⟩
    obtain ⟨b, off, spot⟩ := a
    have hspot : spot = none := by
      have h0 := (hx 0 (by omega)).1
      simpa [Addr.add] using World.cell?_spot h0
    subst hspot
    have hc : ∀ i, i < len → W.cell? ⟨b, off + i * 2, none⟩ = some (.int .i64 (q i).1) ∧ W.cell? ⟨b, off + i * 2 + 1, none⟩ = some (.int .i64 (q i).2) := by
      intro i hi
      obtain ⟨c0, c1, _, _⟩ := hx i (by omega)
      rw [add_row, (hq i hi).1] at c0
      rw [add_row, (hq i hi).2] at c1
      exact ⟨c0, c1⟩
    exact ⟨b, off, rfl, block_lt_of_cell (hc 0 hp).1, hc⟩
set_option maxRecDepth 100000 in
/-- A REGION THAT CAME IN. -/
theorem region_in {H : Type} {enc : TypeId × Value → H} {W : World} {base : Nat} {v : Value} {D : DataW H} {ps : List MemPlace}
    (hv : Value.okWide Tryd.prog W .any base 24 v) (h : DataW.Trod enc Tryd.prog W 0 (fun _ => true) true 24 v D ps) :
    ∃ r : Rg.Reg, v = .agg #[.string r.s, .int .i64 r.rev, .slice r.ao r.n r.cap] ∧ r.at' W ∧ r.n ≤ 9223372036854775807 := by
  obtain ⟨cs, rfl, hcs⟩ := okWide_struct Tryd.underlying24 hv
  rw [cellsRg] at hcs
  obtain ⟨l⟩ := cs
  obtain ⟨c0, c1, c2, rfl⟩ := list3 (by simpa using hcs)
  obtain ⟨fuel, hf⟩ := h
  obtain ⟨xs, m, _, _, _, hlen, hfs⟩ := DataW.trod_struct Tryd.underlying24 hf
  obtain ⟨y0, y1, y2, rfl⟩ := list3 (by simpa using hlen)
  have g0 := hfs 0 _ rfl
  have g1 := hfs 1 _ rfl
  have g2 := hfs 2 _ rfl
  simp only [Value.cells] at g0 g1 g2
  obtain ⟨s, e0, _⟩ := DataW.trod_string Tryd.underlying9 g0
  obtain ⟨rev, e1, _, _⟩ := DataW.trod_int Tryd.underlying3 g1
  obtain ⟨ao, n, cap, vs, ts, e2, hr, hn⟩ := ways_cell g2
  obtain rfl := one_of e0
  obtain rfl := one_of e1
  subst e2
  exact ⟨⟨s, rev, ao, n, cap, vs, ts⟩, rfl, hr, hn⟩
end Go.Proofs.YtconlnoolenhjaaDoor
