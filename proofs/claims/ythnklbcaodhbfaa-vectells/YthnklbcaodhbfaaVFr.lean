/- What the rows of vectors ask: a vector, and slices of vectors and of offers, that came in. -/
import Derived.Test.YthnklbcaodhbfaaVB
import Derived.Test.YthnklbcaodhbfaaFrB
import Derived.Deep.Slices
namespace Go.Proofs.Ythnklbcaodhbfaa
open Go.ChangeShapes Go.WideShapes Go.ChangeAt Go.RowKit
open Vc (V Of)

theorem cellsV4 : Try.prog.cellsOf 27 = 4 := by kernel_rfl
theorem vlist4 {α : Type} {l : List α} (h : l.length = 4) : ∃ c0 c1 c2 c3, l = [c0, c1, c2, c3] := by
  match l, h with
  | [c0, c1, c2, c3], _ => exact ⟨c0, c1, c2, c3, rfl⟩
/-- A VECTOR, by its four cells. -/
theorem vq_cells {H : Type} {enc : TypeId × Value → H} {W : World} {c0 c1 c2 c3 : Value} {fuel : Nat} {x : DataW H × List MemPlace}
    (hf : DataW.trod enc Try.prog W 0 (fun _ => true) true fuel 27 [c0, c1, c2, c3] = some x) :
    ∃ v : V, c0 = .int .u64 v.root ∧ c1 = .int .i64 v.cost ∧ c2 = .int .u64 v.bridge ∧ c3 = .int .i64 v.port := by
  obtain ⟨xs, m, _, _, _, hlen, hfs⟩ := DataW.trod_struct Try.underlying27 hf
  obtain ⟨y0, y1, y2, y3, rfl⟩ := vlist4 (by simpa using hlen)
  obtain ⟨ro, e0, _, w0⟩ := DataW.trod_int Try.underlying23 (hfs 0 _ rfl)
  obtain ⟨co, e1, _, _⟩ := DataW.trod_int Try.underlying3 (hfs 1 _ rfl)
  obtain ⟨br, e2, _, w2⟩ := DataW.trod_int Try.underlying23 (hfs 2 _ rfl)
  obtain ⟨po, e3, _, _⟩ := DataW.trod_int Try.underlying3 (hfs 3 _ rfl)
  exact ⟨⟨ro, co, br, po⟩, one_of e0, one_of e1, one_of e2, one_of e3⟩
/-- A VECTOR THAT CAME IN. -/
theorem vec_in {H : Type} {enc : TypeId × Value → H} {W : World} {base : Nat} {v : Value} {D : DataW H} {ps : List MemPlace}
    (hv : Value.okWide Try.prog W .any base 27 v) (h : DataW.Trod enc Try.prog W 0 (fun _ => true) true 27 v D ps) :
    ∃ u : V, v = .agg #[.int .u64 u.root, .int .i64 u.cost, .int .u64 u.bridge, .int .i64 u.port] := by
  obtain ⟨cs, rfl, hcs⟩ := okWide_struct Try.underlying27 hv
  rw [cellsV4] at hcs
  obtain ⟨l⟩ := cs
  obtain ⟨c0, c1, c2, c3, rfl⟩ := vlist4 (by simpa using hcs)
  obtain ⟨fuel, hf⟩ := h
  simp only [Value.cells] at hf
  obtain ⟨u, rfl, rfl, rfl, rfl⟩ := vq_cells hf
  exact ⟨u, rfl⟩
end Go.Proofs.Ythnklbcaodhbfaa
