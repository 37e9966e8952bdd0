/- What the rows ask: a frame, a slice of bytes and a number that came in. -/
import Derived.Test.YtgkmaihleilchaaBase
import Derived.Test.YtgkmaihleilchaaFrG
namespace Go.Proofs.Ytgkmaihleilchaa
open Go.ChangeShapes Go.WideShapes Go.ChangeAt Go.RowKit
set_option maxRecDepth 100000

theorem cellsFr : Try.prog.cellsOf 30 = 8 := by kernel_rfl

theorem list8 {α : Type} {l : List α} (h : l.length = 8) : ∃ c0 c1 c2 c3 c4 c5 c6 c7, l = [c0, c1, c2, c3, c4, c5, c6, c7] := by
  match l, h with
  | [c0, c1, c2, c3, c4, c5, c6, c7], _ => exact ⟨c0, c1, c2, c3, c4, c5, c6, c7, rfl⟩
/-- A FRAME THAT CAME IN. -/
theorem frame_in {H : Type} {enc : TypeId × Value → H} {W : World} {base : Nat} {v : Value} {D : DataW H} {ps : List MemPlace}
    (hv : Value.okWide Try.prog W .any base 30 v) (h : DataW.Trod enc Try.prog W 0 (fun _ => true) true 30 v D ps) :
    ∃ d s t p dr vid y ao n c bs, v = .agg #[.int .u64 d, .int .u64 s, .bool t, .int .i64 p, .bool dr, .int .i64 vid, .int .i64 y, .slice ao n c] ∧ (Lit.int .u64 d).wf = true ∧ (Lit.int .u64 s).wf = true ∧ (Lit.int .i64 p).wf = true ∧ (Lit.int .i64 vid).wf = true ∧ (Lit.int .i64 y).wf = true ∧
      ByteRow W ao n c bs ∧ (∀ i, i < n → 0 ≤ bs i ∧ bs i ≤ 255) ∧ (ao = none → n = 0 ∧ c = 0) := by
  obtain ⟨cs, rfl, hcs⟩ := okWide_struct Try.underlying30 hv
  rw [cellsFr] at hcs
  obtain ⟨l⟩ := cs
  obtain ⟨c0, c1, c2, c3, c4, c5, c6, c7, rfl⟩ := list8 (by simpa using hcs)
  obtain ⟨fuel, hf⟩ := h
  obtain ⟨xs, m, _, _, _, hlen, hfs⟩ := DataW.trod_struct Try.underlying30 hf
  obtain ⟨y0, y1, y2, y3, y4, y5, y6, y7, rfl⟩ := list8 (by simpa using hlen)
  have g0 := hfs 0 _ rfl
  have g1 := hfs 1 _ rfl
  have g2 := hfs 2 _ rfl
  have g3 := hfs 3 _ rfl
  have g4 := hfs 4 _ rfl
  have g5 := hfs 5 _ rfl
  have g6 := hfs 6 _ rfl
  have g7 := hfs 7 _ rfl
  simp only [Value.cells] at g0 g1 g2 g3 g4 g5 g6 g7
  obtain ⟨d, e0, _, w0⟩ := DataW.trod_int Try.underlying27 g0
  obtain ⟨s, e1, _, w1⟩ := DataW.trod_int Try.underlying27 g1
  obtain ⟨t, e2, _⟩ := DataW.trod_bool Try.underlying4 g2
  obtain ⟨p, e3, _, w3⟩ := DataW.trod_int Try.underlying3 g3
  obtain ⟨dr, e4, _⟩ := DataW.trod_bool Try.underlying4 g4
  obtain ⟨vid, e5, _, w5⟩ := DataW.trod_int Try.underlying3 g5
  obtain ⟨y, e6, _, w6⟩ := DataW.trod_int Try.underlying3 g6
  obtain ⟨ao, n, c, bs, e7, hr, hb, hn⟩ := bytes_cell g7
  obtain rfl := one_of e0
  obtain rfl := one_of e1
  obtain rfl := one_of e2
  obtain rfl := one_of e3
  obtain rfl := one_of e4
  obtain rfl := one_of e5
  obtain rfl := one_of e6
  subst e7
  exact ⟨d, s, t, p, dr, vid, y, ao, n, c, bs, rfl, w0, w1, w3, w5, w6, hr, hb, hn⟩
end Go.Proofs.Ytgkmaihleilchaa
