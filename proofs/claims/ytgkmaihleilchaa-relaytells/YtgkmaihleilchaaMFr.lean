/- What the rows of relay ask: a region, a slice of gates, a frame that came in. -/
import Derived.Test.YtgkmaihleilchaaGG
import Derived.Test.YtgkmaihleilchaaBB
import Derived.Test.YtgkmaihleilchaaBI
import Derived.Test.YtgkmaihleilchaaG
import Derived.Test.YtgkmaihleilchaaBase
import Derived.Test.YtgkmaihleilchaaYW7
import Derived.ProofKit
import Derived.OpenShut
import Derived.ChangeOld
import Derived.ChangeSlices
import Derived.Deep.Slices
import Derived.Deep.SlicePairs
namespace Go.Proofs.Ytgkmaihleilchaa
open Go.ChangeShapes Go.WideShapes Go.ChangeAt Go.RowKit

theorem own : ownKnob Try.prog.godebug = none := by kernel_rfl
theorem laidOut : laidOutB Try.prog = true := by kernel_rfl
theorem one_of {a b : Value} (h : [a] = [b]) : a = b := by simpa using h
theorem wf_u64 {n : Int} (h : (Lit.int .u64 n).wf = true) : 0 ≤ n ∧ n < 18446744073709551616 := by
  simp only [Lit.wf, Bool.and_eq_true, decide_eq_true_eq] at h
  have h1 : IntKind.u64.min = 0 := by decide
  have h2 : IntKind.u64.max = 18446744073709551615 := by decide
  rw [h1, h2] at h
  omega
end Go.Proofs.Ytgkmaihleilchaa

namespace Go.Proofs.Ytgkmaihleilchaa
open Go.ChangeShapes Go.WideShapes Go.ChangeAt Go.RowKit
set_option maxRecDepth 100000
open Bk (E)

theorem cellsE4 : Try.prog.cellsOf 76 = 4 := by kernel_rfl
theorem elist4 {α : Type} {l : List α} (h : l.length = 4) : ∃ c0 c1 c2 c3, l = [c0, c1, c2, c3] := by
  match l, h with
  | [c0, c1, c2, c3], _ => exact ⟨c0, c1, c2, c3, rfl⟩
/-- AN ENTRY, by its four cells. -/
theorem entry_cells {H : Type} {enc : TypeId × Value → H} {W : World} {c0 c1 c2 c3 : Value} {fuel : Nat} {x : DataW H × List MemPlace}
    (hf : DataW.trod enc Try.prog W 0 (fun _ => true) true fuel 76 [c0, c1, c2, c3] = some x) :
    ∃ v : E, c0 = .int .i64 v.vid ∧ c1 = .int .u64 v.addr ∧ c2 = .int .i64 v.port ∧ c3 = .int .i64 v.age := by
  obtain ⟨xs, m, _, _, _, hlen, hfs⟩ := DataW.trod_struct Try.underlying76 hf
  obtain ⟨y0, y1, y2, y3, rfl⟩ := elist4 (by simpa using hlen)
  obtain ⟨ro, e0, _, _⟩ := DataW.trod_int Try.underlying3 (hfs 0 _ rfl)
  obtain ⟨co, e1, _, _⟩ := DataW.trod_int Try.underlying27 (hfs 1 _ rfl)
  obtain ⟨br, e2, _, _⟩ := DataW.trod_int Try.underlying3 (hfs 2 _ rfl)
  obtain ⟨po, e3, _, _⟩ := DataW.trod_int Try.underlying3 (hfs 3 _ rfl)
  exact ⟨⟨ro, co, br, po⟩, one_of e0, one_of e1, one_of e2, one_of e3⟩
/-- A SLICE OF ENTRIES, by its one cell. -/
theorem entries_cell {H : Type} {enc : TypeId × Value → H} {W : World} {v : Value} {fuel : Nat} {x : DataW H × List MemPlace}
    (hf : DataW.trod enc Try.prog W 0 (fun _ => true) true fuel 26 [v] = some x) :
    ∃ ao cap l, v = .slice ao l.length cap ∧ BEL W ao cap l ∧ NilOk ao l.length cap ∧ l.length ≤ 9223372036854775807 := by
  rcases Deep.open_slice Try.underlying26 hf with ⟨hcs, _⟩ | ⟨a, len, cap, m, k, D, Pl, hcs, _, hl, hm, hmm, _, hx⟩
  · simp at hcs
    subst hcs
    exact ⟨none, 0, [], rfl, CRow.none _ _ _ _ _, fun _ => ⟨rfl, rfl⟩, by simp⟩
  · simp at hcs
    subst hcs
    rw [if_pos rfl] at hmm
    have each : ∀ i, i < len → ∃ t : E, ∀ j, j < 4 → W.cell? (a.add (i * 4 + j)) = some (eC t j) := by
      intro i hi
      obtain ⟨cs', h1, h2⟩ := hx i (by omega)
      rw [cellsE4] at h1
      obtain ⟨_, hlen, hcell⟩ := World.cells?_some h1
      obtain ⟨c0, c1, c2, c3, rfl⟩ := elist4 hlen
      obtain ⟨t, rfl, rfl, rfl, rfl⟩ := entry_cells h2
      refine ⟨t, fun j hj => ?_⟩
      have kj := hcell j (by omega)
      rw [Deep.add_add] at kj
      rw [kj]
      rcases (show j = 0 ∨ j = 1 ∨ j = 2 ∨ j = 3 by omega) with rfl | rfl | rfl | rfl
      · rfl
      · rfl
      · rfl
      · rfl
    haveI : Inhabited E := ⟨⟨0, 0, 0, 0⟩⟩
    obtain ⟨q, hq⟩ := Deep.choose_lt each
    have hrow : CRow W (some a) len cap 4 (fun i => eC (q i)) := by
      refine ⟨hl, fun hp => ?_⟩
      obtain ⟨b, off, spot⟩ := a
      have hspot : spot = none := by
        have h0 := hq 0 (by omega) 0 (by omega)
        simpa [Addr.add] using World.cell?_spot h0
      subst hspot
      have hc : ∀ i, i < len → ∀ j, j < 4 → _ := fun i hi j hj => hq i hi j hj
      simp only [add_row] at hc
      exact ⟨b, off, rfl, block_lt_of_cell (hc 0 hp 0 (by omega)), fun i hi j hj => by have := hc i hi j hj; rw [← Nat.add_assoc] at this; exact this⟩
    refine ⟨some a, cap, Bk.listOf len q, by rw [Bk.listOf_length], BEL.of hrow, (fun e => by cases e), by rw [Bk.listOf_length]; unfold maxLen at hm; omega⟩
theorem entries_in {H : Type} {enc : TypeId × Value → H} {W : World} {base : Nat} {v : Value} {D : DataW H} {ps : List MemPlace}
    (hv : Value.okWide Try.prog W .any base 26 v) (h : DataW.Trod enc Try.prog W 0 (fun _ => true) true 26 v D ps) :
    ∃ ao cap l, v = .slice ao l.length cap ∧ BEL W ao cap l ∧ NilOk ao l.length cap ∧ l.length ≤ 9223372036854775807 := by
  obtain ⟨a0, len0, cap0, rfl⟩ := okWide_slice Try.underlying26 hv
  obtain ⟨fuel, hf⟩ := h
  exact entries_cell hf
/-- A NUMBER WITHOUT A SIGN THAT CAME IN. -/
theorem u64_in {H : Type} {enc : TypeId × Value → H} {W : World} {base : Nat} {v : Value} {D : DataW H} {ps : List MemPlace}
    (hv : Value.okWide Try.prog W .any base 27 v) (h : DataW.Trod enc Try.prog W 0 (fun _ => true) true 27 v D ps) :
    ∃ z, v = .int .u64 z ∧ 0 ≤ z ∧ z < 18446744073709551616 := by
  obtain ⟨z0, rfl⟩ := okWide_int Try.underlying27 hv
  obtain ⟨fuel, hf⟩ := h
  obtain ⟨z, e, _, w⟩ := DataW.trod_int Try.underlying27 hf
  have := wf_u64 w
  have e2 := one_of e
  injection e2 with _ e3
  exact ⟨z0, rfl, by omega, by omega⟩
end Go.Proofs.Ytgkmaihleilchaa

namespace Go.Proofs.Ytgkmaihleilchaa
open Go.ChangeShapes Go.WideShapes Go.ChangeAt Go.RowKit
set_option maxRecDepth 100000

theorem cellsI1 : Try.prog.cellsOf 3 = 1 := by kernel_rfl
theorem ilist1 {α : Type} {l : List α} (h : l.length = 1) : ∃ c0, l = [c0] := by
  match l, h with
  | [c0], _ => exact ⟨c0, rfl⟩
theorem ints_cell {H : Type} {enc : TypeId × Value → H} {W : World} {v : Value} {fuel : Nat} {x : DataW H × List MemPlace}
    (hf : DataW.trod enc Try.prog W 0 (fun _ => true) true fuel 44 [v] = some x) :
    ∃ ao cap l, v = .slice ao l.length cap ∧ ILs W ao cap l ∧ NilOk ao l.length cap ∧ l.length ≤ 9223372036854775807 := by
  rcases Deep.open_slice Try.underlying44 hf with ⟨hcs, _⟩ | ⟨a, len, cap, m, k, D, Pl, hcs, _, hl, hm, hmm, _, hx⟩
  · simp at hcs
    subst hcs
    exact ⟨none, 0, [], rfl, CRow.none _ _ _ _ _, fun _ => ⟨rfl, rfl⟩, by simp⟩
  · simp at hcs
    subst hcs
    rw [if_pos rfl] at hmm
    have each : ∀ i, i < len → ∃ t : Int, W.cell? (a.add i) = some (.int .i64 t) := by
      intro i hi
      obtain ⟨cs', h1, h2⟩ := hx i (by omega)
      rw [cellsI1] at h1
      obtain ⟨_, hlen, hcell⟩ := World.cells?_some h1
      obtain ⟨c0, rfl⟩ := ilist1 hlen
      obtain ⟨t, e, _, _⟩ := DataW.trod_int Try.underlying3 h2
      have e2 := one_of e
      have kj := hcell 0 (by omega)
      rw [Deep.add_add] at kj
      refine ⟨t, ?_⟩
      rw [show i * 1 + 0 = i by omega] at kj
      rw [kj]
      simp [e2]
    obtain ⟨q, hq⟩ := Deep.choose_lt each
    have hrow : CRow W (some a) len cap 1 (fun i _ => .int .i64 (q i)) := by
      refine ⟨hl, fun hp => ?_⟩
      obtain ⟨b, off, spot⟩ := a
      have hspot : spot = none := by
        have h0 := hq 0 (by omega)
        simpa [Addr.add] using World.cell?_spot h0
      subst hspot
      have hc : ∀ i, i < len → _ := fun i hi => hq i hi
      simp only [add_row] at hc
      exact ⟨b, off, rfl, block_lt_of_cell (hc 0 hp), fun i hi j hj => by obtain rfl : j = 0 := by omega
                                                                          have := hc i hi; rw [Nat.mul_one, Nat.add_zero]; exact this⟩
    have hlen : ((List.range len).map q).length = len := by simp
    refine ⟨some a, cap, (List.range len).map q, by rw [hlen], ILs.of hrow, (fun e => by cases e), by rw [hlen]; unfold maxLen at hm; omega⟩
theorem ints_in {H : Type} {enc : TypeId × Value → H} {W : World} {base : Nat} {v : Value} {D : DataW H} {ps : List MemPlace}
    (hv : Value.okWide Try.prog W .any base 44 v) (h : DataW.Trod enc Try.prog W 0 (fun _ => true) true 44 v D ps) :
    ∃ ao cap l, v = .slice ao l.length cap ∧ ILs W ao cap l ∧ NilOk ao l.length cap ∧ l.length ≤ 9223372036854775807 := by
  obtain ⟨a0, len0, cap0, rfl⟩ := okWide_slice Try.underlying44 hv
  obtain ⟨fuel, hf⟩ := h
  exact ints_cell hf
end Go.Proofs.Ytgkmaihleilchaa

namespace Go.Proofs.Ytgkmaihleilchaa
open Go.ChangeShapes Go.WideShapes Go.ChangeAt Go.RowKit

theorem cells5 : Try.prog.cellsOf 5 = 1 := by kernel_rfl
/-- A SLICE OF BYTES, by its one cell. -/
theorem bytes_cell {H : Type} {enc : TypeId × Value → H} {W : World} {v : Value} {fuel : Nat} {x : DataW H × List MemPlace}
    (hf : DataW.trod enc Try.prog W 0 (fun _ => true) true fuel 28 [v] = some x) :
    ∃ ao n cap bs, v = .slice ao n cap ∧ ByteRow W ao n cap bs ∧ (∀ i, i < n → 0 ≤ bs i ∧ bs i ≤ 255) ∧ (ao = none → n = 0 ∧ cap = 0) := by
  rcases open_ints Try.underlying28 Try.underlying5 cells5 hf with ⟨hcs, _⟩ | ⟨x, l, c, zs, hcs, _, hl, hm, hz, _, hcell, hwz⟩
  · simp at hcs
    subst hcs
    exact ⟨none, 0, 0, fun _ => 0, rfl, ⟨Nat.le_refl _, fun h => absurd h (by omega)⟩, fun i hi => absurd hi (by omega), fun _ => ⟨rfl, rfl⟩⟩
  · simp at hcs
    subst hcs
    rw [if_pos rfl] at hz
    refine ⟨some x, l, c, fun i => zs.getD i 0, rfl, ⟨hl, fun hp => ?_⟩, fun i _ => ?_, fun h => by cases h⟩
    · obtain ⟨b, off, rfl, hc⟩ := ints_at hcell (by omega)
      exact ⟨b, off, rfl, block_lt_of_cell (hc 0 (by omega)), fun i hi => hc i (by omega)⟩
    · have := range_u8 hwz i
      simpa [List.getD] using this
set_option maxRecDepth 100000 in
/-- A SLICE OF BYTES THAT CAME IN. -/
theorem bytes_in {H : Type} {enc : TypeId × Value → H} {W : World} {base : Nat} {v : Value} {d : DataW H} {p : List MemPlace}
    (hv : Value.okWide Try.prog W .any base 28 v) (h : DataW.Trod enc Try.prog W 0 (fun _ => true) true 28 v d p) :
    ∃ ao n cap bs, v = .slice ao n cap ∧ ByteRow W ao n cap bs ∧ (∀ i, i < n → 0 ≤ bs i ∧ bs i ≤ 255) ∧ (ao = none → n = 0 ∧ cap = 0) := by
  obtain ⟨a0, len0, cap0, rfl⟩ := okWide_slice Try.underlying28 hv
  obtain ⟨fuel, hf⟩ := h
  exact bytes_cell hf
end Go.Proofs.Ytgkmaihleilchaa

namespace Go.Proofs.Ytgkmaihleilchaa
open Go.ChangeShapes Go.WideShapes Go.ChangeAt Go.RowKit
set_option maxRecDepth 100000

theorem cellsFr : Try.prog.cellsOf 30 = 8 := by kernel_rfl

theorem list8 {α : Type} {l : List α} (h : l.length = 8) : ∃ c0 c1 c2 c3 c4 c5 c6 c7, l = [c0, c1, c2, c3, c4, c5, c6, c7] := by
  match l, h with
  | [c0, c1, c2, c3, c4, c5, c6, c7], _ => exact ⟨c0, c1, c2, c3, c4, c5, c6, c7, rfl⟩
/-- A FRAME THAT CAME IN. -/
theorem frame_in {H : Type} {enc : TypeId × Value → H} {W : World} {base : Nat} {v : Value} {D : DataW H} {ps : List MemPlace}
    (hv : Value.okWide Try.prog W .any base 30 v) (h : DataW.Trod enc Try.prog W 0 (fun _ => true) true 30 v D ps) :
    ∃ d s t p dr vid y ao n c bs, v = .agg #[.int .u64 d, .int .u64 s, .bool t, .int .i64 p, .bool dr, .int .i64 vid, .int .i64 y, .slice ao n c] ∧ (Lit.int .u64 d).wf = true ∧ (Lit.int .u64 s).wf = true ∧ (Lit.int .i64 p).wf = true ∧ (Lit.int .i64 vid).wf = true ∧ (Lit.int .i64 y).wf = true ∧
      ByteRow W ao n c bs ∧ (∀ i, i < n → 0 ≤ bs i ∧ bs i ≤ 255) ∧ (ao = none → n = 0 ∧ c = 0) := by
  obtain ⟨cs, rfl, hcs⟩ := okWide_struct Try.underlying30 hv
  rw [cellsFr] at hcs
  obtain ⟨l⟩ := cs
  obtain ⟨c0, c1, c2, c3, c4, c5, c6, c7, rfl⟩ := list8 (by simpa using hcs)
  obtain ⟨fuel, hf⟩ := h
  obtain ⟨xs, m, _, _, _, hlen, hfs⟩ := DataW.trod_struct Try.underlying30 hf
  obtain ⟨y0, y1, y2, y3, y4, y5, y6, y7, rfl⟩ := list8 (by simpa using hlen)
  have g0 := hfs 0 _ rfl
  have g1 := hfs 1 _ rfl
  have g2 := hfs 2 _ rfl
  have g3 := hfs 3 _ rfl
  have g4 := hfs 4 _ rfl
  have g5 := hfs 5 _ rfl
  have g6 := hfs 6 _ rfl
  have g7 := hfs 7 _ rfl
  simp only [Value.cells] at g0 g1 g2 g3 g4 g5 g6 g7
  obtain ⟨d, e0, _, w0⟩ := DataW.trod_int Try.underlying27 g0
  obtain ⟨s, e1, _, w1⟩ := DataW.trod_int Try.underlying27 g1
  obtain ⟨t, e2, _⟩ := DataW.trod_bool Try.underlying4 g2
  obtain ⟨p, e3, _, w3⟩ := DataW.trod_int Try.underlying3 g3
  obtain ⟨dr, e4, _⟩ := DataW.trod_bool Try.underlying4 g4
  obtain ⟨vid, e5, _, w5⟩ := DataW.trod_int Try.underlying3 g5
  obtain ⟨y, e6, _, w6⟩ := DataW.trod_int Try.underlying3 g6
  obtain ⟨ao, n, c, bs, e7, hr, hb, hn⟩ := bytes_cell g7
  obtain rfl := one_of e0
  obtain rfl := one_of e1
  obtain rfl := one_of e2
  obtain rfl := one_of e3
  obtain rfl := one_of e4
  obtain rfl := one_of e5
  obtain rfl := one_of e6
  subst e7
  exact ⟨d, s, t, p, dr, vid, y, ao, n, c, bs, rfl, w0, w1, w3, w5, w6, hr, hb, hn⟩
end Go.Proofs.Ytgkmaihleilchaa

namespace Go.Proofs.Ytgkmaihleilchaa
open Go.ChangeShapes Go.WideShapes Go.ChangeAt Go.RowKit
set_option maxRecDepth 100000
open Rl (G gat F R)

theorem cellsB1 : Try.prog.cellsOf 4 = 1 := by kernel_rfl
theorem cellsG4 : Try.prog.cellsOf 47 = 4 := by kernel_rfl
theorem cellsRg9 : Try.prog.cellsOf 24 = 3 := by kernel_rfl
theorem cellsWay9 : Try.prog.cellsOf 81 = 2 := by kernel_rfl
theorem list39 {α : Type} {l : List α} (h : l.length = 3) : ∃ c0 c1 c2, l = [c0, c1, c2] := by
  match l, h with
  | [c0, c1, c2], _ => exact ⟨c0, c1, c2, rfl⟩
/-- A SLICE OF BOOLS, by its one cell. -/
theorem bools_cell {H : Type} {enc : TypeId × Value → H} {W : World} {v : Value} {fuel : Nat} {x : DataW H × List MemPlace}
    (hf : DataW.trod enc Try.prog W 0 (fun _ => true) true fuel 45 [v] = some x) :
    ∃ ao cap l, v = .slice ao l.length cap ∧ BLs W ao cap l ∧ l.length ≤ 9223372036854775807 := by
  rcases Deep.open_slice Try.underlying45 hf with ⟨hcs, _⟩ | ⟨a, len, cap, m, k, D, Pl, hcs, _, hl, hm, hmm, _, hx⟩
  · simp at hcs
    subst hcs
    exact ⟨none, 0, [], rfl, CRow.none _ _ _ _ _, by simp⟩
  · simp at hcs
    subst hcs
    rw [if_pos rfl] at hmm
    have each : ∀ i, i < len → ∃ t : Bool, W.cell? (a.add i) = some (.bool t) := by
      intro i hi
      obtain ⟨cs', h1, h2⟩ := hx i (by omega)
      rw [cellsB1] at h1
      obtain ⟨_, hlen, hcell⟩ := World.cells?_some h1
      obtain ⟨c0, rfl⟩ := ilist1 hlen
      obtain ⟨t, e, _⟩ := DataW.trod_bool Try.underlying4 h2
      have e2 := one_of e
      have kj := hcell 0 (by omega)
      rw [Deep.add_add] at kj
      refine ⟨t, ?_⟩
      rw [show i * 1 + 0 = i by omega] at kj
      rw [kj]
      simp [e2]
    obtain ⟨q, hq⟩ := Deep.choose_lt each
    have hrow : CRow W (some a) len cap 1 (fun i _ => .bool (q i)) := by
      refine ⟨hl, fun hp => ?_⟩
      obtain ⟨b, off, spot⟩ := a
      have hspot : spot = none := by
        have h0 := hq 0 (by omega)
        simpa [Addr.add] using World.cell?_spot h0
      subst hspot
      have hc : ∀ i, i < len → _ := fun i hi => hq i hi
      simp only [add_row] at hc
      exact ⟨b, off, rfl, block_lt_of_cell (hc 0 hp), fun i hi j hj => by obtain rfl : j = 0 := by omega
                                                                          have := hc i hi; rw [Nat.mul_one, Nat.add_zero]; exact this⟩
    have hlen : ((List.range len).map q).length = len := by simp
    refine ⟨some a, cap, (List.range len).map q, by rw [hlen], BLs.of hrow, by rw [hlen]; unfold maxLen at hm; omega⟩
/-- A GATE, by its four cells. -/
theorem gate_cells {H : Type} {enc : TypeId × Value → H} {W : World} {c0 c1 c2 c3 : Value} {fuel : Nat} {x : DataW H × List MemPlace}
    (hf : DataW.trod enc Try.prog W 0 (fun _ => true) true fuel 47 [c0, c1, c2, c3] = some x) :
    ∃ g : G, (c0 = .int .i64 g.port ∧ c1 = .slice g.wo g.ways.length g.wcap ∧ c2 = .int .i64 g.plain ∧ c3 = .slice g.oo g.opens.length g.ocap) ∧ GIn W g := by
  obtain ⟨xs, m, _, _, _, hlen, hfs⟩ := DataW.trod_struct Try.underlying47 hf
  obtain ⟨y0, y1, y2, y3, rfl⟩ := elist4 (by simpa using hlen)
  obtain ⟨po, e0, _, _⟩ := DataW.trod_int Try.underlying3 (hfs 0 _ rfl)
  obtain ⟨wo, wcap, ways, e1, h1, _, n1⟩ := ints_cell (hfs 1 _ rfl)
  obtain ⟨pl, e2, _, _⟩ := DataW.trod_int Try.underlying3 (hfs 2 _ rfl)
  obtain ⟨oo, ocap, opens, e3, h3, n3⟩ := bools_cell (hfs 3 _ rfl)
  exact ⟨⟨po, pl, ways, opens, wo, wcap, oo, ocap⟩, ⟨one_of e0, e1, one_of e2, e3⟩, h1, h3, n1, n3⟩
/-- A SLICE OF GATES THAT CAME IN. -/
theorem gates_in {H : Type} {enc : TypeId × Value → H} {W : World} {base : Nat} {v : Value} {D : DataW H} {ps : List MemPlace}
    (hv : Value.okWide Try.prog W .any base 25 v) (h : DataW.Trod enc Try.prog W 0 (fun _ => true) true 25 v D ps) :
    ∃ ao cap l, v = .slice ao l.length cap ∧ GRow W ao cap l := by
  obtain ⟨a0, len0, cap0, rfl⟩ := okWide_slice Try.underlying25 hv
  obtain ⟨fuel, hf⟩ := h
  rcases Deep.open_slice Try.underlying25 hf with ⟨hcs, _⟩ | ⟨a, len, cap, m, k, D, Pl, hcs, _, hl, hm, hmm, _, hx⟩
  · simp [Value.cells] at hcs
    obtain ⟨rfl, rfl, rfl⟩ := hcs
    exact ⟨none, 0, [], rfl, ⟨CRow.none _ _ _ _ _, fun g hg => by simp at hg, by simp⟩⟩
  · simp [Value.cells] at hcs
    obtain ⟨rfl, rfl, rfl⟩ := hcs
    rw [if_pos rfl] at hmm
    have each : ∀ i, i < len0 → ∃ t : G, (∀ j, j < 4 → W.cell? (a.add (i * 4 + j)) = some (gC t j)) ∧ GIn W t := by
      intro i hi
      obtain ⟨cs', h1, h2⟩ := hx i (by omega)
      rw [cellsG4] at h1
      obtain ⟨_, hlen, hcell⟩ := World.cells?_some h1
      obtain ⟨c0, c1, c2, c3, rfl⟩ := elist4 hlen
      obtain ⟨t, ⟨rfl, rfl, rfl, rfl⟩, hg⟩ := gate_cells h2
      refine ⟨t, fun j hj => ?_, hg⟩
      have kj := hcell j (by omega)
      rw [Deep.add_add] at kj
      rw [kj]
      rcases (show j = 0 ∨ j = 1 ∨ j = 2 ∨ j = 3 by omega) with rfl | rfl | rfl | rfl
      · rfl
      · rfl
      · rfl
      · rfl
    obtain ⟨q, hq⟩ := Deep.choose_lt each
    refine ⟨some a, cap0, Rl.listOf len0 q, by rw [Rl.listOf_length], ⟨?_, ?_, by rw [Rl.listOf_length]; unfold maxLen at hm; omega⟩⟩
    · rw [Rl.listOf_length]
      have hrow : CRow W (some a) len0 cap0 4 (fun i => gC (q i)) := by
        refine ⟨hl, fun hp => ?_⟩
        obtain ⟨b, off, spot⟩ := a
        have hspot : spot = none := by
          have h0 := (hq 0 (by omega)).1 0 (by omega)
          simpa [Addr.add] using World.cell?_spot h0
        subst hspot
        have hc : ∀ i, i < len0 → ∀ j, j < 4 → _ := fun i hi j hj => (hq i hi).1 j hj
        simp only [add_row] at hc
        exact ⟨b, off, rfl, block_lt_of_cell (hc 0 hp 0 (by omega)), fun i hi j hj => by have := hc i hi j hj; rw [← Nat.add_assoc] at this; exact this⟩
      exact hrow.congr (fun i hi => by rw [Rl.listOf_at len0 q i hi])
    · intro g hg
      obtain ⟨i, hi, rfl⟩ := Rl.mem_gat hg
      rw [Rl.listOf_length] at hi
      rw [Rl.listOf_at len0 q i hi]
      exact (hq i hi).2
/-- A SLICE OF WAYS, by its one cell. -/
theorem ways_cell9 {H : Type} {enc : TypeId × Value → H} {W : World} {v : Value} {fuel : Nat} {x : DataW H × List MemPlace}
    (hf : DataW.trod enc Try.prog W 0 (fun _ => true) true fuel 22 [v] = some x) :
    ∃ ao n cap vs ts, v = .slice ao n cap ∧ WayRow W ao n cap vs ts ∧ n ≤ 9223372036854775807 := by
  rcases Deep.open_slice_pairs Try.underlying22 Try.underlying81 cellsWay9 rfl rfl cellsI1 cellsI1 hf with ⟨hcs, _⟩ | ⟨a, len, cap, m, k, V0, V1, D0, D1, P0, P1, hcs, _, hl, hm, hmm, _, hx⟩
  · simp at hcs
    subst hcs
    exact ⟨none, 0, 0, fun _ => 0, fun _ => 0, rfl, ⟨Nat.le_refl _, fun h => absurd h (by omega)⟩, by omega⟩
  · simp at hcs
    subst hcs
    rw [if_pos rfl] at hmm
    have each : ∀ i, i < len → ∃ q : Int × Int, V0 i = .int .i64 q.1 ∧ V1 i = .int .i64 q.2 := by
      intro i hi
      obtain ⟨_, _, t0, t1⟩ := hx i (by omega)
      obtain ⟨y0, e0, _, _⟩ := DataW.trod_int Try.underlying3 t0
      obtain ⟨y1, e1, _, _⟩ := DataW.trod_int Try.underlying3 t1
      exact ⟨(y0, y1), one_of e0, one_of e1⟩
    obtain ⟨q, hq⟩ := Deep.choose_lt each
    refine ⟨some a, len, cap, fun i => (q i).1, fun i => (q i).2, rfl, ⟨hl, fun hp => ?_⟩, by unfold maxLen at hm; omega⟩
    obtain ⟨b, off, spot⟩ := a
    have hspot : spot = none := by
      have h0 := (hx 0 (by omega)).1
      simpa [Addr.add] using World.cell?_spot h0
    subst hspot
    have hc : ∀ i, i < len → W.cell? ⟨b, off + i * 2, none⟩ = some (.int .i64 (q i).1) ∧ W.cell? ⟨b, off + i * 2 + 1, none⟩ = some (.int .i64 (q i).2) := by
      intro i hi
      obtain ⟨c0, c1, _, _⟩ := hx i (by omega)
      rw [add_row, (hq i hi).1] at c0
      rw [add_row, (hq i hi).2] at c1
      exact ⟨c0, c1⟩
    exact ⟨b, off, rfl, block_lt_of_cell (hc 0 hp).1, hc⟩
set_option maxRecDepth 100000 in
/-- A REGION THAT CAME IN. -/
theorem region_in9 {H : Type} {enc : TypeId × Value → H} {W : World} {base : Nat} {v : Value} {D : DataW H} {ps : List MemPlace}
    (hv : Value.okWide Try.prog W .any base 24 v) (h : DataW.Trod enc Try.prog W 0 (fun _ => true) true 24 v D ps) :
    ∃ r : R, v = .agg #[.string r.name, .int .i64 r.rev, .slice r.ao r.n r.cap] ∧ WayRow W r.ao r.n r.cap r.vs r.ts ∧ r.n ≤ 9223372036854775807 := by
  obtain ⟨cs, rfl, hcs⟩ := okWide_struct Try.underlying24 hv
  rw [cellsRg9] at hcs
  obtain ⟨l⟩ := cs
  obtain ⟨c0, c1, c2, rfl⟩ := list39 (by simpa using hcs)
  obtain ⟨fuel, hf⟩ := h
  obtain ⟨xs, m, _, _, _, hlen, hfs⟩ := DataW.trod_struct Try.underlying24 hf
  obtain ⟨y0, y1, y2, rfl⟩ := list39 (by simpa using hlen)
  have g0 := hfs 0 _ rfl
  have g1 := hfs 1 _ rfl
  have g2 := hfs 2 _ rfl
  simp only [Value.cells] at g0 g1 g2
  obtain ⟨s, e0, _⟩ := DataW.trod_string Try.underlying9 g0
  obtain ⟨rev, e1, _, _⟩ := DataW.trod_int Try.underlying3 g1
  obtain ⟨ao, n, cap, vs, ts, e2, hr, hn⟩ := ways_cell9 g2
  obtain rfl := one_of e0
  obtain rfl := one_of e1
  subst e2
  exact ⟨⟨s, rev, ao, n, cap, vs, ts⟩, rfl, hr, hn⟩
/-- A FRAME THAT CAME IN. -/
theorem frame_in9 {H : Type} {enc : TypeId × Value → H} {W : World} {base : Nat} {v : Value} {D : DataW H} {ps : List MemPlace}
    (hv : Value.okWide Try.prog W .any base 30 v) (h : DataW.Trod enc Try.prog W 0 (fun _ => true) true 30 v D ps) :
    ∃ f : F, v = .agg #[.int .u64 f.dst, .int .u64 f.src, .bool f.tagged, .int .i64 f.prio, .bool f.drop, .int .i64 f.vid, .int .i64 f.type, .slice f.ao f.n f.cap] ∧ ByteRow W f.ao f.n f.cap f.bs ∧ NilOk f.ao f.n f.cap ∧ (0 ≤ f.dst ∧ f.dst < 18446744073709551616) ∧ (0 ≤ f.src ∧ f.src < 18446744073709551616) := by
  obtain ⟨d, s, t, p, dr, vid, y, ao, n, c, bs, rfl, w0, w1, _, _, _, hr, _, hn⟩ := frame_in hv h
  exact ⟨⟨d, s, t, p, dr, vid, y, ao, n, c, bs⟩, rfl, hr, hn, wf_u64 w0, wf_u64 w1⟩
end Go.Proofs.Ytgkmaihleilchaa
