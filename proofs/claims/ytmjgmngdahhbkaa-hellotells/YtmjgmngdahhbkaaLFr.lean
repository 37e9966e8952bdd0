/- What the rows of hellos ask: a hello, and a tale, that came in. -/
import Derived.Test.YtmjgmngdahhbkaaLW1
import Derived.Test.YtmjgmngdahhbkaaFrG
import Derived.Deep.Slices
namespace Go.Proofs.Ytmjgmngdahhbkaa
open Go.ChangeShapes Go.WideShapes Go.ChangeAt Go.RowKit
open Hl (Tl)

theorem cellsHl : Try.prog.cellsOf 25 = 2 := by kernel_rfl
theorem cellsTl : Try.prog.cellsOf 39 = 6 := by kernel_rfl
theorem cellsVc : Try.prog.cellsOf 37 = 4 := by kernel_rfl
theorem hlist2 {α : Type} {l : List α} (h : l.length = 2) : ∃ c0 c1, l = [c0, c1] := by
  match l, h with
  | [c0, c1], _ => exact ⟨c0, c1, rfl⟩
theorem hlist3 {α : Type} {l : List α} (h : l.length = 3) : ∃ c0 c1 c2, l = [c0, c1, c2] := by
  match l, h with
  | [c0, c1, c2], _ => exact ⟨c0, c1, c2, rfl⟩
theorem hlist4 {α : Type} {l : List α} (h : l.length = 4) : ∃ c0 c1 c2 c3, l = [c0, c1, c2, c3] := by
  match l, h with
  | [c0, c1, c2, c3], _ => exact ⟨c0, c1, c2, c3, rfl⟩
theorem hlist6 {α : Type} {l : List α} (h : l.length = 6) : ∃ c0 c1 c2 c3 c4 c5, l = [c0, c1, c2, c3, c4, c5] := by
  match l, h with
  | [c0, c1, c2, c3, c4, c5], _ => exact ⟨c0, c1, c2, c3, c4, c5, rfl⟩
/-- A VECTOR, by its four cells. -/
theorem vec_cells {H : Type} {enc : TypeId × Value → H} {W : World} {c0 c1 c2 c3 : Value} {fuel : Nat} {x : DataW H × List MemPlace}
    (hf : DataW.trod enc Try.prog W 0 (fun _ => true) true fuel 37 [c0, c1, c2, c3] = some x) :
    ∃ ro co br po : Int, c0 = .int .u64 ro ∧ c1 = .int .i64 co ∧ c2 = .int .u64 br ∧ c3 = .int .i64 po ∧ (0 ≤ ro ∧ ro < 18446744073709551616) ∧ 0 ≤ br ∧ br < 18446744073709551616 := by
  obtain ⟨xs, m, _, _, _, hlen, hfs⟩ := DataW.trod_struct Try.underlying37 hf
  obtain ⟨y0, y1, y2, y3, rfl⟩ := hlist4 (by simpa using hlen)
  obtain ⟨ro, e0, _, w0⟩ := DataW.trod_int Try.underlying35 (hfs 0 _ rfl)
  obtain ⟨co, e1, _, _⟩ := DataW.trod_int Try.underlying3 (hfs 1 _ rfl)
  obtain ⟨br, e2, _, w2⟩ := DataW.trod_int Try.underlying35 (hfs 2 _ rfl)
  obtain ⟨po, e3, _, _⟩ := DataW.trod_int Try.underlying3 (hfs 3 _ rfl)
  exact ⟨ro, co, br, po, one_of e0, one_of e1, one_of e2, one_of e3, wf_u64 w0, wf_u64 w2⟩
/-- A TALE, by its six cells. -/
theorem tale_cells {H : Type} {enc : TypeId × Value → H} {W : World} {c0 c1 c2 c3 c4 c5 : Value} {fuel : Nat} {x : DataW H × List MemPlace}
    (hf : DataW.trod enc Try.prog W 0 (fun _ => true) true fuel 39 [c0, c1, c2, c3, c4, c5] = some x) :
    ∃ t : Tl, c0 = .int .i64 t.tree ∧ c1 = .int .u64 t.root ∧ c2 = .int .i64 t.cost ∧ c3 = .int .u64 t.bridge ∧ c4 = .int .i64 t.port ∧ c5 = .int .i64 t.age ∧ t.wide := by
  obtain ⟨xs, m, _, _, _, hlen, hfs⟩ := DataW.trod_struct Try.underlying39 hf
  obtain ⟨y0, y1, y2, rfl⟩ := hlist3 (by simpa using hlen)
  obtain ⟨tr, e0, _, _⟩ := DataW.trod_int Try.underlying3 (hfs 0 _ rfl)
  obtain ⟨ag, e5, _, _⟩ := DataW.trod_int Try.underlying3 (hfs 2 _ rfl)
  have g1 := hfs 1 _ rfl

  obtain ⟨ro, co, br, po, e1, e2, e3, e4, h1, h2⟩ := vec_cells g1
  exact ⟨⟨tr, ro, co, br, po, ag⟩, one_of e0, e1, e2, e3, e4, one_of e5, h1, h2⟩
/-- A SLICE OF TALES, by its one cell. -/
theorem tales_cell {H : Type} {enc : TypeId × Value → H} {W : World} {v : Value} {fuel : Nat} {x : DataW H × List MemPlace}
    (hf : DataW.trod enc Try.prog W 0 (fun _ => true) true fuel 23 [v] = some x) :
    ∃ ao n cap ts, v = .slice ao n cap ∧ TaleRow W ao n cap ts ∧ (∀ i, i < n → (ts i).wide) ∧ (ao = none → n = 0 ∧ cap = 0) ∧ n ≤ 9223372036854775807 := by
  rcases Deep.open_slice Try.underlying23 hf with ⟨hcs, _⟩ | ⟨a, len, cap, m, k, D, Pl, hcs, _, hl, hm, hmm, _, hx⟩
  · simp at hcs
    subst hcs
    exact ⟨none, 0, 0, fun _ => ⟨0, 0, 0, 0, 0, 0⟩, rfl, ⟨Nat.le_refl _, fun h => absurd h (by omega)⟩, fun i hi => absurd hi (by omega), fun _ => ⟨rfl, rfl⟩, by omega⟩
  · simp at hcs
    subst hcs
    rw [if_pos rfl] at hmm
    have each : ∀ i, i < len → ∃ t : Tl, (W.cell? (a.add (i * 6)) = some (.int .i64 t.tree) ∧ W.cell? (a.add (i * 6 + 1)) = some (.int .u64 t.root) ∧ W.cell? (a.add (i * 6 + 2)) = some (.int .i64 t.cost) ∧ W.cell? (a.add (i * 6 + 3)) = some (.int .u64 t.bridge) ∧ W.cell? (a.add (i * 6 + 4)) = some (.int .i64 t.port) ∧ W.cell? (a.add (i * 6 + 5)) = some (.int .i64 t.age)) ∧ t.wide := by
      intro i hi
      obtain ⟨cs', h1, h2⟩ := hx i (by omega)
      rw [cellsTl] at h1
      obtain ⟨_, hlen, hcell⟩ := World.cells?_some h1
      obtain ⟨c0, c1, c2, c3, c4, c5, rfl⟩ := hlist6 hlen
      obtain ⟨t, e0, e1, e2, e3, e4, e5, hw⟩ := tale_cells h2
      have k0 := hcell 0 (by omega)
      have k1 := hcell 1 (by omega)
      have k2 := hcell 2 (by omega)
      have k3 := hcell 3 (by omega)
      have k4 := hcell 4 (by omega)
      have k5 := hcell 5 (by omega)
      rw [Deep.add_add] at k0 k1 k2 k3 k4 k5
      subst e0 e1 e2 e3 e4 e5
      exact ⟨t, ⟨by simpa using k0, by simpa using k1, by simpa using k2, by simpa using k3, by simpa using k4, by simpa using k5⟩, hw⟩
    haveI : Inhabited Tl := ⟨⟨0, 0, 0, 0, 0, 0⟩⟩
    obtain ⟨q, hq⟩ := Deep.choose_lt each
    refine ⟨some a, len, cap, q, rfl, ⟨hl, fun hp => ?_⟩, fun i hi => (hq i hi).2, (fun e => by cases e), by unfold maxLen at hm; omega⟩
    obtain ⟨b, off, spot⟩ := a
    have hspot : spot = none := by
      have h0 := (hq 0 (by omega)).1.1
      simpa [Addr.add] using World.cell?_spot h0
    subst hspot
    have hc : ∀ i, i < len → _ := fun i hi => (hq i hi).1
    simp only [add_row] at hc
    exact ⟨b, off, rfl, block_lt_of_cell (hc 0 hp).1, fun i hi => by have := hc i hi; simpa [Nat.add_assoc] using this⟩
/-- A hello that came in. -/
structure HlIn where
  da : Option Addr
  dn : Nat
  dc : Nat
  dg : Nat → Int
  ao : Option Addr
  n : Nat
  cap : Nat
  ts : Nat → Tl
/-- It lies there. -/
structure HlIn.at' (h : HlIn) (w : World) : Prop where
  dig : ByteRow w h.da h.dn h.dc h.dg
  range : ∀ i, i < h.dn → 0 ≤ h.dg i ∧ h.dg i ≤ 255
  dnil : NilOk h.da h.dn h.dc
  tales : TaleRow w h.ao h.n h.cap h.ts
  wide : ∀ i, i < h.n → (h.ts i).wide
  tnil : NilOk h.ao h.n h.cap
  many : h.n ≤ 9223372036854775807
/-- A HELLO THAT CAME IN. -/
theorem hello_in {H : Type} {enc : TypeId × Value → H} {W : World} {base : Nat} {v : Value} {D : DataW H} {ps : List MemPlace}
    (hv : Value.okWide Try.prog W .any base 25 v) (h : DataW.Trod enc Try.prog W 0 (fun _ => true) true 25 v D ps) :
    ∃ r : HlIn, v = .agg #[.slice r.da r.dn r.dc, .slice r.ao r.n r.cap] ∧ r.at' W := by
  obtain ⟨cs, rfl, hcs⟩ := okWide_struct Try.underlying25 hv
  rw [cellsHl] at hcs
  obtain ⟨l⟩ := cs
  obtain ⟨c0, c1, rfl⟩ := hlist2 (by simpa using hcs)
  obtain ⟨fuel, hf⟩ := h
  obtain ⟨xs, m, _, _, _, hlen, hfs⟩ := DataW.trod_struct Try.underlying25 hf
  obtain ⟨y0, y1, rfl⟩ := hlist2 (by simpa using hlen)
  have g0 := hfs 0 _ rfl
  have g1 := hfs 1 _ rfl
  simp only [Value.cells] at g0 g1
  obtain ⟨da, dn, dc, dg, rfl, h1, h2, h3⟩ := bytes_cell g0
  obtain ⟨ao, n, cap, ts, rfl, k1, k2, k3, k4⟩ := tales_cell g1
  exact ⟨⟨da, dn, dc, dg, ao, n, cap, ts⟩, rfl, h1, h2, h3, k1, k2, k3, k4⟩
/-- A TALE THAT CAME IN. -/
theorem tale_in {H : Type} {enc : TypeId × Value → H} {W : World} {base : Nat} {v : Value} {D : DataW H} {ps : List MemPlace}
    (hv : Value.okWide Try.prog W .any base 39 v) (h : DataW.Trod enc Try.prog W 0 (fun _ => true) true 39 v D ps) :
    ∃ t : Tl, v = .agg (tlA t) ∧ t.wide := by
  obtain ⟨cs, rfl, hcs⟩ := okWide_struct Try.underlying39 hv
  rw [cellsTl] at hcs
  obtain ⟨l⟩ := cs
  obtain ⟨c0, c1, c2, c3, c4, c5, rfl⟩ := hlist6 (by simpa using hcs)
  obtain ⟨fuel, hf⟩ := h
  simp only [Value.cells] at hf
  obtain ⟨t, rfl, rfl, rfl, rfl, rfl, rfl, hw⟩ := tale_cells hf
  exact ⟨t, rfl, hw⟩
end Go.Proofs.Ytmjgmngdahhbkaa
