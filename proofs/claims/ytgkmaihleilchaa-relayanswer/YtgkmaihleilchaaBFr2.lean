/- What the rows of books ask besides: a slice of ints that came in. -/
import Derived.Test.YtgkmaihleilchaaBFr
import Derived.Test.YtgkmaihleilchaaBI
namespace Go.Proofs.Ytgkmaihleilchaa
open Go.ChangeShapes Go.WideShapes Go.ChangeAt Go.RowKit
set_option maxRecDepth 100000

theorem cellsI1 : Try.prog.cellsOf 3 = 1 := by kernel_rfl
theorem ilist1 {α : Type} {l : List α} (h : l.length = 1) : ∃ c0, l = [c0] := by
  match l, h with
  | [c0], _ => exact ⟨c0, rfl⟩
theorem ints_cell {H : Type} {enc : TypeId × Value → H} {W : World} {v : Value} {fuel : Nat} {x : DataW H × List MemPlace}
    (hf : DataW.trod enc Try.prog W 0 (fun _ => true) true fuel 44 [v] = some x) :
    ∃ ao cap l, v = .slice ao l.length cap ∧ ILs W ao cap l ∧ NilOk ao l.length cap ∧ l.length ≤ 9223372036854775807 := by
  rcases Deep.open_slice Try.underlying44 hf with ⟨hcs, _⟩ | ⟨a, len, cap, m, k, D, Pl, hcs, _, hl, hm, hmm, _, hx⟩
  · simp at hcs
    subst hcs
    exact ⟨none, 0, [], rfl, CRow.none _ _ _ _ _, fun _ => ⟨rfl, rfl⟩, by simp⟩
  · simp at hcs
    subst hcs
    rw [if_pos rfl] at hmm
    have each : ∀ i, i < len → ∃ t : Int, W.cell? (a.add i) = some (.int .i64 t) := by
      intro i hi
      obtain ⟨cs', h1, h2⟩ := hx i (by omega)
      rw [cellsI1] at h1
      obtain ⟨_, hlen, hcell⟩ := World.cells?_some h1
      obtain ⟨c0, rfl⟩ := ilist1 hlen
      obtain ⟨t, e, _, _⟩ := DataW.trod_int Try.underlying3 h2
      have e2 := one_of e
      have kj := hcell 0 (by omega)
      rw [Deep.add_add] at kj
      refine ⟨t, ?_⟩
      rw [show i * 1 + 0 = i by omega] at kj
      rw [kj]
      simp [e2]
    obtain ⟨q, hq⟩ := Deep.choose_lt each
    have hrow : CRow W (some a) len cap 1 (fun i _ => .int .i64 (q i)) := by
      refine ⟨hl, fun hp => ?_⟩
      obtain ⟨b, off, spot⟩ := a
      have hspot : spot = none := by
        have h0 := hq 0 (by omega)
        simpa [Addr.add] using World.cell?_spot h0
      subst hspot
      have hc : ∀ i, i < len → _ := fun i hi => hq i hi
      simp only [add_row] at hc
      exact ⟨b, off, rfl, block_lt_of_cell (hc 0 hp), fun i hi j hj => by obtain rfl : j = 0 := by omega
                                                                          have := hc i hi; rw [Nat.mul_one, Nat.add_zero]; exact this⟩
    have hlen : ((List.range len).map q).length = len := by simp
    refine ⟨some a, cap, (List.range len).map q, by rw [hlen], ILs.of hrow, (fun e => by cases e), by rw [hlen]; unfold maxLen at hm; omega⟩
theorem ints_in {H : Type} {enc : TypeId × Value → H} {W : World} {base : Nat} {v : Value} {D : DataW H} {ps : List MemPlace}
    (hv : Value.okWide Try.prog W .any base 44 v) (h : DataW.Trod enc Try.prog W 0 (fun _ => true) true 44 v D ps) :
    ∃ ao cap l, v = .slice ao l.length cap ∧ ILs W ao cap l ∧ NilOk ao l.length cap ∧ l.length ≤ 9223372036854775807 := by
  obtain ⟨a0, len0, cap0, rfl⟩ := okWide_slice Try.underlying44 hv
  obtain ⟨fuel, hf⟩ := h
  exact ints_cell hf
end Go.Proofs.Ytgkmaihleilchaa
