/- Gates in memory -/
import Derived.Test.YtgkmaihleilchaaYM
import Derived.Test.YtgkmaihleilchaaBI
import Derived.Test.YtgkmaihleilchaaRC
namespace Go.Proofs.Ytgkmaihleilchaa
open Go.RowKit
open Bk (E at')
open Rl (G gat)

/-- A slice of bools: the list l. -/
def BLs (w : World) (ao : Option Addr) (cap : Nat) (l : List Bool) : Prop := CRow w ao l.length cap 1 (fun i _ => .bool (l.getD i false))
theorem BLs.below {w w' : World} {ao : Option Addr} {cap : Nat} {l : List Bool} (h : BLs w ao cap l) (hb : Below w.heap.size w w') : BLs w' ao cap l := CRow.below h hb
theorem BLs.cell {w : World} {b off cap : Nat} {l : List Bool} (h : BLs w (some ⟨b, off, none⟩) cap l) {i : Nat} (hi : i < l.length) : w.cell? ⟨b, off + i, none⟩ = some (.bool (l.getD i false)) := by
  obtain ⟨b', off', e, _, hc⟩ := h.2 (by omega)
  cases e
  have := hc i hi 0 (by omega)
  rw [Nat.mul_one, Nat.add_zero] at this
  exact this
theorem BLs.place {w : World} {ao : Option Addr} {cap : Nat} {l : List Bool} (h : BLs w ao cap l) (hn : 0 < l.length) : ∃ b off, ao = .some ⟨b, off, .none⟩ ∧ b < w.heap.size := by
  obtain ⟨b, off, e, hb, _⟩ := h.2 hn
  exact ⟨b, off, e, hb⟩
theorem BLs.of {w : World} {ao : Option Addr} {n cap : Nat} {f : Nat → Bool} (h : CRow w ao n cap 1 (fun i _ => .bool (f i))) : BLs w ao cap ((List.range n).map f) := by
  unfold BLs
  rw [show ((List.range n).map f).length = n by simp]
  exact h.congr (fun i hi => by simp [hi])
/-- A gate's four cells. -/
def gA (g : G) : Array Value := #[.int .i64 g.port, .slice g.wo g.ways.length g.wcap, .int .i64 g.plain, .slice g.oo g.opens.length g.ocap]
def gC (g : G) (j : Nat) : Value := if j = 0 then .int .i64 g.port else if j = 1 then .slice g.wo g.ways.length g.wcap else if j = 2 then .int .i64 g.plain else .slice g.oo g.opens.length g.ocap
theorem gC_one (g : G) (j : Nat) : (gC g j).oneCell' = true := by
  unfold gC
  repeat' split
  all_goals rfl
theorem gt_cells {w : World} {g : Nat} {a0 a1 a2 a3 : Value} {ty : TypeId} (h : w.heap[g]? = some (.cells #[a0, a1, a2, a3] ty (0, 0))) :
    w.cell? ⟨g, 0, none⟩ = some a0 ∧ w.cell? ⟨g, 1, none⟩ = some a1 ∧ w.cell? ⟨g, 2, none⟩ = some a2 ∧ w.cell? ⟨g, 3, none⟩ = some a3 :=
  ⟨cell_of_row w g 0 _ _ _ h, cell_of_row w g 1 _ _ _ h, cell_of_row w g 2 _ _ _ h, cell_of_row w g 3 _ _ _ h⟩
/-- What a gate's slices hold. -/
structure GIn (w : World) (g : G) : Prop where
  ways : ILs w g.wo g.wcap g.ways
  opens : BLs w g.oo g.ocap g.opens
  wn : g.ways.length ≤ 9223372036854775807
  on : g.opens.length ≤ 9223372036854775807
theorem GIn.below {w w' : World} {g : G} (h : GIn w g) (hb : Below w.heap.size w w') : GIn w' g := ⟨h.ways.below hb, h.opens.below hb, h.wn, h.on⟩
/-- A slice of gates: the list l. -/
structure GRow (w : World) (ao : Option Addr) (cap : Nat) (l : List G) : Prop where
  row : CRow w ao l.length cap 4 (fun i => gC (gat l i))
  each : ∀ g ∈ l, GIn w g
  many : l.length ≤ 9223372036854775807
theorem GRow.below {w w' : World} {ao : Option Addr} {cap : Nat} {l : List G} (h : GRow w ao cap l) (hb : Below w.heap.size w w') : GRow w' ao cap l := ⟨h.row.below hb, fun g hg => (h.each g hg).below hb, h.many⟩
theorem GRow.cells {w : World} {b off cap : Nat} {l : List G} (h : GRow w (some ⟨b, off, none⟩) cap l) {i : Nat} (hi : i < l.length) :
    w.cell? ⟨b, off + i * 4, none⟩ = some (.int .i64 (gat l i).port) ∧ w.cell? ⟨b, off + i * 4 + 1, none⟩ = some (.slice (gat l i).wo (gat l i).ways.length (gat l i).wcap) ∧ w.cell? ⟨b, off + i * 4 + 2, none⟩ = some (.int .i64 (gat l i).plain) ∧ w.cell? ⟨b, off + i * 4 + 3, none⟩ = some (.slice (gat l i).oo (gat l i).opens.length (gat l i).ocap) := by
  obtain ⟨b', off', e, _, hc⟩ := h.row.2 (by omega)
  cases e
  exact ⟨hc i hi 0 (by omega), hc i hi 1 (by omega), hc i hi 2 (by omega), hc i hi 3 (by omega)⟩
theorem GRow.place {w : World} {ao : Option Addr} {cap : Nat} {l : List G} (h : GRow w ao cap l) (hn : 0 < l.length) : ∃ b off, ao = .some ⟨b, off, .none⟩ ∧ b < w.heap.size := by
  obtain ⟨b, off, e, hb, _⟩ := h.row.2 hn
  exact ⟨b, off, e, hb⟩
theorem GRow.at {w : World} {ao : Option Addr} {cap : Nat} {l : List G} (h : GRow w ao cap l) {i : Nat} (hi : i < l.length) : GIn w (gat l i) := h.each _ (Rl.gat_mem l i hi)
end Go.Proofs.Ytgkmaihleilchaa
