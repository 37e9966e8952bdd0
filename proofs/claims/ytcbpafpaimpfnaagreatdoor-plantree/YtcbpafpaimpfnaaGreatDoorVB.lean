/- Vectors and offers: their cells; rows of them -/
import Derived.Test.YtcbpafpaimpfnaaGreatDoorVMd
import Derived.Test.YtcbpafpaimpfnaaGreatDoorCR
namespace Go.Proofs.YtcbpafpaimpfnaaGreatDoor
open Go.RowKit
open Vc (V Of)

/-- A vector's four cells. -/
def vA (v : V) : Array Value := #[.int .u64 v.root, .int .i64 v.cost, .int .u64 v.bridge, .int .i64 v.port]
theorem sizeVc : (Tryz.prog.info? 48).map (·.size) = some 4 := by kernel_rfl
/-- A vector's cells, in a block of their own. -/
theorem vc_cells {w : World} {g : Nat} {a0 a1 a2 a3 : Value} {ty : TypeId} (h : w.heap[g]? = some (.cells #[a0, a1, a2, a3] ty (0, 0))) :
    w.cell? ⟨g, 0, none⟩ = some a0 ∧ w.cell? ⟨g, 1, none⟩ = some a1 ∧ w.cell? ⟨g, 2, none⟩ = some a2 ∧ w.cell? ⟨g, 3, none⟩ = some a3 :=
  ⟨cell_of_row w g 0 _ _ _ h, cell_of_row w g 1 _ _ _ h, cell_of_row w g 2 _ _ _ h, cell_of_row w g 3 _ _ _ h⟩
theorem vc_free {w : World} {g : Nat} {A : Array Value} {ty : TypeId} (h : w.heap[g]? = some (.cells A ty (0, 0))) :
    w.frozen? ⟨g, 0, none⟩ = false ∧ w.frozen? ⟨g, 1, none⟩ = false ∧ w.frozen? ⟨g, 2, none⟩ = false ∧ w.frozen? ⟨g, 3, none⟩ = false :=
  ⟨frozen_of_row _ _ _ _ _ h, frozen_of_row _ _ _ _ _ h, frozen_of_row _ _ _ _ _ h, frozen_of_row _ _ _ _ _ h⟩
/-- Cell j of a vector, of an offer. -/
def vC (v : V) (j : Nat) : Value := if j = 0 then .int .u64 v.root else if j = 1 then .int .i64 v.cost else if j = 2 then .int .u64 v.bridge else .int .i64 v.port
def ofC (o : Of) (j : Nat) : Value := if j = 0 then .int .i64 o.port else if j = 1 then .int .i64 o.cost else if j = 2 then .int .i64 o.age else vC o.vec (j - 3)
theorem vC_one (v : V) (j : Nat) : (vC v j).oneCell' = true := by
  unfold vC
  repeat' split
  all_goals rfl
theorem ofC_one (o : Of) (j : Nat) : (ofC o j).oneCell' = true := by
  unfold ofC
  repeat' split
  all_goals first | rfl | exact vC_one _ _
abbrev VRow (w : World) (ao : Option Addr) (n cap : Nat) (vs : Nat → V) : Prop := CRow w ao n cap 4 (fun i => vC (vs i))
abbrev ORow (w : World) (ao : Option Addr) (n cap : Nat) (os : Nat → Of) : Prop := CRow w ao n cap 7 (fun i => ofC (os i))
theorem VRow.cells {w : World} {b off n cap : Nat} {vs : Nat → V} (h : VRow w (some ⟨b, off, none⟩) n cap vs) {i : Nat} (hi : i < n) :
    w.cell? ⟨b, off + i * 4, none⟩ = some (.int .u64 (vs i).root) ∧ w.cell? ⟨b, off + i * 4 + 1, none⟩ = some (.int .i64 (vs i).cost) ∧ w.cell? ⟨b, off + i * 4 + 2, none⟩ = some (.int .u64 (vs i).bridge) ∧ w.cell? ⟨b, off + i * 4 + 3, none⟩ = some (.int .i64 (vs i).port) := by
  obtain ⟨b', off', e, _, hc⟩ := h.2 (by omega)
  cases e
  exact ⟨hc i hi 0 (by omega), hc i hi 1 (by omega), hc i hi 2 (by omega), hc i hi 3 (by omega)⟩
theorem ORow.cells {w : World} {b off n cap : Nat} {os : Nat → Of} (h : ORow w (some ⟨b, off, none⟩) n cap os) {i : Nat} (hi : i < n) :
    w.cell? ⟨b, off + i * 7, none⟩ = some (.int .i64 (os i).port) ∧ w.cell? ⟨b, off + i * 7 + 1, none⟩ = some (.int .i64 (os i).cost) ∧ w.cell? ⟨b, off + i * 7 + 2, none⟩ = some (.int .i64 (os i).age) ∧ w.cell? ⟨b, off + i * 7 + 3, none⟩ = some (.int .u64 (os i).vec.root) ∧ w.cell? ⟨b, off + i * 7 + 4, none⟩ = some (.int .i64 (os i).vec.cost) ∧ w.cell? ⟨b, off + i * 7 + 5, none⟩ = some (.int .u64 (os i).vec.bridge) ∧ w.cell? ⟨b, off + i * 7 + 6, none⟩ = some (.int .i64 (os i).vec.port) := by
  obtain ⟨b', off', e, _, hc⟩ := h.2 (by omega)
  cases e
  exact ⟨hc i hi 0 (by omega), hc i hi 1 (by omega), hc i hi 2 (by omega), hc i hi 3 (by omega), hc i hi 4 (by omega), hc i hi 5 (by omega), hc i hi 6 (by omega)⟩
theorem CRow.some {w : World} {ao : Option Addr} {n cap k : Nat} {c : Nat → Nat → Value} (h : CRow w ao n cap k c) (hn : 0 < n) : ∃ b off, ao = .some ⟨b, off, .none⟩ ∧ b < w.heap.size := by
  obtain ⟨b, off, e, hb, _⟩ := h.2 hn
  exact ⟨b, off, e, hb⟩
theorem of_cells {w : World} {g : Nat} {a0 a1 a2 a3 a4 a5 a6 : Value} {ty : TypeId} (h : w.heap[g]? = some (.cells #[a0, a1, a2, a3, a4, a5, a6] ty (0, 0))) :
    w.cell? ⟨g, 0, none⟩ = some a0 ∧ w.cell? ⟨g, 1, none⟩ = some a1 ∧ w.cell? ⟨g, 2, none⟩ = some a2 ∧ w.cell? ⟨g, 3, none⟩ = some a3 ∧ w.cell? ⟨g, 4, none⟩ = some a4 ∧ w.cell? ⟨g, 5, none⟩ = some a5 ∧ w.cell? ⟨g, 6, none⟩ = some a6 :=
  ⟨cell_of_row w g 0 _ _ _ h, cell_of_row w g 1 _ _ _ h, cell_of_row w g 2 _ _ _ h, cell_of_row w g 3 _ _ _ h, cell_of_row w g 4 _ _ _ h, cell_of_row w g 5 _ _ _ h, cell_of_row w g 6 _ _ _ h⟩
theorem someTo_stay (p : Nat → Bool) (k : Nat) (h : p k = true) : ∀ n, k < n → Vc.someTo p n = true := by
  intro n hn
  induction n with
  | zero => omega
  | succ n ih =>
    simp only [Vc.someTo]
    by_cases e : k = n
    · subst e; rw [h, Bool.or_true]
    · rw [ih (by omega), Bool.true_or]
end Go.Proofs.YtcbpafpaimpfnaaGreatDoor
