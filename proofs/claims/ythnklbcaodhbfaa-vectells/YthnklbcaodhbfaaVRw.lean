/- Rows of vectors: a block of their own -/
import Derived.Test.YthnklbcaodhbfaaVB2
import Derived.Test.YthnklbcaodhbfaaVSm
namespace Go.Proofs.Ythnklbcaodhbfaa
open Go.RowKit
open Vc (V Of)

def rowV (n : Nat) (f : Nat → V) : Array Value := ((List.range (n * 4)).map (fun j => vC (f (j / 4)) (j % 4))).toArray
theorem rowV_size (n : Nat) (f : Nat → V) : (rowV n f).size = n * 4 := by simp [rowV]
theorem rowV_get (n : Nat) (f : Nat → V) (k j : Nat) (hk : k < n) (hj : j < 4) : (rowV n f)[k * 4 + j]? = some (vC (f k) j) := by
  have h : k * 4 + j < n * 4 := by omega
  simp [rowV, h]
  rw [show (k * 4 + j) / 4 = k by omega, Nat.mod_eq_of_lt hj]
theorem rowV_put1 (n : Nat) (k j : Nat) (v : Value) (A : Array Value) (hs : A.size = n * 4) (hk : k < n) (hj : j < 4) (x : Nat) : (A.setIfInBounds (k * 4 + j) v)[x]? = if x = k * 4 + j then some v else A[x]? := by
  rw [Array.getElem?_setIfInBounds]
  by_cases e : k * 4 + j = x
  · rw [if_pos e, if_pos e.symm, if_pos (by omega)]
  · rw [if_neg e, if_neg (fun h => e h.symm)]
/-- The four cells of a vector, stored. -/
theorem rowV_put (n : Nat) (f : Nat → V) (k : Nat) (v : V) (hk : k < n) :
    ((((rowV n f).setIfInBounds (k * 4) (.int .u64 v.root)).setIfInBounds (k * 4 + 1) (.int .i64 v.cost)).setIfInBounds (k * 4 + 2) (.int .u64 v.bridge)).setIfInBounds (k * 4 + 3) (.int .i64 v.port) = rowV n (fun i => if i = k then v else f i) := by
  apply Array.ext_getElem?
  intro x
  rw [rowV_put1 n k 3 _ _ (by simp [rowV_size]) hk (by omega), rowV_put1 n k 2 _ _ (by simp [rowV_size]) hk (by omega), rowV_put1 n k 1 _ _ (by simp [rowV_size]) hk (by omega)]
  have h0 := rowV_put1 n k 0 (.int .u64 v.root) (rowV n f) (rowV_size n f) hk (by omega) x
  rw [Nat.add_zero] at h0
  rw [h0]
  by_cases hx : x < n * 4
  · have ex : x = (x / 4) * 4 + x % 4 := by omega
    have h4 : x % 4 < 4 := Nat.mod_lt _ (by omega)
    have hq : x / 4 < n := by omega
    have e1 : (rowV n (fun i => if i = k then v else f i))[x]? = some (vC (if x / 4 = k then v else f (x / 4)) (x % 4)) := by
      have := rowV_get n (fun i => if i = k then v else f i) (x / 4) (x % 4) hq h4
      rw [← ex] at this
      exact this
    have e2 : (rowV n f)[x]? = some (vC (f (x / 4)) (x % 4)) := by
      have := rowV_get n f (x / 4) (x % 4) hq h4
      rw [← ex] at this
      exact this
    rw [e1, e2]
    by_cases c : x / 4 = k
    · rw [if_pos c]
      rcases (by omega : x % 4 = 0 ∨ x % 4 = 1 ∨ x % 4 = 2 ∨ x % 4 = 3) with e | e | e | e <;> rw [e]
      · rw [if_neg (by omega), if_neg (by omega), if_neg (by omega), if_pos (by omega)]; rfl
      · rw [if_neg (by omega), if_neg (by omega), if_pos (by omega)]; rfl
      · rw [if_neg (by omega), if_pos (by omega)]; rfl
      · rw [if_pos (by omega)]; rfl
    · rw [if_neg c, if_neg (by omega), if_neg (by omega), if_neg (by omega), if_neg (by omega)]
  · rw [if_neg (by omega), if_neg (by omega), if_neg (by omega), if_neg (by omega), Array.getElem?_eq_none (by rw [rowV_size]; omega), Array.getElem?_eq_none (by rw [rowV_size]; omega)]
theorem rowV_congr (n : Nat) (f g : Nat → V) (h : ∀ i, i < n → f i = g i) : rowV n f = rowV n g := by
  unfold rowV
  congr 1
  apply List.map_congr_left
  intro j hj
  have hj : j < n * 4 := by simpa using hj
  rw [h (j / 4) (by omega)]
section
variable {w : World} {g n : Nat} {f : Nat → V} {ty : TypeId}
theorem rowV_cells (h : w.heap[g]? = some (.cells (rowV n f) ty (0, 0))) {k : Nat} (hk : k < n) :
    w.cell? ⟨g, k * 4, none⟩ = some (.int .u64 (f k).root) ∧ w.cell? ⟨g, k * 4 + 1, none⟩ = some (.int .i64 (f k).cost) ∧ w.cell? ⟨g, k * 4 + 2, none⟩ = some (.int .u64 (f k).bridge) ∧ w.cell? ⟨g, k * 4 + 3, none⟩ = some (.int .i64 (f k).port) := by
  have H : ∀ j, j < 4 → w.cell? ⟨g, k * 4 + j, none⟩ = some (vC (f k) j) := fun j hj => (cell_of_row w g _ _ _ _ h).trans (rowV_get n f k j hk hj)
  exact ⟨H 0 (by omega), H 1 (by omega), H 2 (by omega), H 3 (by omega)⟩
theorem rowV_free (h : w.heap[g]? = some (.cells (rowV n f) ty (0, 0))) (k : Nat) :
    w.frozen? ⟨g, k * 4, none⟩ = false ∧ w.frozen? ⟨g, k * 4 + 1, none⟩ = false ∧ w.frozen? ⟨g, k * 4 + 2, none⟩ = false ∧ w.frozen? ⟨g, k * 4 + 3, none⟩ = false :=
  ⟨frozen_of_row _ _ _ _ _ h, frozen_of_row _ _ _ _ _ h, frozen_of_row _ _ _ _ _ h, frozen_of_row _ _ _ _ _ h⟩
theorem rowV_set (h : w.heap[g]? = some (.cells (rowV n f) ty (0, 0))) {k : Nat} (hk : k < n) (v : V) :
    ((((w.setCell ⟨g, k * 4, none⟩ (.int .u64 v.root)).setCell ⟨g, k * 4 + 1, none⟩ (.int .i64 v.cost)).setCell ⟨g, k * 4 + 2, none⟩ (.int .u64 v.bridge)).setCell ⟨g, k * 4 + 3, none⟩ (.int .i64 v.port)).heap[g]? = some (.cells (rowV n (fun i => if i = k then v else f i)) ty (0, 0)) := by
  rw [heap_setCell_same _ _ _ _ _ _ (heap_setCell_same _ _ _ _ _ _ (heap_setCell_same _ _ _ _ _ _ (heap_setCell_same _ _ _ _ _ _ h)))]
  rw [rowV_put n f k v hk]
/-- Two vectors, changed for each other: eight stores. -/
theorem rowV_swap (h : w.heap[g]? = some (.cells (rowV n f) ty (0, 0))) {i j : Nat} (hi : i < n) (hj : j < n) (hne : i ≠ j) :
    ((((((((w.setCell ⟨g, i * 4, none⟩ (.int .u64 (f j).root)).setCell ⟨g, i * 4 + 1, none⟩ (.int .i64 (f j).cost)).setCell ⟨g, i * 4 + 2, none⟩ (.int .u64 (f j).bridge)).setCell ⟨g, i * 4 + 3, none⟩ (.int .i64 (f j).port)).setCell ⟨g, j * 4, none⟩ (.int .u64 (f i).root)).setCell ⟨g, j * 4 + 1, none⟩ (.int .i64 (f i).cost)).setCell ⟨g, j * 4 + 2, none⟩ (.int .u64 (f i).bridge)).setCell ⟨g, j * 4 + 3, none⟩ (.int .i64 (f i).port)).heap[g]? = some (.cells (rowV n (Vc.swp f i j)) ty (0, 0)) := by
  rw [rowV_set (rowV_set h hi (f j)) hj (f i)]
  congr 2
  apply rowV_congr
  intro x _
  unfold Vc.swp
  by_cases e : x = j
  · rw [if_pos e]
    by_cases e2 : x = i
    · omega
    · rw [if_neg e2, if_pos e]
  · rw [if_neg e, if_neg e]
theorem below_set8 {B : Nat} {u w : World} (h : Below B u w) (hg : B ≤ g) {o1 o2 o3 o4 o5 o6 o7 o8 : Nat} {v1 v2 v3 v4 v5 v6 v7 v8 : Value} :
    Below B u ((((((((w.setCell ⟨g, o1, none⟩ v1).setCell ⟨g, o2, none⟩ v2).setCell ⟨g, o3, none⟩ v3).setCell ⟨g, o4, none⟩ v4).setCell ⟨g, o5, none⟩ v5).setCell ⟨g, o6, none⟩ v6).setCell ⟨g, o7, none⟩ v7).setCell ⟨g, o8, none⟩ v8) :=
  (((((((h.setCell hg _).setCell hg _).setCell hg _).setCell hg _).setCell hg _).setCell hg _).setCell hg _).setCell hg _
theorem swap_fin {B : Nat} {u : World} (h : w.heap[g]? = some (.cells (rowV n f) ty (0, 0))) (hb : Below B u w) (hg : B ≤ g) {i j : Nat} (hi : i < n) (hj : j < n) (hne : i ≠ j) {F : Nat → V} (e : Vc.swp f i j = F) :
    ((((((((w.setCell ⟨g, i * 4, none⟩ (.int .u64 (f j).root)).setCell ⟨g, i * 4 + 1, none⟩ (.int .i64 (f j).cost)).setCell ⟨g, i * 4 + 2, none⟩ (.int .u64 (f j).bridge)).setCell ⟨g, i * 4 + 3, none⟩ (.int .i64 (f j).port)).setCell ⟨g, j * 4, none⟩ (.int .u64 (f i).root)).setCell ⟨g, j * 4 + 1, none⟩ (.int .i64 (f i).cost)).setCell ⟨g, j * 4 + 2, none⟩ (.int .u64 (f i).bridge)).setCell ⟨g, j * 4 + 3, none⟩ (.int .i64 (f i).port)).drew.heap[g]? = some (.cells (rowV n F) ty (0, 0)) ∧
      Below B u ((((((((w.setCell ⟨g, i * 4, none⟩ (.int .u64 (f j).root)).setCell ⟨g, i * 4 + 1, none⟩ (.int .i64 (f j).cost)).setCell ⟨g, i * 4 + 2, none⟩ (.int .u64 (f j).bridge)).setCell ⟨g, i * 4 + 3, none⟩ (.int .i64 (f j).port)).setCell ⟨g, j * 4, none⟩ (.int .u64 (f i).root)).setCell ⟨g, j * 4 + 1, none⟩ (.int .i64 (f i).cost)).setCell ⟨g, j * 4 + 2, none⟩ (.int .u64 (f i).bridge)).setCell ⟨g, j * 4 + 3, none⟩ (.int .i64 (f i).port)).drew := by
  subst e
  exact ⟨drew_row (rowV_swap h hi hj hne), (below_set8 hb hg).drew⟩
/-- It lies there as a slice. -/
theorem rowV_row (h : w.heap[g]? = some (.cells (rowV n f) ty (0, 0))) {cap : Nat} (hc : n ≤ cap) : VRow w (some ⟨g, 0, none⟩) n cap f := by
  refine ⟨hc, fun _ => ⟨g, 0, rfl, (Array.getElem?_eq_some_iff.1 h).1, fun i hi j hj => ?_⟩⟩
  rw [Nat.zero_add]
  exact (cell_of_row w g _ _ _ _ h).trans (rowV_get n f i j hi hj)
end
end Go.Proofs.Ythnklbcaodhbfaa
