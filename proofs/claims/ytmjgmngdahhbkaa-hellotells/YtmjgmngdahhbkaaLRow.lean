/- Rows of tales: made, and filled tale by tale. -/
import Derived.Test.YtmjgmngdahhbkaaLW4
namespace Go.Proofs.Ytmjgmngdahhbkaa
open Go.RowKit
open Hl (Tl)

/-- Cell j of a tale. -/
def l9tlC (t : Tl) (j : Nat) : Value :=
  if j = 0 then .int .i64 t.tree else if j = 1 then .int .u64 t.root else if j = 2 then .int .i64 t.cost else if j = 3 then .int .u64 t.bridge else if j = 4 then .int .i64 t.port else .int .i64 t.age
/-- A row of M cells. -/
def l9rowC (M : Nat) (c : Nat → Value) : Array Value := ((List.range M).map c).toArray
theorem l9rowC_size (M : Nat) (c : Nat → Value) : (l9rowC M c).size = M := by simp [l9rowC]
theorem l9rowC_get (M : Nat) (c : Nat → Value) (j : Nat) (h : j < M) : (l9rowC M c)[j]? = some (c j) := by simp [l9rowC, h]
theorem l9rowC_set (M : Nat) (c : Nat → Value) (k : Nat) (v : Value) (h : k < M) : (l9rowC M c).setIfInBounds k v = l9rowC M (fun i => if i = k then v else c i) := by
  apply Array.ext_getElem?
  intro i
  by_cases hi : i < M
  · rw [l9rowC_get M _ i hi, Array.getElem?_setIfInBounds]
    by_cases e : k = i
    · subst e; simp [l9rowC_size, h]
    · rw [if_neg e, l9rowC_get M c i hi, if_neg (fun h => e h.symm)]
  · rw [Array.getElem?_eq_none (by simp [l9rowC_size]; omega), Array.getElem?_eq_none (by simp [l9rowC_size]; omega)]
theorem l9rowC_congr (M : Nat) (c d : Nat → Value) (h : ∀ i, i < M → c i = d i) : l9rowC M c = l9rowC M d := by
  unfold l9rowC
  congr 1
  apply List.map_congr_left
  intro i hi
  rw [h i (by simpa using hi)]
/-- The cells of n tales. -/
def tlsC (ts : Nat → Tl) (j : Nat) : Value := l9tlC (ts (j / 6)) (j % 6)
def tl0 : Tl := ⟨0, 0, 0, 0, 0, 0⟩
/-- The first k tales, noughts behind. -/
def upTo (ts : Nat → Tl) (k i : Nat) : Tl := if i < k then ts i else tl0
theorem l9infoTl : (Try.prog.info? 39).map (fun i => (i.zero, i.size, i.bytes)) = some (some (.agg (tlA tl0)), 6, 48) := by kernel_rfl
theorem made_tales (M : Nat) : madeCells (Value.agg (tlA tl0)).cells M = l9rowC M (tlsC (upTo (fun _ => tl0) 0)) := by
  apply Array.ext_getElem?
  intro i
  by_cases h : i < M
  · rw [l9rowC_get _ _ _ h]
    have h6 : i % 6 < 6 := Nat.mod_lt _ (by omega)
    unfold tlsC
    rw [show upTo (fun _ => tl0) 0 (i / 6) = tl0 from if_neg (by omega)]
    simp [madeCells, Value.cells, tlA, h]
    rcases (show i % 6 = 0 ∨ i % 6 = 1 ∨ i % 6 = 2 ∨ i % 6 = 3 ∨ i % 6 = 4 ∨ i % 6 = 5 by omega) with e | e | e | e | e | e <;> rw [e] <;> rfl
  · rw [Array.getElem?_eq_none (by simp [madeCells]; omega), Array.getElem?_eq_none (by rw [l9rowC_size]; omega)]
theorem make_tales (w : World) (m : Nat) (hm : m ≤ 255) : (Instr.makeSlice 23 (.int .i64 (m : Int)) (.int .i64 (m : Int))).run Try.prog w = .ok (.slice (some ⟨w.heap.size, 0, none⟩) m m) (w.alloc (.cells (l9rowC (m * 6) (tlsC (upTo (fun _ => tl0) 0))) 39)) := by
  obtain ⟨i0, hi, hz0, hz1, hz2⟩ := info_parts l9infoTl
  have h := run_make (P := Try.prog) w 23 39 i0 (.agg (tlA tl0)) Try.underlying23 hi hz0 .i64 .i64 (m : Int) (m : Int) (by omega) (Int.le_refl _) (by rw [hz2]; omega) (by omega)
  rw [hz1, Int.toNat_natCast, made_tales] at h
  exact h
/-- Cells of a tale in a row. -/
theorem rowT_cells {w : World} {g M k : Nat} {ts : Nat → Tl} {ty : TypeId} (h : w.heap[g]? = some (.cells (l9rowC (M * 6) (tlsC ts)) ty (0, 0))) (hk : k < M) :
    w.cell? ⟨g, k * 6, none⟩ = some (.int .i64 (ts k).tree) ∧ w.cell? ⟨g, k * 6 + 1, none⟩ = some (.int .u64 (ts k).root) ∧ w.cell? ⟨g, k * 6 + 2, none⟩ = some (.int .i64 (ts k).cost) ∧ w.cell? ⟨g, k * 6 + 3, none⟩ = some (.int .u64 (ts k).bridge) ∧ w.cell? ⟨g, k * 6 + 4, none⟩ = some (.int .i64 (ts k).port) ∧ w.cell? ⟨g, k * 6 + 5, none⟩ = some (.int .i64 (ts k).age) := by
  have H : ∀ j, j < 6 → w.cell? ⟨g, k * 6 + j, none⟩ = some (l9tlC (ts k) j) := fun j hj => by
    refine (cell_of_row w g _ _ _ _ h).trans ((l9rowC_get _ _ _ (by omega)).trans ?_)
    unfold tlsC
    rw [show (k * 6 + j) / 6 = k by omega, show (k * 6 + j) % 6 = j by omega]
  exact ⟨H 0 (by omega), H 1 (by omega), H 2 (by omega), H 3 (by omega), H 4 (by omega), H 5 (by omega)⟩
theorem row_tales {w : World} {g M n cap : Nat} {ts : Nat → Tl} {ty : TypeId} (h : w.heap[g]? = some (.cells (l9rowC (M * 6) (tlsC ts)) ty (0, 0))) (hn : n ≤ M) (hc : n ≤ cap) : TaleRow w (some ⟨g, 0, none⟩) n cap ts := by
  refine ⟨hc, fun hp => ⟨g, 0, rfl, block_lt_of_cell (rowT_cells h (show 0 < M by omega)).1, fun i hi => ?_⟩⟩
  rw [Nat.zero_add]
  exact rowT_cells h (by omega)
theorem rowT_free {w : World} {g : Nat} {A : Array Value} {ty : TypeId} (h : w.heap[g]? = some (.cells A ty (0, 0))) (k : Nat) :
    w.frozen? ⟨g, k * 6, none⟩ = false ∧ w.frozen? ⟨g, k * 6 + 1, none⟩ = false ∧ w.frozen? ⟨g, k * 6 + 2, none⟩ = false ∧ w.frozen? ⟨g, k * 6 + 3, none⟩ = false ∧ w.frozen? ⟨g, k * 6 + 4, none⟩ = false ∧ w.frozen? ⟨g, k * 6 + 5, none⟩ = false :=
  ⟨frozen_of_row _ _ _ _ _ h, frozen_of_row _ _ _ _ _ h, frozen_of_row _ _ _ _ _ h, frozen_of_row _ _ _ _ _ h, frozen_of_row _ _ _ _ _ h, frozen_of_row _ _ _ _ _ h⟩
theorem l9rowC_put {w : World} {g M k : Nat} {c : Nat → Value} {v : Value} {ty : TypeId} (h : w.heap[g]? = some (.cells (l9rowC M c) ty (0, 0))) (hk : k < M) :
    (w.setCell ⟨g, k, none⟩ v).heap[g]? = some (.cells (l9rowC M (fun i => if i = k then v else c i)) ty (0, 0)) := by
  rw [heap_setCell_same _ _ _ _ _ _ h, l9rowC_set _ _ _ _ hk]
/-- The six cells of a tale, stored. -/
theorem rowT_put {w : World} {g M k : Nat} {ts : Nat → Tl} {t : Tl} {ty : TypeId} (h : w.heap[g]? = some (.cells (l9rowC (M * 6) (tlsC ts)) ty (0, 0))) (hk : k < M) :
    ((((((w.setCell ⟨g, k * 6, none⟩ (.int .i64 t.tree)).setCell ⟨g, k * 6 + 1, none⟩ (.int .u64 t.root)).setCell ⟨g, k * 6 + 2, none⟩ (.int .i64 t.cost)).setCell ⟨g, k * 6 + 3, none⟩ (.int .u64 t.bridge)).setCell ⟨g, k * 6 + 4, none⟩ (.int .i64 t.port)).setCell ⟨g, k * 6 + 5, none⟩ (.int .i64 t.age)).heap[g]? = some (.cells (l9rowC (M * 6) (tlsC (fun i => if i = k then t else ts i))) ty (0, 0)) := by
  have h0 := l9rowC_put (v := .int .i64 t.tree) h (show k * 6 < M * 6 by omega)
  have h1 := l9rowC_put (v := .int .u64 t.root) h0 (show k * 6 + 1 < M * 6 by omega)
  have h2 := l9rowC_put (v := .int .i64 t.cost) h1 (show k * 6 + 2 < M * 6 by omega)
  have h3 := l9rowC_put (v := .int .u64 t.bridge) h2 (show k * 6 + 3 < M * 6 by omega)
  have h4 := l9rowC_put (v := .int .i64 t.port) h3 (show k * 6 + 4 < M * 6 by omega)
  have h5 := l9rowC_put (v := .int .i64 t.age) h4 (show k * 6 + 5 < M * 6 by omega)
  rw [h5, l9rowC_congr]
  intro i hi
  unfold tlsC
  show _ = l9tlC (if i / 6 = k then t else ts (i / 6)) (i % 6)
  by_cases e : i / 6 = k
  · rw [if_pos e]
    unfold l9tlC
    by_cases e5 : i = k * 6 + 5
    · rw [if_pos e5, if_neg (by omega), if_neg (by omega), if_neg (by omega), if_neg (by omega), if_neg (by omega)]
    · rw [if_neg e5]
      by_cases e4 : i = k * 6 + 4
      · rw [if_pos e4, if_neg (by omega), if_neg (by omega), if_neg (by omega), if_neg (by omega), if_pos (by omega)]
      · rw [if_neg e4]
        by_cases e3 : i = k * 6 + 3
        · rw [if_pos e3, if_neg (by omega), if_neg (by omega), if_neg (by omega), if_pos (by omega)]
        · rw [if_neg e3]
          by_cases e2 : i = k * 6 + 2
          · rw [if_pos e2, if_neg (by omega), if_neg (by omega), if_pos (by omega)]
          · rw [if_neg e2]
            by_cases e1 : i = k * 6 + 1
            · rw [if_pos e1, if_neg (by omega), if_pos (by omega)]
            · rw [if_neg e1, if_pos (by omega), if_pos (by omega)]
  · rw [if_neg e, if_neg (by omega), if_neg (by omega), if_neg (by omega), if_neg (by omega), if_neg (by omega), if_neg (by omega)]
theorem rowT_congr {w : World} {g M : Nat} {ts us : Nat → Tl} {ty : TypeId} (h : w.heap[g]? = some (.cells (l9rowC (M * 6) (tlsC ts)) ty (0, 0))) (e : ∀ i, i < M → ts i = us i) : w.heap[g]? = some (.cells (l9rowC (M * 6) (tlsC us)) ty (0, 0)) := by
  rw [h, l9rowC_congr]
  intro i hi
  unfold tlsC
  rw [e _ (by omega)]
theorem upTo_step (ts : Nat → Tl) (k i : Nat) : (if i = k then ts k else upTo ts k i) = upTo ts (k + 1) i := by
  unfold upTo
  by_cases e : i = k
  · rw [if_pos e, if_pos (by omega), e]
  · rw [if_neg e]
    by_cases e2 : i < k
    · rw [if_pos e2, if_pos (by omega)]
    · rw [if_neg e2, if_neg (by omega)]
/-- What Parse answers, of n bytes. -/
def LParse (n : Nat) (bs : Nat → Int) (e : Ending) (w' : World) : Prop :=
  (¬ (17 ≤ n ∧ (n : Int) = 17 + bs 16 * 23) ∧ e = .returned (.tuple #[.agg #[.slice none 0 0, .slice none 0 0], .int .i64 2])) ∨
  ∃ m : Nat, n = 17 + m * 23 ∧ bs 16 = (m : Int) ∧
    ((Hl.wrongTo (Hl.talesF bs) m ≠ 0 ∧ e = .returned (.tuple #[.agg #[.slice none 0 0, .slice none 0 0], .int .i64 (Hl.wrongTo (Hl.talesF bs) m)])) ∨
     (Hl.wrongTo (Hl.talesF bs) m = 0 ∧ ∃ da dc ta tc, e = .returned (.tuple #[.agg #[.slice da 16 dc, .slice ta m tc], .int .i64 0]) ∧ ByteRow w' da 16 dc bs ∧ TaleRow w' ta m tc (Hl.talesF bs) ∧ NilOk da 16 dc ∧ NilOk ta m tc))
end Go.Proofs.Ytmjgmngdahhbkaa
