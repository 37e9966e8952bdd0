/- Rows of k cells an element with spare room behind, in a block of the call's own: cells that are stored; from and to 'ownsRow' -/
import Derived.Test.YtgkmaihleilchaaRC
namespace Go.Proofs.Ytgkmaihleilchaa
open Go.RowKit

def rowS (sp : Array Value) (n k : Nat) (c : Nat → Nat → Value) : Array Value := rowC n k c ++ sp
theorem rowS_get (sp : Array Value) {n k i j : Nat} (c : Nat → Nat → Value) (hi : i < n) (hj : j < k) : (rowS sp n k c)[i * k + j]? = some (c i j) := by
  have h := mul_add_lt hi hj
  unfold rowS
  rw [Array.getElem?_append_left (by rw [rowC_size]; exact h)]
  exact rowC_get c hi hj
theorem rowS_put (sp : Array Value) {n k i j : Nat} (c : Nat → Nat → Value) (hi : i < n) (hj : j < k) (v : Value) : (rowS sp n k c).setIfInBounds (i * k + j) v = rowS sp n k (updC c i j v) := by
  have h := mul_add_lt hi hj
  unfold rowS
  rw [← rowC_put c hi hj]
  apply Array.ext_getElem?
  intro x
  have s1 := rowC_size n k c
  rw [Array.getElem?_setIfInBounds]
  by_cases hx : x < n * k
  · rw [Array.getElem?_append_left (by rw [s1]; exact hx), Array.getElem?_append_left (by rw [Array.size_setIfInBounds, s1]; exact hx), Array.getElem?_setIfInBounds]
    by_cases q : i * k + j = x
    · rw [if_pos q, if_pos q, if_pos (by rw [Array.size_append, s1]; omega), if_pos (by rw [s1]; omega)]
    · rw [if_neg q, if_neg q]
  · rw [if_neg (by omega), Array.getElem?_append_right (by rw [s1]; omega), Array.getElem?_append_right (by rw [Array.size_setIfInBounds, s1]; omega), Array.size_setIfInBounds]
theorem rowS_congr2 (sp : Array Value) {n k : Nat} {c d : Nat → Nat → Value} (h : ∀ i, i < n → ∀ j, j < k → c i j = d i j) : rowS sp n k c = rowS sp n k d := by
  unfold rowS
  rw [rowC_congr2 h]
section
variable {sp : Array Value} {w : World} {g n k : Nat} {c : Nat → Nat → Value} {ty : TypeId}
theorem rowS_cell (h : w.heap[g]? = some (.cells (rowS sp n k c) ty (0, 0))) {i j : Nat} (hi : i < n) (hj : j < k) : w.cell? ⟨g, i * k + j, none⟩ = some (c i j) :=
  (cell_of_row w g _ _ _ _ h).trans (rowS_get sp c hi hj)
theorem rowS_set (h : w.heap[g]? = some (.cells (rowS sp n k c) ty (0, 0))) {i j : Nat} (hi : i < n) (hj : j < k) (v : Value) : (w.setCell ⟨g, i * k + j, none⟩ v).heap[g]? = some (.cells (rowS sp n k (updC c i j v)) ty (0, 0)) := by
  rw [heap_setCell_same _ _ _ _ _ _ h, rowS_put sp c hi hj]
theorem rowS_crow (h : w.heap[g]? = some (.cells (rowS sp n k c) ty (0, 0))) {cap : Nat} (hc : n ≤ cap) : CRow w (some ⟨g, 0, none⟩) n cap k c :=
  ⟨hc, fun _ => ⟨g, 0, rfl, (Array.getElem?_eq_some_iff.1 h).1, fun i hi j hj => by rw [Nat.zero_add]; exact rowS_cell h hi hj⟩⟩
end
/-- What a slice of the call's own is: nil, or a row. -/
theorem owns_rowS {w : World} {base e k n : Nat} {v : Value} {c : Nat → Nat → Value} (h : w.ownsRow base e k v n (cellsL n k c)) :
    (v = .slice none 0 0 ∧ n = 0) ∨ ∃ g cap sp, v = .slice (some ⟨g, 0, none⟩) n cap ∧ base ≤ g ∧ n ≤ cap ∧ cap ≤ maxLen ∧ sp.size + n * k = cap * k ∧ w.heap[g]? = some (.cells (rowS sp n k c) e (0, 0)) := by
  obtain ⟨_, h2⟩ := h
  rcases h2 with h2 | ⟨g, cap, cur, rfl, hg, hh, hn, hm, hs, hx⟩
  · exact Or.inl h2
  · refine Or.inr ⟨g, cap, (cur.toList.drop (n * k)).toArray, rfl, hg, hn, hm, ?_, ?_⟩
    · have h1 := congrArg List.length hx
      rw [cellsL_length, List.length_take, Array.length_toList] at h1
      rw [List.size_toArray, List.length_drop, Array.length_toList]
      omega
    · rw [hh]
      congr 2
      apply Array.ext'
      unfold rowS rowC
      rw [Array.toList_append]
      simp only
      rw [← hx, List.take_append_drop]
theorem rowS_owns {w : World} {base e k n g cap : Nat} {sp : Array Value} {c : Nat → Nat → Value} (hg : base ≤ g) (hn : n ≤ cap) (hm : cap ≤ maxLen) (hs : sp.size + n * k = cap * k) (hh : w.heap[g]? = some (.cells (rowS sp n k c) e (0, 0))) : w.ownsRow base e k (.slice (some ⟨g, 0, none⟩) n cap) n (cellsL n k c) := by
  refine ⟨cellsL_length _ _ _, Or.inr ⟨g, cap, _, rfl, hg, hh, hn, hm, ?_, ?_⟩⟩
  · unfold rowS
    rw [Array.size_append, rowC_size]
    omega
  · unfold rowS rowC
    rw [Array.toList_append]
    simp only
    have := cellsL_length n k c
    rw [List.take_append_of_le_length (by omega), List.take_of_length_le (by omega)]
end Go.Proofs.Ytgkmaihleilchaa
