/- Rows of cells in a block of the call's own: k cells an element; cells that are stored; 'make' -/
import Derived.Test.YtcbpafpaimpfnaaGreatDoorCR
namespace Go.Proofs.YtcbpafpaimpfnaaGreatDoor
open Go.RowKit

def rowC (n k : Nat) (c : Nat → Nat → Value) : Array Value := (cellsL n k c).toArray
theorem rowC_size (n k : Nat) (c : Nat → Nat → Value) : (rowC n k c).size = n * k := by simp [rowC, cellsL]
theorem mul_add_lt {n k i j : Nat} (hi : i < n) (hj : j < k) : i * k + j < n * k := by
  have : (i + 1) * k ≤ n * k := Nat.mul_le_mul_right k (by omega)
  rw [Nat.add_mul] at this
  omega
theorem div_of {k i j : Nat} (hj : j < k) : (i * k + j) / k = i ∧ (i * k + j) % k = j := by
  have hk : 0 < k := by omega
  refine ⟨?_, ?_⟩
  · rw [Nat.add_comm, Nat.add_mul_div_right _ _ hk, Nat.div_eq_of_lt hj, Nat.zero_add]
  · rw [Nat.add_comm, Nat.add_mul_mod_self_right, Nat.mod_eq_of_lt hj]
theorem rowC_get {n k i j : Nat} (c : Nat → Nat → Value) (hi : i < n) (hj : j < k) : (rowC n k c)[i * k + j]? = some (c i j) := by
  have h := mul_add_lt hi hj
  simp [rowC, cellsL, h]
  obtain ⟨e1, e2⟩ := div_of (i := i) hj
  first | rw [e1, e2] | rw [e1, Nat.mod_eq_of_lt hj]
def updC (c : Nat → Nat → Value) (i j : Nat) (v : Value) : Nat → Nat → Value := fun i' j' => if i' = i ∧ j' = j then v else c i' j'
theorem rowC_put {n k i j : Nat} (c : Nat → Nat → Value) (hi : i < n) (hj : j < k) (v : Value) : (rowC n k c).setIfInBounds (i * k + j) v = rowC n k (updC c i j v) := by
  have hk : 0 < k := by omega
  apply Array.ext_getElem?
  intro x
  rw [Array.getElem?_setIfInBounds]
  by_cases hx : x < n * k
  · have ex : x = (x / k) * k + x % k := by rw [Nat.mul_comm]; exact (Nat.div_add_mod x k).symm
    have h4 : x % k < k := Nat.mod_lt _ hk
    have hq : x / k < n := div_lt_of hk hx
    have e1 := rowC_get (updC c i j v) hq h4
    have e2 := rowC_get c hq h4
    rw [← ex] at e1 e2
    rw [e1, e2]
    by_cases q : i * k + j = x
    · obtain ⟨d1, d2⟩ := div_of (i := i) hj
      rw [if_pos q, if_pos (by rw [rowC_size]; omega)]
      unfold updC
      rw [if_pos ⟨by rw [← q]; exact d1, by rw [← q]; exact d2⟩]
    · rw [if_neg q]
      unfold updC
      rw [if_neg (fun p => q (by rw [← p.1, ← p.2]; exact ex.symm))]
  · have hs := rowC_size n k c
    have hs2 := rowC_size n k (updC c i j v)
    have hl := mul_add_lt hi hj
    rw [if_neg (by omega), Array.getElem?_eq_none (by omega), Array.getElem?_eq_none (by omega)]
theorem rowC_congr {n k : Nat} {c d : Nat → Nat → Value} (h : ∀ i, i < n → c i = d i) : rowC n k c = rowC n k d := by
  unfold rowC
  rw [cellsL_congr n k c d h]
theorem rowC_congr2 {n k : Nat} {c d : Nat → Nat → Value} (h : ∀ i, i < n → ∀ j, j < k → c i j = d i j) : rowC n k c = rowC n k d := by
  unfold rowC cellsL
  congr 1
  apply List.map_congr_left
  intro x hx
  have hx : x < n * k := by simpa using hx
  have hk : 0 < k := by
    rcases Nat.eq_zero_or_pos k with e | e
    · subst e; omega
    · exact e
  exact h _ (div_lt_of hk hx) _ (Nat.mod_lt _ hk)
section
variable {w : World} {g n k : Nat} {c : Nat → Nat → Value} {ty : TypeId}
theorem rowC_cell (h : w.heap[g]? = some (.cells (rowC n k c) ty (0, 0))) {i j : Nat} (hi : i < n) (hj : j < k) : w.cell? ⟨g, i * k + j, none⟩ = some (c i j) := by
  have := rowC_get c hi hj
  simp only [World.cell?, h]
  simpa using this
theorem rowC_crow (h : w.heap[g]? = some (.cells (rowC n k c) ty (0, 0))) : CRow w (some ⟨g, 0, none⟩) n n k c :=
  ⟨Nat.le_refl _, fun _ => ⟨g, 0, rfl, (Array.getElem?_eq_some_iff.1 h).1, fun i hi j hj => by rw [Nat.zero_add]; exact rowC_cell h hi hj⟩⟩
theorem rowC_set (h : w.heap[g]? = some (.cells (rowC n k c) ty (0, 0))) {i j : Nat} (hi : i < n) (hj : j < k) (v : Value) : (w.setCell ⟨g, i * k + j, none⟩ v).heap[g]? = some (.cells (rowC n k (updC c i j v)) ty (0, 0)) := by
  rw [heap_setCell_same _ _ _ _ _ _ h, rowC_put c hi hj]
end
theorem made_rowC (z : Array Value) (k n : Nat) (hk : 0 < k) (hz : z.size = k) : madeCells z (n * k) = rowC n k (fun _ j => z.getD j undef) := by
  apply Array.ext_getElem?
  intro i
  by_cases h : i < n * k
  · have ei : i = (i / k) * k + i % k := by rw [Nat.mul_comm]; exact (Nat.div_add_mod i k).symm
    have h4 : i % k < k := Nat.mod_lt _ hk
    have e := rowC_get (fun _ j => z.getD j undef) (div_lt_of hk h) h4
    rw [← ei] at e
    rw [e]
    have hlt : i % k < z.size := by omega
    simp [madeCells, h, hz]
    rw [getElem!_pos z (i % k) hlt]
    simp [hlt]
  · rw [Array.getElem?_eq_none (by simp [madeCells]; omega), Array.getElem?_eq_none (by rw [rowC_size]; omega)]
theorem make_rowC (w : World) (t e : TypeId) (z : Value) (k bytes n : Nat) (ht : Tryz.prog.underlying t = some (.slice e)) (hinfo : (Tryz.prog.info? e).map (fun i => (i.zero, i.size, i.bytes)) = some (some z, k, bytes)) (hk : 0 < k) (hz : z.cells.size = k) (hn : n ≤ 1000) (hb : bytes ≤ 1000) :
    (Instr.makeSlice t (.int .i64 (n : Int)) (.int .i64 (n : Int))).run Tryz.prog w = .ok (.slice (some ⟨w.heap.size, 0, none⟩) n n) (w.alloc (.cells (rowC n k (fun _ j => z.cells.getD j undef)) e)) := by
  obtain ⟨i0, hi, hz0, hz1, hz2⟩ := info_parts hinfo
  have hm : (bytes : Int) * (n : Int) ≤ 281474976710656 := by
    have h1 : bytes * n ≤ 1000 * 1000 := Nat.mul_le_mul hb hn
    have h2 : ((bytes * n : Nat) : Int) ≤ 1000000 := by omega
    rw [Int.natCast_mul] at h2
    omega
  have h := run_make (P := Tryz.prog) w t e i0 z ht hi hz0 .i64 .i64 (n : Int) (n : Int) (by omega) (Int.le_refl _) (by rw [hz2]; exact hm) (by omega)
  rw [hz1, Int.toNat_natCast, made_rowC _ k n hk hz] at h
  exact h
/-- .. with the zero value's cells named. -/
theorem make_rowD (w : World) (t e : TypeId) (z : Value) (k bytes n : Nat) (ht : Tryz.prog.underlying t = some (.slice e)) (hinfo : (Tryz.prog.info? e).map (fun i => (i.zero, i.size, i.bytes)) = some (some z, k, bytes)) (hk : 0 < k) (hz : z.cells.size = k) (hn : n ≤ 1000) (hb : bytes ≤ 1000) (d : Nat → Nat → Value) (hd : ∀ i j, j < k → z.cells.getD j undef = d i j) :
    (Instr.makeSlice t (.int .i64 (n : Int)) (.int .i64 (n : Int))).run Tryz.prog w = .ok (.slice (some ⟨w.heap.size, 0, none⟩) n n) (w.alloc (.cells (rowC n k d) e)) := by
  have := make_rowC w t e z k bytes n ht hinfo hk hz hn hb
  rw [rowC_congr2 (d := d) (fun i _ j hj => hd i j hj)] at this
  exact this
end Go.Proofs.YtcbpafpaimpfnaaGreatDoor
