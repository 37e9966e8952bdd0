/- walks: the document's Bytes, of hellos -/
import Derived.Test.YtmjgmngdahhbkaaLR1
import Derived.Test.YtmjgmngdahhbkaaLR2
import Derived.Test.YtmjgmngdahhbkaaLW3
import Derived.Deep.RegionHeld3
import Derived.Maps.AppendAt
namespace Go.Proofs.Ytmjgmngdahhbkaa
open Go.RowKit
open Hl (Tl)

namespace Hl
/-- A tale's six parts: how many bytes each has, where each begins, and what they are. -/
def sz (j : Nat) : Nat := if j = 0 then 1 else if j = 1 then 1 else if j = 2 then 8 else if j = 3 then 4 else if j = 4 then 8 else 1
def st : Nat → Nat
  | 0 => 0
  | j + 1 => st j + sz j
def bv (t : Tl) (j : Nat) : Nat → Int := if j = 0 then be 1 t.tree else if j = 1 then be 1 t.age else if j = 2 then be 8 t.root else if j = 3 then be 4 t.cost else if j = 4 then be 8 t.bridge else be 1 t.port
theorem be1 (N : Int) (h : 0 ≤ N ∧ N ≤ 255) : be 1 N 0 = N := by
  unfold be
  simp only [Nat.sub_self, Nat.mul_zero, Int.pow_zero, Int.ediv_one]
  omega
theorem bv_tale (t : Tl) (h : t.fits) (j : Nat) (hj : j < 6) (i : Nat) (hi : i < sz j) : bv t j i = taleB t (st j + i) ∧ st j + i < 23 := by
  obtain ⟨a, b, c, d⟩ := h
  rcases (show j = 0 ∨ j = 1 ∨ j = 2 ∨ j = 3 ∨ j = 4 ∨ j = 5 by omega) with rfl | rfl | rfl | rfl | rfl | rfl
  · obtain rfl : i = 0 := by have : sz 0 = 1 := rfl; omega
    exact ⟨be1 _ (by omega), by decide⟩
  · obtain rfl : i = 0 := by have : sz 1 = 1 := rfl; omega
    exact ⟨be1 _ (by omega), by decide⟩
  · have e : sz 2 = 8 := rfl
    have e2 : st 2 = 2 := rfl
    rw [e2]
    refine ⟨?_, by omega⟩
    unfold taleB; rw [if_neg (by omega), if_neg (by omega), if_pos (by omega), show 2 + i - 2 = i by omega]; rfl
  · have e : sz 3 = 4 := rfl
    have e2 : st 3 = 10 := rfl
    rw [e2]
    refine ⟨?_, by omega⟩
    unfold taleB; rw [if_neg (by omega), if_neg (by omega), if_neg (by omega), if_pos (by omega), show 10 + i - 10 = i by omega]; rfl
  · have e : sz 4 = 8 := rfl
    have e2 : st 4 = 14 := rfl
    rw [e2]
    refine ⟨?_, by omega⟩
    unfold taleB; rw [if_neg (by omega), if_neg (by omega), if_neg (by omega), if_neg (by omega), if_pos (by omega), show 14 + i - 14 = i by omega]; rfl
  · obtain rfl : i = 0 := by have : sz 5 = 1 := rfl; omega
    exact ⟨be1 _ (by omega), by decide⟩
theorem st_le (j : Nat) (hj : j ≤ 6) : st j ≤ 23 := by
  rcases (show j = 0 ∨ j = 1 ∨ j = 2 ∨ j = 3 ∨ j = 4 ∨ j = 5 ∨ j = 6 by omega) with rfl | rfl | rfl | rfl | rfl | rfl | rfl <;> decide
theorem sz_pos (j : Nat) : 0 < sz j := by unfold sz; repeat' split
                                          all_goals omega
theorem sz_le (j : Nat) : sz j ≤ 8 := by unfold sz; repeat' split
                                         all_goals omega
/-- Part j of tale k, in the hello's bytes. -/
theorem byt_part (dg : Nat → Int) (n : Nat) (ts : Nat → Tl) (k j : Nat) (hf : (ts k).fits) (hj : j < 6) (i : Nat) (hi : i < sz j) : byt dg n ts (17 + k * 23 + st j + i) = bv (ts k) j i := by
  obtain ⟨h1, h2⟩ := bv_tale (ts k) hf j hj i hi
  rw [h1, Nat.add_assoc]
  exact byt_tale dg n ts k (st j + i) h2
end Hl
/-- 'append(s, x...)', s a row of the call's own: which blocks stay. -/
theorem wpList_append_at {w : World} {ops : Array Oper} {rest : List Oper} {o : Oper} {a : Act} {Q : Exit → Act → World → Prop} (hgd : o.guard = none) (s x : Operand)
    (ho : o.op = .call { callee := .builtin .append, args := #[s, x], argTypes := #[22, 22] }) (base : Nat)
    (v : Value) (n : Nat) (f : Nat → Int) (hs : a.eval s = v) (hown : w.ownsRow base 5 1 v n (bytesL n f))
    (xg xo m c : Nat) (bs : Nat → Int) (hx : a.eval x = .slice (some ⟨xg, xo, none⟩) m c) (hr : ByteRow w (some ⟨xg, xo, none⟩) m c bs) (hb : n + m ≤ 100000) (hbase : base ≤ w.heap.size)
    (h : ∀ v' w', Hid (w'.ownsRow base 5 1 v' (n + m) (bytesL (n + m) (cat n f bs)) ∧ Below base w w' ∧ (∀ k, k < w.heap.size → v.ownBlock ≠ some k → w'.heap[k]? = w.heap[k]? ∧ v'.ownBlock ≠ some k)) → wpList Try.prog ops Q rest (a.put o.dst v') w') : wpList Try.prog ops Q (o :: rest) a w := by
  obtain ⟨i0, hi, hz0, hz1, hz2⟩ := info_parts info5
  refine wpList_append_own_at _ hgd s x 22 ho base 5 i0 (.int .u8 0) 1 1 Try.underlying22 hi hz0 hz1 hz2 rfl (by decide) v n (bytesL n f) hs hown ⟨xg, xo, none⟩ m c (bytesL m bs) hx (by rw [bytesL_length]; omega) (src_row hr rfl) (bytesL_one _ _) (by unfold maxLen; omega) (by omega) hbase ?_
  intro v' w' h1 h2 _ h4
  rw [bytesL_cat] at h1
  refine h v' w' ⟨h1, (Below.refl _ _).grown h2 hbase (owns_block hown), fun k hk hne => ⟨h2.block k hk (fun e => hne e.symm), ?_⟩⟩
  rcases h4 with h4 | h4
  · rw [h4]; exact hne
  · rw [h4]; intro e; cases e; omega
/-- A number's bytes, made in W behind X. -/
structure Nm (X W w' : World) (S : Nat) (f : Nat → Int) : Prop where
  row : w'.heap[W.heap.size]? = some (.cells (rowF S f) 5 (0, 0))
  low : Below X.heap.size X w'
  step : Below W.heap.size W w'
  le : X.heap.size ≤ W.heap.size
/-- A tale's parts, made behind wr. -/
structure NumW (wr wx : World) (q : Nat) (p : Nat → Nat) (t : Tl) : Prop where
  cells : ∀ j, j < 6 → wx.cell? ⟨q, j, none⟩ = some (.slice (some ⟨p j, 0, none⟩) (Hl.sz j) (Hl.sz j))
  rows : ∀ j, j < 6 → wx.heap[p j]? = some (.cells (rowF (Hl.sz j) (Hl.bv t j)) 5 (0, 0))
  low : Below wr.heap.size wr wx
  qn : wr.heap.size ≤ q
  ql : q < wx.heap.size
  pn : ∀ j, j < 6 → wr.heap.size ≤ p j
theorem NumW.other {wr wx w1 : World} {q : Nat} {p : Nat → Nat} {t : Tl} (h : NumW wr wx q p t) (hq : w1.heap[q]? = wx.heap[q]?) (hp : ∀ j, j < 6 → w1.heap[p j]? = wx.heap[p j]?) (hl : Below wr.heap.size wr w1) : NumW wr w1 q p t := by
  refine ⟨fun j hj => (World.cell?_of_block (w := wx) hq).trans (h.cells j hj), fun j hj => (hp j hj).trans (h.rows j hj), hl, h.qn, ?_, h.pn⟩
  have e : q < wx.heap.size := h.ql
  rcases Nat.lt_or_ge q w1.heap.size with e1 | e1
  · exact e1
  · rw [Array.getElem?_eq_none e1, Array.getElem?_eq_getElem e] at hq; cases hq
def pOf (a0 a1 a2 a3 a4 a5 : Nat) (j : Nat) : Nat := if j = 0 then a0 else if j = 1 then a1 else if j = 2 then a2 else if j = 3 then a3 else if j = 4 then a4 else a5
theorem numW_of {wr X w2 w3 w4 w5 w6 w7 : World} {t : Tl} (o : Obj) (hX : X = wr.alloc o) (H2 : Nm X X.drew w2 1 (be 1 t.tree)) (H3 : Nm X w2 w3 1 (be 1 t.age)) (H4 : Nm X w3 w4 8 (be 8 t.root)) (H5 : Nm X w4 w5 4 (be 4 t.cost)) (H6 : Nm X w5 w6 8 (be 8 t.bridge)) (H7 : Nm X w6 w7 1 (be 1 t.port)) (ty : TypeId) :
    NumW wr (w7.alloc (.cells #[.slice (some ⟨X.heap.size, 0, none⟩) 1 1, .slice (some ⟨w2.heap.size, 0, none⟩) 1 1, .slice (some ⟨w3.heap.size, 0, none⟩) 8 8, .slice (some ⟨w4.heap.size, 0, none⟩) 4 4, .slice (some ⟨w5.heap.size, 0, none⟩) 8 8, .slice (some ⟨w6.heap.size, 0, none⟩) 1 1] ty)) w7.heap.size (pOf X.heap.size w2.heap.size w3.heap.size w4.heap.size w5.heap.size w6.heap.size) t := by
  have hx : X.heap.size = wr.heap.size + 1 := by rw [hX]; simp
  have z2 := H2.low.size
  have z3 := H3.low.size
  have z4 := H4.low.size
  have z5 := H5.low.size
  have z6 := H6.low.size
  have z7 := H7.low.size
  have hl : Below wr.heap.size wr X := by rw [hX]; exact below_alloc1 _ _
  refine ⟨fun j hj => ?_, fun j hj => ?_, (hl.trans (H7.low.mono (by omega))).alloc (by omega) _, by omega, by simp, fun j hj => ?_⟩
  · have h := heap_alloc_last w7 (.cells #[.slice (some ⟨X.heap.size, 0, none⟩) 1 1, .slice (some ⟨w2.heap.size, 0, none⟩) 1 1, .slice (some ⟨w3.heap.size, 0, none⟩) 8 8, .slice (some ⟨w4.heap.size, 0, none⟩) 4 4, .slice (some ⟨w5.heap.size, 0, none⟩) 8 8, .slice (some ⟨w6.heap.size, 0, none⟩) 1 1] ty)
    rcases (show j = 0 ∨ j = 1 ∨ j = 2 ∨ j = 3 ∨ j = 4 ∨ j = 5 by omega) with rfl | rfl | rfl | rfl | rfl | rfl
    · exact cell_of_row _ _ 0 _ _ _ h
    · exact cell_of_row _ _ 1 _ _ _ h
    · exact cell_of_row _ _ 2 _ _ _ h
    · exact cell_of_row _ _ 3 _ _ _ h
    · exact cell_of_row _ _ 4 _ _ _ h
    · exact cell_of_row _ _ 5 _ _ _ h
  · have h7 := below_alloc1 w7 (.cells #[.slice (some ⟨X.heap.size, 0, none⟩) 1 1, .slice (some ⟨w2.heap.size, 0, none⟩) 1 1, .slice (some ⟨w3.heap.size, 0, none⟩) 8 8, .slice (some ⟨w4.heap.size, 0, none⟩) 4 4, .slice (some ⟨w5.heap.size, 0, none⟩) 8 8, .slice (some ⟨w6.heap.size, 0, none⟩) 1 1] ty)
    rcases (show j = 0 ∨ j = 1 ∨ j = 2 ∨ j = 3 ∨ j = 4 ∨ j = 5 by omega) with rfl | rfl | rfl | rfl | rfl | rfl
    · exact keep (keep (keep (keep (keep (keep H2.row H3.step) H4.step) H5.step) H6.step) H7.step) h7
    · exact keep (keep (keep (keep (keep H3.row H4.step) H5.step) H6.step) H7.step) h7
    · exact keep (keep (keep (keep H4.row H5.step) H6.step) H7.step) h7
    · exact keep (keep (keep H5.row H6.step) H7.step) h7
    · exact keep (keep H6.row H7.step) h7
    · exact keep H7.row h7
  · unfold pOf
    repeat' split
    all_goals omega
end Go.Proofs.Ytmjgmngdahhbkaa
