/- Entries: their cells; books in memory -/
import Derived.Test.YtgkmaihleilchaaBMd
import Derived.Test.YtgkmaihleilchaaCR
import Derived.Test.YtgkmaihleilchaaDN
namespace Go.Proofs.Ytgkmaihleilchaa
open Go.RowKit
open Bk (E at')

/-- An entry's four cells. -/
def eA (e : E) : Array Value := #[.int .i64 e.vid, .int .u64 e.addr, .int .i64 e.port, .int .i64 e.age]
def eC (e : E) (j : Nat) : Value := if j = 0 then .int .i64 e.vid else if j = 1 then .int .u64 e.addr else if j = 2 then .int .i64 e.port else .int .i64 e.age
theorem eC_one (e : E) (j : Nat) : (eC e j).oneCell' = true := by
  unfold eC
  repeat' split
  all_goals rfl
theorem infoEy : (Try.prog.info? 76).map (fun i => (i.zero, i.size, i.bytes)) = some (some (.agg (eA Bk.e0)), 4, 32) := by kernel_rfl
theorem en_cells {w : World} {g : Nat} {a0 a1 a2 a3 : Value} {ty : TypeId} (h : w.heap[g]? = some (.cells #[a0, a1, a2, a3] ty (0, 0))) :
    w.cell? ⟨g, 0, none⟩ = some a0 ∧ w.cell? ⟨g, 1, none⟩ = some a1 ∧ w.cell? ⟨g, 2, none⟩ = some a2 ∧ w.cell? ⟨g, 3, none⟩ = some a3 :=
  ⟨cell_of_row w g 0 _ _ _ h, cell_of_row w g 1 _ _ _ h, cell_of_row w g 2 _ _ _ h, cell_of_row w g 3 _ _ _ h⟩
/-- A slice of entries: the list l. -/
def BEL (w : World) (ao : Option Addr) (cap : Nat) (l : List E) : Prop := CRow w ao l.length cap 4 (fun i => eC (at' l i))
theorem BEL.below {w w' : World} {ao : Option Addr} {cap : Nat} {l : List E} (h : BEL w ao cap l) (hb : Below w.heap.size w w') : BEL w' ao cap l := CRow.below h hb
theorem BEL.cells {w : World} {b off cap : Nat} {l : List E} (h : BEL w (some ⟨b, off, none⟩) cap l) {i : Nat} (hi : i < l.length) :
    w.cell? ⟨b, off + i * 4, none⟩ = some (.int .i64 (at' l i).vid) ∧ w.cell? ⟨b, off + i * 4 + 1, none⟩ = some (.int .u64 (at' l i).addr) ∧ w.cell? ⟨b, off + i * 4 + 2, none⟩ = some (.int .i64 (at' l i).port) ∧ w.cell? ⟨b, off + i * 4 + 3, none⟩ = some (.int .i64 (at' l i).age) := by
  obtain ⟨b', off', e, _, hc⟩ := h.2 (by omega)
  cases e
  exact ⟨hc i hi 0 (by omega), hc i hi 1 (by omega), hc i hi 2 (by omega), hc i hi 3 (by omega)⟩
theorem BEL.place {w : World} {ao : Option Addr} {cap : Nat} {l : List E} (h : BEL w ao cap l) (hn : 0 < l.length) : ∃ b off, ao = .some ⟨b, off, .none⟩ ∧ b < w.heap.size := by
  obtain ⟨b, off, e, hb, _⟩ := h.2 hn
  exact ⟨b, off, e, hb⟩
/-- A row that the call itself made: the list l. -/
def OwnE (w : World) (base : Nat) (v : Value) (l : List E) : Prop := w.ownsRow base 76 4 v l.length (cellsL l.length 4 (fun i => eC (at' l i)))
theorem OwnE.el {w : World} {base : Nat} {v : Value} {l : List E} (h : OwnE w base v l) : ∃ ao cap, v = .slice ao l.length cap ∧ BEL w ao cap l ∧ NilOk ao l.length cap ∧ (∀ ad, ao = some ad → base ≤ ad.block) := owns_c (by omega) h
theorem OwnE.below {w w' : World} {base : Nat} {v : Value} {l : List E} (h : OwnE w base v l) (hb : Below w.heap.size w w') : OwnE w' base v l := ownsC_below h hb
theorem OwnE.mono {w : World} {base base' : Nat} {v : Value} {l : List E} (h : OwnE w base v l) (hb : base' ≤ base) : OwnE w base' v l := by
  obtain ⟨h1, h2⟩ := h
  refine ⟨h1, ?_⟩
  rcases h2 with h2 | ⟨g, cap, cur, hv, hg, r⟩
  · exact Or.inl h2
  · exact Or.inr ⟨g, cap, cur, hv, Nat.le_trans hb hg, r⟩
theorem OwnE.nil (w : World) (base : Nat) : OwnE w base (.slice none 0 0) [] := ownsC_nil w base _ _ _
/-- 'append(s, x...)', s a row of the call's own. -/
theorem append_e (w : World) (base : Nat) (v : Value) (l : List E) (hown : OwnE w base v l) (ao : Option Addr) (cp : Nat) (m : List E) (n : Nat) (hn : n = m.length) (hr : BEL w ao cp m) (hnil : NilOk ao n cp) (hb : l.length + n ≤ 1000000) (hbase : base ≤ w.heap.size) :
    ∃ a1 c1 w', (Builtin.append_ #[26, 26] 26 #[v, .slice ao n cp]).run Try.prog w = .ok (.slice a1 (l ++ m).length c1) w' ∧ OwnE w' base (.slice a1 (l ++ m).length c1) (l ++ m) ∧ Below base w w' ∧ (∀ q, q < w.heap.size → some q ≠ v.ownBlock → w'.heap[q]? = w.heap[q]?) := by
  subst hn
  obtain ⟨a1, c1, w', r, o, b, q⟩ := append_c w 26 76 _ 4 32 Try.underlying26 infoEy rfl (by omega) base v l.length _ hown ao m.length cp (fun i => eC (at' m i)) (fun _ _ => eC_one _ _) hr hnil (by unfold maxLen; omega) (by omega) hbase
  have e : l.length + m.length = (l ++ m).length := by simp
  rw [e] at r o
  refine ⟨a1, c1, w', r, ?_, b, q⟩
  unfold OwnE
  rw [cellsL_congr _ 4 _ (fun i => eC (at' (l ++ m) i))] at o
  · exact o
  · intro i hi
    unfold catC
    by_cases h : i < l.length
    · rw [if_pos h, Bk.at_append_left l m i h]
    · rw [if_neg h, Bk.at_append_right l m i (by omega)]
/-- One entry, in a block of its own. -/
theorem one_entry {w : World} {g : Nat} {e : E} {ty : TypeId} (h : w.heap[g]? = some (.cells (eA e) ty (0, 0))) : BEL w (some ⟨g, 0, none⟩) 1 [e] := by
  refine ⟨Nat.le_refl _, fun _ => ⟨g, 0, rfl, (Array.getElem?_eq_some_iff.1 h).1, fun i hi j hj => ?_⟩⟩
  obtain rfl : i = 0 := by simp at hi; exact hi
  rcases (show j = 0 ∨ j = 1 ∨ j = 2 ∨ j = 3 by omega) with rfl | rfl | rfl | rfl
  · exact cell_of_row w g 0 _ _ _ h
  · exact cell_of_row w g 1 _ _ _ h
  · exact cell_of_row w g 2 _ _ _ h
  · exact cell_of_row w g 3 _ _ _ h
/-- The first k of them, and those from k on. -/
theorem BEL.take {w : World} {ao : Option Addr} {cap : Nat} {l : List E} (h : BEL w ao cap l) (k : Nat) (hk : k ≤ l.length) : BEL w ao cap (l.take k) := by
  unfold BEL
  rw [show (l.take k).length = k by simp; omega]
  exact (h.prefix hk).congr (fun i hi => by rw [Bk.at_take l k i hi])
theorem BEL.drop {w : World} {b off cap : Nat} {l : List E} (h : BEL w (some ⟨b, off, none⟩) cap l) (k : Nat) (hk : k ≤ l.length) : BEL w (some ⟨b, off + k * 4, none⟩) (cap - k) (l.drop k) := by
  unfold BEL
  rw [List.length_drop]
  exact (h.behind k hk).congr (fun i hi => by rw [Bk.at_drop l k i])
theorem BEL.of {w : World} {ao : Option Addr} {n cap : Nat} {f : Nat → E} (h : CRow w ao n cap 4 (fun i => eC (f i))) : BEL w ao cap (Bk.listOf n f) := by
  unfold BEL
  rw [Bk.listOf_length]
  exact h.congr (fun i hi => by rw [Bk.listOf_at n f i hi])
end Go.Proofs.Ytgkmaihleilchaa
