/- What the three appends of book.Learn leave -/
import Derived.Test.YtgkmaihleilchaaBW4
namespace Go.Proofs.Ytgkmaihleilchaa
open Go.RowKit
open Bk (E at')

abbrev runAppE (s x : Value) (w : World) (r : Value) (w' : World) : Prop := (Builtin.append_ #[26, 26] 26 #[s, x]).run Try.prog w = .ok r w'
theorem make_roomE (w : World) (c : Nat) (hc : c ≤ 100000) : ∃ cs : Array Value, cs.size = c * 4 ∧ (Instr.makeSlice 26 (.int .i64 0) (.int .i64 (c : Int))).run Try.prog w = .ok (.slice (some ⟨w.heap.size, 0, none⟩) 0 c) (w.alloc (.cells cs 76)) := by
  obtain ⟨i0, hi, hz0, hz1, hz2⟩ := info_parts infoEy
  have h := run_make (P := Try.prog) w 26 76 i0 (.agg (eA Bk.e0)) Try.underlying26 hi hz0 .i64 .i64 0 (c : Int) (by omega) (by omega) (by rw [hz2]; omega) (by omega)
  rw [hz1, Int.toNat_natCast] at h
  exact ⟨_, by simp [madeCells], h⟩
theorem own_room {w : World} {g c base : Nat} {cs : Array Value} (h : w.heap[g]? = some (.cells cs 76 (0, 0))) (hs : cs.size = c * 4) (hb : base ≤ g) (hc : c ≤ 100000) : OwnE w base (.slice (some ⟨g, 0, none⟩) 0 c) [] :=
  ⟨by simp [cellsL], Or.inr ⟨g, c, cs, rfl, hb, h, Nat.zero_le _, by unfold maxLen; omega, hs, by simp [cellsL]⟩⟩
/-- 'make', and three appends. -/
theorem learn_app (w W : World) (hW : Below w.heap.size w W) (sV : Array Value) (x0 : E) (hs0 : sV = eA x0) (hs : W.heap[w.heap.size]? = some (.cells sV 76 (0, 0))) (ao1 : Option Addr) (cp1 : Nat) (l1 : List E) (n1 : Nat) (e1 : n1 = l1.length) (h1 : BEL w ao1 cp1 l1) (k1 : NilOk ao1 n1 cp1) (ao2 : Option Addr) (cp2 : Nat) (l2 : List E) (n2 : Nat) (e2 : n2 = l2.length) (h2 : BEL w ao2 cp2 l2) (k2 : NilOk ao2 n2 cp2) (hb : n1 + n2 ≤ 100) (c : Nat) (hc : c ≤ 1000) :
    ∃ cs a1 c1 X a2 c2 Y a3 c3 Z, (Instr.makeSlice 26 (.int .i64 0) (.int .i64 (c : Int))).run Try.prog W = .ok (.slice (some ⟨W.heap.size, 0, none⟩) 0 c) (W.alloc (.cells cs 76)) ∧
      runAppE (.slice (some ⟨W.heap.size, 0, none⟩) 0 c) (.slice ao1 n1 cp1) (W.alloc (.cells cs 76)) (.slice a1 n1 c1) X ∧
      runAppE (.slice a1 n1 c1) (.slice (some ⟨X.heap.size, 0, none⟩) 1 1) (X.alloc (.cells sV 76)) (.slice a2 (n1 + 1) c2) Y ∧
      runAppE (.slice a2 (n1 + 1) c2) (.slice ao2 n2 cp2) Y (.slice a3 (n1 + 1 + n2) c3) Z ∧
      X.heap[w.heap.size]? = some (.cells sV 76 (0, 0)) ∧ OwnE Z w.heap.size (.slice a3 (n1 + 1 + n2) c3) (l1 ++ x0 :: l2) ∧ Below w.heap.size w Z := by
  obtain ⟨cs, hcs, hmk⟩ := make_roomE W c (by omega)
  have hWa : Below w.heap.size w (W.alloc (.cells cs 76)) := hW.alloc hW.size _
  have hlt : w.heap.size < W.heap.size := (Array.getElem?_eq_some_iff.1 hs).1
  obtain ⟨a1, c1, X, r1, o1, b1, q1⟩ := append_e (W.alloc (.cells cs 76)) w.heap.size _ [] (own_room (heap_alloc_last W _) hcs (Nat.le_of_lt hlt) (by omega)) ao1 cp1 l1 n1 e1 (BEL.below h1 hWa) k1 (by simp; omega) hWa.size
  rw [List.nil_append, ← e1] at r1 o1
  have hX : Below w.heap.size w X := hWa.trans b1
  have hXs : X.heap[w.heap.size]? = some (.cells sV 76 (0, 0)) := (q1 _ (by simp; omega) (by simp [Value.ownBlock]; omega)).trans (keep hs (below_alloc1 W _))
  obtain ⟨a2, c2, Y, r2, o2, b2, _⟩ := append_e (X.alloc (.cells sV 76)) w.heap.size _ l1 (OwnE.below o1 (below_alloc1 X _)) (some ⟨X.heap.size, 0, none⟩) 1 [x0] 1 rfl (one_entry (by rw [hs0]; exact heap_alloc_last X _)) (fun h => by cases h) (by omega) (by have := hX.size; simp; omega)
  have hY : Below w.heap.size w Y := (hX.alloc hX.size _).trans b2
  have e3 : (l1 ++ [x0]).length = n1 + 1 := by simp [e1]
  rw [e3] at r2 o2
  obtain ⟨a3, c3, Z, r3, o3, b3, _⟩ := append_e Y w.heap.size _ (l1 ++ [x0]) (by unfold OwnE; rw [e3]; unfold OwnE at o2; rw [e3] at o2; exact o2) ao2 cp2 l2 n2 e2 (BEL.below h2 hY) k2 (by rw [e3]; omega) hY.size
  have e4 : (l1 ++ [x0] ++ l2).length = n1 + 1 + n2 := by simp [e1, e2]; omega
  rw [e4] at r3 o3
  rw [List.append_assoc, List.singleton_append] at o3
  exact ⟨cs, a1, c1, X, a2, c2, Y, a3, c3, Z, hmk, r1, r2, r3, hXs, o3, hY.trans b3⟩
theorem learn_app0 (w W : World) (hW : Below w.heap.size w W) (sV : Array Value) (x0 : E) (hs0 : sV = eA x0) (hs : W.heap[w.heap.size]? = some (.cells sV 76 (0, 0))) :
    ∃ cs a2 c2 Y, (Instr.makeSlice 26 (.int .i64 0) (.int .i64 1)).run Try.prog W = .ok (.slice (some ⟨W.heap.size, 0, none⟩) 0 1) (W.alloc (.cells cs 76)) ∧
      runAppE (.slice (some ⟨W.heap.size, 0, none⟩) 0 1) (.slice (some ⟨W.heap.size + 1, 0, none⟩) 1 1) ((W.alloc (.cells cs 76)).alloc (.cells sV 76)) (.slice a2 1 c2) Y ∧ runAppE (.slice a2 1 c2) (.slice none 0 0) Y (.slice a2 1 c2) Y ∧
      (W.alloc (.cells cs 76)).heap[w.heap.size]? = some (.cells sV 76 (0, 0)) ∧ OwnE Y w.heap.size (.slice a2 1 c2) [x0] ∧ Below w.heap.size w Y := by
  obtain ⟨cs, hcs, hmk⟩ := make_roomE W 1 (by omega)
  have hWa : Below w.heap.size w (W.alloc (.cells cs 76)) := hW.alloc hW.size _
  have hlt : w.heap.size < W.heap.size := (Array.getElem?_eq_some_iff.1 hs).1
  have hXs : (W.alloc (.cells cs 76)).heap[w.heap.size]? = some (.cells sV 76 (0, 0)) := keep hs (below_alloc1 W _)
  have hy : ((W.alloc (.cells cs 76)).alloc (.cells sV 76)).heap[W.heap.size + 1]? = some (.cells sV 76 (0, 0)) := heap_alloc2_new W _ _
  have hWb : Below w.heap.size w ((W.alloc (.cells cs 76)).alloc (.cells sV 76)) := hWa.alloc hWa.size _
  obtain ⟨a2, c2, Y, r2, o2, b2, _⟩ := append_e ((W.alloc (.cells cs 76)).alloc (.cells sV 76)) w.heap.size _ [] (own_room (heap_alloc2_old W _ _) hcs (Nat.le_of_lt hlt) (by omega)) (some ⟨W.heap.size + 1, 0, none⟩) 1 [x0] 1 rfl (one_entry (by rw [← hs0]; exact hy)) (fun h => by cases h) (by simp) hWb.size
  obtain ⟨i0, hi, _, _, _⟩ := info_parts infoEy
  exact ⟨cs, a2, c2, Y, hmk, r2, run_append_owned_none (P := Try.prog) (w := Y) w.heap.size 26 26 76 i0 4 Try.underlying26 hi _ _ _ o2, hXs, o2, hWb.trans b2⟩
theorem BEL.dropZ {w : World} {ao : Option Addr} {cap : Nat} {l : List E} {k : Nat} (h : l.length ≤ k) : BEL w ao cap (l.drop k) := by
  rw [List.drop_eq_nil_of_le h]
  exact CRow.none _ _ _ _ _
theorem BEL.dropA {w : World} {ad : Addr} {cap : Nat} {l : List E} (h : BEL w (.some ad) cap l) (k : Nat) (hk : k ≤ l.length) : BEL w (.some (ad.add (k * 4))) (cap - k) (l.drop k) := by
  by_cases e : l.length ≤ k
  · exact BEL.dropZ e
  · obtain ⟨b, off, ea, _⟩ := h.place (by omega)
    cases ea
    rw [add_row]
    exact h.drop k hk
end Go.Proofs.Ytgkmaihleilchaa
