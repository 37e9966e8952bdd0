/- The three appends by which the document's Sorted puts a vector in. -/
import Derived.Test.YthnklbcaodhbfaaVR2
import Derived.Test.YthnklbcaodhbfaaVMs
namespace Go.Proofs.Ythnklbcaodhbfaa
open Go.RowKit
open Vc (V Of)

def insAt (p : Nat) (v : V) (xs : Nat → V) (i : Nat) : V := if i < p then xs i else if i = p then v else xs (i - 1)
theorem infoV : (Try.prog.info? 27).map (fun i => (i.zero, i.size, i.bytes)) = some (some (.agg #[.int .u64 0, .int .i64 0, .int .u64 0, .int .i64 0]), 4, 32) := by kernel_rfl
theorem one_vec {w : World} {g : Nat} {v : V} {ty : TypeId} (h : w.heap[g]? = some (.cells (vA v) ty (0, 0))) : VRow w (some ⟨g, 0, none⟩) 1 1 (fun _ => v) := by
  refine ⟨Nat.le_refl _, fun _ => ⟨g, 0, rfl, (Array.getElem?_eq_some_iff.1 h).1, fun i hi j hj => ?_⟩⟩
  obtain rfl : i = 0 := by omega
  rcases (show j = 0 ∨ j = 1 ∨ j = 2 ∨ j = 3 by omega) with rfl | rfl | rfl | rfl
  · exact cell_of_row w g 0 _ _ _ h
  · exact cell_of_row w g 1 _ _ _ h
  · exact cell_of_row w g 2 _ _ _ h
  · exact cell_of_row w g 3 _ _ _ h
theorem ins_cells (p k : Nat) (v : V) (xs : Nat → V) (c0 : Nat → Nat → Value) : ∀ i, i < k + 1 → catC (p + 1) (catC p (catC 0 c0 (fun i => vC (xs i))) (fun _ => vC v)) (fun i => vC (xs (p + i))) i = vC (insAt p v xs i) := by
  intro i hi
  unfold catC insAt
  by_cases h1 : i < p
  · rw [if_pos (by omega), if_pos h1, if_neg (by omega), if_pos h1]; rfl
  · by_cases h2 : i = p
    · rw [if_pos (by omega), if_neg h1, if_neg h1, if_pos h2]
    · rw [if_neg (by omega), if_neg h1, if_neg h2]
      show vC (xs (p + (i - (p + 1)))) = _
      rw [show p + (i - (p + 1)) = i - 1 by omega]
theorem ownsC_mono {w : World} {base base' e k n : Nat} {v : Value} {xs : List Value} (h : w.ownsRow base e k v n xs) (hb : base' ≤ base) : w.ownsRow base' e k v n xs := by
  obtain ⟨h1, h2⟩ := h
  refine ⟨h1, ?_⟩
  rcases h2 with h2 | ⟨g, cap, cur, hv, hg, r⟩
  · exact Or.inl h2
  · exact Or.inr ⟨g, cap, cur, hv, Nat.le_trans hb hg, r⟩
/-- What the three appends leave. -/
structure InsW (V0 z : World) (k p : Nat) (v : V) (xs : Nat → V) (a : Option Addr) (c : Nat) : Prop where
  row : z.ownsRow V0.heap.size 27 4 (.slice a (k + 1) c) (k + 1) (cellsL (k + 1) 4 (fun i => vC (insAt p v xs i)))
  low : Below V0.heap.size V0 z
abbrev runApp (s x : Value) (w : World) (r : Value) (w' : World) : Prop := (Builtin.append_ #[22, 22] 22 #[s, x]).run Try.prog w = .ok r w'
section
variable (V0 : World) (k p : Nat) (hp : p ≤ k) (v : V) (xs : Nat → V) (ao1 : Option Addr) (cp1 : Nat) (h1 : VRow V0 ao1 p cp1 xs) (n1 : NilOk ao1 p cp1) (ao2 : Option Addr) (cp2 : Nat) (h2 : VRow V0 ao2 (k - p) cp2 (fun i => xs (p + i))) (n2 : NilOk ao2 (k - p) cp2) (hb : (k + 1) * 32 ≤ 140737488355328)
include hp h2 n2 hb
theorem app_last (c0 : Nat → Nat → Value) (y : World) (a2 : Option Addr) (c2 : Nat) (hy : Below V0.heap.size V0 y) (o2 : y.ownsRow V0.heap.size 27 4 (.slice a2 (p + 1) c2) (p + 1) (cellsL (p + 1) 4 (catC p (catC 0 c0 (fun i => vC (xs i))) (fun _ => vC v)))) :
    ∃ a3 c3 z, runApp (.slice a2 (p + 1) c2) (.slice ao2 (k - p) cp2) y (.slice a3 (k + 1) c3) z ∧ InsW V0 z k p v xs a3 c3 := by
  obtain ⟨a3, c3, z, r3, o3, b3, _⟩ := append_c y 22 27 _ 4 32 Try.underlying22 infoV rfl (by omega) V0.heap.size _ (p + 1) _ o2 ao2 (k - p) cp2 (fun i => vC (xs (p + i))) (fun _ _ => vC_one _ _) (CRow.below h2 hy) n2 (by unfold maxLen; omega) (by omega) hy.size
  have e : p + 1 + (k - p) = k + 1 := by omega
  rw [e] at r3 o3
  rw [cellsL_congr (k + 1) 4 _ _ (ins_cells p k v xs c0)] at o3
  exact ⟨a3, c3, z, r3, o3, hy.trans b3⟩
include h1 n1
theorem app_a : ∃ a1 c1 x a2 c2 y a3 c3 z, runApp (.slice (some ⟨V0.heap.size, 0, none⟩) 0 0) (.slice ao1 p cp1) (V0.alloc (.cells #[] 27)).drew (.slice a1 p c1) x ∧
    runApp (.slice a1 p c1) (.slice (some ⟨x.heap.size, 0, none⟩) 1 1) (x.alloc (.cells (vA v) 27)) (.slice a2 (p + 1) c2) y ∧ runApp (.slice a2 (p + 1) c2) (.slice ao2 (k - p) cp2) y (.slice a3 (k + 1) c3) z ∧
    Below V0.heap.size V0 x ∧ Below V0.heap.size V0 y ∧ InsW V0 z k p v xs a3 c3 := by
  obtain ⟨a1, c1, x, r1, o1, b1, _⟩ := append_c (V0.alloc (.cells #[] 27)).drew 22 27 _ 4 32 Try.underlying22 infoV rfl (by omega) V0.heap.size _ 0 (fun _ _ => .bool true) (ownsC_empty _ (drew_row (heap_alloc_last V0 _)) (Nat.le_refl _)) ao1 p cp1 (fun i => vC (xs i)) (fun _ _ => vC_one _ _) (CRow.below h1 (below_alloc1 V0 _).drew) n1 (by unfold maxLen; omega) (by omega) (by simp)
  rw [Nat.zero_add] at r1 o1
  have hx : Below V0.heap.size V0 x := (below_alloc1 V0 _).drew.trans b1
  obtain ⟨a2, c2, y, r2, o2, b2, _⟩ := append_c (x.alloc (.cells (vA v) 27)) 22 27 _ 4 32 Try.underlying22 infoV rfl (by omega) V0.heap.size _ p _ (ownsC_below o1 (below_alloc1 x _)) (some ⟨x.heap.size, 0, none⟩) 1 1 (fun _ => vC v) (fun _ _ => vC_one _ _) (one_vec (heap_alloc_last x _)) (fun e => by cases e) (by unfold maxLen; omega) (by omega) (by have := hx.size; simp; omega)
  have hy : Below V0.heap.size V0 y := (hx.alloc hx.size _).trans b2
  obtain ⟨a3, c3, z, r3, iw⟩ := app_last V0 k p hp v xs ao2 cp2 h2 n2 hb _ y a2 c2 hy o2
  exact ⟨a1, c1, x, a2, c2, y, a3, c3, z, r1, r2, r3, hx, hy, iw⟩
theorem app_b : ∃ a1 c1 x a2 c2 y a3 c3 z, runApp (.slice (some ⟨V0.heap.size, 0, none⟩) 0 0) (.slice ao1 p cp1) ((V0.alloc (.cells #[] 27)).alloc (.cells (vA v) 27)).drew (.slice a1 p c1) x ∧
    runApp (.slice a1 p c1) (.slice (some ⟨V0.heap.size + 1, 0, none⟩) 1 1) x (.slice a2 (p + 1) c2) y ∧ runApp (.slice a2 (p + 1) c2) (.slice ao2 (k - p) cp2) y (.slice a3 (k + 1) c3) z ∧
    Below V0.heap.size V0 x ∧ Below V0.heap.size V0 y ∧ InsW V0 z k p v xs a3 c3 := by
  obtain ⟨a1, c1, x, r1, o1, b1, q1⟩ := append_c ((V0.alloc (.cells #[] 27)).alloc (.cells (vA v) 27)).drew 22 27 _ 4 32 Try.underlying22 infoV rfl (by omega) V0.heap.size _ 0 (fun _ _ => .bool true) (ownsC_empty _ (drew_row (heap_alloc2_old V0 _ _)) (Nat.le_refl _)) ao1 p cp1 (fun i => vC (xs i)) (fun _ _ => vC_one _ _) (CRow.below h1 (below_alloc2 V0 _ _).drew) n1 (by unfold maxLen; omega) (by omega) (by simp; omega)
  rw [Nat.zero_add] at r1 o1
  have hx : Below V0.heap.size V0 x := (below_alloc2 V0 _ _).drew.trans b1
  have ht : x.heap[V0.heap.size + 1]? = some (.cells (vA v) 27 (0, 0)) := (q1 _ (by simp) (by simp [Value.ownBlock])).trans (drew_row (heap_alloc2_new V0 _ _))
  obtain ⟨a2, c2, y, r2, o2, b2, _⟩ := append_c x 22 27 _ 4 32 Try.underlying22 infoV rfl (by omega) V0.heap.size _ p _ o1 (some ⟨V0.heap.size + 1, 0, none⟩) 1 1 (fun _ => vC v) (fun _ _ => vC_one _ _) (one_vec ht) (fun e => by cases e) (by unfold maxLen; omega) (by omega) hx.size
  have hy : Below V0.heap.size V0 y := hx.trans b2
  obtain ⟨a3, c3, z, r3, iw⟩ := app_last V0 k p hp v xs ao2 cp2 h2 n2 hb _ y a2 c2 hy o2
  exact ⟨a1, c1, x, a2, c2, y, a3, c3, z, r1, r2, r3, hx, hy, iw⟩
theorem app_c : ∃ a1 c1 x a2 c2 y a3 c3 z, runApp (.slice (some ⟨V0.heap.size + 1, 0, none⟩) 0 0) (.slice ao1 p cp1) ((V0.alloc (.cells (vA v) 27)).alloc (.cells #[] 27)).drew (.slice a1 p c1) x ∧
    runApp (.slice a1 p c1) (.slice (some ⟨V0.heap.size, 0, none⟩) 1 1) x (.slice a2 (p + 1) c2) y ∧ runApp (.slice a2 (p + 1) c2) (.slice ao2 (k - p) cp2) y (.slice a3 (k + 1) c3) z ∧
    Below V0.heap.size V0 x ∧ Below V0.heap.size V0 y ∧ InsW V0 z k p v xs a3 c3 := by
  obtain ⟨a1, c1, x, r1, o1, b1, q1⟩ := append_c ((V0.alloc (.cells (vA v) 27)).alloc (.cells #[] 27)).drew 22 27 _ 4 32 Try.underlying22 infoV rfl (by omega) V0.heap.size _ 0 (fun _ _ => .bool true) (ownsC_empty _ (drew_row (heap_alloc2_new V0 _ _)) (by omega)) ao1 p cp1 (fun i => vC (xs i)) (fun _ _ => vC_one _ _) (CRow.below h1 (below_alloc2 V0 _ _).drew) n1 (by unfold maxLen; omega) (by omega) (by simp; omega)
  rw [Nat.zero_add] at r1 o1
  have hx : Below V0.heap.size V0 x := (below_alloc2 V0 _ _).drew.trans b1
  have ht : x.heap[V0.heap.size]? = some (.cells (vA v) 27 (0, 0)) := (q1 _ (by simp; omega) (by simp [Value.ownBlock])).trans (drew_row (heap_alloc2_old V0 _ _))
  obtain ⟨a2, c2, y, r2, o2, b2, _⟩ := append_c x 22 27 _ 4 32 Try.underlying22 infoV rfl (by omega) V0.heap.size _ p _ o1 (some ⟨V0.heap.size, 0, none⟩) 1 1 (fun _ => vC v) (fun _ _ => vC_one _ _) (one_vec ht) (fun e => by cases e) (by unfold maxLen; omega) (by omega) hx.size
  have hy : Below V0.heap.size V0 y := hx.trans b2
  obtain ⟨a3, c3, z, r3, iw⟩ := app_last V0 k p hp v xs ao2 cp2 h2 n2 hb _ y a2 c2 hy o2
  exact ⟨a1, c1, x, a2, c2, y, a3, c3, z, r1, r2, r3, hx, hy, iw⟩
end
end Go.Proofs.Ythnklbcaodhbfaa
