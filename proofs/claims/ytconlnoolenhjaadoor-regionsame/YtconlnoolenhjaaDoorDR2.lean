/- walks: the document's own Sum: laws -/
import Derived.Test.YtconlnoolenhjaaDoorDW10
import Derived.Test.YtconlnoolenhjaaDoorDMd3
import Derived.Test.YtconlnoolenhjaaDoorDR1
namespace Go.Proofs.YtconlnoolenhjaaDoor
open Go.RowKit

theorem grown_empty {w w' : World} (h : (w.alloc (.cells #[] 5)).grownBy w' (Value.ownBlock (.slice (some ⟨w.heap.size, 0, none⟩) 0 0))) : Below w.heap.size w w' :=
  ((Below.refl _ w).alloc (Nat.le_refl _) _).grown h (by simp) (fun k hk => by simp [Value.ownBlock] at hk; omega)
theorem ByteRow.cast {w : World} {ao : Option Addr} {n n' cap : Nat} {f : Nat → Int} (h : ByteRow w ao n cap f) (e : n = n') : ByteRow w ao n' cap f := e ▸ h
theorem owns_cast {w : World} {base n : Nat} {v : Value} {xs : List Value} (h : w.ownsRow base 5 1 v (0 + n) ([] ++ xs)) : w.ownsRow base 5 1 v n xs := by
  rw [Nat.zero_add, List.nil_append] at h
  exact h
/-- One byte more. -/
theorem wpList_append_byte {w : World} {ops : Array Oper} {rest : List Oper} {o : Oper} {a : Act} {Q : Exit → Act → World → Prop} (hgd : o.guard = none) (s x : Operand)
    (ho : o.op = .call { callee := .builtin .append, args := #[s, x], argTypes := #[29, 29] }) (base : Nat)
    (v : Value) (n : Nat) (P : Nat → Int) (hs : a.eval s = v) (y : Int) (hown : w.ownsRow base 5 1 v n (bytesL n P)) (hbase : base ≤ w.heap.size)
    (hx : a.eval x = .slice (some ⟨w.heap.size, 0, none⟩) 1 1) (hy : y = P n) (hb : n + 1 ≤ 140737488355328)
    (h : ∀ v' w', w'.ownsRow base 5 1 v' (n + 1) (bytesL (n + 1) P) → Below base w w' → wpList Tryd.prog ops Q rest (a.put o.dst v') w') : wpList Tryd.prog ops Q (o :: rest) a (w.alloc (.cells #[.int .u8 y] 5)) := by
  obtain ⟨i0, hi, hz0, hz1, hz2⟩ := info_parts info5
  refine wpList_append_own _ hgd s x 29 ho base 5 i0 (.int .u8 0) 1 1 Tryd.underlying29 hi hz0 hz1 hz2 rfl (by decide) v n _ hs (hown.alloc _) ⟨w.heap.size, 0, none⟩ 1 1 [.int .u8 y] hx rfl (cell_one_new _ _ _) (by simp [Value.oneCell']) (by unfold maxLen; omega) (by omega) (by simp; omega) ?_
  intro v' w' h1 h2 _
  refine h v' w' ?_ (((Below.refl _ w).alloc hbase _).grown h2 (by simp; omega) (owns_block hown))
  rw [show bytesL (n + 1) P = bytesL n P ++ [.int .u8 y] by rw [hy]; simp [bytesL, List.range_succ]]
  exact h1
end Go.Proofs.YtconlnoolenhjaaDoor
