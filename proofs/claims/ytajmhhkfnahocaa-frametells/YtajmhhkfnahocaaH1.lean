/- Small facts on rows and worlds. -/
import Derived.Test.YtajmhhkfnahocaaS1
namespace Go.Proofs.Ytajmhhkfnahocaa
open Go.RowKit

theorem headF_range (d s : Int) (t : Bool) (p : Int) (dr : Bool) (v y : Int) (i : Nat) : 0 ≤ headF d s t p dr v y i ∧ headF d s t p dr v y i ≤ 255 := by
  unfold headF
  repeat' split
  all_goals first | exact be_range _ _ _ | omega
theorem bytF_range (d s : Int) (t : Bool) (p : Int) (dr : Bool) (v y : Int) (bs : Nat → Int) (n : Nat) (hbs : ∀ i, i < n → 0 ≤ bs i ∧ bs i ≤ 255) (i : Nat) (hi : i < headN t + n) : 0 ≤ bytF d s t p dr v y bs i ∧ bytF d s t p dr v y bs i ≤ 255 := by
  unfold bytF
  split
  · exact headF_range _ _ _ _ _ _ _ _
  · exact hbs _ (by omega)
theorem ByteRow.prefix {w : World} {ao : Option Addr} {n m c : Nat} {bs : Nat → Int} (h : ByteRow w ao n c bs) (hm : m ≤ n) : ByteRow w ao m c bs := by
  refine ⟨Nat.le_trans hm h.1, fun hp => ?_⟩
  obtain ⟨b, off, e1, hlt, hc⟩ := h.2 (by omega)
  exact ⟨b, off, e1, hlt, fun i hi => hc i (by omega)⟩
/-- A block that was there is there. -/
theorem keep {w1 w2 : World} {g : Nat} {o : Obj} (h : w1.heap[g]? = some o) (hb : Below w1.heap.size w1 w2) : w2.heap[g]? = some o := by
  refine (hb.block g ?_).trans h
  rcases Nat.lt_or_ge g w1.heap.size with e | e
  · exact e
  · rw [Array.getElem?_eq_none e] at h; cases h
end Go.Proofs.Ytajmhhkfnahocaa
