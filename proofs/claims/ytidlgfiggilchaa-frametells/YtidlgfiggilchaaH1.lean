/- Small facts on rows and worlds. -/
import Derived.Test.YtidlgfiggilchaaS1
namespace Go.Proofs.Ytidlgfiggilchaa
open Go.RowKit

theorem headF_range (d s : Int) (t : Bool) (p : Int) (dr : Bool) (v y : Int) (i : Nat) : 0 ≤ headF d s t p dr v y i ∧ headF d s t p dr v y i ≤ 255 := by
  unfold headF
  repeat' split
  all_goals first | exact be_range _ _ _ | omega
theorem bytF_range (d s : Int) (t : Bool) (p : Int) (dr : Bool) (v y : Int) (bs : Nat → Int) (n : Nat) (hbs : ∀ i, i < n → 0 ≤ bs i ∧ bs i ≤ 255) (i : Nat) (hi : i < headN t + n) : 0 ≤ bytF d s t p dr v y bs i ∧ bytF d s t p dr v y bs i ≤ 255 := by
  unfold bytF
  split
  · exact headF_range _ _ _ _ _ _ _ _
  · exact hbs _ (by omega)
end Go.Proofs.Ytidlgfiggilchaa
