/- walks: frame.OfMany -/
import Derived.Test.YtgkmaihleilchaaA40
namespace Go.Proofs.Ytgkmaihleilchaa
open Go.RowKit

set_option maxHeartbeats 400000 in
theorem ofMany_any (s : Int) (w : World) (h0 : 0 ≤ s) (h1 : s < 18446744073709551616) :
    Calls Try.prog 55 #[.int .u64 s] w fun e w' => e = .returned (.bool (decide (s / 1099511627776 % 2 = 1))) ∧ w' = w := by
  have h := and40 s h0 h1
  go_enter Try.func55, Try.ntmps55
  go_wp2
  go_ret
  refine ⟨?_, rfl⟩
  by_cases e : s / 1099511627776 % 2 = 1
  · simp [e]
  · have : s / 1099511627776 % 2 = 0 := by omega
    simp [this]
end Go.Proofs.Ytgkmaihleilchaa
