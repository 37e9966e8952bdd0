/- walks: slices.Contains at ints -/
import Derived.Test.YtgkmaihleilchaaBB
import Derived.Test.YtgkmaihleilchaaBI0
namespace Go.Proofs.Ytgkmaihleilchaa
open Go.RowKit
open Bk (E at')

set_option maxHeartbeats 400000 in
theorem bcontains_any (ao : Option Addr) (cap : Nat) (l : List Int) (n : Int) (w : World) (hn : l.length ≤ 9223372036854775807) (hr : ILs w ao cap l) :
    Calls Try.prog 59 #[.slice ao l.length cap, .int .i64 n] w fun e w' => e = .returned (.bool (l.contains n)) ∧ w' = w := by
  have HI : Hid (Calls Try.prog 70 #[.slice ao l.length cap, .int .i64 n] w fun e w' => e = .returned (.int .i64 (Bk.idx l n l.length)) ∧ w' = w) := bindex_any ao cap l n w hn hr
  have HC : Hid (decide (Bk.idx l n l.length ≥ 0) = l.contains n) := Bk.idx_contains l n
  clear hr
  generalize Bk.idx l n l.length = q at *
  go_enter Try.func59, Try.ntmps59
  go_wp2_with (go_at_call 70; refine HI.out.mono ?_; rintro e w1 ⟨rfl, rfl⟩)
  go_ret
  exact ⟨by rw [← HC.out]; rfl, rfl⟩
end Go.Proofs.Ytgkmaihleilchaa
