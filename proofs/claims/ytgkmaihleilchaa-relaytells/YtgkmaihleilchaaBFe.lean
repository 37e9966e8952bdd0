/- A fault's first field -/
import Derived.Test.YtgkmaihleilchaaBB
namespace Go.Proofs.Ytgkmaihleilchaa
open Go.RowKit

theorem fa_err (a b : Int) (w : World) : (Instr.field 33 (.agg #[.int .i64 a, .int .i64 b]) 0).run Try.prog w = .ok (.int .i64 a) w := by kernel_rfl
end Go.Proofs.Ytgkmaihleilchaa
