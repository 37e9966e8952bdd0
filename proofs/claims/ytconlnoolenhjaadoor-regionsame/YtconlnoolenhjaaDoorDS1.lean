/- walks: the document's Same of bytes -/
import Derived.Test.YtconlnoolenhjaaDoorDS0
namespace Go.Proofs.YtconlnoolenhjaaDoor
open Go.RowKit

set_option maxHeartbeats 400000 in
theorem rsame_any (a1 a2 : Option Addr) (n1 c1 n2 c2 : Nat) (b1 b2 : Nat → Int) (w : World) (h1 : ByteRow w a1 n1 c1 b1) (k1 : NilOk a1 n1 c1) (h2 : ByteRow w a2 n2 c2 b2) (k2 : NilOk a2 n2 c2) :
    Calls Tryd.prog 10 #[.slice a1 n1 c1, .slice a2 n2 c2] w fun e w' => e = .returned (.bool (decide (strOf n1 b1 = strOf n2 b2))) ∧ w' = w := by
  have q1 := run_str w a1 n1 c1 b1 h1 k1
  have q2 := run_str w a2 n2 c2 b2 h2 k2
  clear h1 k1 h2 k2
  generalize strOf n1 b1 = S at *
  generalize strOf n2 b2 = T at *
  go_enter Tryd.func10, Tryd.ntmps10
  go_wp2
  go_ret
  refine ⟨?_, rfl⟩
  by_cases e : S = T
  · subst e; simp
  · have hne : ¬ S.toList = T.toList := fun h => e (ByteArray.ext (Array.toList_inj.mp (by rw [← ByteArray.toList_eq, ← ByteArray.toList_eq]; exact h)))
    simp [e, hne]
end Go.Proofs.YtconlnoolenhjaaDoor
