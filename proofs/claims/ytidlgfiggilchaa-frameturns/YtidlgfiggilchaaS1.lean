/- walks: Same -/
import Derived.Test.YtidlgfiggilchaaMd2
namespace Go.Proofs.Ytidlgfiggilchaa
open Go.RowKit

set_option maxHeartbeats 1000000 in
theorem same_any (d s : Int) (t : Bool) (p : Int) (dr : Bool) (v y : Int) (p2 : Int) (dr2 : Bool) (v2 : Int) (a1 a2 : Option Addr) (n c1 c2 : Nat) (b1 b2 : Nat → Int) (w : World)
    (ht : t = true → p2 = p ∧ dr2 = dr ∧ v2 = v) (h1 : ByteRow w a1 n c1 b1) (n1 : NilOk a1 n c1) (h2 : ByteRow w a2 n c2 b2) (n2 : NilOk a2 n c2) (hb : ∀ i, i < n → b1 i = b2 i) :
    Calls Try.prog 13 #[.agg #[.int .u64 d, .int .u64 s, .bool t, .int .i64 p, .bool dr, .int .i64 v, .int .i64 y, .slice a1 n c1], .agg #[.int .u64 d, .int .u64 s, .bool t, .int .i64 p2, .bool dr2, .int .i64 v2, .int .i64 y, .slice a2 n c2]] w fun e w' => e = .returned (.bool true) ∧ Below w.heap.size w w' := by
  have q1 : ∀ o1 o2, (convert 23 9 (.slice a1 n c1)).run Try.prog ((w.alloc o1).alloc o2) = .ok (.string (strOf n b1)) ((w.alloc o1).alloc o2) := fun o1 o2 => run_str _ a1 n c1 b1 ((h1.below (below_alloc1 w o1)).below (below_alloc1 _ o2)) n1
  have q2 : ∀ o1 o2, (convert 23 9 (.slice a2 n c2)).run Try.prog ((w.alloc o1).alloc o2) = .ok (.string (strOf n b1)) ((w.alloc o1).alloc o2) := fun o1 o2 => by rw [strOf_congr n b1 b2 hb]; exact run_str _ a2 n c2 b2 ((h2.below (below_alloc1 w o1)).below (below_alloc1 _ o2)) n2
  clear h1 h2 n1 n2 hb
  generalize strOf n b1 = S at *
  cases t with
  | false =>
    clear ht
    go_enter Try.func13, Try.ntmps13
    go_wp2
    go_ret
    exact ⟨by simp, ((Below.refl _ w).alloc (Nat.le_refl _) _).alloc (by simp) _⟩
  | true =>
    obtain ⟨rfl, rfl, rfl⟩ := ht rfl
    go_enter Try.func13, Try.ntmps13
    go_wp2
    go_ret
    exact ⟨by simp, ((Below.refl _ w).alloc (Nat.le_refl _) _).alloc (by simp) _⟩
end Go.Proofs.Ytidlgfiggilchaa
