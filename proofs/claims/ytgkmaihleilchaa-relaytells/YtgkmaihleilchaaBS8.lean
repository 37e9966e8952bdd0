/- walks: hedgeref8.Same, where it says yes -/
import Derived.Test.YtgkmaihleilchaaBFe
import Derived.Deep.QuietTactic
namespace Go.Proofs.Ytgkmaihleilchaa
open Go.RowKit
open Bk (E at')

set_option maxHeartbeats 1000000 in
theorem rsame8_yes (ao : Option Addr) (cap : Nat) (bo : Option Addr) (bcap : Nat) (n m : Nat) (l l2 : List E) (w : World) (e1 : n = l.length) (e2 : m = l2.length) (hl : l = l2) (hn : n ≤ 9223372036854775807) (hr : BEL w ao cap l) (hr2 : BEL w bo bcap l2) :
    Calls Try.prog 14 #[.slice ao n cap, .slice bo m bcap] w fun e w' => e = .returned (.bool true) ∧ Below w.heap.size w w' := by
  subst hl
  obtain rfl : m = n := by omega
  subst e1
  have hcap : l.length ≤ cap := hr.1
  have hcap2 : l.length ≤ bcap := hr2.1
  have HR : Hid (∀ W, Below w.heap.size w W → BEL W ao cap l) := fun W hW => BEL.below hr hW
  have HR2 : Hid (∀ W, Below w.heap.size w W → BEL W bo bcap l) := fun W hW => BEL.below hr2 hW
  clear hr hr2 e2
  go_enter Try.func14, Try.ntmps14
  go_wp2_with fail
  go_loopw [13] (fun i wr => ∃ k : Nat, k ≤ l.length ∧ i = .int .i64 k ∧ Hid (Below w.heap.size w wr)) (fun i _ => l.length - (intOf i).toNat)
  case atStart => exact ⟨0, by omega, rfl, Below.refl _ _⟩
  case round =>
    obtain ⟨k, hk, rfl, hB⟩ := hrel
    by_cases hlt : k < l.length
    · obtain ⟨b, off, rfl, _⟩ := (HR.out wr hB.out).place (by omega)
      obtain ⟨b2, off2, rfl, _⟩ := (HR2.out wr hB.out).place (by omega)
      obtain ⟨c0, c1, c2, c3⟩ := (HR.out wr hB.out).cells hlt
      obtain ⟨d0, d1, d2, d3⟩ := (HR2.out wr hB.out).cells hlt
      have ik : (0 : Int) ≤ (k : Int) := by omega
      have nk : (k : Int) < (l.length : Int) := by omega
      clear HR HR2
      generalize at' l k = x at *
      go_wp2_with fail
      go_quiet (fail)
      go_wp2_with fail
      exact ⟨⟨k + 1, by omega, by go_num, below_drewN hB.out _⟩, by simp [intOf]; omega⟩
    · obtain rfl : k = l.length := by omega
      clear HR HR2
      go_wp2_with fail
      go_ret
      exact ⟨rfl, hB.out⟩
end Go.Proofs.Ytgkmaihleilchaa
