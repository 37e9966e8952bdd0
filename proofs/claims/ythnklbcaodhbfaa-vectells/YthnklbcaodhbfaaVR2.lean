/- walks: the document's Same, of vectors -/
import Derived.Test.YthnklbcaodhbfaaVR1
import Derived.Test.YthnklbcaodhbfaaVR2a
namespace Go.Proofs.Ythnklbcaodhbfaa
open Go.RowKit
open Vc (V Of)

set_option maxHeartbeats 1000000 in
theorem rsame_vecs (ao bo : Option Addr) (n cap cap2 : Nat) (vs : Nat → V) (w : World) (hn : n ≤ 9223372036854775807) (h1 : VRow w ao n cap vs) (h2 : VRow w bo n cap2 vs) :
    Calls Try.prog 15 #[.slice ao n cap, .slice bo n cap2] w fun e w' => e = .returned (.bool true) ∧ Below w.heap.size w w' := by
  have HR1 : Hid (VRow w ao n cap vs) := h1
  have HR2 : Hid (VRow w bo n cap2 vs) := h2
  clear h1 h2
  go_enter Try.func15, Try.ntmps15
  go_wp2_with fail
  go_loopw [13] (fun i wr => ∃ k : Nat, k ≤ n ∧ i = .int .i64 k ∧ Hid (Below w.heap.size w wr)) (fun i _ => n - (intOf i).toNat)
  case atStart => exact ⟨0, by omega, rfl, Below.refl _ _⟩
  case round =>
    obtain ⟨k, hk, rfl, hX⟩ := hrel
    by_cases hlt : k < n
    · obtain ⟨b, off, rfl, hb⟩ := CRow.some HR1.out (by omega)
      obtain ⟨b2, off2, rfl, hb2⟩ := CRow.some HR2.out (by omega)
      have hc1 := HR1.out.1
      have hc2 := HR2.out.1
      obtain ⟨a0, a1, a2, a3⟩ := VRow.cells (CRow.other HR1.out (w' := wr) (fun q _ _ hq => hX.out.block q hq) hX.out.size) hlt
      obtain ⟨e0, e1, e2, e3⟩ := VRow.cells (CRow.other HR2.out (w' := wr) (fun q _ _ hq => hX.out.block q hq) hX.out.size) hlt
      have HXX : Hid (∀ q, Below w.heap.size w (wr.drewN q)) := fun q => below_drewN hX.out q
      have ik : (0 : Int) ≤ (k : Int) := by omega
      have im : (k : Int) < (n : Int) := by omega
      clear hX HR1 HR2
      generalize (vs k).root = ro at *
      generalize (vs k).cost = co at *
      generalize (vs k).bridge = br at *
      generalize (vs k).port = po at *
      go_wp2_with fail
      go_quiet (fail)
      go_wp2_with fail
      exact ⟨⟨k + 1, by omega, by go_num, HXX.out _⟩, by simp [intOf]; omega⟩
    · obtain rfl : k = n := by omega
      go_wp2
      go_ret
      exact ⟨rfl, hX.out⟩
end Go.Proofs.Ythnklbcaodhbfaa
