/- walks: hedgelaw5.alive; vectors held against each other -/
import Derived.Test.YthnklbcaodhbfaaVW
namespace Go.Proofs.Ythnklbcaodhbfaa
open Go.RowKit
open Vc (V Of)

theorem vec_eql (a b : V) (W : World) : (binOp .eql 27 (.agg #[.int .u64 a.root, .int .i64 a.cost, .int .u64 a.bridge, .int .i64 a.port]) (.agg #[.int .u64 b.root, .int .i64 b.cost, .int .u64 b.bridge, .int .i64 b.port])).run Try.prog W = .ok (.bool (decide (a = b))) W := by
  by_cases h : a.root = b.root ∧ a.cost = b.cost ∧ a.bridge = b.bridge ∧ a.port = b.port
  · rw [decide_eq_true (Vc.V.eq_iff.2 h)]
    go_simp
  · rw [decide_eq_false (fun e => h (Vc.V.eq_iff.1 e))]
    go_simp
    exact fun p q r t => h ⟨p, q, r, t⟩
/-- An offer's seven cells. -/
def oA (o : Of) : Array Value := #[.int .i64 o.port, .int .i64 o.cost, .int .i64 o.age, .int .u64 o.vec.root, .int .i64 o.vec.cost, .int .u64 o.vec.bridge, .int .i64 o.vec.port]
theorem one_offer {w : World} {g : Nat} {o : Of} {ty : TypeId} (h : w.heap[g]? = some (.cells (oA o) ty (0, 0))) : ORow w (some ⟨g, 0, none⟩) 1 1 (fun _ => o) := by
  refine ⟨Nat.le_refl _, fun _ => ⟨g, 0, rfl, (Array.getElem?_eq_some_iff.1 h).1, fun i hi j hj => ?_⟩⟩
  obtain rfl : i = 0 := by omega
  rcases (show j = 0 ∨ j = 1 ∨ j = 2 ∨ j = 3 ∨ j = 4 ∨ j = 5 ∨ j = 6 by omega) with rfl | rfl | rfl | rfl | rfl | rfl | rfl
  · exact cell_of_row w g 0 _ _ _ h
  · exact cell_of_row w g 1 _ _ _ h
  · exact cell_of_row w g 2 _ _ _ h
  · exact cell_of_row w g 3 _ _ _ h
  · exact cell_of_row w g 4 _ _ _ h
  · exact cell_of_row w g 5 _ _ _ h
  · exact cell_of_row w g 6 _ _ _ h
def aliveO (_ : Nat) : Of := ⟨4, 3, 1, ⟨5, 2, 0, 0⟩⟩
theorem alive_ch : Vc.chV 9 aliveO 1 = ⟨5, 5, 9, 0⟩ ∧ Vc.chA 9 aliveO 1 = 2 ∧ Vc.chP 9 aliveO 1 = 4 := by decide
theorem alive_cmp : Vc.cmp ⟨1, 0, 0, 0⟩ ⟨2, 0, 0, 0⟩ = -1 := by decide
set_option maxHeartbeats 1000000 in
theorem valive_any (w : World) : Calls Try.prog 22 #[] w fun e w' => e = .returned (.bool true) ∧ Below w.heap.size w w' := by
  have HCH : Hid (∀ ty, Calls Try.prog 18 #[.int .u64 9, .slice (some ⟨w.heap.size, 0, none⟩) 1 1] (w.alloc (.cells #[.int .i64 4, .int .i64 3, .int .i64 1, .int .u64 5, .int .i64 2, .int .u64 0, .int .i64 0] ty)) fun e w' => e = .returned (.tuple #[.agg #[.int .u64 5, .int .i64 5, .int .u64 9, .int .i64 0], .int .i64 2, .int .i64 4]) ∧ Hid (Below w.heap.size w w')) := fun ty => by
    refine (vchoose_any 9 (some ⟨w.heap.size, 0, none⟩) 1 1 aliveO _ (by omega) (one_offer (o := ⟨4, 3, 1, ⟨5, 2, 0, 0⟩⟩) (heap_alloc_last w _))).mono ?_
    rintro e w' ⟨h1, h2⟩
    rw [alive_ch.1, alive_ch.2.1, alive_ch.2.2] at h1
    exact ⟨h1, (below_alloc1 w _).trans (h2.mono (by simp))⟩
  have HCM : Hid (∀ W, Calls Try.prog 9 #[.agg #[.int .u64 1, .int .i64 0, .int .u64 0, .int .i64 0], .agg #[.int .u64 2, .int .i64 0, .int .u64 0, .int .i64 0]] W fun e w' => e = .returned (.int .i64 (-1)) ∧ Below W.heap.size W w') := fun W => by
    have := vcompare_any ⟨1, 0, 0, 0⟩ ⟨2, 0, 0, 0⟩ W
    rw [alive_cmp] at this
    exact this
  go_enter Try.func22, Try.ntmps22
  go_wp2_with fail
  refine (HCH.out _).mono ?_
  rintro e w1 ⟨rfl, HB1⟩
  go_wp2_with fail
  refine (HCM.out _).mono ?_
  rintro e w2 ⟨rfl, hb2⟩
  have HB2 : Hid (Below w.heap.size w w2) := by
    refine Below.trans ?_ (hb2.mono ?_)
    · exact HB1.out.alloc HB1.out.size _
    · exact (HB1.out.alloc HB1.out.size _).size
  clear hb2
  go_wp2_with fail
  go_ret
  exact ⟨rfl, HB2.out⟩
end Go.Proofs.Ythnklbcaodhbfaa
