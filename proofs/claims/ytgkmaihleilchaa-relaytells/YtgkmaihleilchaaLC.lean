/- walks: bytes.Clone -/
import Derived.Test.YtgkmaihleilchaaG
import Derived.Laws.AppendOwnNone
import Derived.OwnWalk
namespace Go.Proofs.Ytgkmaihleilchaa
open Go.RowKit

set_option maxHeartbeats 400000 in
theorem nclone_any (ao : Option Addr) (n c : Nat) (bs : Nat → Int) (w : World) (hr : ByteRow w ao n c bs) (hnil : ao = none → n = 0 ∧ c = 0) (hn : n ≤ 140737488355328) :
    Calls Try.prog 62 #[.slice ao n c] w fun e w' => ∃ ao' c', e = .returned (.slice ao' n c') ∧ ByteRow w' ao' n c' bs ∧ (ao' = none → n = 0 ∧ c' = 0) ∧ (∀ ad, ao' = some ad → w.heap.size ≤ ad.block) ∧ Below w.heap.size w w' := by
  have HR : Hid (ByteRow w ao n c bs) := hr
  clear hr
  cases ao with
  | none =>
    obtain ⟨rfl, rfl⟩ := hnil rfl
    have he : ∀ w : World, (binOp .eql 28 (.slice none 0 0) (.slice none 0 0)).run Try.prog w = .ok (.bool true) w := fun _ => by kernel_rfl
    go_enter Try.func62, Try.ntmps62
    go_wp2_with fail
    go_ret
    exact ⟨none, 0, rfl, ⟨Nat.le_refl _, fun h => absurd h (by omega)⟩, by simp, by simp, Below.refl _ _⟩
  | some ad =>
    clear hnil
    have HR1 : Hid (ByteRow (w.alloc (.cells #[] 5)) (some ad) n c bs) := HR.out.below (below_alloc1 w _)
    have HO : Hid ((w.alloc (.cells #[] 5)).ownsRow w.heap.size 5 1 (.slice (some ⟨w.heap.size, 0, none⟩) 0 0) 0 []) := owns_empty w
    have he : ∀ w : World, (binOp .eql 28 (.slice (some ad) n c) (.slice none 0 0)).run Try.prog w = .ok (.bool false) w := fun _ => by kernel_rfl
    go_enter Try.func62, Try.ntmps62
    go_wp2_with (at_builtin; refine wpList_append_bytes rfl (.tmp 5) (.tmp 6) rfl w.heap.size _ 0 [] rfl HO.out (some ad) n c bs rfl HR1.out (fun e => by cases e) (by omega) (by simp) ?_; intro v1 w1 h1 h2; have HG : Hid (Below w.heap.size w w1) := grown_own (below_alloc1 w _) HO.out (by simp) h2; clear h2; rw [Nat.zero_add, List.nil_append] at h1; obtain ⟨a1, c1, rfl, hrow, _, hnil, hnew⟩ := owns_row h1; have H1 : Hid (ByteRow w1 a1 n c1 bs) := hrow; clear hrow h1)
    go_ret
    exact ⟨a1, c1, rfl, H1.out, hnil, hnew, HG.out⟩
end Go.Proofs.Ytgkmaihleilchaa
