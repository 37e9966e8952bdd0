/- walks: the document's Tree of regions -/
import Derived.Test.YtgkmaihleilchaaGR1
namespace Go.Proofs.Ytgkmaihleilchaa
open Go.RowKit

set_option maxHeartbeats 1000000 in
theorem rtree_any (s : ByteArray) (rev : Int) (ao : Option Addr) (n cap : Nat) (vs ts : Nat → Int) (vid : Int) (w : World) (hR : Rg.Right vs ts n) (hr : WayRow w ao n cap vs ts) :
    Calls Try.prog 45 #[.agg #[.string s, .int .i64 rev, .slice ao n cap], .int .i64 vid] w fun e w' => e = .returned (.int .i64 (Rg.tree vs ts vid n)) ∧ Below w.heap.size w w' := by
  have hn := hR.many
  have HRt : Hid (Rg.Right vs ts n) := hR
  have HW : Hid (∀ W, Below w.heap.size w W → WayRow W ao n cap vs ts) := fun W hW => hr.below hW
  clear hr hR
  go_enter Try.func45, Try.ntmps45
  go_wp2_with fail
  go_loopw [10] (fun i wr => ∃ k : Nat, k ≤ n ∧ i = .int .i64 k ∧ Hid (∀ i, i < k → vs i ≠ vid) ∧ Hid (Below w.heap.size w wr)) (fun i _ => n - (intOf i).toNat)
  case atStart => exact ⟨0, by omega, rfl, fun i hi => by omega, below_alloc1 _ _⟩
  case round =>
    obtain ⟨k, hk, rfl, hX, hB⟩ := hrel
    by_cases hlt : k < n
    · obtain ⟨b, off, rfl, hb, hc⟩ := (HW.out _ hB.out).2 (by omega)
      have hcap := (HW.out _ hB.out).1
      have c0 : wr.cell? ⟨b, off + k * 2, none⟩ = some (.int .i64 (vs k)) := (hc k hlt).1
      have c1 : wr.cell? ⟨b, off + k * 2 + 1, none⟩ = some (.int .i64 (ts k)) := (hc k hlt).2
      have HBL : Hid (∀ o, Below w.heap.size w (wr.alloc o)) := fun o => hB.out.alloc hB.out.size _
      by_cases he : vs k = vid
      · have HT : Hid (Rg.tree vs ts vid n = ts k) := by rw [← he]; exact Rg.tree_at HRt.out k hlt n hlt (Nat.le_refl _)
        rw [he] at c0
        clear hc HW HRt hX hB he
        generalize ts k = t at *
        go_wp2
        go_ret
        exact ⟨by rw [HT.out]; rfl, HBL.out _⟩
      · have HX : Hid (∀ i, i < k + 1 → vs i ≠ vid) := fun i hi => by
          by_cases e : i = k
          · subst e; exact he
          · exact hX.out i (by omega)
        clear hc HW HRt hX hB
        generalize vs k = v at *
        generalize ts k = t at *
        have hd : decide (v = vid) = false := decide_eq_false he
        have hd2 : (v == vid) = false := by simpa using he
        go_wp2
        exact ⟨⟨k + 1, by omega, by go_num, HX, HBL.out _⟩, by simp [intOf]; omega⟩
    · obtain rfl : k = n := by omega
      have HT : Hid (Rg.tree vs ts vid k = 0) := Rg.tree_none vs ts vid k hX.out
      go_wp2
      go_ret
      exact ⟨by rw [HT.out]; rfl, hB.out⟩
end Go.Proofs.Ytgkmaihleilchaa
