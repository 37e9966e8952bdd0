/- walks: the document's Same of hellos -/
import Derived.Test.YtmjgmngdahhbkaaLW5
namespace Go.Proofs.Ytmjgmngdahhbkaa
open Go.RowKit
open Hl (Tl)

set_option maxHeartbeats 2000000 in
theorem lsame_true (da db : Option Addr) (dn dc dc2 : Nat) (dg dg2 : Nat → Int) (ao bo : Option Addr) (n cap cap2 : Nat) (ts : Nat → Tl) (w : World) (hn : n ≤ 9223372036854775807)
    (h1 : ByteRow w da dn dc dg) (h2 : ByteRow w db dn dc2 dg2) (hd : ∀ i, i < dn → dg i = dg2 i) (hz1 : NilOk da dn dc) (hz2 : NilOk db dn dc2) (h3 : TaleRow w ao n cap ts) (h4 : TaleRow w bo n cap2 ts) :
    Calls Try.prog 12 #[.agg #[.slice da dn dc, .slice ao n cap], .agg #[.slice db dn dc2, .slice bo n cap2]] w fun e w' => e = .returned (.bool true) ∧ Below w.heap.size w w' := by
  obtain ⟨W0, HW0⟩ : ∃ W0, Hid (W0 = (w.alloc (.cells #[.slice da dn dc, .slice ao n cap] 25)).alloc (.cells #[.slice db dn dc2, .slice bo n cap2] 25)) := ⟨_, rfl⟩
  have HB0 : Hid (Below w.heap.size w W0) := by rw [HW0.out]; exact below_alloc2 _ _ _
  have hz : Hid (W0.heap.size = w.heap.size + 2) := by rw [HW0.out]; simp [Hid]
  have HA1 : Hid (W0.heap[w.heap.size]? = some (.cells #[.slice da dn dc, .slice ao n cap] 25 (0, 0))) := by rw [HW0.out]; exact heap_alloc2_old w _ _
  have HA2 : Hid (W0.heap[w.heap.size + 1]? = some (.cells #[.slice db dn dc2, .slice bo n cap2] 25 (0, 0))) := by rw [HW0.out]; exact heap_alloc2_new w _ _
  have HC : Hid (∀ W, Below W0.heap.size W0 W → (W.cell? ⟨w.heap.size, 0, none⟩ = some (.slice da dn dc) ∧ W.cell? ⟨w.heap.size, 1, none⟩ = some (.slice ao n cap)) ∧ (W.cell? ⟨w.heap.size + 1, 0, none⟩ = some (.slice db dn dc2) ∧ W.cell? ⟨w.heap.size + 1, 1, none⟩ = some (.slice bo n cap2))) := by
    intro W hW
    have := hz.out
    exact ⟨hl_cells ((hW.block _ (by omega)).trans HA1.out), hl_cells ((hW.block _ (by omega)).trans HA2.out)⟩
  have HR1 : Hid (∀ W, Below W0.heap.size W0 W → TaleRow W ao n cap ts) := fun W hW => (h3.below HB0.out).below hW
  have HR2 : Hid (∀ W, Below W0.heap.size W0 W → TaleRow W bo n cap2 ts) := fun W hW => (h4.below HB0.out).below hW
  have s1 : (convert 22 9 (.slice da dn dc)).run Try.prog ((w.alloc (.cells #[.slice da dn dc, .slice ao n cap] 25)).alloc (.cells #[.slice db dn dc2, .slice bo n cap2] 25)) = .ok (.string (strOf dn dg)) ((w.alloc (.cells #[.slice da dn dc, .slice ao n cap] 25)).alloc (.cells #[.slice db dn dc2, .slice bo n cap2] 25)) := by
    rw [← HW0.out]; exact run_str W0 da dn dc dg (h1.below HB0.out) hz1
  have s2 : (convert 22 9 (.slice db dn dc2)).run Try.prog ((w.alloc (.cells #[.slice da dn dc, .slice ao n cap] 25)).alloc (.cells #[.slice db dn dc2, .slice bo n cap2] 25)) = .ok (.string (strOf dn dg)) ((w.alloc (.cells #[.slice da dn dc, .slice ao n cap] 25)).alloc (.cells #[.slice db dn dc2, .slice bo n cap2] 25)) := by
    rw [← HW0.out, strOf_congr _ _ _ hd]; exact run_str W0 db dn dc2 dg2 (h2.below HB0.out) hz2
  clear h1 h2 h3 h4 hd hz1 hz2
  generalize strOf dn dg = S at *
  go_enter Try.func12, Try.ntmps12
  go_wp2_with fail
  rw [← HW0.out]
  clear s1 s2
  go_loopw [25] (fun i wr => ∃ k : Nat, k ≤ n ∧ i = .int .i64 k ∧ Hid (Below W0.heap.size W0 wr)) (fun i _ => n - (intOf i).toNat)
  case atStart => exact ⟨0, by omega, rfl, Below.refl _ _⟩
  case round =>
    obtain ⟨k, hk, rfl, hX⟩ := hrel
    by_cases hlt : k < n
    · have R1 := HR1.out wr hX.out
      have R2 := HR2.out wr hX.out
      have hc1 := R1.1
      have hc2 := R2.1
      obtain ⟨b, off, rfl, hb, hc⟩ := R1.2 (by omega)
      obtain ⟨b2, off2, rfl, hb2, hc2⟩ := R2.2 (by omega)
      obtain ⟨a0, a1, a2, a3, a4, a5⟩ := hc k hlt
      obtain ⟨e0, e1, e2, e3, e4, e5⟩ := hc2 k hlt
      obtain ⟨⟨q0, q1⟩, ⟨r0, r1⟩⟩ := HC.out wr hX.out
      have HXX : Hid (∀ q, Below W0.heap.size W0 (wr.drewN q)) := fun q => below_drewN hX.out q
      have ik : (0 : Int) ≤ (k : Int) := by omega
      have im : (k : Int) < (n : Int) := by omega
      clear hc hc2 hX HC HR1 HR2 HA1 HA2
      generalize (ts k).tree = tr at *
      generalize (ts k).root = ro at *
      generalize (ts k).cost = co at *
      generalize (ts k).bridge = br at *
      generalize (ts k).port = po at *
      generalize (ts k).age = ag at *
      go_wp2_with fail
      go_quiet (fail)
      go_wp2_with fail
      exact ⟨⟨k + 1, by omega, by go_num, HXX.out _⟩, by simp [intOf]; omega⟩
    · obtain rfl : k = n := by omega
      go_wp2
      go_ret
      exact ⟨rfl, HB0.out.trans (hX.out.mono HB0.out.size)⟩
end Go.Proofs.Ytmjgmngdahhbkaa
