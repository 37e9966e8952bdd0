/- walks: sumBehind of nothing; of whatever bytes; Sum -/
import Derived.Test.YtcbpafpaimpfnaaGreatDoorDW7
namespace Go.Proofs.YtcbpafpaimpfnaaGreatDoor
open Go.RowKit

theorem fin_zero (s : Md.St) (done : Nat) (bs : Nat → Int) : Md.fin s done 0 bs = Md.mixN (Md.mixN s bs 0) (Md.lastB 0 (fun i => bs (64 * (0 / 64) + i)) ((done : Int) * 8)) (Md.lastN 0) := by
  simp [Md.fin]

set_option maxHeartbeats 2000000 in
theorem behind_nil (s : Md.St) (ao : Option Addr) (cap : Nat) (done : Nat) (bs : Nat → Int) (w : World) (ht : Tabs w) (hd : done ≤ 64) :
    Calls Tryz.prog 121 #[.agg (Md.stA s), .int .i64 done, .slice ao 0 cap] w (Sumd w (Md.fin s done 0 bs)) := by
  rw [fin_zero]
  have hwd : IntKind.u64.wrap ((done : Int) * 8) = (done : Int) * 8 := by simp [IntKind.wrap, IntKind.bits, IntKind.signed]; omega
  unfold Md.stA
  have HT : Hid _ := ht
  have hbt := ht.lt
  clear ht
  obtain ⟨W0, HW0⟩ : ∃ W0, Hid (W0 = w.alloc (.cells #[.int .u32 s.a, .int .u32 s.b, .int .u32 s.c, .int .u32 s.d] 176)) := ⟨_, rfl⟩
  have HBL : Hid (Below w.heap.size w W0) := by rw [HW0.out]; exact (Below.refl _ w).alloc (Nat.le_refl _) _
  have HA : Hid (W0.heap[w.heap.size]? = some (.cells (Md.stA s) 176 (0, 0))) := by rw [HW0.out]; exact heap_alloc_last _ _
  have hsz : Hid (w.heap.size + 1 = W0.heap.size) := by rw [HW0.out]; simp [Hid]
  have HT0 : Hid (Tabs W0.drew) := HT.out.below HBL.out.drew (by omega)
  have HR0 : Hid (ByteRow W0.drew ao (64 * 0) cap bs) := ⟨by omega, fun h => by omega⟩
  go_enter Tryz.func121, Tryz.ntmps121
  go_wp2_with fail
  go_region_with (go_at_call 127; rw [← HW0.out]; refine (mixAll_out s ao 0 _ cap bs _ (by omega) HT0.out HR0.out (by omega)).mono ?_; rintro e w2 ⟨rfl, hb2⟩; have c2 := four hb2 HA.out; obtain ⟨c20, c21, c22, c23, f20, f21, f22, f23⟩ := c2; have HB2 : Hid _ := hb2; clear hb2)
  all_goals
    have hset := set4 (s' := Md.mixN s bs 0) ((HB2.out.block w.heap.size (by have := hsz.out; show _ < W0.heap.size; omega)).trans HA.out)
    have HS1 : Hid _ := hset.1
    have HS2 : Hid (Below w.heap.size w _) := hset.2.2 _ _ (Nat.le_refl _) (HBL.out.drew.trans (HB2.out.mono (by have := hsz.out; show _ ≤ W0.heap.size; omega)))
    clear hset c20 c21 c22 c23 f20 f21 f22 f23 HB2
    generalize ((((w2.setCell ⟨w.heap.size, 0, none⟩ (.int .u32 (Md.mixN s bs 0).a)).setCell ⟨w.heap.size, 1, none⟩ (.int .u32 (Md.mixN s bs 0).b)).setCell ⟨w.heap.size, 2, none⟩ (.int .u32 (Md.mixN s bs 0).c)).setCell ⟨w.heap.size, 3, none⟩ (.int .u32 (Md.mixN s bs 0).d)) = w3 at HS1 HS2 ⊢
    have b0 : w3.cell? ⟨w.heap.size, 0, none⟩ = some (.int .u32 (Md.mixN s bs 0).a) := cell_of_row w3 _ 0 _ _ _ HS1.out
    have b1 : w3.cell? ⟨w.heap.size, 1, none⟩ = some (.int .u32 (Md.mixN s bs 0).b) := cell_of_row w3 _ 1 _ _ _ HS1.out
    have b2 : w3.cell? ⟨w.heap.size, 2, none⟩ = some (.int .u32 (Md.mixN s bs 0).c) := cell_of_row w3 _ 2 _ _ _ HS1.out
    have b3 : w3.cell? ⟨w.heap.size, 3, none⟩ = some (.int .u32 (Md.mixN s bs 0).d) := cell_of_row w3 _ 3 _ _ _ HS1.out
    have hs3 : Hid (w.heap.size ≤ w3.heap.size) := HS2.out.size
    have HT3 : Hid (Tabs w3.drew) := HT.out.below HS2.out.drew (by omega)
    clear HW0 HBL HA hsz HT0 HR0 HT
    by_cases hcw : cap = 0
    · have HR3 : ∀ ao' cap', Hid (ByteRow w3.drew ao' 0 cap' (fun i => bs (64 * (0 / 64) + i))) := fun _ _ => ⟨by omega, fun h => by omega⟩
      go_wp2_with fail
      go_region_with (first | (go_at_call 129; refine (mixLast_at (Md.mixN s bs 0) _ 0 _ _ _ (fun i => bs (64 * (0 / 64) + i)) _ rfl HT3.out (HR3 _ _).out (by omega)).mono ?_; rintro e w4 ⟨rfl, hb4⟩) | (go_at_call 128; refine (digest_any _ _).mono ?_; rintro e w5 ⟨rfl, hw5, hb5⟩))
      all_goals go_wp2
      all_goals go_ret
      all_goals exact ⟨_, rfl, by have h1 := hs3.out; have h2 : w3.heap.size ≤ w4.heap.size := hb4.size; omega, hw5, (HS2.out.drew.trans (hb4.mono (by exact hs3.out))).trans (hb5.mono (by have h1 := hs3.out; have h2 : w3.heap.size ≤ w4.heap.size := hb4.size; omega))⟩
    · have HR3 : ∀ ao' cap', Hid (ByteRow w3.drew ao' 0 cap' (fun i => bs (64 * (0 / 64) + i))) := fun _ _ => ⟨by omega, fun h => by omega⟩
      go_wp2_with fail
      go_region_with (first | (go_at_call 129; refine (mixLast_at (Md.mixN s bs 0) _ 0 _ _ _ (fun i => bs (64 * (0 / 64) + i)) _ rfl HT3.out (HR3 _ _).out (by omega)).mono ?_; rintro e w4 ⟨rfl, hb4⟩) | (go_at_call 128; refine (digest_any _ _).mono ?_; rintro e w5 ⟨rfl, hw5, hb5⟩))
      all_goals go_wp2
      all_goals go_ret
      all_goals exact ⟨_, rfl, by have h1 := hs3.out; have h2 : w3.heap.size ≤ w4.heap.size := hb4.size; omega, hw5, (HS2.out.drew.trans (hb4.mono (by exact hs3.out))).trans (hb5.mono (by have h1 := hs3.out; have h2 : w3.heap.size ≤ w4.heap.size := hb4.size; omega))⟩

/-- sumBehind of whatever bytes. -/
theorem behind_any (s : Md.St) (ao : Option Addr) (n cap : Nat) (done : Nat) (bs : Nat → Int) (w : World) (ht : Tabs w) (hd : done ≤ 64) (hc : n ≤ 140737488351232) (hr : ByteRow w ao n cap bs) :
    Calls Tryz.prog 121 #[.agg (Md.stA s), .int .i64 done, .slice ao n cap] w (Sumd w (Md.fin s done n bs)) := by
  by_cases h : n = 0
  · subst h
    exact behind_nil s ao cap done bs w ht hd
  · obtain ⟨b, off, rfl, hb, hcell⟩ := hr.2 (by omega)
    exact behind_pos s b off n cap done bs w ht hd hr.1 hc hb hcell

set_option maxHeartbeats 1000000 in
theorem sum_any (ao : Option Addr) (n cap : Nat) (bs : Nat → Int) (w : World) (ht : Tabs w) (hc : n ≤ 140737488351232) (hr : ByteRow w ao n cap bs) :
    Calls Tryz.prog 126 #[.slice ao n cap] w (Sumd w (Md.fin Md.st0 0 n bs)) := by
  have HT : Hid _ := ht
  have HR : Hid _ := hr
  have hbt := ht.lt
  clear ht hr
  go_enter Tryz.func126, Tryz.ntmps126
  go_wp2_with fail
  refine (start_any _).mono ?_
  rintro e w1 ⟨rfl, hb1⟩
  have HT1 : Hid (Tabs w1) := HT.out.below hb1 (by omega)
  have HR1 : Hid (ByteRow w1 ao n cap bs) := ByteRow.below HR.out hb1
  have HB1 : Hid _ := hb1
  clear hb1
  go_wp2_with fail
  refine (behind_any Md.st0 ao n cap 0 bs _ HT1.out (by omega) hc HR1.out).mono ?_
  rintro e w2 ⟨g, rfl, hg, hrow, hb2⟩
  have HH : Hid _ := And.intro hg (And.intro hrow hb2)
  clear hg hrow hb2
  go_wp2
  go_ret
  exact ⟨g, rfl, Nat.le_trans HB1.out.size HH.out.1, HH.out.2.1, HB1.out.trans (HH.out.2.2.mono HB1.out.size)⟩
end Go.Proofs.YtcbpafpaimpfnaaGreatDoor
