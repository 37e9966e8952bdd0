/- walks: mixLast -/
import Derived.Test.YtcbpafpaimpfnaaGreatDoorDW4
import Derived.Test.YtcbpafpaimpfnaaGreatDoorDMd2
namespace Go.Proofs.YtcbpafpaimpfnaaGreatDoor
open Go.RowKit

theorem info49 : (Tryz.prog.info? 186).map (fun i => (i.zero, i.size)) = some (some (.agg (bytesL 128 (fun _ => 0)).toArray), 128) := by kernel_rfl
theorem mixAll_out (s : Md.St) (ao : Option Addr) (m N cap : Nat) (bs : Nat → Int) (w : World) (hN : N = 64 * m) (ht : Tabs w) (hr : ByteRow w ao (64 * m) cap bs) (hm : 64 * m ≤ 140737488355328) :
    Calls Tryz.prog 127 #[.agg #[.int .u32 s.a, .int .u32 s.b, .int .u32 s.c, .int .u32 s.d], .slice ao N cap] w fun e w' => e = .returned (.agg #[.int .u32 (Md.mixN s bs m).a, .int .u32 (Md.mixN s bs m).b, .int .u32 (Md.mixN s bs m).c, .int .u32 (Md.mixN s bs m).d]) ∧ Below w.heap.size w w' := by
  subst hN
  exact mixAll_any s ao m cap bs w ht hr hm
theorem at80 {w1 : World} {g n : Nat} {bs : Nat → Int} {Z : List Value} (h : Hid (w1.heap[g]? = some (.cells (splice Z 0 (bytesL n bs)).toArray 186 (0, 0)))) (hZ : bytesL 128 (fun _ => 0) = Z) (hn : n < 128) :
    Hid (w1.heap[g]? = some (.cells (rowF 128 (fun i => if i < n then bs i else 0)) 186 (0, 0))) ∧ w1.cell? ⟨g, n, none⟩ = some (.int .u8 0) ∧ w1.frozen? ⟨g, n, none⟩ = false := by
  have h' := h.out
  rw [← hZ, splice_row 128 n bs (by omega)] at h'
  exact ⟨h', (cell_of_row w1 _ n _ _ _ h').trans (by rw [rowF_get _ _ _ hn]; simp), frozen_of_row _ _ _ _ _ h'⟩

set_option maxHeartbeats 1000000 in
theorem mixLast_core (s : Md.St) (ao : Option Addr) (n cap sz : Nat) (bits : Int) (bs : Nat → Int) (w : World) (ht : Tabs w) (hr : ByteRow w ao n cap bs) (hn : n < 64)
    (hsz : (sz = 64 ∧ n + 9 ≤ 64) ∨ (sz = 128 ∧ 64 < n + 9)) :
    Calls Tryz.prog 129 #[.agg (Md.stA s), .slice ao n cap, .int .u64 bits] w fun e w' => e = .returned (.agg (Md.stA (Md.mixN s (Md.lastTo n sz bs bits 8) (sz / 64)))) ∧ Below w.heap.size w w' := by
  have hz := (zero_of_info info49).1
  have HT : Hid (Tabs w) := ht
  have HR : Hid _ := hr
  have hbt := ht.lt
  clear ht hr
  generalize hZ : bytesL 128 (fun _ => 0) = Z at hz
  have HZ : Hid (bytesL 128 (fun _ => 0) = Z) := hZ
  clear hZ
  have hrow : Hid (0 < (bytesL n bs).length → (some ⟨w.heap.size + 1 + 1, 0, none⟩ : Option Addr) = some ⟨w.heap.size + 1 + 1, 0, none⟩ ∧ ∃ ad, ao = some ad ∧ ∀ W : World, Below w.heap.size w W → ∀ j v, (bytesL n bs)[j]? = some v → W.cell? (ad.add j) = some v) := by
    intro hp
    rw [bytesL_length] at hp
    obtain ⟨b, off, rfl, hb, hc⟩ := HR.out.2 hp
    refine ⟨rfl, _, rfl, fun W hW j v hj => ?_⟩
    obtain ⟨hj1, rfl⟩ := bytesL_get _ _ _ _ hj
    have hadd : (⟨b, off, none⟩ : Addr).add j = ⟨b, off + j, none⟩ := by unfold Addr.add; split <;> simp_all
    rw [hadd, hW.cell (by exact hb)]
    exact hc j hj1
  unfold Md.stA
  rcases hsz with ⟨rfl, hs2⟩ | ⟨rfl, hs2⟩
  · go_enter Tryz.func129, Tryz.ntmps129
    go_wp2_with (refine wpList_copy_splice rfl (.tmp 11) (.tmp 12) 93 93 rfl 5 Tryz.underlying93 size5 _ _ _ _ _ _ rfl rfl (w.heap.size + 1 + 1) 0 Z 186 (alloc3 w _ _ _).2.2.1 (bytesL n bs) (by rw [bytesL_length]; exact (Nat.min_eq_left (by omega)).symm) (fun hp => ⟨rfl, by obtain ⟨_, ad, h1, h2⟩ := hrow.out hp; exact ⟨ad, h1, h2 _ (alloc3 w _ _ _).2.2.2⟩⟩) (by rw [← HZ.out]; simp only [bytesL_length]; omega) (bytesL_one n bs) (w.heap.size + 2) _ (Below.refl _ _) (Nat.le_refl _) ?_; intro w1 hw1 hb1; rw [bytesL_length]; obtain ⟨HW1, c80, f80⟩ := at80 hw1 HZ.out (show n < 128 by omega); have HB1 : Hid _ := hb1; clear hw1 hb1 hz)
    have hset0 : Hid ((w1.setCell ⟨w.heap.size + 1 + 1, n, none⟩ (.int .u8 128)).heap[w.heap.size + 1 + 1]? = some (.cells (rowF 128 (Md.lastTo n 64 bs bits 0)) 186 (0, 0))) := by
      show _ = _
      rw [heap_setCell_same _ _ _ _ _ _ HW1.out, rowF_set _ _ _ _ (by omega), rowF_congr _ _ _ (fun i _ => Md.lastTo_zero n 64 bs bits i)]
    go_loopw [20] (fun i wr => ∃ k : Nat, k ≤ 8 ∧ i = .int .i64 k ∧ Hid (wr.heap[w.heap.size + 1 + 1]? = some (.cells (rowF 128 (Md.lastTo n 64 bs bits k)) 186 (0, 0)) ∧ Below (w.heap.size + 2) (((w.alloc (.cells #[.int .u32 s.a, .int .u32 s.b, .int .u32 s.c, .int .u32 s.d] 176)).alloc (.cells #[.int .u32 0, .int .u32 0, .int .u32 0, .int .u32 0] 176)).alloc (.cells Z.toArray 186)) wr)) (fun i _ => 8 - (intOf i).toNat)
    case atStart => exact ⟨0, by omega, rfl, hset0.out, HB1.out.setCell (Nat.le_refl _) _⟩
    case round =>
      obtain ⟨k, hk, rfl, hX⟩ := hrel
      by_cases hlt : k < 8
      · have c4 : wr.cell? ⟨w.heap.size + 1 + 1, 56 + k, none⟩ = some (.int .u8 (Md.lastTo n 64 bs bits k (56 + k))) := (cell_of_row wr _ _ _ _ _ hX.out.1).trans (rowF_get _ _ _ (by omega))
        have f4 : wr.frozen? ⟨w.heap.size + 1 + 1, 56 + k, none⟩ = false := frozen_of_row _ _ _ _ _ hX.out.1
        have HX : Hid ((wr.setCell ⟨w.heap.size + 1 + 1, 56 + k, none⟩ (.int .u8 (bits / 2 ^ (8 * k) % 256))).heap[w.heap.size + 1 + 1]? = some (.cells (rowF 128 (Md.lastTo n 64 bs bits (k + 1))) 186 (0, 0)) ∧ Below (w.heap.size + 2) (((w.alloc (.cells #[.int .u32 s.a, .int .u32 s.b, .int .u32 s.c, .int .u32 s.d] 176)).alloc (.cells #[.int .u32 0, .int .u32 0, .int .u32 0, .int .u32 0] 176)).alloc (.cells Z.toArray 186)) (wr.setCell ⟨w.heap.size + 1 + 1, 56 + k, none⟩ (.int .u8 (bits / 2 ^ (8 * k) % 256)))) := by
          refine ⟨?_, hX.out.2.setCell (Nat.le_refl _) _⟩
          rw [heap_setCell_same _ _ _ _ _ _ hX.out.1, rowF_set _ _ _ _ (by omega), rowF_congr _ _ _ (fun i _ => Md.lastTo_step n 64 bs bits k (by omega) i)]
        clear hX HW1 HB1 hset0 hrow HR
        go_wp2
        exact ⟨⟨k + 1, by omega, by go_num, HX⟩, by simp [intOf]; omega⟩
      · obtain rfl : k = 8 := by omega
        have HA : Hid (wr.heap[w.heap.size]? = some (.cells (Md.stA s) 176 (0, 0))) := (hX.out.2.block _ (by omega)).trans (alloc3 w _ _ _).1
        have HB : Hid (wr.heap[w.heap.size + 1]? = some (.cells (Md.stA ⟨0, 0, 0, 0⟩) 176 (0, 0))) := (hX.out.2.block _ (by omega)).trans (alloc3 w _ _ _).2.1
        have HBL : Hid (Below w.heap.size w wr) := (alloc3 w _ _ _).2.2.2.trans (hX.out.2.mono (by omega))
        have hlt2 : w.heap.size + 1 + 1 < wr.heap.size := block_lt_of_cell ((cell_of_row wr _ 0 _ _ _ hX.out.1).trans (rowF_get _ _ _ (by omega)))
        have HT' : Hid (Tabs wr.drew) := HT.out.below HBL.out.drew (by omega)
        have HRW : Hid (ByteRow wr.drew (some ⟨w.heap.size + 1 + 1, 0, none⟩) (64 * 1) 128 (Md.lastTo n 64 bs bits 8)) := by
          refine ⟨by omega, fun _ => ⟨_, _, rfl, hlt2, fun i hi => ?_⟩⟩
          rw [Nat.zero_add]
          exact (cell_of_row wr _ _ _ _ _ hX.out.1).trans (rowF_get _ _ _ (by omega))
        have a0 : wr.cell? ⟨w.heap.size, 0, none⟩ = some (.int .u32 s.a) := cell_of_row wr _ 0 _ _ _ HA.out
        have a1 : wr.cell? ⟨w.heap.size, 1, none⟩ = some (.int .u32 s.b) := cell_of_row wr _ 1 _ _ _ HA.out
        have a2 : wr.cell? ⟨w.heap.size, 2, none⟩ = some (.int .u32 s.c) := cell_of_row wr _ 2 _ _ _ HA.out
        have a3 : wr.cell? ⟨w.heap.size, 3, none⟩ = some (.int .u32 s.d) := cell_of_row wr _ 3 _ _ _ HA.out
        clear HW1 HB1 hset0 hrow HR c80 f80 hX HT
        go_wp2_with fail
        go_region_with (go_at_call 127; refine (mixAll_out s (some ⟨w.heap.size + 1 + 1, 0, none⟩) 1 64 128 (Md.lastTo n 64 bs bits 8) _ rfl HT'.out HRW.out (by omega)).mono ?_; rintro e w2 ⟨rfl, hb2⟩; have c2 := four hb2 HB.out; obtain ⟨c20, c21, c22, c23, f20, f21, f22, f23⟩ := c2; have HB2 : Hid _ := hb2; clear hb2)
        all_goals go_wp2
        all_goals
          have hset := set4 (s' := Md.mixN s (Md.lastTo n 64 bs bits 8) 1) ((HB2.out.block (w.heap.size + 1) (show _ < wr.heap.size from by omega)).trans HB.out)
          exact bodyPost_ret (v := .agg (Md.stA (Md.mixN s (Md.lastTo n 64 bs bits 8) 1))) (results_cell_row (p := 6) (ty := 176) rfl _ _ (w.heap.size + 1) 176 _ (0, 0) _ rfl hset.1 Tryz.underlying176 rfl (by rw [size34, Md.stA_size])) rfl ⟨rfl, hset.2.2 _ _ (by omega) (HBL.out.drew.trans (HB2.out.mono (show _ ≤ wr.heap.size from by omega)))⟩
  · go_enter Tryz.func129, Tryz.ntmps129
    go_wp2_with (refine wpList_copy_splice rfl (.tmp 11) (.tmp 12) 93 93 rfl 5 Tryz.underlying93 size5 _ _ _ _ _ _ rfl rfl (w.heap.size + 1 + 1) 0 Z 186 (alloc3 w _ _ _).2.2.1 (bytesL n bs) (by rw [bytesL_length]; exact (Nat.min_eq_left (by omega)).symm) (fun hp => ⟨rfl, by obtain ⟨_, ad, h1, h2⟩ := hrow.out hp; exact ⟨ad, h1, h2 _ (alloc3 w _ _ _).2.2.2⟩⟩) (by rw [← HZ.out]; simp only [bytesL_length]; omega) (bytesL_one n bs) (w.heap.size + 2) _ (Below.refl _ _) (Nat.le_refl _) ?_; intro w1 hw1 hb1; rw [bytesL_length]; obtain ⟨HW1, c80, f80⟩ := at80 hw1 HZ.out (show n < 128 by omega); have HB1 : Hid _ := hb1; clear hw1 hb1 hz)
    have hset0 : Hid ((w1.setCell ⟨w.heap.size + 1 + 1, n, none⟩ (.int .u8 128)).heap[w.heap.size + 1 + 1]? = some (.cells (rowF 128 (Md.lastTo n 128 bs bits 0)) 186 (0, 0))) := by
      show _ = _
      rw [heap_setCell_same _ _ _ _ _ _ HW1.out, rowF_set _ _ _ _ (by omega), rowF_congr _ _ _ (fun i _ => Md.lastTo_zero n 128 bs bits i)]
    go_loopw [20] (fun i wr => ∃ k : Nat, k ≤ 8 ∧ i = .int .i64 k ∧ Hid (wr.heap[w.heap.size + 1 + 1]? = some (.cells (rowF 128 (Md.lastTo n 128 bs bits k)) 186 (0, 0)) ∧ Below (w.heap.size + 2) (((w.alloc (.cells #[.int .u32 s.a, .int .u32 s.b, .int .u32 s.c, .int .u32 s.d] 176)).alloc (.cells #[.int .u32 0, .int .u32 0, .int .u32 0, .int .u32 0] 176)).alloc (.cells Z.toArray 186)) wr)) (fun i _ => 8 - (intOf i).toNat)
    case atStart => exact ⟨0, by omega, rfl, hset0.out, HB1.out.setCell (Nat.le_refl _) _⟩
    case round =>
      obtain ⟨k, hk, rfl, hX⟩ := hrel
      by_cases hlt : k < 8
      · have c4 : wr.cell? ⟨w.heap.size + 1 + 1, 120 + k, none⟩ = some (.int .u8 (Md.lastTo n 128 bs bits k (120 + k))) := (cell_of_row wr _ _ _ _ _ hX.out.1).trans (rowF_get _ _ _ (by omega))
        have f4 : wr.frozen? ⟨w.heap.size + 1 + 1, 120 + k, none⟩ = false := frozen_of_row _ _ _ _ _ hX.out.1
        have HX : Hid ((wr.setCell ⟨w.heap.size + 1 + 1, 120 + k, none⟩ (.int .u8 (bits / 2 ^ (8 * k) % 256))).heap[w.heap.size + 1 + 1]? = some (.cells (rowF 128 (Md.lastTo n 128 bs bits (k + 1))) 186 (0, 0)) ∧ Below (w.heap.size + 2) (((w.alloc (.cells #[.int .u32 s.a, .int .u32 s.b, .int .u32 s.c, .int .u32 s.d] 176)).alloc (.cells #[.int .u32 0, .int .u32 0, .int .u32 0, .int .u32 0] 176)).alloc (.cells Z.toArray 186)) (wr.setCell ⟨w.heap.size + 1 + 1, 120 + k, none⟩ (.int .u8 (bits / 2 ^ (8 * k) % 256)))) := by
          refine ⟨?_, hX.out.2.setCell (Nat.le_refl _) _⟩
          rw [heap_setCell_same _ _ _ _ _ _ hX.out.1, rowF_set _ _ _ _ (by omega), rowF_congr _ _ _ (fun i _ => Md.lastTo_step n 128 bs bits k (by omega) i)]
        clear hX HW1 HB1 hset0 hrow HR
        go_wp2
        exact ⟨⟨k + 1, by omega, by go_num, HX⟩, by simp [intOf]; omega⟩
      · obtain rfl : k = 8 := by omega
        have HA : Hid (wr.heap[w.heap.size]? = some (.cells (Md.stA s) 176 (0, 0))) := (hX.out.2.block _ (by omega)).trans (alloc3 w _ _ _).1
        have HB : Hid (wr.heap[w.heap.size + 1]? = some (.cells (Md.stA ⟨0, 0, 0, 0⟩) 176 (0, 0))) := (hX.out.2.block _ (by omega)).trans (alloc3 w _ _ _).2.1
        have HBL : Hid (Below w.heap.size w wr) := (alloc3 w _ _ _).2.2.2.trans (hX.out.2.mono (by omega))
        have hlt2 : w.heap.size + 1 + 1 < wr.heap.size := block_lt_of_cell ((cell_of_row wr _ 0 _ _ _ hX.out.1).trans (rowF_get _ _ _ (by omega)))
        have HT' : Hid (Tabs wr.drew) := HT.out.below HBL.out.drew (by omega)
        have HRW : Hid (ByteRow wr.drew (some ⟨w.heap.size + 1 + 1, 0, none⟩) (64 * 2) 128 (Md.lastTo n 128 bs bits 8)) := by
          refine ⟨by omega, fun _ => ⟨_, _, rfl, hlt2, fun i hi => ?_⟩⟩
          rw [Nat.zero_add]
          exact (cell_of_row wr _ _ _ _ _ hX.out.1).trans (rowF_get _ _ _ (by omega))
        have a0 : wr.cell? ⟨w.heap.size, 0, none⟩ = some (.int .u32 s.a) := cell_of_row wr _ 0 _ _ _ HA.out
        have a1 : wr.cell? ⟨w.heap.size, 1, none⟩ = some (.int .u32 s.b) := cell_of_row wr _ 1 _ _ _ HA.out
        have a2 : wr.cell? ⟨w.heap.size, 2, none⟩ = some (.int .u32 s.c) := cell_of_row wr _ 2 _ _ _ HA.out
        have a3 : wr.cell? ⟨w.heap.size, 3, none⟩ = some (.int .u32 s.d) := cell_of_row wr _ 3 _ _ _ HA.out
        clear HW1 HB1 hset0 hrow HR c80 f80 hX HT
        go_wp2_with fail
        go_region_with (go_at_call 127; refine (mixAll_out s (some ⟨w.heap.size + 1 + 1, 0, none⟩) 2 128 128 (Md.lastTo n 128 bs bits 8) _ rfl HT'.out HRW.out (by omega)).mono ?_; rintro e w2 ⟨rfl, hb2⟩; have c2 := four hb2 HB.out; obtain ⟨c20, c21, c22, c23, f20, f21, f22, f23⟩ := c2; have HB2 : Hid _ := hb2; clear hb2)
        all_goals go_wp2
        all_goals
          have hset := set4 (s' := Md.mixN s (Md.lastTo n 128 bs bits 8) 2) ((HB2.out.block (w.heap.size + 1) (show _ < wr.heap.size from by omega)).trans HB.out)
          exact bodyPost_ret (v := .agg (Md.stA (Md.mixN s (Md.lastTo n 128 bs bits 8) 2))) (results_cell_row (p := 6) (ty := 176) rfl _ _ (w.heap.size + 1) 176 _ (0, 0) _ rfl hset.1 Tryz.underlying176 rfl (by rw [size34, Md.stA_size])) rfl ⟨rfl, hset.2.2 _ _ (by omega) (HBL.out.drew.trans (HB2.out.mono (show _ ≤ wr.heap.size from by omega)))⟩

theorem mixLast_out (s : Md.St) (ao : Option Addr) (n cap : Nat) (bits : Int) (bs : Nat → Int) (w : World) (ht : Tabs w) (hr : ByteRow w ao n cap bs) (hn : n < 64) :
    Calls Tryz.prog 129 #[.agg #[.int .u32 s.a, .int .u32 s.b, .int .u32 s.c, .int .u32 s.d], .slice ao n cap, .int .u64 bits] w fun e w' => e = .returned (.agg (Md.stA (Md.mixN s (Md.lastB n bs bits) (Md.lastN n)))) ∧ Below w.heap.size w w' := by
  by_cases h : n + 9 ≤ 64
  · have e1 : Md.lastN n = 1 := by simp [Md.lastN, h]
    have e2 : Md.lastB n bs bits = Md.lastTo n 64 bs bits 8 := by funext i; simp [Md.lastB, e1]
    rw [e1, e2]
    exact mixLast_core s ao n cap 64 bits bs w ht hr hn (Or.inl ⟨rfl, h⟩)
  · have e1 : Md.lastN n = 2 := by simp [Md.lastN, h]
    have e2 : Md.lastB n bs bits = Md.lastTo n 128 bs bits 8 := by funext i; simp [Md.lastB, e1]
    rw [e1, e2]
    exact mixLast_core s ao n cap 128 bits bs w ht hr hn (Or.inr ⟨rfl, by omega⟩)
end Go.Proofs.YtcbpafpaimpfnaaGreatDoor
