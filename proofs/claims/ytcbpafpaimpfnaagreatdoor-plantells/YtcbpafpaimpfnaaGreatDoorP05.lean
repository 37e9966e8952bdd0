/- walks: keyBlock -/
import Derived.Test.YtcbpafpaimpfnaaGreatDoorP04
namespace Go.Proofs.YtcbpafpaimpfnaaGreatDoor
section
open Go.RowKit
theorem info49 : (Tryz.prog.info? 186).map (fun i => (i.zero, i.size)) = some (some (.agg (bytesL 128 (fun _ => 0)).toArray), 128) := by kernel_rfl
theorem mixAll_out (s : Md.St) (ao : Option Addr) (m N cap : Nat) (bs : Nat → Int) (w : World) (hN : N = 64 * m) (ht : Tabs w) (hr : ByteRow w ao (64 * m) cap bs) (hm : 64 * m ≤ 140737488355328) :
  Calls Tryz.prog 127 #[.agg #[.int .u32 s.a, .int .u32 s.b, .int .u32 s.c, .int .u32 s.d], .slice ao N cap] w fun e w' => e = .returned (.agg #[.int .u32 (Md.mixN s bs m).a, .int .u32 (Md.mixN s bs m).b, .int .u32 (Md.mixN s bs m).c, .int .u32 (Md.mixN s bs m).d]) ∧ Below w.heap.size w w' := by
 subst hN
 exact mixAll_any s ao m cap bs w ht hr hm
theorem at80 {w1 : World} {g n : Nat} {bs : Nat → Int} {Z : List Value} (h : Hid (w1.heap[g]? = some (.cells (splice Z 0 (bytesL n bs)).toArray 186 (0, 0)))) (hZ : bytesL 128 (fun _ => 0) = Z) (hn : n < 128) :
  Hid (w1.heap[g]? = some (.cells (rowF 128 (fun i => if i < n then bs i else 0)) 186 (0, 0))) ∧ w1.cell? ⟨g, n, none⟩ = some (.int .u8 0) ∧ w1.frozen? ⟨g, n, none⟩ = false := by
 have h' := h.out
 rw [← hZ, splice_row 128 n bs (by omega)] at h'
 exact ⟨h', (cell_of_row w1 _ n _ _ _ h').trans (by rw [rowF_get _ _ _ hn]; simp), frozen_of_row _ _ _ _ _ h'⟩
set_option maxHeartbeats 1000000 in
theorem mixLast_core (s : Md.St) (ao : Option Addr) (n cap sz : Nat) (bits : Int) (bs : Nat → Int) (w : World) (ht : Tabs w) (hr : ByteRow w ao n cap bs) (hn : n < 64)
  (hsz : (sz = 64 ∧ n + 9 ≤ 64) ∨ (sz = 128 ∧ 64 < n + 9)) :
  Calls Tryz.prog 129 #[.agg (Md.stA s), .slice ao n cap, .int .u64 bits] w fun e w' => e = .returned (.agg (Md.stA (Md.mixN s (Md.lastTo n sz bs bits 8) (sz / 64)))) ∧ Below w.heap.size w w' := by
 have hz := (zero_of_info info49).1
 have HT : Hid (Tabs w) := ht
 have HR : Hid _ := hr
 have hbt := ht.lt
 clear ht hr
 generalize hZ : bytesL 128 (fun _ => 0) = Z at hz
 have HZ : Hid (bytesL 128 (fun _ => 0) = Z) := hZ
 clear hZ
 have hrow : Hid (0 < (bytesL n bs).length → (some ⟨w.heap.size + 1 + 1, 0, none⟩ : Option Addr) = some ⟨w.heap.size + 1 + 1, 0, none⟩ ∧ ∃ ad, ao = some ad ∧ ∀ W : World, Below w.heap.size w W → ∀ j v, (bytesL n bs)[j]? = some v → W.cell? (ad.add j) = some v) := by
  intro hp
  rw [bytesL_length] at hp
  obtain ⟨b, off, rfl, hb, hc⟩ := HR.out.2 hp
  refine ⟨rfl, _, rfl, fun W hW j v hj => ?_⟩
  obtain ⟨hj1, rfl⟩ := bytesL_get _ _ _ _ hj
  have hadd : (⟨b, off, none⟩ : Addr).add j = ⟨b, off + j, none⟩ := by unfold Addr.add; split <;> simp_all
  rw [hadd, hW.cell (by exact hb)]
  exact hc j hj1
 unfold Md.stA
 rcases hsz with ⟨rfl, hs2⟩ | ⟨rfl, hs2⟩
 ·go_enter Tryz.func129, Tryz.ntmps129
  go_wp2_with (refine wpList_copy_splice rfl (.tmp 11) (.tmp 12) 93 93 rfl 5 Tryz.underlying93 size5 _ _ _ _ _ _ rfl rfl (w.heap.size + 1 + 1) 0 Z 186 (alloc3 w _ _ _).2.2.1 (bytesL n bs) (by rw [bytesL_length]; exact (Nat.min_eq_left (by omega)).symm) (fun hp => ⟨rfl, by obtain ⟨_, ad, h1, h2⟩ := hrow.out hp; exact ⟨ad, h1, h2 _ (alloc3 w _ _ _).2.2.2⟩⟩) (by rw [← HZ.out]; simp only [bytesL_length]; omega) (bytesL_one n bs) (w.heap.size + 2) _ (Below.refl _ _) (Nat.le_refl _) ?_; intro w1 hw1 hb1; rw [bytesL_length]; obtain ⟨HW1, c80, f80⟩ := at80 hw1 HZ.out (show n < 128 by omega); have HB1 : Hid _ := hb1; clear hw1 hb1 hz)
  have hset0 : Hid ((w1.setCell ⟨w.heap.size + 1 + 1, n, none⟩ (.int .u8 128)).heap[w.heap.size + 1 + 1]? = some (.cells (rowF 128 (Md.lastTo n 64 bs bits 0)) 186 (0, 0))) := by
   show _ = _
   rw [heap_setCell_same _ _ _ _ _ _ HW1.out, rowF_set _ _ _ _ (by omega), rowF_congr _ _ _ (fun i _ => Md.lastTo_zero n 64 bs bits i)]
  go_loopw [20] (fun i wr => ∃ k : Nat, k ≤ 8 ∧ i = .int .i64 k ∧ Hid (wr.heap[w.heap.size + 1 + 1]? = some (.cells (rowF 128 (Md.lastTo n 64 bs bits k)) 186 (0, 0)) ∧ Below (w.heap.size + 2) (((w.alloc (.cells #[.int .u32 s.a, .int .u32 s.b, .int .u32 s.c, .int .u32 s.d] 176)).alloc (.cells #[.int .u32 0, .int .u32 0, .int .u32 0, .int .u32 0] 176)).alloc (.cells Z.toArray 186)) wr)) (fun i _ => 8 - (intOf i).toNat)
  case atStart => exact ⟨0, by omega, rfl, hset0.out, HB1.out.setCell (Nat.le_refl _) _⟩
  case round =>
   obtain ⟨k, hk, rfl, hX⟩ := hrel
   by_cases hlt : k < 8
   ·have c4 : wr.cell? ⟨w.heap.size + 1 + 1, 56 + k, none⟩ = some (.int .u8 (Md.lastTo n 64 bs bits k (56 + k))) := (cell_of_row wr _ _ _ _ _ hX.out.1).trans (rowF_get _ _ _ (by omega))
    have f4 : wr.frozen? ⟨w.heap.size + 1 + 1, 56 + k, none⟩ = false := frozen_of_row _ _ _ _ _ hX.out.1
    have HX : Hid ((wr.setCell ⟨w.heap.size + 1 + 1, 56 + k, none⟩ (.int .u8 (bits / 2 ^ (8 * k) % 256))).heap[w.heap.size + 1 + 1]? = some (.cells (rowF 128 (Md.lastTo n 64 bs bits (k + 1))) 186 (0, 0)) ∧ Below (w.heap.size + 2) (((w.alloc (.cells #[.int .u32 s.a, .int .u32 s.b, .int .u32 s.c, .int .u32 s.d] 176)).alloc (.cells #[.int .u32 0, .int .u32 0, .int .u32 0, .int .u32 0] 176)).alloc (.cells Z.toArray 186)) (wr.setCell ⟨w.heap.size + 1 + 1, 56 + k, none⟩ (.int .u8 (bits / 2 ^ (8 * k) % 256)))) := by
     refine ⟨?_, hX.out.2.setCell (Nat.le_refl _) _⟩
     rw [heap_setCell_same _ _ _ _ _ _ hX.out.1, rowF_set _ _ _ _ (by omega), rowF_congr _ _ _ (fun i _ => Md.lastTo_step n 64 bs bits k (by omega) i)]
    clear hX HW1 HB1 hset0 hrow HR
    go_wp2
    exact ⟨⟨k + 1, by omega, by go_num, HX⟩, by simp [intOf]; omega⟩
   ·obtain rfl : k = 8 := by omega
    have HA : Hid (wr.heap[w.heap.size]? = some (.cells (Md.stA s) 176 (0, 0))) := (hX.out.2.block _ (by omega)).trans (alloc3 w _ _ _).1
    have HB : Hid (wr.heap[w.heap.size + 1]? = some (.cells (Md.stA ⟨0, 0, 0, 0⟩) 176 (0, 0))) := (hX.out.2.block _ (by omega)).trans (alloc3 w _ _ _).2.1
    have HBL : Hid (Below w.heap.size w wr) := (alloc3 w _ _ _).2.2.2.trans (hX.out.2.mono (by omega))
    have hlt2 : w.heap.size + 1 + 1 < wr.heap.size := block_lt_of_cell ((cell_of_row wr _ 0 _ _ _ hX.out.1).trans (rowF_get _ _ _ (by omega)))
    have HT' : Hid (Tabs wr.drew) := HT.out.below HBL.out.drew (by omega)
    have HRW : Hid (ByteRow wr.drew (some ⟨w.heap.size + 1 + 1, 0, none⟩) (64 * 1) 128 (Md.lastTo n 64 bs bits 8)) := by
     refine ⟨by omega, fun _ => ⟨_, _, rfl, hlt2, fun i hi => ?_⟩⟩
     rw [Nat.zero_add]
     exact (cell_of_row wr _ _ _ _ _ hX.out.1).trans (rowF_get _ _ _ (by omega))
    have a0 : wr.cell? ⟨w.heap.size, 0, none⟩ = some (.int .u32 s.a) := cell_of_row wr _ 0 _ _ _ HA.out
    have a1 : wr.cell? ⟨w.heap.size, 1, none⟩ = some (.int .u32 s.b) := cell_of_row wr _ 1 _ _ _ HA.out
    have a2 : wr.cell? ⟨w.heap.size, 2, none⟩ = some (.int .u32 s.c) := cell_of_row wr _ 2 _ _ _ HA.out
    have a3 : wr.cell? ⟨w.heap.size, 3, none⟩ = some (.int .u32 s.d) := cell_of_row wr _ 3 _ _ _ HA.out
    clear HW1 HB1 hset0 hrow HR c80 f80 hX HT
    go_wp2_with fail
    go_region_with (go_at_call 127; refine (mixAll_out s (some ⟨w.heap.size + 1 + 1, 0, none⟩) 1 64 128 (Md.lastTo n 64 bs bits 8) _ rfl HT'.out HRW.out (by omega)).mono ?_; rintro e w2 ⟨rfl, hb2⟩; have c2 := four hb2 HB.out; obtain ⟨c20, c21, c22, c23, f20, f21, f22, f23⟩ := c2; have HB2 : Hid _ := hb2; clear hb2)
    all_goals go_wp2
    all_goals
     have hset := set4 (s' := Md.mixN s (Md.lastTo n 64 bs bits 8) 1) ((HB2.out.block (w.heap.size + 1) (show _ < wr.heap.size from by omega)).trans HB.out)
     exact bodyPost_ret (v := .agg (Md.stA (Md.mixN s (Md.lastTo n 64 bs bits 8) 1))) (results_cell_row (p := 6) (ty := 176) rfl _ _ (w.heap.size + 1) 176 _ (0, 0) _ rfl hset.1 Tryz.underlying176 rfl (by rw [size34, Md.stA_size])) rfl ⟨rfl, hset.2.2 _ _ (by omega) (HBL.out.drew.trans (HB2.out.mono (show _ ≤ wr.heap.size from by omega)))⟩
 ·go_enter Tryz.func129, Tryz.ntmps129
  go_wp2_with (refine wpList_copy_splice rfl (.tmp 11) (.tmp 12) 93 93 rfl 5 Tryz.underlying93 size5 _ _ _ _ _ _ rfl rfl (w.heap.size + 1 + 1) 0 Z 186 (alloc3 w _ _ _).2.2.1 (bytesL n bs) (by rw [bytesL_length]; exact (Nat.min_eq_left (by omega)).symm) (fun hp => ⟨rfl, by obtain ⟨_, ad, h1, h2⟩ := hrow.out hp; exact ⟨ad, h1, h2 _ (alloc3 w _ _ _).2.2.2⟩⟩) (by rw [← HZ.out]; simp only [bytesL_length]; omega) (bytesL_one n bs) (w.heap.size + 2) _ (Below.refl _ _) (Nat.le_refl _) ?_; intro w1 hw1 hb1; rw [bytesL_length]; obtain ⟨HW1, c80, f80⟩ := at80 hw1 HZ.out (show n < 128 by omega); have HB1 : Hid _ := hb1; clear hw1 hb1 hz)
  have hset0 : Hid ((w1.setCell ⟨w.heap.size + 1 + 1, n, none⟩ (.int .u8 128)).heap[w.heap.size + 1 + 1]? = some (.cells (rowF 128 (Md.lastTo n 128 bs bits 0)) 186 (0, 0))) := by
   show _ = _
   rw [heap_setCell_same _ _ _ _ _ _ HW1.out, rowF_set _ _ _ _ (by omega), rowF_congr _ _ _ (fun i _ => Md.lastTo_zero n 128 bs bits i)]
  go_loopw [20] (fun i wr => ∃ k : Nat, k ≤ 8 ∧ i = .int .i64 k ∧ Hid (wr.heap[w.heap.size + 1 + 1]? = some (.cells (rowF 128 (Md.lastTo n 128 bs bits k)) 186 (0, 0)) ∧ Below (w.heap.size + 2) (((w.alloc (.cells #[.int .u32 s.a, .int .u32 s.b, .int .u32 s.c, .int .u32 s.d] 176)).alloc (.cells #[.int .u32 0, .int .u32 0, .int .u32 0, .int .u32 0] 176)).alloc (.cells Z.toArray 186)) wr)) (fun i _ => 8 - (intOf i).toNat)
  case atStart => exact ⟨0, by omega, rfl, hset0.out, HB1.out.setCell (Nat.le_refl _) _⟩
  case round =>
   obtain ⟨k, hk, rfl, hX⟩ := hrel
   by_cases hlt : k < 8
   ·have c4 : wr.cell? ⟨w.heap.size + 1 + 1, 120 + k, none⟩ = some (.int .u8 (Md.lastTo n 128 bs bits k (120 + k))) := (cell_of_row wr _ _ _ _ _ hX.out.1).trans (rowF_get _ _ _ (by omega))
    have f4 : wr.frozen? ⟨w.heap.size + 1 + 1, 120 + k, none⟩ = false := frozen_of_row _ _ _ _ _ hX.out.1
    have HX : Hid ((wr.setCell ⟨w.heap.size + 1 + 1, 120 + k, none⟩ (.int .u8 (bits / 2 ^ (8 * k) % 256))).heap[w.heap.size + 1 + 1]? = some (.cells (rowF 128 (Md.lastTo n 128 bs bits (k + 1))) 186 (0, 0)) ∧ Below (w.heap.size + 2) (((w.alloc (.cells #[.int .u32 s.a, .int .u32 s.b, .int .u32 s.c, .int .u32 s.d] 176)).alloc (.cells #[.int .u32 0, .int .u32 0, .int .u32 0, .int .u32 0] 176)).alloc (.cells Z.toArray 186)) (wr.setCell ⟨w.heap.size + 1 + 1, 120 + k, none⟩ (.int .u8 (bits / 2 ^ (8 * k) % 256)))) := by
     refine ⟨?_, hX.out.2.setCell (Nat.le_refl _) _⟩
     rw [heap_setCell_same _ _ _ _ _ _ hX.out.1, rowF_set _ _ _ _ (by omega), rowF_congr _ _ _ (fun i _ => Md.lastTo_step n 128 bs bits k (by omega) i)]
    clear hX HW1 HB1 hset0 hrow HR
    go_wp2
    exact ⟨⟨k + 1, by omega, by go_num, HX⟩, by simp [intOf]; omega⟩
   ·obtain rfl : k = 8 := by omega
    have HA : Hid (wr.heap[w.heap.size]? = some (.cells (Md.stA s) 176 (0, 0))) := (hX.out.2.block _ (by omega)).trans (alloc3 w _ _ _).1
    have HB : Hid (wr.heap[w.heap.size + 1]? = some (.cells (Md.stA ⟨0, 0, 0, 0⟩) 176 (0, 0))) := (hX.out.2.block _ (by omega)).trans (alloc3 w _ _ _).2.1
    have HBL : Hid (Below w.heap.size w wr) := (alloc3 w _ _ _).2.2.2.trans (hX.out.2.mono (by omega))
    have hlt2 : w.heap.size + 1 + 1 < wr.heap.size := block_lt_of_cell ((cell_of_row wr _ 0 _ _ _ hX.out.1).trans (rowF_get _ _ _ (by omega)))
    have HT' : Hid (Tabs wr.drew) := HT.out.below HBL.out.drew (by omega)
    have HRW : Hid (ByteRow wr.drew (some ⟨w.heap.size + 1 + 1, 0, none⟩) (64 * 2) 128 (Md.lastTo n 128 bs bits 8)) := by
     refine ⟨by omega, fun _ => ⟨_, _, rfl, hlt2, fun i hi => ?_⟩⟩
     rw [Nat.zero_add]
     exact (cell_of_row wr _ _ _ _ _ hX.out.1).trans (rowF_get _ _ _ (by omega))
    have a0 : wr.cell? ⟨w.heap.size, 0, none⟩ = some (.int .u32 s.a) := cell_of_row wr _ 0 _ _ _ HA.out
    have a1 : wr.cell? ⟨w.heap.size, 1, none⟩ = some (.int .u32 s.b) := cell_of_row wr _ 1 _ _ _ HA.out
    have a2 : wr.cell? ⟨w.heap.size, 2, none⟩ = some (.int .u32 s.c) := cell_of_row wr _ 2 _ _ _ HA.out
    have a3 : wr.cell? ⟨w.heap.size, 3, none⟩ = some (.int .u32 s.d) := cell_of_row wr _ 3 _ _ _ HA.out
    clear HW1 HB1 hset0 hrow HR c80 f80 hX HT
    go_wp2_with fail
    go_region_with (go_at_call 127; refine (mixAll_out s (some ⟨w.heap.size + 1 + 1, 0, none⟩) 2 128 128 (Md.lastTo n 128 bs bits 8) _ rfl HT'.out HRW.out (by omega)).mono ?_; rintro e w2 ⟨rfl, hb2⟩; have c2 := four hb2 HB.out; obtain ⟨c20, c21, c22, c23, f20, f21, f22, f23⟩ := c2; have HB2 : Hid _ := hb2; clear hb2)
    all_goals go_wp2
    all_goals
     have hset := set4 (s' := Md.mixN s (Md.lastTo n 128 bs bits 8) 2) ((HB2.out.block (w.heap.size + 1) (show _ < wr.heap.size from by omega)).trans HB.out)
     exact bodyPost_ret (v := .agg (Md.stA (Md.mixN s (Md.lastTo n 128 bs bits 8) 2))) (results_cell_row (p := 6) (ty := 176) rfl _ _ (w.heap.size + 1) 176 _ (0, 0) _ rfl hset.1 Tryz.underlying176 rfl (by rw [size34, Md.stA_size])) rfl ⟨rfl, hset.2.2 _ _ (by omega) (HBL.out.drew.trans (HB2.out.mono (show _ ≤ wr.heap.size from by omega)))⟩
theorem mixLast_out (s : Md.St) (ao : Option Addr) (n cap : Nat) (bits : Int) (bs : Nat → Int) (w : World) (ht : Tabs w) (hr : ByteRow w ao n cap bs) (hn : n < 64) :
  Calls Tryz.prog 129 #[.agg #[.int .u32 s.a, .int .u32 s.b, .int .u32 s.c, .int .u32 s.d], .slice ao n cap, .int .u64 bits] w fun e w' => e = .returned (.agg (Md.stA (Md.mixN s (Md.lastB n bs bits) (Md.lastN n)))) ∧ Below w.heap.size w w' := by
 by_cases h : n + 9 ≤ 64
 ·have e1 : Md.lastN n = 1 := by simp [Md.lastN, h]
  have e2 : Md.lastB n bs bits = Md.lastTo n 64 bs bits 8 := by funext i; simp [Md.lastB, e1]
  rw [e1, e2]
  exact mixLast_core s ao n cap 64 bits bs w ht hr hn (Or.inl ⟨rfl, h⟩)
 ·have e1 : Md.lastN n = 2 := by simp [Md.lastN, h]
  have e2 : Md.lastB n bs bits = Md.lastTo n 128 bs bits 8 := by funext i; simp [Md.lastB, e1]
  rw [e1, e2]
  exact mixLast_core s ao n cap 128 bits bs w ht hr hn (Or.inr ⟨rfl, by omega⟩)
def Md.fin (s : Md.St) (done n : Nat) (bs : Nat → Int) : Md.St :=
 Md.mixN (Md.mixN s bs (n / 64)) (Md.lastB (n % 64) (fun i => bs (64 * (n / 64) + i)) (((done : Int) + n) * 8)) (Md.lastN (n % 64))
def Sumd (w : World) (s : Md.St) (e : Ending) (w' : World) : Prop :=
 ∃ g, e = .returned (.slice (some ⟨g, 0, none⟩) 16 16) ∧ w.heap.size ≤ g ∧ w'.heap[g]? = some (.cells (Md.rowB 16 (Md.dg s) 16) 5 (0, 0)) ∧ Below w.heap.size w w'
theorem mixLast_at (s : Md.St) (ao : Option Addr) (n N cap : Nat) (bits : Int) (bs : Nat → Int) (w : World) (hN : N = n) (ht : Tabs w) (hr : ByteRow w ao n cap bs) (hn : n < 64) :
  Calls Tryz.prog 129 #[.agg #[.int .u32 s.a, .int .u32 s.b, .int .u32 s.c, .int .u32 s.d], .slice ao N cap, .int .u64 bits] w fun e w' => e = .returned (.agg (Md.stA (Md.mixN s (Md.lastB n bs bits) (Md.lastN n)))) ∧ Below w.heap.size w w' := by
 subst hN
 exact mixLast_out s ao N cap bits bs w ht hr hn
set_option maxHeartbeats 2000000 in
theorem behind_pos (s : Md.St) (b off n cap : Nat) (done : Nat) (bs : Nat → Int) (w : World) (ht : Tabs w) (hd : done ≤ 64) (hn : n ≤ cap) (hc : n ≤ 140737488351232) (hb : b < w.heap.size)
  (hcell : ∀ i, i < n → w.cell? ⟨b, off + i, none⟩ = some (.int .u8 (bs i))) :
  Calls Tryz.prog 121 #[.agg (Md.stA s), .int .i64 done, .slice (some ⟨b, off, none⟩) n cap] w (Sumd w (Md.fin s done n bs)) := by
 unfold Md.stA
 have HC : Hid _ := hcell
 have HT : Hid _ := ht
 have hbt := ht.lt
 clear hcell ht
 obtain ⟨W0, HW0⟩ : ∃ W0, Hid (W0 = w.alloc (.cells #[.int .u32 s.a, .int .u32 s.b, .int .u32 s.c, .int .u32 s.d] 176)) := ⟨_, rfl⟩
 have HBL : Hid (Below w.heap.size w W0) := by rw [HW0.out]; exact (Below.refl _ w).alloc (Nat.le_refl _) _
 have HA : Hid (W0.heap[w.heap.size]? = some (.cells (Md.stA s) 176 (0, 0))) := by rw [HW0.out]; exact heap_alloc_last _ _
 have hsz : Hid (w.heap.size + 1 = W0.heap.size) := by rw [HW0.out]; simp [Hid]
 have HT0 : Hid (Tabs W0.drew) := HT.out.below HBL.out.drew (by omega)
 have HR0 : Hid (ByteRow W0.drew (some ⟨b, off, none⟩) (64 * (n / 64)) cap bs) := ⟨by omega, fun _ => ⟨b, off, rfl, by show b < W0.heap.size; have := hsz.out; omega, fun i hi => (HBL.out.drew.cell (by exact hb)).trans (HC.out i (by omega))⟩⟩
 have HRX : ∀ w3 : World, Below w.heap.size w w3 → Hid (ByteRow w3.drew (some ⟨b, off + (n - n % 64), none⟩) (n % 64) (cap - (n - n % 64)) (fun i => bs (64 * (n / 64) + i))) := by
  intro w3 h3
  refine ⟨by omega, fun _ => ⟨b, off + (n - n % 64), rfl, by have := h3.size; show b < w3.heap.size; omega, fun i hi => (h3.drew.cell (by exact hb)).trans ?_⟩⟩
  rw [show off + (n - n % 64) + i = off + (64 * (n / 64) + i) by omega]
  exact HC.out _ (by omega)
 go_enter Tryz.func121, Tryz.ntmps121
 go_wp2_with fail
 go_region_with (go_at_call 127; rw [← HW0.out]; refine (mixAll_out s (some ⟨b, off, none⟩) (n / 64) _ cap bs _ (by omega) HT0.out HR0.out (by omega)).mono ?_; rintro e w2 ⟨rfl, hb2⟩; have c2 := four hb2 HA.out; obtain ⟨c20, c21, c22, c23, f20, f21, f22, f23⟩ := c2; have HB2 : Hid _ := hb2; clear hb2)
 all_goals
  have hset := set4 (s' := Md.mixN s bs (n / 64)) ((HB2.out.block w.heap.size (by have := hsz.out; show _ < W0.heap.size; omega)).trans HA.out)
  have HS1 : Hid _ := hset.1
  have HS2 : Hid (Below w.heap.size w _) := hset.2.2 _ _ (Nat.le_refl _) (HBL.out.drew.trans (HB2.out.mono (by have := hsz.out; show _ ≤ W0.heap.size; omega)))
  clear hset c20 c21 c22 c23 f20 f21 f22 f23 HB2
  generalize ((((w2.setCell ⟨w.heap.size, 0, none⟩ (.int .u32 (Md.mixN s bs (n / 64)).a)).setCell ⟨w.heap.size, 1, none⟩ (.int .u32 (Md.mixN s bs (n / 64)).b)).setCell ⟨w.heap.size, 2, none⟩ (.int .u32 (Md.mixN s bs (n / 64)).c)).setCell ⟨w.heap.size, 3, none⟩ (.int .u32 (Md.mixN s bs (n / 64)).d)) = w3 at HS1 HS2 ⊢
  have b0 : w3.cell? ⟨w.heap.size, 0, none⟩ = some (.int .u32 (Md.mixN s bs (n / 64)).a) := cell_of_row w3 _ 0 _ _ _ HS1.out
  have b1 : w3.cell? ⟨w.heap.size, 1, none⟩ = some (.int .u32 (Md.mixN s bs (n / 64)).b) := cell_of_row w3 _ 1 _ _ _ HS1.out
  have b2 : w3.cell? ⟨w.heap.size, 2, none⟩ = some (.int .u32 (Md.mixN s bs (n / 64)).c) := cell_of_row w3 _ 2 _ _ _ HS1.out
  have b3 : w3.cell? ⟨w.heap.size, 3, none⟩ = some (.int .u32 (Md.mixN s bs (n / 64)).d) := cell_of_row w3 _ 3 _ _ _ HS1.out
  have hs3 : Hid (w.heap.size ≤ w3.heap.size) := HS2.out.size
  have HT3 : Hid (Tabs w3.drew) := HT.out.below HS2.out.drew (by omega)
  clear HC HW0 HBL HA hsz HT0 HR0 HT
  by_cases hcw : cap = n - n % 64
  ·have HR3 : Hid (ByteRow w3.drew (some ⟨b, off, none⟩) (n % 64) 0 (fun i => bs (64 * (n / 64) + i))) := ⟨by omega, fun h => by omega⟩
   go_wp2_with fail
   go_region_with (first | (go_at_call 129; refine (mixLast_at (Md.mixN s bs (n / 64)) _ (n % 64) _ _ _ _ _ (by omega) HT3.out HR3.out (by omega)).mono ?_; rintro e w4 ⟨rfl, hb4⟩) | (go_at_call 128; refine (digest_any _ _).mono ?_; rintro e w5 ⟨rfl, hw5, hb5⟩))
   all_goals go_wp2
   all_goals go_ret
   all_goals exact ⟨_, rfl, by have h1 := hs3.out; have h2 : w3.heap.size ≤ w4.heap.size := hb4.size; omega, hw5, (HS2.out.drew.trans (hb4.mono (by exact hs3.out))).trans (hb5.mono (by have h1 := hs3.out; have h2 : w3.heap.size ≤ w4.heap.size := hb4.size; omega))⟩
  ·have HR3 : Hid (ByteRow w3.drew (some ⟨b, off + (n - n % 64), none⟩) (n % 64) (cap - (n - n % 64)) (fun i => bs (64 * (n / 64) + i))) := HRX w3 HS2.out
   go_wp2_with fail
   go_region_with (first | (go_at_call 129; refine (mixLast_at (Md.mixN s bs (n / 64)) _ (n % 64) _ _ _ _ _ (by omega) HT3.out HR3.out (by omega)).mono ?_; rintro e w4 ⟨rfl, hb4⟩) | (go_at_call 128; refine (digest_any _ _).mono ?_; rintro e w5 ⟨rfl, hw5, hb5⟩))
   all_goals go_wp2
   all_goals go_ret
   all_goals exact ⟨_, rfl, by have h1 := hs3.out; have h2 : w3.heap.size ≤ w4.heap.size := hb4.size; omega, hw5, (HS2.out.drew.trans (hb4.mono (by exact hs3.out))).trans (hb5.mono (by have h1 := hs3.out; have h2 : w3.heap.size ≤ w4.heap.size := hb4.size; omega))⟩
theorem fin_zero (s : Md.St) (done : Nat) (bs : Nat → Int) : Md.fin s done 0 bs = Md.mixN (Md.mixN s bs 0) (Md.lastB 0 (fun i => bs (64 * (0 / 64) + i)) ((done : Int) * 8)) (Md.lastN 0) := by
 simp [Md.fin]
set_option maxHeartbeats 2000000 in
theorem behind_nil (s : Md.St) (ao : Option Addr) (cap : Nat) (done : Nat) (bs : Nat → Int) (w : World) (ht : Tabs w) (hd : done ≤ 64) :
  Calls Tryz.prog 121 #[.agg (Md.stA s), .int .i64 done, .slice ao 0 cap] w (Sumd w (Md.fin s done 0 bs)) := by
 rw [fin_zero]
 have hwd : IntKind.u64.wrap ((done : Int) * 8) = (done : Int) * 8 := by simp [IntKind.wrap, IntKind.bits, IntKind.signed]; omega
 unfold Md.stA
 have HT : Hid _ := ht
 have hbt := ht.lt
 clear ht
 obtain ⟨W0, HW0⟩ : ∃ W0, Hid (W0 = w.alloc (.cells #[.int .u32 s.a, .int .u32 s.b, .int .u32 s.c, .int .u32 s.d] 176)) := ⟨_, rfl⟩
 have HBL : Hid (Below w.heap.size w W0) := by rw [HW0.out]; exact (Below.refl _ w).alloc (Nat.le_refl _) _
 have HA : Hid (W0.heap[w.heap.size]? = some (.cells (Md.stA s) 176 (0, 0))) := by rw [HW0.out]; exact heap_alloc_last _ _
 have hsz : Hid (w.heap.size + 1 = W0.heap.size) := by rw [HW0.out]; simp [Hid]
 have HT0 : Hid (Tabs W0.drew) := HT.out.below HBL.out.drew (by omega)
 have HR0 : Hid (ByteRow W0.drew ao (64 * 0) cap bs) := ⟨by omega, fun h => by omega⟩
 go_enter Tryz.func121, Tryz.ntmps121
 go_wp2_with fail
 go_region_with (go_at_call 127; rw [← HW0.out]; refine (mixAll_out s ao 0 _ cap bs _ (by omega) HT0.out HR0.out (by omega)).mono ?_; rintro e w2 ⟨rfl, hb2⟩; have c2 := four hb2 HA.out; obtain ⟨c20, c21, c22, c23, f20, f21, f22, f23⟩ := c2; have HB2 : Hid _ := hb2; clear hb2)
 all_goals
  have hset := set4 (s' := Md.mixN s bs 0) ((HB2.out.block w.heap.size (by have := hsz.out; show _ < W0.heap.size; omega)).trans HA.out)
  have HS1 : Hid _ := hset.1
  have HS2 : Hid (Below w.heap.size w _) := hset.2.2 _ _ (Nat.le_refl _) (HBL.out.drew.trans (HB2.out.mono (by have := hsz.out; show _ ≤ W0.heap.size; omega)))
  clear hset c20 c21 c22 c23 f20 f21 f22 f23 HB2
  generalize ((((w2.setCell ⟨w.heap.size, 0, none⟩ (.int .u32 (Md.mixN s bs 0).a)).setCell ⟨w.heap.size, 1, none⟩ (.int .u32 (Md.mixN s bs 0).b)).setCell ⟨w.heap.size, 2, none⟩ (.int .u32 (Md.mixN s bs 0).c)).setCell ⟨w.heap.size, 3, none⟩ (.int .u32 (Md.mixN s bs 0).d)) = w3 at HS1 HS2 ⊢
  have b0 : w3.cell? ⟨w.heap.size, 0, none⟩ = some (.int .u32 (Md.mixN s bs 0).a) := cell_of_row w3 _ 0 _ _ _ HS1.out
  have b1 : w3.cell? ⟨w.heap.size, 1, none⟩ = some (.int .u32 (Md.mixN s bs 0).b) := cell_of_row w3 _ 1 _ _ _ HS1.out
  have b2 : w3.cell? ⟨w.heap.size, 2, none⟩ = some (.int .u32 (Md.mixN s bs 0).c) := cell_of_row w3 _ 2 _ _ _ HS1.out
  have b3 : w3.cell? ⟨w.heap.size, 3, none⟩ = some (.int .u32 (Md.mixN s bs 0).d) := cell_of_row w3 _ 3 _ _ _ HS1.out
  have hs3 : Hid (w.heap.size ≤ w3.heap.size) := HS2.out.size
  have HT3 : Hid (Tabs w3.drew) := HT.out.below HS2.out.drew (by omega)
  clear HW0 HBL HA hsz HT0 HR0 HT
  by_cases hcw : cap = 0
  ·have HR3 : ∀ ao' cap', Hid (ByteRow w3.drew ao' 0 cap' (fun i => bs (64 * (0 / 64) + i))) := fun _ _ => ⟨by omega, fun h => by omega⟩
   go_wp2_with fail
   go_region_with (first | (go_at_call 129; refine (mixLast_at (Md.mixN s bs 0) _ 0 _ _ _ (fun i => bs (64 * (0 / 64) + i)) _ rfl HT3.out (HR3 _ _).out (by omega)).mono ?_; rintro e w4 ⟨rfl, hb4⟩) | (go_at_call 128; refine (digest_any _ _).mono ?_; rintro e w5 ⟨rfl, hw5, hb5⟩))
   all_goals go_wp2
   all_goals go_ret
   all_goals exact ⟨_, rfl, by have h1 := hs3.out; have h2 : w3.heap.size ≤ w4.heap.size := hb4.size; omega, hw5, (HS2.out.drew.trans (hb4.mono (by exact hs3.out))).trans (hb5.mono (by have h1 := hs3.out; have h2 : w3.heap.size ≤ w4.heap.size := hb4.size; omega))⟩
  ·have HR3 : ∀ ao' cap', Hid (ByteRow w3.drew ao' 0 cap' (fun i => bs (64 * (0 / 64) + i))) := fun _ _ => ⟨by omega, fun h => by omega⟩
   go_wp2_with fail
   go_region_with (first | (go_at_call 129; refine (mixLast_at (Md.mixN s bs 0) _ 0 _ _ _ (fun i => bs (64 * (0 / 64) + i)) _ rfl HT3.out (HR3 _ _).out (by omega)).mono ?_; rintro e w4 ⟨rfl, hb4⟩) | (go_at_call 128; refine (digest_any _ _).mono ?_; rintro e w5 ⟨rfl, hw5, hb5⟩))
   all_goals go_wp2
   all_goals go_ret
   all_goals exact ⟨_, rfl, by have h1 := hs3.out; have h2 : w3.heap.size ≤ w4.heap.size := hb4.size; omega, hw5, (HS2.out.drew.trans (hb4.mono (by exact hs3.out))).trans (hb5.mono (by have h1 := hs3.out; have h2 : w3.heap.size ≤ w4.heap.size := hb4.size; omega))⟩
theorem behind_any (s : Md.St) (ao : Option Addr) (n cap : Nat) (done : Nat) (bs : Nat → Int) (w : World) (ht : Tabs w) (hd : done ≤ 64) (hc : n ≤ 140737488351232) (hr : ByteRow w ao n cap bs) :
  Calls Tryz.prog 121 #[.agg (Md.stA s), .int .i64 done, .slice ao n cap] w (Sumd w (Md.fin s done n bs)) := by
 by_cases h : n = 0
 ·subst h
  exact behind_nil s ao cap done bs w ht hd
 ·obtain ⟨b, off, rfl, hb, hcell⟩ := hr.2 (by omega)
  exact behind_pos s b off n cap done bs w ht hd hr.1 hc hb hcell
set_option maxHeartbeats 1000000 in
theorem sum_any (ao : Option Addr) (n cap : Nat) (bs : Nat → Int) (w : World) (ht : Tabs w) (hc : n ≤ 140737488351232) (hr : ByteRow w ao n cap bs) :
  Calls Tryz.prog 126 #[.slice ao n cap] w (Sumd w (Md.fin Md.st0 0 n bs)) := by
 have HT : Hid _ := ht
 have HR : Hid _ := hr
 have hbt := ht.lt
 clear ht hr
 go_enter Tryz.func126, Tryz.ntmps126
 go_wp2_with fail
 refine (start_any _).mono ?_
 rintro e w1 ⟨rfl, hb1⟩
 have HT1 : Hid (Tabs w1) := HT.out.below hb1 (by omega)
 have HR1 : Hid (ByteRow w1 ao n cap bs) := ByteRow.below HR.out hb1
 have HB1 : Hid _ := hb1
 clear hb1
 go_wp2_with fail
 refine (behind_any Md.st0 ao n cap 0 bs _ HT1.out (by omega) hc HR1.out).mono ?_
 rintro e w2 ⟨g, rfl, hg, hrow, hb2⟩
 have HH : Hid _ := And.intro hg (And.intro hrow hb2)
 clear hg hrow hb2
 go_wp2
 go_ret
 exact ⟨g, rfl, Nat.le_trans HB1.out.size HH.out.1, HH.out.2.1, HB1.out.trans (HH.out.2.2.mono HB1.out.size)⟩
def Md.kb (n : Nat) (bs : Nat → Int) (i : Nat) : Int :=
 if n ≤ 64 then (if i < n then bs i else 0) else (if i < 16 then Md.dg (Md.fin Md.st0 0 n bs) i else 0)
theorem size42 : (Tryz.prog.info? 172).map (·.size) = some 64 := by kernel_rfl
theorem zeros64 : (#[.int .u8 0, .int .u8 0, .int .u8 0, .int .u8 0, .int .u8 0, .int .u8 0, .int .u8 0, .int .u8 0, .int .u8 0, .int .u8 0, .int .u8 0, .int .u8 0, .int .u8 0, .int .u8 0, .int .u8 0, .int .u8 0, .int .u8 0, .int .u8 0, .int .u8 0, .int .u8 0, .int .u8 0, .int .u8 0, .int .u8 0, .int .u8 0, .int .u8 0, .int .u8 0, .int .u8 0, .int .u8 0, .int .u8 0, .int .u8 0, .int .u8 0, .int .u8 0, .int .u8 0, .int .u8 0, .int .u8 0, .int .u8 0, .int .u8 0, .int .u8 0, .int .u8 0, .int .u8 0, .int .u8 0, .int .u8 0, .int .u8 0, .int .u8 0, .int .u8 0, .int .u8 0, .int .u8 0, .int .u8 0, .int .u8 0, .int .u8 0, .int .u8 0, .int .u8 0, .int .u8 0, .int .u8 0, .int .u8 0, .int .u8 0, .int .u8 0, .int .u8 0, .int .u8 0, .int .u8 0, .int .u8 0, .int .u8 0, .int .u8 0, .int .u8 0] : Array Value) = (bytesL 64 (fun _ => 0)).toArray := rfl
theorem sumRow {w' : World} {g : Nat} {s : Md.St} (h : w'.heap[g]? = some (.cells (Md.rowB 16 (Md.dg s) 16) 5 (0, 0))) : ByteRow w' (some ⟨g, 0, none⟩) 16 16 (Md.dg s) := by
 refine ⟨Nat.le_refl _, fun _ => ⟨g, 0, rfl, block_lt_of_cell ((cell_of_row w' g 0 _ _ _ h).trans (Md.rowB_get _ _ _ _ (by omega))), fun i hi => ?_⟩⟩
 rw [Nat.zero_add]
 refine (cell_of_row w' g i _ _ _ h).trans ?_
 rw [Md.rowB_get _ _ _ _ hi, if_pos hi]
theorem splice64 {w1 : World} {g n : Nat} {bs : Nat → Int} (h : Hid (w1.heap[g]? = some (.cells (splice (bytesL 64 (fun _ => 0)) 0 (bytesL n bs)).toArray 172 (0, 0)))) (hn : n ≤ 64) :
  Hid (w1.heap[g]? = some (.cells (rowF 64 (fun i => if i < n then bs i else 0)) 172 (0, 0))) := by
 have h' := h.out
 rw [splice_row 64 n bs hn] at h'
 exact h'
set_option maxHeartbeats 1000000 in
theorem keyBlock_any (ao : Option Addr) (n cap : Nat) (bs : Nat → Int) (w : World) (ht : Tabs w) (hc : n ≤ 140737488351232) (hr : ByteRow w ao n cap bs) :
  Calls Tryz.prog 120 #[.slice ao n cap] w fun e w' => e = .returned (.agg (rowF 64 (Md.kb n bs))) ∧ Below w.heap.size w w' := by
 have HT : Hid _ := ht
 have HR : Hid (ByteRow w ao n cap bs) := hr
 have hbt := ht.lt
 clear ht hr
 obtain ⟨W0, HW0⟩ : ∃ W0, Hid (W0 = (w.alloc (.cells (bytesL 64 (fun _ => 0)).toArray 172)).alloc (.cells (bytesL 64 (fun _ => 0)).toArray 172)) := ⟨_, rfl⟩
 have HBL : Hid (Below w.heap.size w W0) := by rw [HW0.out]; exact ((Below.refl _ w).alloc (Nat.le_refl _) _).alloc (by simp) _
 have HA : Hid (W0.heap[w.heap.size]? = some (.cells (bytesL 64 (fun _ => 0)).toArray 172 (0, 0))) := by rw [HW0.out]; exact heap_alloc2_old _ _ _
 have HB : Hid (W0.heap[w.heap.size + 1]? = some (.cells (bytesL 64 (fun _ => 0)).toArray 172 (0, 0))) := by rw [HW0.out]; exact heap_alloc2_new _ _ _
 have hsz : Hid (w.heap.size + 2 = W0.heap.size) := by rw [HW0.out]; simp [Hid]
 have HW : Hid _ := HW0.out
 rw [← zeros64] at HW
 by_cases hn : 64 < n
 ·have HF : Hid (rowF 64 (Md.kb n bs) = rowF 64 (fun i => if i < 16 then Md.dg (Md.fin Md.st0 0 n bs) i else 0)) := rowF_congr _ _ _ (fun i _ => by unfold Md.kb; rw [if_neg (by omega)])
  have HT0 : Hid (Tabs W0) := HT.out.below HBL.out (by omega)
  have HR0 : Hid (ByteRow W0 ao n cap bs) := HR.out.below HBL.out
  rw [HF.out]
  go_enter Tryz.func120, Tryz.ntmps120
  go_wp2_with fail
  rw [← HW.out]
  refine (sum_any ao n cap bs _ HT0.out hc HR0.out).mono ?_
  rintro e w1 ⟨g, rfl, hg, hrow, hb1⟩
  have HA1 : Hid (w1.heap[w.heap.size]? = some (.cells (bytesL 64 (fun _ => 0)).toArray 172 (0, 0))) := (hb1.block _ (by have := hsz.out; omega)).trans HA.out
  have HB1 : Hid (w1.heap[w.heap.size + 1]? = some (.cells (bytesL 64 (fun _ => 0)).toArray 172 (0, 0))) := (hb1.block _ (by have := hsz.out; omega)).trans HB.out
  have HBL1 : Hid (Below w.heap.size w w1) := HBL.out.trans (hb1.mono (by have := hsz.out; omega))
  have HRR : Hid (ByteRow w1 (some ⟨g, 0, none⟩) 16 16 (Md.dg (Md.fin Md.st0 0 n bs))) := sumRow hrow
  clear hg hrow hb1 HA HB HBL HT0 HR0 HT HR hsz HF HW HW0
  go_wp2_with (first | (refine wpList_copy_splice rfl (.tmp 9) (.tmp 10) 93 93 rfl 5 Tryz.underlying93 size5 _ _ _ _ _ _ rfl rfl (w.heap.size + 1) 0 (bytesL 64 (fun _ => 0)) 172 HB1.out (bytesL 16 (Md.dg (Md.fin Md.st0 0 n bs))) (by rw [bytesL_length]; rfl) (fun hp => ⟨rfl, copy_src HRR.out (Nat.le_refl _) hp⟩) (by simp only [bytesL_length]; omega) (bytesL_one _ _) (w.heap.size + 1) _ (Below.refl _ _) (Nat.le_refl _) ?_; intro w2 hw2 hb2; rw [bytesL_length]; have HW2 := splice64 hw2 (by omega); have HA2 : Hid _ := (hb2.block w.heap.size (by omega)).trans HA1.out; have HBL2 : Hid _ := HBL1.out.trans (hb2.mono (by omega)); clear hw2 hb2 HA1 HB1 HBL1 HRR) | refine wpList_load_row rfl 172 _ rfl (w.heap.size + 1) rfl 172 _ (0, 0) _ HW2.out Tryz.underlying172 rfl (by rw [size42, rowF_size]) ?_ | refine wpList_store_row rfl 172 _ _ rfl w.heap.size (rowF 64 (fun i => if i < 16 then Md.dg (Md.fin Md.st0 0 n bs) i else 0)) rfl rfl 172 _ HA2.out (by rw [size42, rowF_size]) (by rw [rowF_size]; rfl) (rowF_all _ _) ?_)
  exact bodyPost_ret (v := .agg (rowF 64 (fun i => if i < 16 then Md.dg (Md.fin Md.st0 0 n bs) i else 0))) (results_cell_row (p := 2) (ty := 172) rfl _ _ w.heap.size 172 _ (0, 0) _ rfl (setRow_heap _ _ _ _ _ _ HA2.out) Tryz.underlying172 rfl (by rw [size42, rowF_size])) rfl ⟨rfl, below_setRow HBL2.out (Nat.le_refl _) _⟩
 ·have HF : Hid (rowF 64 (Md.kb n bs) = rowF 64 (fun i => if i < n then bs i else 0)) := rowF_congr _ _ _ (fun i _ => by unfold Md.kb; rw [if_pos (by omega)])
  have HR0 : Hid (ByteRow W0 ao n cap bs) := HR.out.below HBL.out
  rw [HF.out]
  rw [HW.out] at HA HB HBL HR0
  clear HT HR hsz HF HW HW0
  go_enter Tryz.func120, Tryz.ntmps120
  go_wp2_with (first | (refine wpList_copy_splice rfl (.tmp 9) (.tmp 10) 93 93 rfl 5 Tryz.underlying93 size5 _ _ _ _ _ _ rfl rfl (w.heap.size + 1) 0 (bytesL 64 (fun _ => 0)) 172 HB.out (bytesL n bs) (by rw [bytesL_length]; exact (Nat.min_eq_left (by omega)).symm) (fun hp => ⟨rfl, copy_src HR0.out (Nat.le_refl _) hp⟩) (by simp only [bytesL_length]; omega) (bytesL_one _ _) (w.heap.size + 1) _ (Below.refl _ _) (Nat.le_refl _) ?_; intro w2 hw2 hb2; rw [bytesL_length]; have HW2 := splice64 hw2 (by omega); have HA2 : Hid _ := (hb2.block w.heap.size (by omega)).trans HA.out; have HBL2 : Hid _ := HBL.out.trans (hb2.mono (by omega)); clear hw2 hb2 HA HB HBL HR0) | refine wpList_load_row rfl 172 _ rfl (w.heap.size + 1) rfl 172 _ (0, 0) _ HW2.out Tryz.underlying172 rfl (by rw [size42, rowF_size]) ?_ | refine wpList_store_row rfl 172 _ _ rfl w.heap.size (rowF 64 (fun i => if i < n then bs i else 0)) rfl rfl 172 _ HA2.out (by rw [size42, rowF_size]) (by rw [rowF_size]; rfl) (rowF_all _ _) ?_)
  exact bodyPost_ret (v := .agg (rowF 64 (fun i => if i < n then bs i else 0))) (results_cell_row (p := 2) (ty := 172) rfl _ _ w.heap.size 172 _ (0, 0) _ rfl (setRow_heap _ _ _ _ _ _ HA2.out) Tryz.underlying172 rfl (by rw [size42, rowF_size])) rfl ⟨rfl, below_setRow HBL2.out (Nat.le_refl _) _⟩
end
end Go.Proofs.YtcbpafpaimpfnaaGreatDoor
