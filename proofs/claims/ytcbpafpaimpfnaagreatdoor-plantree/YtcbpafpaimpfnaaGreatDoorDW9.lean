/- walks: keyBlock -/
import Derived.Test.YtcbpafpaimpfnaaGreatDoorDW8
namespace Go.Proofs.YtcbpafpaimpfnaaGreatDoor
open Go.RowKit

/-- The key's block: the key, or its digest, with noughts behind. -/
def Md.kb (n : Nat) (bs : Nat → Int) (i : Nat) : Int :=
  if n ≤ 64 then (if i < n then bs i else 0) else (if i < 16 then Md.dg (Md.fin Md.st0 0 n bs) i else 0)

theorem size42 : (Tryz.prog.info? 172).map (·.size) = some 64 := by kernel_rfl
theorem zeros64 : (#[.int .u8 0, .int .u8 0, .int .u8 0, .int .u8 0, .int .u8 0, .int .u8 0, .int .u8 0, .int .u8 0, .int .u8 0, .int .u8 0, .int .u8 0, .int .u8 0, .int .u8 0, .int .u8 0, .int .u8 0, .int .u8 0, .int .u8 0, .int .u8 0, .int .u8 0, .int .u8 0, .int .u8 0, .int .u8 0, .int .u8 0, .int .u8 0, .int .u8 0, .int .u8 0, .int .u8 0, .int .u8 0, .int .u8 0, .int .u8 0, .int .u8 0, .int .u8 0, .int .u8 0, .int .u8 0, .int .u8 0, .int .u8 0, .int .u8 0, .int .u8 0, .int .u8 0, .int .u8 0, .int .u8 0, .int .u8 0, .int .u8 0, .int .u8 0, .int .u8 0, .int .u8 0, .int .u8 0, .int .u8 0, .int .u8 0, .int .u8 0, .int .u8 0, .int .u8 0, .int .u8 0, .int .u8 0, .int .u8 0, .int .u8 0, .int .u8 0, .int .u8 0, .int .u8 0, .int .u8 0, .int .u8 0, .int .u8 0, .int .u8 0, .int .u8 0] : Array Value) = (bytesL 64 (fun _ => 0)).toArray := rfl

theorem sumRow {w' : World} {g : Nat} {s : Md.St} (h : w'.heap[g]? = some (.cells (Md.rowB 16 (Md.dg s) 16) 5 (0, 0))) : ByteRow w' (some ⟨g, 0, none⟩) 16 16 (Md.dg s) := by
  refine ⟨Nat.le_refl _, fun _ => ⟨g, 0, rfl, block_lt_of_cell ((cell_of_row w' g 0 _ _ _ h).trans (Md.rowB_get _ _ _ _ (by omega))), fun i hi => ?_⟩⟩
  rw [Nat.zero_add]
  refine (cell_of_row w' g i _ _ _ h).trans ?_
  rw [Md.rowB_get _ _ _ _ hi, if_pos hi]
theorem splice64 {w1 : World} {g n : Nat} {bs : Nat → Int} (h : Hid (w1.heap[g]? = some (.cells (splice (bytesL 64 (fun _ => 0)) 0 (bytesL n bs)).toArray 172 (0, 0)))) (hn : n ≤ 64) :
    Hid (w1.heap[g]? = some (.cells (rowF 64 (fun i => if i < n then bs i else 0)) 172 (0, 0))) := by
  have h' := h.out
  rw [splice_row 64 n bs hn] at h'
  exact h'

set_option maxHeartbeats 1000000 in
theorem keyBlock_any (ao : Option Addr) (n cap : Nat) (bs : Nat → Int) (w : World) (ht : Tabs w) (hc : n ≤ 140737488351232) (hr : ByteRow w ao n cap bs) :
    Calls Tryz.prog 120 #[.slice ao n cap] w fun e w' => e = .returned (.agg (rowF 64 (Md.kb n bs))) ∧ Below w.heap.size w w' := by
  have HT : Hid _ := ht
  have HR : Hid (ByteRow w ao n cap bs) := hr
  have hbt := ht.lt
  clear ht hr
  obtain ⟨W0, HW0⟩ : ∃ W0, Hid (W0 = (w.alloc (.cells (bytesL 64 (fun _ => 0)).toArray 172)).alloc (.cells (bytesL 64 (fun _ => 0)).toArray 172)) := ⟨_, rfl⟩
  have HBL : Hid (Below w.heap.size w W0) := by rw [HW0.out]; exact ((Below.refl _ w).alloc (Nat.le_refl _) _).alloc (by simp) _
  have HA : Hid (W0.heap[w.heap.size]? = some (.cells (bytesL 64 (fun _ => 0)).toArray 172 (0, 0))) := by rw [HW0.out]; exact heap_alloc2_old _ _ _
  have HB : Hid (W0.heap[w.heap.size + 1]? = some (.cells (bytesL 64 (fun _ => 0)).toArray 172 (0, 0))) := by rw [HW0.out]; exact heap_alloc2_new _ _ _
  have hsz : Hid (w.heap.size + 2 = W0.heap.size) := by rw [HW0.out]; simp [Hid]
  have HW : Hid _ := HW0.out
  rw [← zeros64] at HW
  by_cases hn : 64 < n
  · have HF : Hid (rowF 64 (Md.kb n bs) = rowF 64 (fun i => if i < 16 then Md.dg (Md.fin Md.st0 0 n bs) i else 0)) := rowF_congr _ _ _ (fun i _ => by unfold Md.kb; rw [if_neg (by omega)])
    have HT0 : Hid (Tabs W0) := HT.out.below HBL.out (by omega)
    have HR0 : Hid (ByteRow W0 ao n cap bs) := HR.out.below HBL.out
    rw [HF.out]
    go_enter Tryz.func120, Tryz.ntmps120
    go_wp2_with fail
    rw [← HW.out]
    refine (sum_any ao n cap bs _ HT0.out hc HR0.out).mono ?_
    rintro e w1 ⟨g, rfl, hg, hrow, hb1⟩
    have HA1 : Hid (w1.heap[w.heap.size]? = some (.cells (bytesL 64 (fun _ => 0)).toArray 172 (0, 0))) := (hb1.block _ (by have := hsz.out; omega)).trans HA.out
    have HB1 : Hid (w1.heap[w.heap.size + 1]? = some (.cells (bytesL 64 (fun _ => 0)).toArray 172 (0, 0))) := (hb1.block _ (by have := hsz.out; omega)).trans HB.out
    have HBL1 : Hid (Below w.heap.size w w1) := HBL.out.trans (hb1.mono (by have := hsz.out; omega))
    have HRR : Hid (ByteRow w1 (some ⟨g, 0, none⟩) 16 16 (Md.dg (Md.fin Md.st0 0 n bs))) := sumRow hrow
    clear hg hrow hb1 HA HB HBL HT0 HR0 HT HR hsz HF HW HW0
    go_wp2_with (first | (refine wpList_copy_splice rfl (.tmp 9) (.tmp 10) 93 93 rfl 5 Tryz.underlying93 size5 _ _ _ _ _ _ rfl rfl (w.heap.size + 1) 0 (bytesL 64 (fun _ => 0)) 172 HB1.out (bytesL 16 (Md.dg (Md.fin Md.st0 0 n bs))) (by rw [bytesL_length]; rfl) (fun hp => ⟨rfl, copy_src HRR.out (Nat.le_refl _) hp⟩) (by simp only [bytesL_length]; omega) (bytesL_one _ _) (w.heap.size + 1) _ (Below.refl _ _) (Nat.le_refl _) ?_; intro w2 hw2 hb2; rw [bytesL_length]; have HW2 := splice64 hw2 (by omega); have HA2 : Hid _ := (hb2.block w.heap.size (by omega)).trans HA1.out; have HBL2 : Hid _ := HBL1.out.trans (hb2.mono (by omega)); clear hw2 hb2 HA1 HB1 HBL1 HRR) | refine wpList_load_row rfl 172 _ rfl (w.heap.size + 1) rfl 172 _ (0, 0) _ HW2.out Tryz.underlying172 rfl (by rw [size42, rowF_size]) ?_ | refine wpList_store_row rfl 172 _ _ rfl w.heap.size (rowF 64 (fun i => if i < 16 then Md.dg (Md.fin Md.st0 0 n bs) i else 0)) rfl rfl 172 _ HA2.out (by rw [size42, rowF_size]) (by rw [rowF_size]; rfl) (rowF_all _ _) ?_)
    exact bodyPost_ret (v := .agg (rowF 64 (fun i => if i < 16 then Md.dg (Md.fin Md.st0 0 n bs) i else 0))) (results_cell_row (p := 2) (ty := 172) rfl _ _ w.heap.size 172 _ (0, 0) _ rfl (setRow_heap _ _ _ _ _ _ HA2.out) Tryz.underlying172 rfl (by rw [size42, rowF_size])) rfl ⟨rfl, below_setRow HBL2.out (Nat.le_refl _) _⟩
  · have HF : Hid (rowF 64 (Md.kb n bs) = rowF 64 (fun i => if i < n then bs i else 0)) := rowF_congr _ _ _ (fun i _ => by unfold Md.kb; rw [if_pos (by omega)])
    have HR0 : Hid (ByteRow W0 ao n cap bs) := HR.out.below HBL.out
    rw [HF.out]
    rw [HW.out] at HA HB HBL HR0
    clear HT HR hsz HF HW HW0
    go_enter Tryz.func120, Tryz.ntmps120
    go_wp2_with (first | (refine wpList_copy_splice rfl (.tmp 9) (.tmp 10) 93 93 rfl 5 Tryz.underlying93 size5 _ _ _ _ _ _ rfl rfl (w.heap.size + 1) 0 (bytesL 64 (fun _ => 0)) 172 HB.out (bytesL n bs) (by rw [bytesL_length]; exact (Nat.min_eq_left (by omega)).symm) (fun hp => ⟨rfl, copy_src HR0.out (Nat.le_refl _) hp⟩) (by simp only [bytesL_length]; omega) (bytesL_one _ _) (w.heap.size + 1) _ (Below.refl _ _) (Nat.le_refl _) ?_; intro w2 hw2 hb2; rw [bytesL_length]; have HW2 := splice64 hw2 (by omega); have HA2 : Hid _ := (hb2.block w.heap.size (by omega)).trans HA.out; have HBL2 : Hid _ := HBL.out.trans (hb2.mono (by omega)); clear hw2 hb2 HA HB HBL HR0) | refine wpList_load_row rfl 172 _ rfl (w.heap.size + 1) rfl 172 _ (0, 0) _ HW2.out Tryz.underlying172 rfl (by rw [size42, rowF_size]) ?_ | refine wpList_store_row rfl 172 _ _ rfl w.heap.size (rowF 64 (fun i => if i < n then bs i else 0)) rfl rfl 172 _ HA2.out (by rw [size42, rowF_size]) (by rw [rowF_size]; rfl) (rowF_all _ _) ?_)
    exact bodyPost_ret (v := .agg (rowF 64 (fun i => if i < n then bs i else 0))) (results_cell_row (p := 2) (ty := 172) rfl _ _ w.heap.size 172 _ (0, 0) _ rfl (setRow_heap _ _ _ _ _ _ HA2.out) Tryz.underlying172 rfl (by rw [size42, rowF_size])) rfl ⟨rfl, below_setRow HBL2.out (Nat.le_refl _) _⟩
end Go.Proofs.YtcbpafpaimpfnaaGreatDoor
