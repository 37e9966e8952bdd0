/- walks: hello.Bytes -/
import Derived.Test.YtmjgmngdahhbkaaLW2
namespace Go.Proofs.Ytmjgmngdahhbkaa
open Go.RowKit
open Hl (Tl)

set_option maxHeartbeats 1000000 in
theorem lbytes_wrong (da : Option Addr) (dn dc : Nat) (ao : Option Addr) (n cap : Nat) (ts : Nat → Tl) (w : World) (hn : n ≤ 9223372036854775807) (hr : TaleRow w ao n cap ts) (hw : Hl.wrong dn ts n ≠ 0) :
    Calls Try.prog 8 #[.agg #[.slice da dn dc, .slice ao n cap]] w fun e w' => e = .returned (.tuple #[.slice none 0 0, .int .i64 (Hl.wrong dn ts n)]) ∧ Below w.heap.size w w' := by
  have HC : Hid (∀ o, Calls Try.prog 6 #[.agg #[.slice da dn dc, .slice ao n cap]] (w.alloc o) fun e w' => e = .returned (.int .i64 (Hl.wrong dn ts n)) ∧ Below (w.alloc o).heap.size (w.alloc o) w') := fun o => lwrong_any da dn dc ao n cap ts (w.alloc o) hn (hr.below (below_alloc1 w o))
  clear hr
  generalize Hl.wrong dn ts n = E at *
  have hE : (E != 0) = true := by simp [hw]
  go_enter Try.func8, Try.ntmps8
  go_wp2_with (go_at_call 6; refine (HC.out _).mono ?_; rintro e w1 ⟨rfl, hb⟩; have HB : Hid (Below w.heap.size w w1) := (below_alloc1 w _).trans (hb.mono (by simp)); clear hb)
  exact bodyPost_ret (results_tmp2 Try.results8 _ _ _) rfl ⟨rfl, HB.out⟩
/-- The bytes of a hello, as far as k tales. -/
def bytR (dg : Nat → Int) (n : Nat) (ts : Nat → Tl) (k i : Nat) : Int := if i < 17 + k * 23 then Hl.byt dg n ts i else 0
theorem bytR_zero (dg : Nat → Int) (n : Nat) (ts : Nat → Tl) (i : Nat) : (if i = 16 then (n : Int) else if i < 16 then dg i else 0) = bytR dg n ts 0 i := by
  unfold bytR Hl.byt
  by_cases e : i = 16
  · rw [if_pos e, if_pos (by omega), if_neg (by omega), if_pos e]
  · rw [if_neg e]
    by_cases e2 : i < 16
    · rw [if_pos e2, if_pos (by omega), if_pos e2]
    · rw [if_neg e2, if_neg (by omega)]
theorem bytR_step (dg : Nat → Int) (n : Nat) (ts : Nat → Tl) (k i : Nat) : putF (ts k) (17 + k * 23) 23 (bytR dg n ts k) i = bytR dg n ts (k + 1) i := by
  unfold putF bytR
  by_cases e : 17 + k * 23 ≤ i ∧ i < 17 + k * 23 + 23
  · rw [if_pos e, if_pos (by omega)]
    have := Hl.byt_tale dg n ts k (i - (17 + k * 23)) (by omega)
    rw [show 17 + k * 23 + (i - (17 + k * 23)) = i by omega] at this
    exact this.symm
  · rw [if_neg e]
    by_cases e2 : i < 17 + k * 23
    · rw [if_pos e2, if_pos (by omega)]
    · rw [if_neg e2, if_neg (by omega)]
theorem splice_dig {w : World} {g M : Nat} {dg : Nat → Int} {ty : TypeId} (h : w.heap[g]? = some (.cells (splice (bytesL M (fun _ => 0)) 0 (bytesL 16 dg)).toArray ty (0, 0))) (hM : 16 ≤ M) :
    w.heap[g]? = some (.cells (rowF M (fun i => if i < 16 then dg i else 0)) ty (0, 0)) := by
  rw [splice_row M 16 dg hM] at h; exact h
theorem row_set {w : World} {g M k : Nat} {f : Nat → Int} {v : Int} {ty : TypeId} (h : w.heap[g]? = some (.cells (rowF M f) ty (0, 0))) (hk : k < M) :
    (w.setCell ⟨g, k, none⟩ (.int .u8 v)).heap[g]? = some (.cells (rowF M (fun i => if i = k then v else f i)) ty (0, 0)) := by
  rw [heap_setCell_same _ _ _ _ _ _ h, rowF_set _ _ _ _ hk]
theorem row_congr {w : World} {g M : Nat} {f f' : Nat → Int} {ty : TypeId} (h : w.heap[g]? = some (.cells (rowF M f) ty (0, 0))) (e : ∀ i, i < M → f i = f' i) : w.heap[g]? = some (.cells (rowF M f') ty (0, 0)) := by
  rw [← rowF_congr _ _ _ e]; exact h
set_option maxHeartbeats 2000000 in
theorem lbytes_right (da : Option Addr) (dn dc : Nat) (dg : Nat → Int) (ao : Option Addr) (n cap : Nat) (ts : Nat → Tl) (w : World) (hd : ByteRow w da dn dc dg) (hr : TaleRow w ao n cap ts) (hw : Hl.wrong dn ts n = 0) :
    Calls Try.prog 8 #[.agg #[.slice da dn dc, .slice ao n cap]] w fun e w' => ∃ g, e = .returned (.tuple #[.slice (some ⟨g, 0, none⟩) (17 + n * 23) (17 + n * 23), .int .i64 0]) ∧ w'.heap[g]? = some (.cells (rowF (17 + n * 23) (Hl.byt dg n ts)) 5 (0, 0)) ∧ w.heap.size ≤ g ∧ Below w.heap.size w w' := by
  obtain ⟨rfl, _, hR⟩ := Hl.wrong_zero hw
  have hn : n ≤ 16 := hR.many
  have HF : Hid (∀ i, i < n → (ts i).fits) := hR.fits
  have HC : Hid (∀ o, Calls Try.prog 6 #[.agg #[.slice da 16 dc, .slice ao n cap]] (w.alloc o) fun e w' => e = .returned (.int .i64 0) ∧ Below (w.alloc o).heap.size (w.alloc o) w') := fun o => by
    have := lwrong_any da 16 dc ao n cap ts (w.alloc o) (by omega) (hr.below (below_alloc1 w o))
    rw [hw] at this
    exact this
  have HR : Hid (TaleRow w ao n cap ts) := hr
  have HD : Hid (ByteRow w da 16 dc dg) := hd
  have hcap : n ≤ cap := hr.1
  have hmk : ∀ W : World, (Instr.makeSlice 22 (.int .i64 (17 + (n : Int) * 23)) (.int .i64 (17 + (n : Int) * 23))).run Try.prog W = .ok (.slice (some ⟨W.heap.size, 0, none⟩) (17 + n * 23) (17 + n * 23)) (W.alloc (.cells (rowF (17 + n * 23) (fun _ => 0)) 5)) := fun W => by
    have := make_zeros W (17 + n * 23) (by omega)
    rw [show (((17 + n * 23 : Nat)) : Int) = 17 + (n : Int) * 23 by omega] at this
    exact this
  clear hr hd hw hR
  go_enter Try.func8, Try.ntmps8
  go_wp2_with fail
  refine (HC.out _).mono ?_
  rintro e w1 ⟨rfl, hb⟩
  have HB1 : Hid (Below w.heap.size w w1) := (below_alloc1 w _).trans (hb.mono (by simp))
  have HA1 : Hid (w1.heap[w.heap.size]? = some (.cells #[.slice da 16 dc, .slice ao n cap] 25 (0, 0))) := (hb.block _ (by simp)).trans (heap_alloc_last w _)
  have hlt : w.heap.size < w1.heap.size := by have := hb.size; simp at this; exact this
  have HL : Hid (w.heap.size < w1.heap.size) := hlt
  clear hb HC hlt
  obtain ⟨c0, c1⟩ := hl_cells HA1.out
  go_wp2_with fail
  refine (lsizeOf_any n _ (by omega)).mono ?_
  rintro e w1 ⟨rfl, rfl⟩
  have HAA : Hid ((w1.alloc (.cells (rowF (17 + n * 23) (fun _ => 0)) 5)).heap[w.heap.size]? = some (.cells #[.slice da 16 dc, .slice ao n cap] 25 (0, 0))) := (Below.heap_alloc _ _ _ HL.out).trans HA1.out
  obtain ⟨d0, d1⟩ := hl_cells HAA.out
  have HM : Hid ((w1.alloc (.cells (rowF (17 + n * 23) (fun _ => 0)) 5)).heap[w1.heap.size]? = some (.cells (bytesL (17 + n * 23) (fun _ => 0)).toArray 5 (0, 0))) := heap_alloc_last _ _
  have HDD : Hid (ByteRow (w1.alloc (.cells (rowF (17 + n * 23) (fun _ => 0)) 5)) da 16 dc dg) := (HD.out.below HB1.out).below (below_alloc1 _ _)
  go_wp2_with (refine wpList_copy_splice rfl (.tmp 18) (.tmp 20) 22 22 rfl 5 Try.underlying22 size5 _ _ _ _ _ _ rfl rfl w1.heap.size 0 (bytesL (17 + n * 23) (fun _ => 0)) 5 HM.out (bytesL 16 dg) (by rw [bytesL_length]; exact (Nat.min_eq_left (by omega)).symm) (fun hp => ⟨rfl, copy_src HDD.out (Nat.le_refl _) hp⟩) (by simp only [bytesL_length]; omega) (bytesL_one _ _) w1.heap.size _ (Below.refl _ _) (Nat.le_refl _) ?_; intro w2 hw2 hb2; rw [bytesL_length]; have HW2 : Hid _ := splice_dig hw2.out (show 16 ≤ 17 + n * 23 by omega); have HA2 : Hid _ := (hb2.block w.heap.size HL.out).trans HAA.out; have HB2 : Hid (Below w.heap.size w w2) := (HB1.out.alloc HB1.out.size _).trans (hb2.mono (Nat.le_of_lt HL.out)); clear hw2 hb2; obtain ⟨e0, e1⟩ := hl_cells HA2.out; have k0 : w2.cell? ⟨w1.heap.size, 16, none⟩ = some (.int .u8 0) := (cell_of_row w2 _ 16 _ _ _ HW2.out).trans (rowF_get _ _ _ (by omega)); have z0 : w2.frozen? ⟨w1.heap.size, 16, none⟩ = false := frozen_of_row _ _ _ _ _ HW2.out; have hne1 : w.heap.size ≠ w1.heap.size := Nat.ne_of_lt HL.out; have hne2 : w1.heap.size ≠ w.heap.size := Nat.ne_of_gt HL.out)
  obtain ⟨W3, HW3⟩ : ∃ W3, Hid (W3 = w2.setCell ⟨w1.heap.size, 16, none⟩ (.int .u8 (n : Int))) := ⟨_, rfl⟩
  have H3 : Hid (W3.heap[w1.heap.size]? = some (.cells (rowF (17 + n * 23) (bytR dg n ts 0)) 5 (0, 0)) ∧ Below w.heap.size w W3) := by
    rw [HW3.out]
    exact ⟨row_congr (row_set HW2.out (by omega)) (fun i _ => bytR_zero dg n ts i), HB2.out.setCell (by exact Nat.le_of_lt HL.out) _⟩
  rw [← HW3.out]
  clear HW3 HW2 HA2 HB2 e0 e1 k0 z0 hne1 hne2 d0 d1 HAA HM HDD c0 c1 hmk HD
  generalize w1.heap.size = G at *
  go_loopw [31] (fun i wr => ∃ k : Nat, k ≤ n ∧ i = .int .i64 k ∧ Hid (wr.heap[G]? = some (.cells (rowF (17 + n * 23) (bytR dg n ts k)) 5 (0, 0)) ∧ Below w.heap.size w wr)) (fun i _ => n - (intOf i).toNat)
  case atStart => exact ⟨0, by omega, rfl, H3⟩
  case round =>
    obtain ⟨k, hk, rfl, hX⟩ := hrel
    by_cases hlt : k < n
    · obtain ⟨b, off, rfl, hb, hc⟩ := HR.out.2 (by omega)
      have hbw : b < wr.heap.size := Nat.lt_of_lt_of_le hb hX.out.2.size
      have hGw : G < wr.heap.size := block_lt_of_cell ((cell_of_row wr _ 0 _ _ _ hX.out.1).trans (rowF_get _ _ _ (by omega)))
      have c0 : wr.cell? ⟨b, off + k * 6, none⟩ = some (.int .i64 (ts k).tree) := (hX.out.2.cell (by exact hb)).trans (hc k hlt).1
      have c1 : wr.cell? ⟨b, off + k * 6 + 1, none⟩ = some (.int .u64 (ts k).root) := (hX.out.2.cell (by exact hb)).trans (hc k hlt).2.1
      have c2 : wr.cell? ⟨b, off + k * 6 + 2, none⟩ = some (.int .i64 (ts k).cost) := (hX.out.2.cell (by exact hb)).trans (hc k hlt).2.2.1
      have c3 : wr.cell? ⟨b, off + k * 6 + 3, none⟩ = some (.int .u64 (ts k).bridge) := (hX.out.2.cell (by exact hb)).trans (hc k hlt).2.2.2.1
      have c4 : wr.cell? ⟨b, off + k * 6 + 4, none⟩ = some (.int .i64 (ts k).port) := (hX.out.2.cell (by exact hb)).trans (hc k hlt).2.2.2.2.1
      have c5 : wr.cell? ⟨b, off + k * 6 + 5, none⟩ = some (.int .i64 (ts k).age) := (hX.out.2.cell (by exact hb)).trans (hc k hlt).2.2.2.2.2
      have HTA : Hid (∀ W : World, Calls Try.prog 17 #[.slice (some ⟨G, 0, none⟩) (17 + n * 23) (17 + n * 23), .int .i64 (k : Int)] W fun e w' => e = .returned (.slice (some ⟨G, 17 + k * 23, none⟩) 23 (17 + n * 23 - (17 + k * 23))) ∧ w' = W) := fun W => by
        have := ltaleAt_any G 0 (17 + n * 23) (17 + n * 23) k W (by omega) (Nat.le_refl _) (by omega)
        rw [Nat.zero_add] at this
        exact this
      have HPT : Hid (∀ W : World, W.heap[G]? = some (.cells (rowF (17 + n * 23) (bytR dg n ts k)) 5 (0, 0)) → Calls Try.prog 16 #[.slice (some ⟨G, 17 + k * 23, none⟩) 23 (17 + n * 23 - (17 + k * 23)), .agg #[.int .i64 (ts k).tree, .int .u64 (ts k).root, .int .i64 (ts k).cost, .int .u64 (ts k).bridge, .int .i64 (ts k).port, .int .i64 (ts k).age]] W fun e w' => e = .returned (.tuple #[]) ∧ Hid (w'.heap[G]? = some (.cells (rowF (17 + n * 23) (bytR dg n ts (k + 1))) 5 (0, 0))) ∧ Below G W w') := fun W h => by
        refine (lputTale_any G (17 + k * 23) (17 + n * 23 - (17 + k * 23)) (17 + n * 23) 5 (bytR dg n ts k) (ts k) W h (by omega) (by omega) (HF.out k hlt)).mono ?_
        rintro e w' ⟨h1, h2, h3⟩
        exact ⟨h1, row_congr h2 (fun i _ => bytR_step dg n ts k i), h3⟩
      have HO : Hid (∀ o, (wr.alloc o).drew.heap[G]? = some (.cells (rowF (17 + n * 23) (bytR dg n ts k)) 5 (0, 0))) := fun o => (Below.heap_alloc wr o _ hGw).trans hX.out.1
      have HBL : Hid (∀ o W, Below G (wr.alloc o).drew W → Below w.heap.size w W) := fun o W h => ((hX.out.2.alloc hX.out.2.size _).drew).trans (h.mono (Nat.le_of_lt HL.out))
      clear hc HR hX hb HF HA1 HB1 H3 W3
      generalize (ts k).tree = tr at *
      generalize (ts k).root = ro at *
      generalize (ts k).cost = co at *
      generalize (ts k).bridge = br at *
      generalize (ts k).port = po at *
      generalize (ts k).age = ag at *
      go_wp2_with fail
      go_region_with (first | (go_at_call 17; refine (HTA.out _).mono ?_; rintro e w4 ⟨rfl, rfl⟩) | (go_at_call 16; refine (HPT.out _ (by with_reducible exact HO.out _)).mono ?_; rintro e w5 ⟨rfl, H5, hb5⟩; have HB5 : Hid (Below w.heap.size w w5) := HBL.out _ _ hb5; clear hb5))
      all_goals go_wp2_with fail
      all_goals exact ⟨⟨k + 1, by omega, by go_num, ⟨H5.out, HB5.out⟩⟩, by simp [intOf]; omega⟩
    · obtain rfl : k = n := by omega
      have HFIN : Hid (wr.heap[G]? = some (.cells (rowF (17 + k * 23) (Hl.byt dg k ts)) 5 (0, 0))) := row_congr hX.out.1 (fun i hi => by unfold bytR; rw [if_pos hi])
      go_wp2
      exact bodyPost_ret (results_tmp2 Try.results8 _ _ _) rfl ⟨G, rfl, HFIN.out, Nat.le_of_lt HL.out, hX.out.2⟩
end Go.Proofs.Ytmjgmngdahhbkaa
