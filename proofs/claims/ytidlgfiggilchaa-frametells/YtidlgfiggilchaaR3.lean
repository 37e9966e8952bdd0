/- walks: the document's Bytes -/
import Derived.Test.YtidlgfiggilchaaR2
import Derived.Deep.RegionLaw
import Derived.Deep.AppendLies
import Derived.Deep.DeepCutAuto
namespace Go.Proofs.Ytidlgfiggilchaa
open Go.RowKit

def tag0 (i : Nat) : Int := if i = 0 then 129 else 0
theorem cat_plain (d s : Int) (p : Int) (dr : Bool) (v y : Int) (bs : Nat → Int) (i : Nat) : cat 14 (cat 12 (cat 6 (be 6 d) (be 6 s)) (be 2 y)) bs i = bytF d s false p dr v y bs i := by
  unfold cat bytF headF
  simp only [headN, Bool.false_eq_true, if_false]
  by_cases e1 : i < 14
  · rw [if_pos e1, if_pos e1]
    by_cases e2 : i < 6
    · rw [if_pos (by omega), if_pos e2, if_pos e2]
    · by_cases e3 : i < 12
      · rw [if_pos e3, if_neg e2, if_neg e2, if_pos e3]
      · rw [if_neg e3, if_neg e2, if_neg e3, if_pos e1]
  · rw [if_neg e1, if_neg e1]
theorem cat_tagged (d s : Int) (p : Int) (dr : Bool) (v y : Int) (bs : Nat → Int) (i : Nat) : cat 18 (cat 16 (cat 14 (cat 12 (cat 6 (be 6 d) (be 6 s)) tag0) (be 2 (tag p dr v))) (be 2 y)) bs i = bytF d s true p dr v y bs i := by
  unfold cat bytF headF
  simp only [headN, if_true]
  by_cases e1 : i < 18
  · rw [if_pos e1, if_pos e1]
    by_cases e2 : i < 6
    · rw [if_pos (by omega), if_pos (by omega), if_pos (by omega), if_pos e2, if_pos e2]
    · by_cases e3 : i < 12
      · rw [if_pos (by omega), if_pos (by omega), if_pos e3, if_neg e2, if_neg e2, if_pos e3]
      · by_cases e4 : i < 14
        · rw [if_pos (by omega), if_pos e4, if_neg e3, if_neg e2, if_neg e3, if_pos e4]
          rcases (show i = 12 ∨ i = 13 by omega) with rfl | rfl <;> decide
        · by_cases e5 : i < 16
          · rw [if_pos e5, if_neg e4, if_neg e2, if_neg e3, if_neg e4, if_pos e5]
          · rw [if_neg e5, if_neg e2, if_neg e3, if_neg e4, if_neg e5]
  · rw [if_neg e1, if_neg e1]
set_option maxHeartbeats 1000000 in
theorem rbytes_wrong (d s : Int) (t : Bool) (p : Int) (dr : Bool) (v y : Int) (ao : Option Addr) (n c : Nat) (w : World) (h0 : 0 ≤ s) (hw : wrong d s t p v y n ≠ 0) :
    Calls Try.prog 10 #[.agg #[.int .u64 d, .int .u64 s, .bool t, .int .i64 p, .bool dr, .int .i64 v, .int .i64 y, .slice ao n c]] w fun e w' => e = .returned (.tuple #[.slice none 0 0, .int .i64 (wrong d s t p v y n)]) ∧ Below w.heap.size w w' := by
  have HC : Hid (∀ W : World, Calls Try.prog 8 #[.agg #[.int .u64 d, .int .u64 s, .bool t, .int .i64 p, .bool dr, .int .i64 v, .int .i64 y, .slice ao n c]] W fun e w' => e = .returned (.int .i64 (wrong d s t p v y n)) ∧ Below W.heap.size W w') := fun W => rwrong_any d s t p dr v y ao n c W h0
  clear h0
  generalize wrong d s t p v y n = E at *
  have hE : (E != 0) = true := by simp [hw]
  go_enter Try.func10, Try.ntmps10
  go_wp2_with (go_at_call 8; refine (HC.out _).mono ?_; rintro e w1 ⟨rfl, hb⟩; have HB : Hid (Below w.heap.size w w1) := (below_alloc1 w _).trans (hb.mono (by simp)); clear hb)
  exact bodyPost_ret (results_tmp2 Try.results10 _ _ _) rfl ⟨rfl, HB.out⟩
set_option maxHeartbeats 2000000 in
theorem rbytes_right (d s : Int) (t : Bool) (p : Int) (dr : Bool) (v y : Int) (ao : Option Addr) (n c : Nat) (bs : Nat → Int) (w : World) (hd0 : 0 ≤ d) (h0 : 0 ≤ s) (hw : wrong d s t p v y n = 0) (hr : ByteRow w ao n c bs) (hnil : NilOk ao n c) :
    Calls Try.prog 10 #[.agg #[.int .u64 d, .int .u64 s, .bool t, .int .i64 p, .bool dr, .int .i64 v, .int .i64 y, .slice ao n c]] w fun e w' => ∃ ao' c', e = .returned (.tuple #[.slice ao' (headN t + n) c', .int .i64 0]) ∧ ByteRow w' ao' (headN t + n) c' (bytF d s t p dr v y bs) ∧ NilOk ao' (headN t + n) c' ∧ Below w.heap.size w w' := by
  have HC : Hid (∀ W : World, Calls Try.prog 8 #[.agg #[.int .u64 d, .int .u64 s, .bool t, .int .i64 p, .bool dr, .int .i64 v, .int .i64 y, .slice ao n c]] W fun e w' => e = .returned (.int .i64 0) ∧ Below W.heap.size W w') := fun W => by
    have := rwrong_any d s t p dr v y ao n c W h0
    rw [hw] at this
    exact this
  obtain ⟨z1, z2, z3, _, z5, z6, z7, _⟩ := wrong_zero hw
  have HR : Hid (ByteRow w ao n c bs) := hr
  have HN : Hid (NilOk ao n c) := hnil
  have hd1 : d < 18446744073709551616 := by omega
  have hs1 : s < 18446744073709551616 := by omega
  obtain ⟨i0, hi, hz0, hz1, hz2⟩ := info_parts info5
  clear hr hnil hw
  go_enter Try.func10, Try.ntmps10
  go_wp2_with fail
  refine (HC.out _).mono ?_
  rintro e w1 ⟨rfl, hb⟩
  have HB : Hid (Below w.heap.size w w1) := (below_alloc1 w _).trans (hb.mono (by simp))
  have HA : Hid (w1.heap[w.heap.size]? = some (.cells #[.int .u64 d, .int .u64 s, .bool t, .int .i64 p, .bool dr, .int .i64 v, .int .i64 y, .slice ao n c] 25 (0, 0))) := (hb.block _ (by simp)).trans (heap_alloc_last w _)
  clear hb HC
  obtain ⟨c0, c1, c2, c3, c4, c5, c6, c7⟩ := fr_cells HA.out
  have hL : w.heap.size < w1.heap.size := block_lt_of_cell c0
  go_wp2_with fail
  go_cut [5] (fun s5 wx => Hid (wx.ownsRow w1.heap.size 5 1 s5 12 (bytesL 12 (cat 6 (be 6 d) (be 6 s)))) ∧ Hid (Below w1.heap.size w1 wx))
  case first =>
    have k1 : w1.cell? ⟨w.heap.size, 1, none⟩ = some (.int .u64 s) := c1
    go_region_law (first
      | (refine step_append_lies _ (by rfl) (.tmp 14) (.tmp 17) 23 (by rfl) w1.heap.size 5 i0 (.int .u8 0) 1 1 Try.underlying23 hi hz0 hz1 hz2 rfl (by decide) (.slice (some ⟨w1.heap.size, 0, none⟩) 6 6) 6 (bytesL 6 (be 6 d)) (by rfl) HO3.out ⟨w2.heap.size, 0, none⟩ 6 6 (bytesL 6 (be 6 s)) (by rfl) (by rw [bytesL_length]) (news_of_row HS3.out) (bytesL_one _ _) (by omega) (by unfold maxLen; omega) (by omega) HB3.out.size _ rfl ?_; intro g4 cap4 w4 ho4 hg4 _ _; have HB4 : Hid (Below w1.heap.size w1 w4) := grown_own HB3.out HO3.out HB3.out.size hg4; rw [bytesL_cat] at ho4; have HO4 : Hid (w4.ownsRow w1.heap.size 5 1 (.slice (some ⟨g4, 0, none⟩) (6 + 6) cap4) (6 + 6) (bytesL (6 + 6) (cat 6 (be 6 d) (be 6 s)))) := ho4; clear ho4 hg4)
      | (go_simp; go_at_call 19; (with_reducible refine (num6_any d _ hd0 hd1).mono ?_); rintro e w2 ⟨rfl, h21, h22⟩; have HR2 : Hid (w2.heap[w1.heap.size]? = some (.cells (rowF 6 (be 6 d)) 5 (0, 0))) := h21; have HB2 : Hid (Below w1.heap.size w1 w2) := (Below.refl _ w1).drew.trans h22; have j1 : w2.cell? ⟨w.heap.size, 1, none⟩ = some (.int .u64 s) := (h22.cell (by exact hL)).trans k1; clear h21 h22)
      | (go_simp; go_at_call 19; (with_reducible refine (num6_any s _ h0 hs1).mono ?_); rintro e w3 ⟨rfl, h31, h32⟩; have HS3 : Hid (w3.heap[w2.heap.size]? = some (.cells (rowF 6 (be 6 s)) 5 (0, 0))) := h31; have HB3 : Hid (Below w1.heap.size w1 w3) := HB2.out.trans (h32.mono HB2.out.size); have HO3 : Hid (w3.ownsRow w1.heap.size 5 1 (.slice (some ⟨w1.heap.size, 0, none⟩) 6 6) 6 (bytesL 6 (be 6 d))) := owns_of_row (keep HR2.out h32) (Nat.le_refl _) (by omega); clear h31 h32))
    all_goals go_wp2_with fail
    all_goals go_meet
    all_goals exact ⟨HO4.out, HB4.out⟩
  case rest =>
  obtain ⟨HO, HBX⟩ := hcut
  have HA2 : Hid (wc.heap[w.heap.size]? = some (.cells #[.int .u64 d, .int .u64 s, .bool t, .int .i64 p, .bool dr, .int .i64 v, .int .i64 y, .slice ao n c] 25 (0, 0))) := (HBX.out.block _ hL).trans HA.out
  clear c0 c1 c2 c3 c4 c5 c6 c7
  obtain ⟨c0, c1, c2, c3, c4, c5, c6, c7⟩ := fr_cells HA2.out
  have HRW : Hid (∀ W, Below w1.heap.size w1 W → ByteRow W ao n c bs ∧ W.cell? ⟨w.heap.size, 6, none⟩ = some (.int .i64 y) ∧ W.cell? ⟨w.heap.size, 7, none⟩ = some (.slice ao n c) ∧ Below w.heap.size w W) := fun W hW => ⟨(HR.out.below HB.out).below hW, (hW.cell (by exact hL)).trans (fr_cells HA.out).2.2.2.2.2.2.1, (hW.cell (by exact hL)).trans (fr_cells HA.out).2.2.2.2.2.2.2, HB.out.trans (hW.mono (Nat.le_of_lt hL))⟩
  have hy0 : 0 ≤ y := by omega
  have hy1 : y < 18446744073709551616 := by omega
  generalize hv5 : u5 = v5 at *
  clear hv5
  cases t with
  | false =>
    go_wp2_with fail
    refine (num2_any y _ hy0 hy1).mono ?_
    rintro e w2 ⟨rfl, h21, h22⟩
    have HB2 : Hid (Below w1.heap.size w1 w2) := HBX.out.trans (h22.mono HBX.out.size)
    have HO2 : Hid (w2.ownsRow w1.heap.size 5 1 v5 12 (bytesL 12 (cat 6 (be 6 d) (be 6 s)))) := owns_below HO.out h22
    have HR2 : Hid (ByteRow w2 (some ⟨wc.heap.size, 0, none⟩) 2 2 (be 2 y)) := (ByteRow.of_row (off := 0) (n := 2) (cap := 2) h21 (by omega) (Nat.le_refl _)).congr (fun i _ => by rw [Nat.zero_add])
    clear h21 h22 HO HBX c0 c1 c2 c3 c4 c5 c6 c7
    go_wp2_with (first | (at_builtin; refine wpList_append_bytes rfl (.tmp 39) (.tmp 43) rfl w1.heap.size v5 12 _ rfl HO2.out (some ⟨wc.heap.size, 0, none⟩) 2 2 (be 2 y) rfl HR2.out (fun e => by cases e) (by omega) HB2.out.size ?_; intro v6 w6 ho6 hg6; have hb6 : Below w1.heap.size w1 w6 := grown_own HB2.out HO2.out HB2.out.size hg6; rw [bytesL_cat] at ho6; have HO6 : Hid (w6.ownsRow w1.heap.size 5 1 v6 14 (bytesL 14 (cat 12 (cat 6 (be 6 d) (be 6 s)) (be 2 y)))) := ho6; have HB6 : Hid (Below w1.heap.size w1 w6) := hb6; have p7 := (HRW.out w6 hb6).2.2.1; clear ho6 hg6 hb6 HO2 HB2 HR2) | (at_builtin; refine wpList_append_bytes rfl (.tmp 45) (.tmp 47) rfl w1.heap.size v6 14 _ rfl HO6.out ao n c bs rfl (HRW.out _ HB6.out).1 HN.out (by omega) HB6.out.size ?_; intro v7 w7 ho7 hg7; have hb7 : Below w1.heap.size w1 w7 := grown_own HB6.out HO6.out HB6.out.size hg7; rw [bytesL_cat, bytesL_congr _ _ (bytF d s false p dr v y bs) (fun i _ => cat_plain d s p dr v y bs i)] at ho7; obtain ⟨a7, k7, rfl, hrow7, _, hnil7, _⟩ := owns_row ho7; have H7 : Hid (ByteRow w7 a7 (14 + n) k7 (bytF d s false p dr v y bs)) := hrow7; have HN7 : Hid (NilOk a7 (14 + n) k7) := hnil7; have HB7 : Hid (Below w.heap.size w w7) := (HRW.out w7 hb7).2.2.2; clear hrow7 hb7 hg7 ho7 HO6 HB6))
    exact bodyPost_ret (results_tmp2 Try.results10 _ _ _) rfl ⟨a7, k7, rfl, H7.out, HN7.out, HB7.out⟩
  | true =>
    obtain ⟨hp0, hp1⟩ := z1 rfl
    obtain ⟨hv0, hv1⟩ := z2 rfl
    cases dr
    · have HT : Hid (8192 * p + v = tag p false v) := (show 8192 * p + v = tag p false v by simp [tag]; omega)
      have HO1 : Hid ((wc.alloc (.cells #[.int .u8 129, .int .u8 0] 5)).ownsRow w1.heap.size 5 1 v5 12 (bytesL 12 (cat 6 (be 6 d) (be 6 s)))) := owns_below HO.out (below_alloc1 wc _)
      have HB1 : Hid (Below w1.heap.size w1 (wc.alloc (.cells #[.int .u8 129, .int .u8 0] 5))) := HBX.out.alloc HBX.out.size _
      have HR1 : Hid (ByteRow (wc.alloc (.cells #[.int .u8 129, .int .u8 0] 5)) (some ⟨wc.heap.size, 0, none⟩) 2 2 tag0) := (ByteRow.of_row (off := 0) (n := 2) (cap := 2) (N := 2) (f := tag0) (heap_alloc_last wc _) (by omega) (Nat.le_refl _)).congr (fun i _ => by rw [Nat.zero_add])
      go_wp2_with (at_builtin; refine wpList_append_bytes rfl (.tmp 33) (.tmp 34) rfl w1.heap.size v5 12 _ rfl HO1.out (some ⟨wc.heap.size, 0, none⟩) 2 2 tag0 rfl HR1.out (fun e => by cases e) (by omega) HB1.out.size ?_; intro v2 w2 ho2 hg2; have hb2 : Below w1.heap.size w1 w2 := grown_own HB1.out HO1.out HB1.out.size hg2; rw [bytesL_cat] at ho2; have HO2 : Hid (w2.ownsRow w1.heap.size 5 1 v2 14 (bytesL 14 (cat 12 (cat 6 (be 6 d) (be 6 s)) tag0))) := ho2; have HB2 : Hid (Below w1.heap.size w1 w2) := hb2; clear ho2 hg2 hb2 HO1 HB1 HR1 HO HBX)
      refine (num2_any (8192 * p + v) _ (by omega) (by omega)).mono ?_
      rintro e w3 ⟨rfl, h31, h32⟩
      have HB3 : Hid (Below w1.heap.size w1 w3) := HB2.out.trans (h32.mono HB2.out.size)
      have HO3 : Hid (w3.ownsRow w1.heap.size 5 1 v2 14 (bytesL 14 (cat 12 (cat 6 (be 6 d) (be 6 s)) tag0))) := owns_below HO2.out h32
      have HR3 : Hid (ByteRow w3 (some ⟨w2.heap.size, 0, none⟩) 2 2 (be 2 (tag p false v))) := by rw [← HT.out]; exact (ByteRow.of_row (off := 0) (n := 2) (cap := 2) h31 (by omega) (Nat.le_refl _)).congr (fun i _ => by rw [Nat.zero_add])
      clear h31 h32 HO2 HB2 c0 c1 c2 c3 c4 c5 c6 c7
      go_wp2_with (at_builtin; refine wpList_append_bytes rfl (.tmp 35) (.tmp 37) rfl w1.heap.size v2 14 _ rfl HO3.out (some ⟨w2.heap.size, 0, none⟩) 2 2 (be 2 (tag p false v)) rfl HR3.out (fun e => by cases e) (by omega) HB3.out.size ?_; intro v4 w4 ho4 hg4; have hb4 : Below w1.heap.size w1 w4 := grown_own HB3.out HO3.out HB3.out.size hg4; rw [bytesL_cat] at ho4; have HO4 : Hid (w4.ownsRow w1.heap.size 5 1 v4 16 (bytesL 16 (cat 14 (cat 12 (cat 6 (be 6 d) (be 6 s)) tag0) (be 2 (tag p false v))))) := ho4; have HB4 : Hid (Below w1.heap.size w1 w4) := hb4; have p6 := (HRW.out w4 hb4).2.1; clear ho4 hg4 hb4 HO3 HB3 HR3)
      refine (num2_any y _ hy0 hy1).mono ?_
      rintro e w5 ⟨rfl, h51, h52⟩
      have HB5 : Hid (Below w1.heap.size w1 w5) := HB4.out.trans (h52.mono HB4.out.size)
      have HO5 : Hid (w5.ownsRow w1.heap.size 5 1 v4 16 (bytesL 16 (cat 14 (cat 12 (cat 6 (be 6 d) (be 6 s)) tag0) (be 2 (tag p false v))))) := owns_below HO4.out h52
      have HR5 : Hid (ByteRow w5 (some ⟨w4.heap.size, 0, none⟩) 2 2 (be 2 y)) := (ByteRow.of_row (off := 0) (n := 2) (cap := 2) h51 (by omega) (Nat.le_refl _)).congr (fun i _ => by rw [Nat.zero_add])
      clear h51 h52 HO4 HB4 p6
      go_wp2_with (first | (at_builtin; refine wpList_append_bytes rfl (.tmp 39) (.tmp 43) rfl w1.heap.size v4 16 _ rfl HO5.out (some ⟨w4.heap.size, 0, none⟩) 2 2 (be 2 y) rfl HR5.out (fun e => by cases e) (by omega) HB5.out.size ?_; intro v6 w6 ho6 hg6; have hb6 : Below w1.heap.size w1 w6 := grown_own HB5.out HO5.out HB5.out.size hg6; rw [bytesL_cat] at ho6; have HO6 : Hid (w6.ownsRow w1.heap.size 5 1 v6 18 (bytesL 18 (cat 16 (cat 14 (cat 12 (cat 6 (be 6 d) (be 6 s)) tag0) (be 2 (tag p false v))) (be 2 y)))) := ho6; have HB6 : Hid (Below w1.heap.size w1 w6) := hb6; have p7 := (HRW.out w6 hb6).2.2.1; clear ho6 hg6 hb6 HO5 HB5 HR5) | (at_builtin; refine wpList_append_bytes rfl (.tmp 45) (.tmp 47) rfl w1.heap.size v6 18 _ rfl HO6.out ao n c bs rfl (HRW.out _ HB6.out).1 HN.out (by omega) HB6.out.size ?_; intro v7 w7 ho7 hg7; have hb7 : Below w1.heap.size w1 w7 := grown_own HB6.out HO6.out HB6.out.size hg7; rw [bytesL_cat, bytesL_congr _ _ (bytF d s true p false v y bs) (fun i _ => cat_tagged d s p false v y bs i)] at ho7; obtain ⟨a7, k7, rfl, hrow7, _, hnil7, _⟩ := owns_row ho7; have H7 : Hid (ByteRow w7 a7 (18 + n) k7 (bytF d s true p false v y bs)) := hrow7; have HN7 : Hid (NilOk a7 (18 + n) k7) := hnil7; have HB7 : Hid (Below w.heap.size w w7) := (HRW.out w7 hb7).2.2.2; clear hrow7 hb7 hg7 ho7 HO6 HB6))
      exact bodyPost_ret (results_tmp2 Try.results10 _ _ _) rfl ⟨a7, k7, rfl, H7.out, HN7.out, HB7.out⟩
    · have HT : Hid (8192 * p + v + 4096 = tag p true v) := (show 8192 * p + v + 4096 = tag p true v by simp [tag]; omega)
      have HO1 : Hid ((wc.alloc (.cells #[.int .u8 129, .int .u8 0] 5)).ownsRow w1.heap.size 5 1 v5 12 (bytesL 12 (cat 6 (be 6 d) (be 6 s)))) := owns_below HO.out (below_alloc1 wc _)
      have HB1 : Hid (Below w1.heap.size w1 (wc.alloc (.cells #[.int .u8 129, .int .u8 0] 5))) := HBX.out.alloc HBX.out.size _
      have HR1 : Hid (ByteRow (wc.alloc (.cells #[.int .u8 129, .int .u8 0] 5)) (some ⟨wc.heap.size, 0, none⟩) 2 2 tag0) := (ByteRow.of_row (off := 0) (n := 2) (cap := 2) (N := 2) (f := tag0) (heap_alloc_last wc _) (by omega) (Nat.le_refl _)).congr (fun i _ => by rw [Nat.zero_add])
      go_wp2_with (at_builtin; refine wpList_append_bytes rfl (.tmp 33) (.tmp 34) rfl w1.heap.size v5 12 _ rfl HO1.out (some ⟨wc.heap.size, 0, none⟩) 2 2 tag0 rfl HR1.out (fun e => by cases e) (by omega) HB1.out.size ?_; intro v2 w2 ho2 hg2; have hb2 : Below w1.heap.size w1 w2 := grown_own HB1.out HO1.out HB1.out.size hg2; rw [bytesL_cat] at ho2; have HO2 : Hid (w2.ownsRow w1.heap.size 5 1 v2 14 (bytesL 14 (cat 12 (cat 6 (be 6 d) (be 6 s)) tag0))) := ho2; have HB2 : Hid (Below w1.heap.size w1 w2) := hb2; clear ho2 hg2 hb2 HO1 HB1 HR1 HO HBX)
      refine (num2_any (8192 * p + v + 4096) _ (by omega) (by omega)).mono ?_
      rintro e w3 ⟨rfl, h31, h32⟩
      have HB3 : Hid (Below w1.heap.size w1 w3) := HB2.out.trans (h32.mono HB2.out.size)
      have HO3 : Hid (w3.ownsRow w1.heap.size 5 1 v2 14 (bytesL 14 (cat 12 (cat 6 (be 6 d) (be 6 s)) tag0))) := owns_below HO2.out h32
      have HR3 : Hid (ByteRow w3 (some ⟨w2.heap.size, 0, none⟩) 2 2 (be 2 (tag p true v))) := by rw [← HT.out]; exact (ByteRow.of_row (off := 0) (n := 2) (cap := 2) h31 (by omega) (Nat.le_refl _)).congr (fun i _ => by rw [Nat.zero_add])
      clear h31 h32 HO2 HB2 c0 c1 c2 c3 c4 c5 c6 c7
      go_wp2_with (at_builtin; refine wpList_append_bytes rfl (.tmp 35) (.tmp 37) rfl w1.heap.size v2 14 _ rfl HO3.out (some ⟨w2.heap.size, 0, none⟩) 2 2 (be 2 (tag p true v)) rfl HR3.out (fun e => by cases e) (by omega) HB3.out.size ?_; intro v4 w4 ho4 hg4; have hb4 : Below w1.heap.size w1 w4 := grown_own HB3.out HO3.out HB3.out.size hg4; rw [bytesL_cat] at ho4; have HO4 : Hid (w4.ownsRow w1.heap.size 5 1 v4 16 (bytesL 16 (cat 14 (cat 12 (cat 6 (be 6 d) (be 6 s)) tag0) (be 2 (tag p true v))))) := ho4; have HB4 : Hid (Below w1.heap.size w1 w4) := hb4; have p6 := (HRW.out w4 hb4).2.1; clear ho4 hg4 hb4 HO3 HB3 HR3)
      refine (num2_any y _ hy0 hy1).mono ?_
      rintro e w5 ⟨rfl, h51, h52⟩
      have HB5 : Hid (Below w1.heap.size w1 w5) := HB4.out.trans (h52.mono HB4.out.size)
      have HO5 : Hid (w5.ownsRow w1.heap.size 5 1 v4 16 (bytesL 16 (cat 14 (cat 12 (cat 6 (be 6 d) (be 6 s)) tag0) (be 2 (tag p true v))))) := owns_below HO4.out h52
      have HR5 : Hid (ByteRow w5 (some ⟨w4.heap.size, 0, none⟩) 2 2 (be 2 y)) := (ByteRow.of_row (off := 0) (n := 2) (cap := 2) h51 (by omega) (Nat.le_refl _)).congr (fun i _ => by rw [Nat.zero_add])
      clear h51 h52 HO4 HB4 p6
      go_wp2_with (first | (at_builtin; refine wpList_append_bytes rfl (.tmp 39) (.tmp 43) rfl w1.heap.size v4 16 _ rfl HO5.out (some ⟨w4.heap.size, 0, none⟩) 2 2 (be 2 y) rfl HR5.out (fun e => by cases e) (by omega) HB5.out.size ?_; intro v6 w6 ho6 hg6; have hb6 : Below w1.heap.size w1 w6 := grown_own HB5.out HO5.out HB5.out.size hg6; rw [bytesL_cat] at ho6; have HO6 : Hid (w6.ownsRow w1.heap.size 5 1 v6 18 (bytesL 18 (cat 16 (cat 14 (cat 12 (cat 6 (be 6 d) (be 6 s)) tag0) (be 2 (tag p true v))) (be 2 y)))) := ho6; have HB6 : Hid (Below w1.heap.size w1 w6) := hb6; have p7 := (HRW.out w6 hb6).2.2.1; clear ho6 hg6 hb6 HO5 HB5 HR5) | (at_builtin; refine wpList_append_bytes rfl (.tmp 45) (.tmp 47) rfl w1.heap.size v6 18 _ rfl HO6.out ao n c bs rfl (HRW.out _ HB6.out).1 HN.out (by omega) HB6.out.size ?_; intro v7 w7 ho7 hg7; have hb7 : Below w1.heap.size w1 w7 := grown_own HB6.out HO6.out HB6.out.size hg7; rw [bytesL_cat, bytesL_congr _ _ (bytF d s true p true v y bs) (fun i _ => cat_tagged d s p true v y bs i)] at ho7; obtain ⟨a7, k7, rfl, hrow7, _, hnil7, _⟩ := owns_row ho7; have H7 : Hid (ByteRow w7 a7 (18 + n) k7 (bytF d s true p true v y bs)) := hrow7; have HN7 : Hid (NilOk a7 (18 + n) k7) := hnil7; have HB7 : Hid (Below w.heap.size w w7) := (HRW.out w7 hb7).2.2.2; clear hrow7 hb7 hg7 ho7 HO6 HB6))
      exact bodyPost_ret (results_tmp2 Try.results10 _ _ _) rfl ⟨a7, k7, rfl, H7.out, HN7.out, HB7.out⟩
end Go.Proofs.Ytidlgfiggilchaa
