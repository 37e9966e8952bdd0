/- walks: bytes.Clone, Bytes -/
import Derived.Test.YtidlgfiggilchaaW4
import Derived.Laws.AppendOwnNone
import Derived.OwnWalk
namespace Go.Proofs.Ytidlgfiggilchaa
open Go.RowKit

set_option maxRecDepth 100000 in
set_option maxHeartbeats 400000 in
theorem clone_any (ao : Option Addr) (n c : Nat) (bs : Nat → Int) (w : World) (hr : ByteRow w ao n c bs) (hnil : ao = none → n = 0 ∧ c = 0) (hn : n ≤ 140737488355328) :
    Calls Try.prog 22 #[.slice ao n c] w fun e w' => ∃ ao' c', e = .returned (.slice ao' n c') ∧ ByteRow w' ao' n c' bs ∧ (ao' = none → n = 0 ∧ c' = 0) ∧ (∀ ad, ao' = some ad → w.heap.size ≤ ad.block) ∧ Below w.heap.size w w' := by
  have HR : Hid (ByteRow w ao n c bs) := hr
  clear hr
  cases ao with
  | none =>
    obtain ⟨rfl, rfl⟩ := hnil rfl
    have he : ∀ w : World, (binOp .eql 23 (.slice none 0 0) (.slice none 0 0)).run Try.prog w = .ok (.bool true) w := fun _ => rfl
    go_enter Try.func22, Try.ntmps22
    go_wp2_with fail
    go_ret
    exact ⟨none, 0, rfl, ⟨Nat.le_refl _, fun h => absurd h (by omega)⟩, by simp, by simp, Below.refl _ _⟩
  | some ad =>
    clear hnil
    have HR1 : Hid (ByteRow (w.alloc (.cells #[] 5)) (some ad) n c bs) := HR.out.below (below_alloc1 w _)
    have HO : Hid ((w.alloc (.cells #[] 5)).ownsRow w.heap.size 5 1 (.slice (some ⟨w.heap.size, 0, none⟩) 0 0) 0 []) := owns_empty w
    have he : ∀ w : World, (binOp .eql 23 (.slice (some ad) n c) (.slice none 0 0)).run Try.prog w = .ok (.bool false) w := fun _ => rfl
    go_enter Try.func22, Try.ntmps22
    go_wp2_with (at_builtin; refine wpList_append_bytes rfl (.tmp 5) (.tmp 6) rfl w.heap.size _ 0 [] rfl HO.out (some ad) n c bs rfl HR1.out (fun e => by cases e) (by omega) (by simp) ?_; intro v1 w1 h1 h2; have HG : Hid (Below w.heap.size w w1) := grown_own (below_alloc1 w _) HO.out (by simp) h2; clear h2; rw [Nat.zero_add, List.nil_append] at h1; obtain ⟨a1, c1, rfl, hrow, _, hnil, hnew⟩ := owns_row h1; have H1 : Hid (ByteRow w1 a1 n c1 bs) := hrow; clear hrow h1)
    go_ret
    exact ⟨a1, c1, rfl, H1.out, hnil, hnew, HG.out⟩
/-- A frame's bytes. -/
def bytF (d s : Int) (t : Bool) (p : Int) (dr : Bool) (v y : Int) (bs : Nat → Int) (i : Nat) : Int := if i < headN t then headF d s t p dr v y i else bs (i - headN t)
theorem headN_le (t : Bool) : headN t ≤ 18 := by cases t <;> simp [headN]
theorem wrong_zero {d s : Int} {t : Bool} {p v y : Int} {n : Nat} (h : wrong d s t p v y n = 0) : (t = true → 0 ≤ p ∧ p ≤ 7) ∧ (t = true → 0 ≤ v ∧ v ≤ 4094) ∧ (1536 ≤ y ∧ y ≤ 65535) ∧ y ≠ 33024 ∧ n ≤ 1500 ∧ d ≤ 281474976710655 ∧ s ≤ 281474976710655 ∧ s / 1099511627776 % 2 ≠ 1 := by
  unfold wrong at h
  by_cases c1 : 281474976710655 < d ∨ 281474976710655 < s
  · rw [if_pos c1] at h; omega
  · rw [if_neg c1] at h
    by_cases c2 : s / 1099511627776 % 2 = 1
    · rw [if_pos c2] at h; omega
    · rw [if_neg c2] at h
      by_cases c3 : t = true ∧ ¬ ((0 ≤ v ∧ v ≤ 4094) ∧ 0 ≤ p ∧ p ≤ 7)
      · rw [if_pos c3] at h; omega
      · rw [if_neg c3] at h
        by_cases c4 : ¬ ((1536 ≤ y ∧ y ≤ 65535) ∧ y ≠ 33024)
        · rw [if_pos c4] at h; omega
        · rw [if_neg c4] at h
          by_cases c5 : 1500 < n
          · rw [if_pos c5] at h; omega
          · have c6 : (1536 ≤ y ∧ y ≤ 65535) ∧ y ≠ 33024 := by by_cases q : (1536 ≤ y ∧ y ≤ 65535) ∧ y ≠ 33024; exact q; exact absurd q c4
            refine ⟨fun ht => ?_, fun ht => ?_, c6.1, c6.2, by omega, by omega, by omega, c2⟩
            · by_cases q : 0 ≤ p ∧ p ≤ 7; exact q; exact absurd ⟨ht, fun r => q r.2⟩ c3
            · by_cases q : 0 ≤ v ∧ v ≤ 4094; exact q; exact absurd ⟨ht, fun r => q r.1⟩ c3
set_option maxHeartbeats 1000000 in
theorem bytes_wrong (d s : Int) (t : Bool) (p : Int) (dr : Bool) (v y : Int) (ao : Option Addr) (n c : Nat) (w : World) (h0 : 0 ≤ s) (h1 : s < 18446744073709551616) (hw : wrong d s t p v y n ≠ 0) :
    Calls Try.prog 9 #[.agg #[.int .u64 d, .int .u64 s, .bool t, .int .i64 p, .bool dr, .int .i64 v, .int .i64 y, .slice ao n c]] w fun e w' => e = .returned (.tuple #[.slice none 0 0, .int .i64 (wrong d s t p v y n)]) ∧ Below w.heap.size w w' := by
  have HC : Hid (∀ W : World, Calls Try.prog 7 #[.agg #[.int .u64 d, .int .u64 s, .bool t, .int .i64 p, .bool dr, .int .i64 v, .int .i64 y, .slice ao n c]] W fun e w' => e = .returned (.int .i64 (wrong d s t p v y n)) ∧ Below W.heap.size W w') := fun W => wrong_any d s t p dr v y ao n c W h0 h1
  clear h0 h1
  generalize wrong d s t p v y n = E at *
  have hE : (E != 0) = true := by simp [hw]
  go_enter Try.func9, Try.ntmps9
  go_wp2_with (go_at_call 7; refine (HC.out _).mono ?_; rintro e w1 ⟨rfl, hb⟩; have HB : Hid (Below w.heap.size w w1) := (below_alloc1 w _).trans (hb.mono (by simp)); clear hb)
  exact bodyPost_ret (results_tmp2 Try.results9 _ _ _) rfl ⟨rfl, HB.out⟩
/-- 'x := h' where x is a new block. -/
theorem wpList_store_new {ops : Array Oper} {rest : List Oper} {o : Oper} {a : Act} {w : World} {Q : Exit → Act → World → Prop} (hgd : o.guard = none) (x y : Operand) (ho : o.op = .store 41 x y)
    (F : Nat → Int) (hx : a.eval x = .pointer (some ⟨w.heap.size, 0, none⟩)) (hy : a.eval y = .agg (rowF 18 F)) (hdst : o.dst = none)
    (h : ∀ W3, Below w.heap.size w W3 → W3.heap[w.heap.size]? = some (.cells (rowF 18 F) 41 (0, 0)) → w.heap.size < W3.heap.size → wpList Try.prog ops Q rest a W3) :
    wpList Try.prog ops Q (o :: rest) a (w.alloc (.cells #[.int .u8 0, .int .u8 0, .int .u8 0, .int .u8 0, .int .u8 0, .int .u8 0, .int .u8 0, .int .u8 0, .int .u8 0, .int .u8 0, .int .u8 0, .int .u8 0, .int .u8 0, .int .u8 0, .int .u8 0, .int .u8 0, .int .u8 0, .int .u8 0] 41)) := by
  rw [zeros18]
  refine wpList_store_row hgd 41 _ _ ho w.heap.size (rowF 18 F) hx hy 41 (rowF 18 (fun _ => 0)) (heap_alloc_last w _) (by rw [sizeH, rowF_size]) (by rw [rowF_size, rowF_size]) (rowF_all _ _) ?_
  have h1 : Below w.heap.size w ((w.alloc (.cells (rowF 18 (fun _ => 0)) 41)).setRow w.heap.size (rowF 18 F)) := below_setRow (below_alloc1 w _) (Nat.le_refl _) _
  have h2 := setRow_heap _ _ _ (rowF 18 F) _ _ (heap_alloc_last w (.cells (rowF 18 (fun _ => 0)) 41))
  rw [hdst]
  exact h _ h1 h2 (block_lt_of_cell ((cell_of_row _ _ 0 _ _ _ h2).trans (rowF_get _ _ _ (by omega))))
set_option maxRecDepth 100000 in
set_option maxHeartbeats 1000000 in
theorem bytes_right (d s : Int) (t : Bool) (p : Int) (dr : Bool) (v y : Int) (ao : Option Addr) (n c : Nat) (bs : Nat → Int) (w : World) (h0 : 0 ≤ s) (h1 : s < 18446744073709551616) (hw : wrong d s t p v y n = 0) (hr : ByteRow w ao n c bs) (hnil : ao = none → n = 0 ∧ c = 0) :
    Calls Try.prog 9 #[.agg #[.int .u64 d, .int .u64 s, .bool t, .int .i64 p, .bool dr, .int .i64 v, .int .i64 y, .slice ao n c]] w fun e w' => ∃ ao' c', e = .returned (.tuple #[.slice ao' (headN t + n) c', .int .i64 0]) ∧ ByteRow w' ao' (headN t + n) c' (bytF d s t p dr v y bs) ∧ (ao' = none → headN t + n = 0 ∧ c' = 0) ∧ Below w.heap.size w w' := by
  have HC : Hid (∀ W : World, Calls Try.prog 7 #[.agg #[.int .u64 d, .int .u64 s, .bool t, .int .i64 p, .bool dr, .int .i64 v, .int .i64 y, .slice ao n c]] W fun e w' => e = .returned (.int .i64 0) ∧ Below W.heap.size W w') := fun W => by
    have := wrong_any d s t p dr v y ao n c W h0 h1
    rw [hw] at this
    exact this
  obtain ⟨z1, z2, z3, _, z5, _⟩ := wrong_zero hw
  have HH : Hid (∀ W : World, Calls Try.prog 18 #[.agg #[.int .u64 d, .int .u64 s, .bool t, .int .i64 p, .bool dr, .int .i64 v, .int .i64 y, .slice ao n c]] W fun e w' => e = .returned (.tuple #[.agg (rowF 18 (headF d s t p dr v y)), .int .i64 (headN t)]) ∧ Below W.heap.size W w') := fun W => headOf_any d s t p dr v y ao n c W z1 z2 (by omega)
  have HR : Hid (ByteRow w ao n c bs) := hr
  have HN : Hid (ao = none → n = 0 ∧ c = 0) := hnil
  have hN : headN t = 14 ∨ headN t = 18 := by cases t <;> simp [headN]
  have HF : Hid (∀ i, i < headN t + n → bytF d s t p dr v y bs i = if i < headN t then headF d s t p dr v y i else bs (i - headN t)) := fun i _ => rfl
  generalize bytF d s t p dr v y bs = B at *
  generalize headF d s t p dr v y = F at *
  generalize headN t = N at *
  clear h0 h1 hw z1 z2 z3 hr hnil
  obtain ⟨i0, hi, hz0, hz1, hz2⟩ := info_parts info5
  rcases hN with rfl | rfl
  · go_enter Try.func9, Try.ntmps9
    go_wp2_with fail
    refine (HC.out _).mono ?_
    rintro e w1 ⟨rfl, hb⟩
    have HB : Hid (Below w.heap.size w w1) := (below_alloc1 w _).trans (hb.mono (by simp))
    have HA : Hid (w1.heap[w.heap.size]? = some (.cells #[.int .u64 d, .int .u64 s, .bool t, .int .i64 p, .bool dr, .int .i64 v, .int .i64 y, .slice ao n c] 25 (0, 0))) := (hb.block _ (by simp)).trans (heap_alloc_last w _)
    have HL : Hid (w.heap.size < w1.heap.size) := by have := hb.size; simp at this; exact this
    clear hb HC
    obtain ⟨c0, c1, c2, c3, c4, c5, c6, c7⟩ := fr_cells HA.out
    go_wp2_with fail
    refine (HH.out _).mono ?_
    rintro e w2 ⟨rfl, hb⟩
    have HB2 : Hid (Below w.heap.size w w2) := HB.out.trans (hb.mono (by have := HL.out; omega))
    have HA2 : Hid (w2.heap[w.heap.size]? = some (.cells #[.int .u64 d, .int .u64 s, .bool t, .int .i64 p, .bool dr, .int .i64 v, .int .i64 y, .slice ao n c] 25 (0, 0))) := (hb.block _ HL.out).trans HA.out
    have HL2 : Hid (w.heap.size < w2.heap.size) := Nat.lt_of_lt_of_le HL.out hb.size
    clear hb HH HA HB HL c0 c1 c2 c3 c4 c5 c6 c7
    go_wp2_with (first | (refine wpList_store_new rfl (.tmp 5) (.tmp 16) rfl F rfl rfl rfl ?_; intro W3 hs1 hs2 hs3; have HB3 : Hid (Below w2.heap.size w2 W3) := hs1; have HR3 : Hid (W3.heap[w2.heap.size]? = some (.cells (rowF 18 F) 41 (0, 0))) := hs2; have q7 := (fr_cells ((hs1.block w.heap.size HL2.out).trans HA2.out)).2.2.2.2.2.2.2; have HL3 : Hid (w2.heap.size < W3.heap.size) := hs3; have HRD : Hid (ByteRow W3 ao n c bs) := HR.out.below (HB2.out.trans (hs1.mono (by have := HL2.out; omega))); clear hs1 hs2 hs3) | (refine wpList_make_own _ rfl _ (.tmp 22) 23 rfl W3.heap.size 5 i0 (.int .u8 0) 1 Try.underlying23 hi hz0 hz1 .i64 .i64 _ (14 + n) rfl rfl (by omega) (by rw [hz2]; omega) (by unfold maxLen; omega) (Nat.le_refl _) ?_; intro w4 ho4 hg4; have HO4 : Hid (w4.ownsRow W3.heap.size 5 1 (.slice (some ⟨W3.heap.size, 0, none⟩) 0 (14 + n)) 0 []) := ho4; have hb4 : Below W3.heap.size W3 w4 := (Below.refl _ W3).grown hg4 (Nat.le_refl _) (fun k e => by cases e); have HB4 : Hid (Below W3.heap.size W3 w4) := hb4; have HR4 : Hid (ByteRow w4 (some ⟨w2.heap.size, 0, none⟩) 14 18 F) := (ByteRow.of_row (off := 0) ((hb4.block _ HL3.out).trans HR3.out) (by omega) (by omega)).congr (fun i _ => by rw [Nat.zero_add]); clear ho4 hg4 hb4) | (at_builtin; refine wpList_append_bytes rfl (.tmp 24) (.tmp 26) rfl W3.heap.size _ 0 [] rfl HO4.out (some ⟨w2.heap.size, 0, none⟩) 14 18 F rfl HR4.out (fun e => by cases e) (by omega) HB4.out.size ?_; intro v5 w5 ho5 hg5; have hb5 : Below W3.heap.size W3 w5 := grown_own HB4.out HO4.out HB4.out.size hg5; rw [Nat.zero_add, List.nil_append] at ho5; have HO5 : Hid (w5.ownsRow W3.heap.size 5 1 v5 14 (bytesL 14 F)) := ho5; have HB5 : Hid (Below W3.heap.size W3 w5) := hb5; have HR5 : Hid (ByteRow w5 ao n c bs) := HRD.out.below hb5; have p7 : w5.cell? ⟨w.heap.size, 7, none⟩ = some (.slice ao n c) := (hb5.cell (Nat.lt_trans HL2.out HL3.out)).trans q7; clear ho5 hg5 hb5 HO4 HB4 HR4) | (at_builtin; refine wpList_append_bytes rfl (.tmp 28) (.tmp 30) rfl W3.heap.size v5 14 (bytesL 14 F) rfl HO5.out ao n c bs rfl HR5.out HN.out (by omega) HB5.out.size ?_; intro v6 w6 ho6 hg6; have hb6 : Below W3.heap.size W3 w6 := grown_own HB5.out HO5.out HB5.out.size hg6; rw [bytesL_append, bytesL_congr _ _ B (fun i hi => (HF.out i hi).symm)] at ho6; obtain ⟨a6, k6, rfl, hrow6, _, hnil6, _⟩ := owns_row ho6; have H6 : Hid (ByteRow w6 a6 (14 + n) k6 B) := hrow6; have HB6 : Hid (Below w.heap.size w w6) := HB2.out.trans ((HB3.out.trans (hb6.mono (Nat.le_of_lt HL3.out))).mono (Nat.le_of_lt HL2.out)); clear hrow6 hb6 hg6 ho6 HO5 HB5 HR5))
    exact bodyPost_ret (results_tmp2 Try.results9 _ _ _) rfl ⟨a6, k6, rfl, H6.out, hnil6, HB6.out⟩
  · go_enter Try.func9, Try.ntmps9
    go_wp2_with fail
    refine (HC.out _).mono ?_
    rintro e w1 ⟨rfl, hb⟩
    have HB : Hid (Below w.heap.size w w1) := (below_alloc1 w _).trans (hb.mono (by simp))
    have HA : Hid (w1.heap[w.heap.size]? = some (.cells #[.int .u64 d, .int .u64 s, .bool t, .int .i64 p, .bool dr, .int .i64 v, .int .i64 y, .slice ao n c] 25 (0, 0))) := (hb.block _ (by simp)).trans (heap_alloc_last w _)
    have HL : Hid (w.heap.size < w1.heap.size) := by have := hb.size; simp at this; exact this
    clear hb HC
    obtain ⟨c0, c1, c2, c3, c4, c5, c6, c7⟩ := fr_cells HA.out
    go_wp2_with fail
    refine (HH.out _).mono ?_
    rintro e w2 ⟨rfl, hb⟩
    have HB2 : Hid (Below w.heap.size w w2) := HB.out.trans (hb.mono (by have := HL.out; omega))
    have HA2 : Hid (w2.heap[w.heap.size]? = some (.cells #[.int .u64 d, .int .u64 s, .bool t, .int .i64 p, .bool dr, .int .i64 v, .int .i64 y, .slice ao n c] 25 (0, 0))) := (hb.block _ HL.out).trans HA.out
    have HL2 : Hid (w.heap.size < w2.heap.size) := Nat.lt_of_lt_of_le HL.out hb.size
    clear hb HH HA HB HL c0 c1 c2 c3 c4 c5 c6 c7
    go_wp2_with (first | (refine wpList_store_new rfl (.tmp 5) (.tmp 16) rfl F rfl rfl rfl ?_; intro W3 hs1 hs2 hs3; have HB3 : Hid (Below w2.heap.size w2 W3) := hs1; have HR3 : Hid (W3.heap[w2.heap.size]? = some (.cells (rowF 18 F) 41 (0, 0))) := hs2; have q7 := (fr_cells ((hs1.block w.heap.size HL2.out).trans HA2.out)).2.2.2.2.2.2.2; have HL3 : Hid (w2.heap.size < W3.heap.size) := hs3; have HRD : Hid (ByteRow W3 ao n c bs) := HR.out.below (HB2.out.trans (hs1.mono (by have := HL2.out; omega))); clear hs1 hs2 hs3) | (refine wpList_make_own _ rfl _ (.tmp 22) 23 rfl W3.heap.size 5 i0 (.int .u8 0) 1 Try.underlying23 hi hz0 hz1 .i64 .i64 _ (18 + n) rfl rfl (by omega) (by rw [hz2]; omega) (by unfold maxLen; omega) (Nat.le_refl _) ?_; intro w4 ho4 hg4; have HO4 : Hid (w4.ownsRow W3.heap.size 5 1 (.slice (some ⟨W3.heap.size, 0, none⟩) 0 (18 + n)) 0 []) := ho4; have hb4 : Below W3.heap.size W3 w4 := (Below.refl _ W3).grown hg4 (Nat.le_refl _) (fun k e => by cases e); have HB4 : Hid (Below W3.heap.size W3 w4) := hb4; have HR4 : Hid (ByteRow w4 (some ⟨w2.heap.size, 0, none⟩) 18 18 F) := (ByteRow.of_row (off := 0) ((hb4.block _ HL3.out).trans HR3.out) (by omega) (by omega)).congr (fun i _ => by rw [Nat.zero_add]); clear ho4 hg4 hb4) | (at_builtin; refine wpList_append_bytes rfl (.tmp 24) (.tmp 26) rfl W3.heap.size _ 0 [] rfl HO4.out (some ⟨w2.heap.size, 0, none⟩) 18 18 F rfl HR4.out (fun e => by cases e) (by omega) HB4.out.size ?_; intro v5 w5 ho5 hg5; have hb5 : Below W3.heap.size W3 w5 := grown_own HB4.out HO4.out HB4.out.size hg5; rw [Nat.zero_add, List.nil_append] at ho5; have HO5 : Hid (w5.ownsRow W3.heap.size 5 1 v5 18 (bytesL 18 F)) := ho5; have HB5 : Hid (Below W3.heap.size W3 w5) := hb5; have HR5 : Hid (ByteRow w5 ao n c bs) := HRD.out.below hb5; have p7 : w5.cell? ⟨w.heap.size, 7, none⟩ = some (.slice ao n c) := (hb5.cell (Nat.lt_trans HL2.out HL3.out)).trans q7; clear ho5 hg5 hb5 HO4 HB4 HR4) | (at_builtin; refine wpList_append_bytes rfl (.tmp 28) (.tmp 30) rfl W3.heap.size v5 18 (bytesL 18 F) rfl HO5.out ao n c bs rfl HR5.out HN.out (by omega) HB5.out.size ?_; intro v6 w6 ho6 hg6; have hb6 : Below W3.heap.size W3 w6 := grown_own HB5.out HO5.out HB5.out.size hg6; rw [bytesL_append, bytesL_congr _ _ B (fun i hi => (HF.out i hi).symm)] at ho6; obtain ⟨a6, k6, rfl, hrow6, _, hnil6, _⟩ := owns_row ho6; have H6 : Hid (ByteRow w6 a6 (18 + n) k6 B) := hrow6; have HB6 : Hid (Below w.heap.size w w6) := HB2.out.trans ((HB3.out.trans (hb6.mono (Nat.le_of_lt HL3.out))).mono (Nat.le_of_lt HL2.out)); clear hrow6 hb6 hg6 ho6 HO5 HB5 HR5))
    exact bodyPost_ret (results_tmp2 Try.results9 _ _ _) rfl ⟨a6, k6, rfl, H6.out, hnil6, HB6.out⟩
end Go.Proofs.Ytidlgfiggilchaa
