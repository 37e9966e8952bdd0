/- walks: the document's Num, At, of one, four and eight bytes -/
import Derived.Test.YtmjgmngdahhbkaaLMd
namespace Go.Proofs.Ytmjgmngdahhbkaa
open Go.RowKit

theorem lbe_step (S k : Nat) (N : Int) (hk : k < S) : N / 2 ^ (8 * (S - (k + 1))) % 256 = be S N k ∧ N / 2 ^ (8 * (S - (k + 1))) / 256 = N / 2 ^ (8 * (S - k)) := by
  constructor
  · unfold be
    rw [show S - 1 - k = S - (k + 1) by omega]
  · rw [Int.ediv_ediv_of_nonneg (Int.le_of_lt (Int.pow_pos (by omega))), show 8 * (S - k) = 8 * (S - (k + 1)) + 8 by omega, Int.pow_add]
    rfl
set_option maxHeartbeats 1000000 in
theorem lnum1_any (N : Int) (w : World) (h0 : 0 ≤ N) (h1 : N < 18446744073709551616) :
    Calls Try.prog 18 #[.int .u64 N, .int .i64 1] w fun e w' => e = .returned (.slice (some ⟨w.heap.size, 0, none⟩) 1 1) ∧ w'.heap[w.heap.size]? = some (.cells (rowF 1 (be 1 N)) 5 (0, 0)) ∧ Below w.heap.size w w' := by
  have hmk : (Instr.makeSlice 22 (.int .i64 1) (.int .i64 1)).run Try.prog w = .ok (.slice (some ⟨w.heap.size, 0, none⟩) 1 1) (w.alloc (.cells (rowF 1 (fun _ => 0)) 5)) := make_zeros w 1 (by omega)
  have HZ : Hid ((w.alloc (.cells (rowF 1 (fun _ => 0)) 5)).heap[w.heap.size]? = some (.cells (rowF 1 (fun j => if 1 ≤ j then be 1 N j else 0)) 5 (0, 0))) := by
    refine (heap_alloc_last w _).trans ?_
    rw [rowF_congr 1 (fun j => if 1 ≤ j then be 1 N j else 0) (fun _ => 0) (fun i hi => if_neg (by omega))]
  go_enter Try.func18, Try.ntmps18
  go_wp2_with fail
  go_loopw [6, 0] (fun i q wr => ∃ k : Nat, k ≤ 1 ∧ i = .int .i64 ((k : Int) - 1) ∧ q = .int .u64 (N / 2 ^ (8 * (1 - k))) ∧ Hid (wr.heap[w.heap.size]? = some (.cells (rowF 1 (fun j => if k ≤ j then be 1 N j else 0)) 5 (0, 0)) ∧ Below w.heap.size w wr)) (fun i _ _ => (intOf i + 1).toNat)
  case atStart => exact ⟨1, by omega, by simp, by simp, HZ.out, below_alloc1 w _⟩
  case round =>
    obtain ⟨k, hk, rfl, rfl, hX⟩ := hrel
    cases k with
    | zero =>
      go_wp2
      go_ret
      exact ⟨rfl, by have := hX.out.1; rw [rowF_congr 1 _ (be 1 N) (fun i _ => if_pos (Nat.zero_le _))] at this; exact this, hX.out.2⟩
    | succ k =>
      have c4 : wr.cell? ⟨w.heap.size, k, none⟩ = some (.int .u8 0) := (cell_of_row wr _ _ _ _ _ hX.out.1).trans ((rowF_get _ _ _ (by omega)).trans (by rw [if_neg (by omega)]))
      have f4 : wr.frozen? ⟨w.heap.size, k, none⟩ = false := frozen_of_row _ _ _ _ _ hX.out.1
      obtain ⟨b1, b2⟩ := lbe_step 1 k N (by omega)
      have HB2 : Hid (N / 2 ^ (8 * (1 - (k + 1))) / 256 = N / 2 ^ (8 * (1 - k))) := b2
      have HX : Hid ((wr.setCell ⟨w.heap.size, k, none⟩ (.int .u8 (be 1 N k))).heap[w.heap.size]? = some (.cells (rowF 1 (fun j => if k ≤ j then be 1 N j else 0)) 5 (0, 0)) ∧ Below w.heap.size w (wr.setCell ⟨w.heap.size, k, none⟩ (.int .u8 (be 1 N k)))) := by
        refine ⟨?_, hX.out.2.setCell (Nat.le_refl _) _⟩
        rw [heap_setCell_same _ _ _ _ _ _ hX.out.1, rowF_set _ _ _ _ (by omega)]
        congr 2
        apply rowF_congr
        intro i _
        by_cases e : i = k
        · subst e; rw [if_pos rfl, if_pos (Nat.le_refl _)]
        · rw [if_neg e]
          have : (k + 1 ≤ i) ↔ (k ≤ i) := by omega
          simp only [this]
      have hq0 : 0 ≤ N / 2 ^ (8 * (1 - (k + 1))) := Int.ediv_nonneg h0 (by exact Int.le_of_lt (Int.pow_pos (by omega)))
      have hq1 : N / 2 ^ (8 * (1 - (k + 1))) < 18446744073709551616 := Int.lt_of_le_of_lt (Int.ediv_le_self _ h0) h1
      have hbr := be_range 1 N k
      have hk1 : ((k + 1 : Nat) : Int) - 1 = (k : Int) := by omega
      rw [hk1]
      clear hX HZ b2 hk1
      generalize be 1 N k = X at *
      generalize N / 2 ^ (8 * (1 - (k + 1))) = M at *
      have hm0 : Int.tmod M 256 = X := by rw [Int.tmod_eq_emod_of_nonneg hq0]; exact b1
      have hd0 : Int.tdiv M 256 = M / 256 := Int.tdiv_eq_ediv_of_nonneg hq0
      have hwr : IntKind.u64.wrap (M / 256) = M / 256 := wraps_u64 _ (by omega) (by omega)
      go_wp2
      exact ⟨⟨k, by omega, rfl, by rw [HB2.out], HX.out⟩, by simp [intOf]⟩
set_option maxHeartbeats 1000000 in
theorem lnum4_any (N : Int) (w : World) (h0 : 0 ≤ N) (h1 : N < 18446744073709551616) :
    Calls Try.prog 18 #[.int .u64 N, .int .i64 4] w fun e w' => e = .returned (.slice (some ⟨w.heap.size, 0, none⟩) 4 4) ∧ w'.heap[w.heap.size]? = some (.cells (rowF 4 (be 4 N)) 5 (0, 0)) ∧ Below w.heap.size w w' := by
  have hmk : (Instr.makeSlice 22 (.int .i64 4) (.int .i64 4)).run Try.prog w = .ok (.slice (some ⟨w.heap.size, 0, none⟩) 4 4) (w.alloc (.cells (rowF 4 (fun _ => 0)) 5)) := make_zeros w 4 (by omega)
  have HZ : Hid ((w.alloc (.cells (rowF 4 (fun _ => 0)) 5)).heap[w.heap.size]? = some (.cells (rowF 4 (fun j => if 4 ≤ j then be 4 N j else 0)) 5 (0, 0))) := by
    refine (heap_alloc_last w _).trans ?_
    rw [rowF_congr 4 (fun j => if 4 ≤ j then be 4 N j else 0) (fun _ => 0) (fun i hi => if_neg (by omega))]
  go_enter Try.func18, Try.ntmps18
  go_wp2_with fail
  go_loopw [6, 0] (fun i q wr => ∃ k : Nat, k ≤ 4 ∧ i = .int .i64 ((k : Int) - 1) ∧ q = .int .u64 (N / 2 ^ (8 * (4 - k))) ∧ Hid (wr.heap[w.heap.size]? = some (.cells (rowF 4 (fun j => if k ≤ j then be 4 N j else 0)) 5 (0, 0)) ∧ Below w.heap.size w wr)) (fun i _ _ => (intOf i + 1).toNat)
  case atStart => exact ⟨4, by omega, by simp, by simp, HZ.out, below_alloc1 w _⟩
  case round =>
    obtain ⟨k, hk, rfl, rfl, hX⟩ := hrel
    cases k with
    | zero =>
      go_wp2
      go_ret
      exact ⟨rfl, by have := hX.out.1; rw [rowF_congr 4 _ (be 4 N) (fun i _ => if_pos (Nat.zero_le _))] at this; exact this, hX.out.2⟩
    | succ k =>
      have c4 : wr.cell? ⟨w.heap.size, k, none⟩ = some (.int .u8 0) := (cell_of_row wr _ _ _ _ _ hX.out.1).trans ((rowF_get _ _ _ (by omega)).trans (by rw [if_neg (by omega)]))
      have f4 : wr.frozen? ⟨w.heap.size, k, none⟩ = false := frozen_of_row _ _ _ _ _ hX.out.1
      obtain ⟨b1, b2⟩ := lbe_step 4 k N (by omega)
      have HB2 : Hid (N / 2 ^ (8 * (4 - (k + 1))) / 256 = N / 2 ^ (8 * (4 - k))) := b2
      have HX : Hid ((wr.setCell ⟨w.heap.size, k, none⟩ (.int .u8 (be 4 N k))).heap[w.heap.size]? = some (.cells (rowF 4 (fun j => if k ≤ j then be 4 N j else 0)) 5 (0, 0)) ∧ Below w.heap.size w (wr.setCell ⟨w.heap.size, k, none⟩ (.int .u8 (be 4 N k)))) := by
        refine ⟨?_, hX.out.2.setCell (Nat.le_refl _) _⟩
        rw [heap_setCell_same _ _ _ _ _ _ hX.out.1, rowF_set _ _ _ _ (by omega)]
        congr 2
        apply rowF_congr
        intro i _
        by_cases e : i = k
        · subst e; rw [if_pos rfl, if_pos (Nat.le_refl _)]
        · rw [if_neg e]
          have : (k + 1 ≤ i) ↔ (k ≤ i) := by omega
          simp only [this]
      have hq0 : 0 ≤ N / 2 ^ (8 * (4 - (k + 1))) := Int.ediv_nonneg h0 (by exact Int.le_of_lt (Int.pow_pos (by omega)))
      have hq1 : N / 2 ^ (8 * (4 - (k + 1))) < 18446744073709551616 := Int.lt_of_le_of_lt (Int.ediv_le_self _ h0) h1
      have hbr := be_range 4 N k
      have hk1 : ((k + 1 : Nat) : Int) - 1 = (k : Int) := by omega
      rw [hk1]
      clear hX HZ b2 hk1
      generalize be 4 N k = X at *
      generalize N / 2 ^ (8 * (4 - (k + 1))) = M at *
      have hm0 : Int.tmod M 256 = X := by rw [Int.tmod_eq_emod_of_nonneg hq0]; exact b1
      have hd0 : Int.tdiv M 256 = M / 256 := Int.tdiv_eq_ediv_of_nonneg hq0
      have hwr : IntKind.u64.wrap (M / 256) = M / 256 := wraps_u64 _ (by omega) (by omega)
      go_wp2
      exact ⟨⟨k, by omega, rfl, by rw [HB2.out], HX.out⟩, by simp [intOf]⟩
set_option maxHeartbeats 1000000 in
theorem lnum8_any (N : Int) (w : World) (h0 : 0 ≤ N) (h1 : N < 18446744073709551616) :
    Calls Try.prog 18 #[.int .u64 N, .int .i64 8] w fun e w' => e = .returned (.slice (some ⟨w.heap.size, 0, none⟩) 8 8) ∧ w'.heap[w.heap.size]? = some (.cells (rowF 8 (be 8 N)) 5 (0, 0)) ∧ Below w.heap.size w w' := by
  have hmk : (Instr.makeSlice 22 (.int .i64 8) (.int .i64 8)).run Try.prog w = .ok (.slice (some ⟨w.heap.size, 0, none⟩) 8 8) (w.alloc (.cells (rowF 8 (fun _ => 0)) 5)) := make_zeros w 8 (by omega)
  have HZ : Hid ((w.alloc (.cells (rowF 8 (fun _ => 0)) 5)).heap[w.heap.size]? = some (.cells (rowF 8 (fun j => if 8 ≤ j then be 8 N j else 0)) 5 (0, 0))) := by
    refine (heap_alloc_last w _).trans ?_
    rw [rowF_congr 8 (fun j => if 8 ≤ j then be 8 N j else 0) (fun _ => 0) (fun i hi => if_neg (by omega))]
  go_enter Try.func18, Try.ntmps18
  go_wp2_with fail
  go_loopw [6, 0] (fun i q wr => ∃ k : Nat, k ≤ 8 ∧ i = .int .i64 ((k : Int) - 1) ∧ q = .int .u64 (N / 2 ^ (8 * (8 - k))) ∧ Hid (wr.heap[w.heap.size]? = some (.cells (rowF 8 (fun j => if k ≤ j then be 8 N j else 0)) 5 (0, 0)) ∧ Below w.heap.size w wr)) (fun i _ _ => (intOf i + 1).toNat)
  case atStart => exact ⟨8, by omega, by simp, by simp, HZ.out, below_alloc1 w _⟩
  case round =>
    obtain ⟨k, hk, rfl, rfl, hX⟩ := hrel
    cases k with
    | zero =>
      go_wp2
      go_ret
      exact ⟨rfl, by have := hX.out.1; rw [rowF_congr 8 _ (be 8 N) (fun i _ => if_pos (Nat.zero_le _))] at this; exact this, hX.out.2⟩
    | succ k =>
      have c4 : wr.cell? ⟨w.heap.size, k, none⟩ = some (.int .u8 0) := (cell_of_row wr _ _ _ _ _ hX.out.1).trans ((rowF_get _ _ _ (by omega)).trans (by rw [if_neg (by omega)]))
      have f4 : wr.frozen? ⟨w.heap.size, k, none⟩ = false := frozen_of_row _ _ _ _ _ hX.out.1
      obtain ⟨b1, b2⟩ := lbe_step 8 k N (by omega)
      have HB2 : Hid (N / 2 ^ (8 * (8 - (k + 1))) / 256 = N / 2 ^ (8 * (8 - k))) := b2
      have HX : Hid ((wr.setCell ⟨w.heap.size, k, none⟩ (.int .u8 (be 8 N k))).heap[w.heap.size]? = some (.cells (rowF 8 (fun j => if k ≤ j then be 8 N j else 0)) 5 (0, 0)) ∧ Below w.heap.size w (wr.setCell ⟨w.heap.size, k, none⟩ (.int .u8 (be 8 N k)))) := by
        refine ⟨?_, hX.out.2.setCell (Nat.le_refl _) _⟩
        rw [heap_setCell_same _ _ _ _ _ _ hX.out.1, rowF_set _ _ _ _ (by omega)]
        congr 2
        apply rowF_congr
        intro i _
        by_cases e : i = k
        · subst e; rw [if_pos rfl, if_pos (Nat.le_refl _)]
        · rw [if_neg e]
          have : (k + 1 ≤ i) ↔ (k ≤ i) := by omega
          simp only [this]
      have hq0 : 0 ≤ N / 2 ^ (8 * (8 - (k + 1))) := Int.ediv_nonneg h0 (by exact Int.le_of_lt (Int.pow_pos (by omega)))
      have hq1 : N / 2 ^ (8 * (8 - (k + 1))) < 18446744073709551616 := Int.lt_of_le_of_lt (Int.ediv_le_self _ h0) h1
      have hbr := be_range 8 N k
      have hk1 : ((k + 1 : Nat) : Int) - 1 = (k : Int) := by omega
      rw [hk1]
      clear hX HZ b2 hk1
      generalize be 8 N k = X at *
      generalize N / 2 ^ (8 * (8 - (k + 1))) = M at *
      have hm0 : Int.tmod M 256 = X := by rw [Int.tmod_eq_emod_of_nonneg hq0]; exact b1
      have hd0 : Int.tdiv M 256 = M / 256 := Int.tdiv_eq_ediv_of_nonneg hq0
      have hwr : IntKind.u64.wrap (M / 256) = M / 256 := wraps_u64 _ (by omega) (by omega)
      go_wp2
      exact ⟨⟨k, by omega, rfl, by rw [HB2.out], HX.out⟩, by simp [intOf]⟩
set_option maxHeartbeats 1000000 in
theorem lat_core (b off n c a S : Nat) (bs : Nat → Int) (w : World) (hr : ByteRow w (some ⟨b, off, none⟩) n c bs) (hbs : ∀ i, i < n → 0 ≤ bs i ∧ bs i ≤ 255) (hn : a + S ≤ n) (hS : S ≤ 8) (hS0 : 0 < S) (ha : a ≤ 100000) :
    Calls Try.prog 21 #[.slice (some ⟨b, off, none⟩) n c, .int .i64 a, .int .i64 S] w fun e w' => e = .returned (.int .u64 (num (fun i => bs (a + i)) S)) ∧ w' = w := by
  have HN : Hid (∀ k, k ≤ S → 0 ≤ num (fun i => bs (a + i)) k ∧ num (fun i => bs (a + i)) k < 2 ^ (8 * k)) := by
    intro k hk
    have := num_range (fun i => if i < S then bs (a + i) else 0) (fun i => by by_cases h : i < S; simp [h]; exact hbs _ (by omega); simp [h]) k
    have e : ∀ j, j ≤ S → num (fun i => if i < S then bs (a + i) else 0) j = num (fun i => bs (a + i)) j := by
      intro j
      induction j with
      | zero => intro _; rfl
      | succ j ih => intro hj; simp only [num]; rw [ih (by omega), if_pos (by omega)]
    rw [e k hk] at this
    exact this
  have hcap : n ≤ c := hr.1
  have HR : Hid (ByteRow w (some ⟨b, off, none⟩) n c bs) := hr
  have HB : Hid (∀ i, i < n → 0 ≤ bs i ∧ bs i ≤ 255) := hbs
  clear hr hbs
  have l1 : (a : Int) + S ≤ c := by omega
  have l2 : (a : Int) ≤ a + S := by omega
  have hca : ¬ c = a := by omega
  go_enter Try.func21, Try.ntmps21
  go_wp2_with fail
  go_loopw [17, 7] (fun i m wr => ∃ k : Nat, k ≤ S ∧ i = .int .i64 k ∧ m = .int .u64 (num (fun i => bs (a + i)) k) ∧ wr = w) (fun i _ _ => S - (intOf i).toNat)
  case atStart => exact ⟨0, by omega, rfl, rfl, rfl⟩
  case round =>
    obtain ⟨k, hk, rfl, rfl, rfl⟩ := hrel
    by_cases hlt : k < S
    · obtain ⟨b1, off1, e1, hb, hc⟩ := HR.out.2 (by omega)
      cases e1
      have c4 : wr.cell? ⟨b, off + a + k, none⟩ = some (.int .u8 (bs (a + k))) := by rw [Nat.add_assoc]; exact hc (a + k) (by omega)
      have h256 : 0 ≤ num (fun i => bs (a + i)) k ∧ num (fun i => bs (a + i)) k < 72057594037927936 := by
        have h1 := HN.out k (by omega)
        have h2 : (2 : Int) ^ (8 * k) ≤ 2 ^ (8 * 7) := by exact_mod_cast Nat.pow_le_pow_right (n := 2) (by omega) (show 8 * k ≤ 8 * 7 by omega)
        have h3 : (2 : Int) ^ (8 * 7) = 72057594037927936 := by decide
        omega
      have hfk := HB.out (a + k) (by omega)
      have HQ : Hid (num (fun i => bs (a + i)) (k + 1) = num (fun i => bs (a + i)) k * 256 + bs (a + k)) := rfl
      clear hc HR HB HN
      generalize num (fun i => bs (a + i)) k = M at *
      generalize bs (a + k) = X at *
      have hw1 : IntKind.u64.wrap (256 * M) = 256 * M := wraps_u64 _ (by omega) (by omega)
      have hw2 : IntKind.u64.wrap (256 * M + X) = 256 * M + X := wraps_u64 _ (by omega) (by omega)
      go_wp2
      exact ⟨⟨k + 1, by omega, by go_num, by rw [HQ.out, Int.mul_comm], trivial⟩, by simp [intOf]; omega⟩
    · obtain rfl : k = S := by omega
      go_wp2
      go_ret
      exact ⟨rfl, rfl⟩
end Go.Proofs.Ytmjgmngdahhbkaa
