/- walks: tagOf, putNumber, number, putPair, pairAt -/
import Derived.Test.YtidlgfiggilchaaW1
namespace Go.Proofs.Ytidlgfiggilchaa
open Go.RowKit

theorem or13 (p v : Int) (hp : 0 ≤ p ∧ p ≤ 7) (hv : 0 ≤ v ∧ v ≤ 4094) : bits BinOp.or IntKind.i64 (p * 8192) v = p * 8192 + v :=
  bits_join .i64 62 (by decide) wraps_i64 13 (p * 8192) v (by omega) (by omega) (by omega) (by omega) (by omega) (by omega)
theorem or_bit (a v : Nat) (hv : v < 4096) : (a * 8192 + v) ||| 4096 = a * 8192 + v + 4096 := by
  have h1 : a * 8192 + v = 2 ^ 12 * (2 * a) ||| v := by rw [← Nat.two_pow_add_eq_or_of_lt (by omega)]; omega
  have h2 : 2 ^ 12 * (2 * a) ||| 2 ^ 12 = 2 ^ 12 * (2 * a + 1) := by
    rw [Nat.mul_comm (2 ^ 12) (2 * a), Nat.mul_comm (2 ^ 12) (2 * a + 1)]
    apply Nat.eq_of_testBit_eq
    intro i
    rw [Nat.testBit_or, Nat.testBit_mul_two_pow, Nat.testBit_mul_two_pow, Nat.testBit_two_pow]
    by_cases e : 12 ≤ i
    · by_cases e2 : 12 = i
      · subst e2; simp
      · obtain ⟨j, rfl⟩ : ∃ j, i = 12 + (j + 1) := ⟨i - 13, by omega⟩
        simp [Nat.testBit_succ, show (2 * a + 1) / 2 = a by omega]
    · simp [e, show ¬ 12 = i by omega]
  have h3 : 2 ^ 12 * (2 * a + 1) ||| v = a * 8192 + v + 4096 := by rw [← Nat.two_pow_add_eq_or_of_lt (by omega)]; omega
  have h4 : (a * 8192 + v) ||| 2 ^ 12 = 2 ^ 12 * (2 * a + 1) ||| v := by rw [h1, Nat.or_assoc, Nat.or_comm v, ← Nat.or_assoc, h2]
  exact h4.trans h3
theorem or12 (p v : Int) (hp : 0 ≤ p ∧ p ≤ 7) (hv : 0 ≤ v ∧ v ≤ 4094) : bits BinOp.or IntKind.i64 (p * 8192 + v) 4096 = p * 8192 + v + 4096 := by
  obtain ⟨a, rfl⟩ := Int.eq_ofNat_of_zero_le hp.1
  obtain ⟨b, rfl⟩ := Int.eq_ofNat_of_zero_le hv.1
  have h := (bits_nat .i64 62 (by decide) wraps_i64 (a * 8192 + b) 4096 (by omega) (by omega)).2
  rw [or_bit a b (by omega)] at h
  rw [show (((a * 8192 + b : Nat)) : Int) = (a : Int) * 8192 + b by omega, show (((a * 8192 + b + 4096 : Nat)) : Int) = (a : Int) * 8192 + b + 4096 by omega] at h
  exact h
theorem or8 (n x : Int) (hn : 0 ≤ n ∧ n < 72057594037927936) (hx : 0 ≤ x ∧ x ≤ 255) : bits BinOp.or IntKind.u64 (n * 256) x = n * 256 + x :=
  bits_join .u64 64 (by decide) wraps_u64 8 (n * 256) x (by omega) (by omega) (by omega) (by omega) (by omega) (by omega)
set_option maxHeartbeats 400000 in
theorem tagOf_any (d s : Int) (t : Bool) (p : Int) (dr : Bool) (v y : Int) (ao : Option Addr) (n c : Nat) (w : World) (hp : 0 ≤ p ∧ p ≤ 7) (hv : 0 ≤ v ∧ v ≤ 4094) :
    Calls Try.prog 27 #[.agg #[.int .u64 d, .int .u64 s, .bool t, .int .i64 p, .bool dr, .int .i64 v, .int .i64 y, .slice ao n c]] w fun e w' => e = .returned (.int .i64 (tag p dr v)) ∧ Below w.heap.size w w' := by
  have q1 := or13 p v hp hv
  have q2 := or12 p v hp hv
  cases dr
  all_goals
    go_enter Try.func27, Try.ntmps27
    go_wp2
    go_ret
    refine ⟨?_, below_alloc1 _ _⟩
    simp [tag]
set_option maxHeartbeats 400000 in
theorem putNumber_any (g off n cap N18 : Nat) (ty : TypeId) (f : Nat → Int) (N : Int) (w : World) (hA : w.heap[g]? = some (.cells (rowF N18 f) ty (0, 0))) (hn : off + n ≤ N18) (hn8 : n ≤ 8) (hcap : n ≤ cap) :
    Calls Try.prog 25 #[.slice (some ⟨g, off, none⟩) n cap, .int .u64 N] w fun e w' => e = .returned (.tuple #[]) ∧ w'.heap[g]? = some (.cells (rowF N18 (fun i => if off ≤ i ∧ i < off + n then be n N (i - off) else f i)) ty (0, 0)) ∧ w'.heap.size = w.heap.size ∧ Below g w w' := by
  have HA : Hid (w.heap[g]? = some (.cells (rowF N18 f) ty (0, 0))) := hA
  clear hA
  go_enter Try.func25, Try.ntmps25
  go_wp2_with fail
  go_loopw [7] (fun i wr => ∃ k : Nat, k ≤ n ∧ i = .int .i64 k ∧ Hid (wr.heap[g]? = some (.cells (rowF N18 (fun i => if off ≤ i ∧ i < off + k then be n N (i - off) else f i)) ty (0, 0)) ∧ wr.heap.size = w.heap.size ∧ Below g w wr)) (fun i _ => n - (intOf i).toNat)
  case atStart => exact ⟨0, by omega, rfl, by rw [HA.out, rowF_congr]; intro i _; rw [if_neg (by omega)], rfl, Below.refl _ _⟩
  case round =>
    obtain ⟨k, hk, rfl, hX⟩ := hrel
    by_cases hlt : k < n
    · have c4 : wr.cell? ⟨g, off + k, none⟩ = some (.int .u8 (f (off + k))) := (cell_of_row wr _ _ _ _ _ hX.out.1).trans ((rowF_get _ _ _ (by omega)).trans (by rw [if_neg (by omega)]))
      have f4 : wr.frozen? ⟨g, off + k, none⟩ = false := frozen_of_row _ _ _ _ _ hX.out.1
      have HX : Hid ((wr.setCell ⟨g, off + k, none⟩ (.int .u8 (be n N k))).heap[g]? = some (.cells (rowF N18 (fun i => if off ≤ i ∧ i < off + (k + 1) then be n N (i - off) else f i)) ty (0, 0)) ∧ (wr.setCell ⟨g, off + k, none⟩ (.int .u8 (be n N k))).heap.size = w.heap.size ∧ Below g w (wr.setCell ⟨g, off + k, none⟩ (.int .u8 (be n N k)))) := by
        refine ⟨?_, by simp [World.setCell, hX.out.2.1], hX.out.2.2.setCell (Nat.le_refl _) _⟩
        rw [heap_setCell_same _ _ _ _ _ _ hX.out.1, rowF_set _ _ _ _ (by omega)]
        congr 2
        apply rowF_congr
        intro i _
        by_cases e : i = off + k
        · subst e; rw [if_pos rfl, if_pos (by omega)]; congr 1; omega
        · rw [if_neg e]
          have : (off ≤ i ∧ i < off + k) ↔ (off ≤ i ∧ i < off + (k + 1)) := by omega
          simp only [this]
      clear hX HA
      go_wp2
      exact ⟨⟨k + 1, by omega, by go_num, HX⟩, by simp [intOf]; omega⟩
    · obtain rfl : k = n := by omega
      go_wp2
      exact bodyPost_end (results_none Try.results25 _ _ _) rfl ⟨rfl, hX.out⟩
set_option maxHeartbeats 400000 in
theorem number_any (ao : Option Addr) (n cap : Nat) (f : Nat → Int) (w : World) (hr : ByteRow w ao n cap f) (hf : ∀ i, i < n → 0 ≤ f i ∧ f i ≤ 255) (hn8 : n ≤ 8) :
    Calls Try.prog 29 #[.slice ao n cap] w fun e w' => e = .returned (.int .u64 (num f n)) ∧ w' = w := by
  have HN : Hid (∀ k, k ≤ n → 0 ≤ num f k ∧ num f k < 2 ^ (8 * k)) := by
    intro k hk
    have := num_range (fun i => if i < n then f i else 0) (fun i => by by_cases h : i < n; simp [h]; exact hf i h; simp [h]) k
    have e : ∀ j, j ≤ n → num (fun i => if i < n then f i else 0) j = num f j := by
      intro j
      induction j with
      | zero => intro _; rfl
      | succ j ih => intro hj; simp only [num]; rw [ih (by omega), if_pos (by omega)]
    rw [e k hk] at this
    exact this
  have HR : Hid (ByteRow w ao n cap f) := hr
  have HF : Hid (∀ i, i < n → 0 ≤ f i ∧ f i ≤ 255) := hf
  clear hr hf
  go_enter Try.func29, Try.ntmps29
  go_wp2_with fail
  go_loopw [8, 3] (fun i m wr => ∃ k : Nat, k ≤ n ∧ i = .int .i64 k ∧ m = .int .u64 (num f k) ∧ wr = w) (fun i _ _ => n - (intOf i).toNat)
  case atStart => exact ⟨0, by omega, rfl, rfl, rfl⟩
  case round =>
    obtain ⟨k, hk, rfl, rfl, rfl⟩ := hrel
    by_cases hlt : k < n
    · obtain ⟨b, off, rfl, hb, hc⟩ := HR.out.2 (by omega)
      have hcap := HR.out.1
      have c4 : wr.cell? ⟨b, off + k, none⟩ = some (.int .u8 (f k)) := hc k hlt
      have h256 : 0 ≤ num f k ∧ num f k < 72057594037927936 := by
        have h1 := HN.out k (by omega)
        have h2 : (2 : Int) ^ (8 * k) ≤ 2 ^ (8 * 7) := by exact_mod_cast Nat.pow_le_pow_right (n := 2) (by omega) (show 8 * k ≤ 8 * 7 by omega)
        have h3 : (2 : Int) ^ (8 * 7) = 72057594037927936 := by decide
        omega
      have hfk := HF.out k hlt
      have q := or8 (num f k) (f k) h256 hfk
      have HQ : Hid (num f (k + 1) = num f k * 256 + f k) := rfl
      clear hc HR HF HN
      generalize num f k = M at *
      go_wp2
      exact ⟨⟨k + 1, by omega, by go_num, by rw [HQ.out], trivial⟩, by simp [intOf]; omega⟩
    · obtain rfl : k = n := by omega
      go_wp2
      go_ret
      exact ⟨rfl, rfl⟩
set_option maxHeartbeats 400000 in
theorem putPair_any (g at' : Nat) (a : Int) (ty : TypeId) (f : Nat → Int) (N : Int) (w : World) (h0 : 0 ≤ N) (h1 : N < 9223372036854775808) (hA : w.heap[g]? = some (.cells (rowF 18 f) ty (0, 0))) (ha : a = (at' : Int)) (hn : at' = 12 ∨ at' = 14 ∨ at' = 16) :
    Calls Try.prog 26 #[.pointer (some ⟨g, 0, none⟩), .int .i64 a, .int .i64 N] w fun e w' => e = .returned (.tuple #[]) ∧ w'.heap[g]? = some (.cells (rowF 18 (fun i => if at' ≤ i ∧ i < at' + 2 then be 2 N (i - at') else f i)) ty (0, 0)) ∧ w'.heap.size = w.heap.size ∧ Below g w w' := by
  have HA : Hid (w.heap[g]? = some (.cells (rowF 18 f) ty (0, 0))) := hA
  clear hA
  rcases hn with rfl | rfl | rfl
  · obtain rfl : a = 12 := ha
    go_enter Try.func26, Try.ntmps26
    go_wp2_with (go_at_call 25; refine (putNumber_any g 12 2 6 18 ty f N _ HA.out (by omega) (by omega) (by omega)).mono ?_; rintro e w1 ⟨rfl, h⟩)
    exact bodyPost_end (results_none Try.results26 _ _ _) rfl ⟨rfl, h⟩
  · obtain rfl : a = 14 := ha
    go_enter Try.func26, Try.ntmps26
    go_wp2_with (go_at_call 25; refine (putNumber_any g 14 2 4 18 ty f N _ HA.out (by omega) (by omega) (by omega)).mono ?_; rintro e w1 ⟨rfl, h⟩)
    exact bodyPost_end (results_none Try.results26 _ _ _) rfl ⟨rfl, h⟩
  · obtain rfl : a = 16 := ha
    go_enter Try.func26, Try.ntmps26
    go_wp2_with (go_at_call 25; refine (putNumber_any g 16 2 2 18 ty f N _ HA.out (by omega) (by omega) (by omega)).mono ?_; rintro e w1 ⟨rfl, h⟩)
    exact bodyPost_end (results_none Try.results26 _ _ _) rfl ⟨rfl, h⟩
set_option maxHeartbeats 400000 in
theorem pairAt_any (at' : Nat) (a : Int) (f : Nat → Int) (w : World) (hf : ∀ i, i < 18 → 0 ≤ f i ∧ f i ≤ 255) (ha : a = (at' : Int)) (hn : at' = 12 ∨ at' = 14 ∨ at' = 16) :
    Calls Try.prog 28 #[.agg (rowF 18 f), .int .i64 a] w fun e w' => e = .returned (.int .i64 (f at' * 256 + f (at' + 1))) ∧ Below w.heap.size w w' := by
  have HF : Hid (∀ i, i < 18 → 0 ≤ f i ∧ f i ≤ 255) := hf
  clear hf
  rcases hn with rfl | rfl | rfl
  · obtain rfl : a = 12 := ha
    have r0 : 0 ≤ f 12 ∧ f 12 ≤ 255 := HF.out _ (by omega)
    have r1 : 0 ≤ f 13 ∧ f 13 ≤ 255 := HF.out _ (by omega)
    go_enter Try.func28, Try.ntmps28
    go_wp2_with (go_at_call 29; refine (number_any _ 2 6 (fun i => f (12 + i)) _ (ByteRow.of_row (heap_alloc_last w _) (by omega) (by omega)) (fun i hi => HF.out _ (by omega)) (by omega)).mono ?_; rintro e w1 ⟨rfl, rfl⟩; simp only [num, Int.zero_mul, Int.zero_add, Nat.add_zero])
    go_ret
    exact ⟨rfl, below_alloc1 _ _⟩
  · obtain rfl : a = 14 := ha
    have r0 : 0 ≤ f 14 ∧ f 14 ≤ 255 := HF.out _ (by omega)
    have r1 : 0 ≤ f 15 ∧ f 15 ≤ 255 := HF.out _ (by omega)
    go_enter Try.func28, Try.ntmps28
    go_wp2_with (go_at_call 29; refine (number_any _ 2 4 (fun i => f (14 + i)) _ (ByteRow.of_row (heap_alloc_last w _) (by omega) (by omega)) (fun i hi => HF.out _ (by omega)) (by omega)).mono ?_; rintro e w1 ⟨rfl, rfl⟩; simp only [num, Int.zero_mul, Int.zero_add, Nat.add_zero])
    go_ret
    exact ⟨rfl, below_alloc1 _ _⟩
  · obtain rfl : a = 16 := ha
    have r0 : 0 ≤ f 16 ∧ f 16 ≤ 255 := HF.out _ (by omega)
    have r1 : 0 ≤ f 17 ∧ f 17 ≤ 255 := HF.out _ (by omega)
    go_enter Try.func28, Try.ntmps28
    go_wp2_with (go_at_call 29; refine (number_any _ 2 2 (fun i => f (16 + i)) _ (ByteRow.of_row (heap_alloc_last w _) (by omega) (by omega)) (fun i hi => HF.out _ (by omega)) (by omega)).mono ?_; rintro e w1 ⟨rfl, rfl⟩; simp only [num, Int.zero_mul, Int.zero_add, Nat.add_zero])
    go_ret
    exact ⟨rfl, below_alloc1 _ _⟩
end Go.Proofs.Ytidlgfiggilchaa
