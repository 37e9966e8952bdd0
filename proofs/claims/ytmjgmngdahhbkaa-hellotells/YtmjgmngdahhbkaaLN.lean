/- walks: package number: Within, Put, Of -/
import Derived.Test.YtmjgmngdahhbkaaBase
namespace Go.Proofs.Ytmjgmngdahhbkaa
open Go.RowKit

set_option maxHeartbeats 400000 in
theorem nwithin_any (n l m : Int) (w : World) :
    Calls Try.prog 25 #[.int .i64 n, .int .i64 l, .int .i64 m] w fun e w' => e = .returned (.bool (decide (l ≤ n ∧ n ≤ m))) ∧ w' = w := by
  by_cases h1 : l ≤ n <;> by_cases h2 : n ≤ m
  all_goals
    go_enter Try.func25, Try.ntmps25
    go_wp2
    go_ret
    exact ⟨by simp [h1, h2], rfl⟩
theorem nor8 (n x : Int) (hn : 0 ≤ n ∧ n < 72057594037927936) (hx : 0 ≤ x ∧ x ≤ 255) : bits BinOp.or IntKind.u64 (n * 256) x = n * 256 + x :=
  bits_join .u64 64 (by decide) wraps_u64 8 (n * 256) x (by omega) (by omega) (by omega) (by omega) (by omega) (by omega)
set_option maxHeartbeats 400000 in
theorem nput_any (g off n cap N18 : Nat) (ty : TypeId) (f : Nat → Int) (N : Int) (w : World) (hA : w.heap[g]? = some (.cells (rowF N18 f) ty (0, 0))) (hn : off + n ≤ N18) (hn8 : n ≤ 8) (hcap : n ≤ cap) :
    Calls Try.prog 23 #[.slice (some ⟨g, off, none⟩) n cap, .int .u64 N] w fun e w' => e = .returned (.tuple #[]) ∧ w'.heap[g]? = some (.cells (rowF N18 (fun i => if off ≤ i ∧ i < off + n then be n N (i - off) else f i)) ty (0, 0)) ∧ w'.heap.size = w.heap.size ∧ Below g w w' ∧ (∀ b, b ≠ g → w'.heap[b]? = w.heap[b]?) := by
  have HA : Hid (w.heap[g]? = some (.cells (rowF N18 f) ty (0, 0))) := hA
  clear hA
  go_enter Try.func23, Try.ntmps23
  go_wp2_with fail
  go_loopw [7] (fun i wr => ∃ k : Nat, k ≤ n ∧ i = .int .i64 k ∧ Hid (wr.heap[g]? = some (.cells (rowF N18 (fun i => if off ≤ i ∧ i < off + k then be n N (i - off) else f i)) ty (0, 0)) ∧ wr.heap.size = w.heap.size ∧ Below g w wr ∧ (∀ b, b ≠ g → wr.heap[b]? = w.heap[b]?))) (fun i _ => n - (intOf i).toNat)
  case atStart => exact ⟨0, by omega, rfl, by rw [HA.out, rowF_congr]; intro i _; rw [if_neg (by omega)], rfl, Below.refl _ _, fun _ _ => rfl⟩
  case round =>
    obtain ⟨k, hk, rfl, hX⟩ := hrel
    by_cases hlt : k < n
    · have c4 : wr.cell? ⟨g, off + k, none⟩ = some (.int .u8 (f (off + k))) := (cell_of_row wr _ _ _ _ _ hX.out.1).trans ((rowF_get _ _ _ (by omega)).trans (by rw [if_neg (by omega)]))
      have f4 : wr.frozen? ⟨g, off + k, none⟩ = false := frozen_of_row _ _ _ _ _ hX.out.1
      have HX : Hid ((wr.setCell ⟨g, off + k, none⟩ (.int .u8 (be n N k))).heap[g]? = some (.cells (rowF N18 (fun i => if off ≤ i ∧ i < off + (k + 1) then be n N (i - off) else f i)) ty (0, 0)) ∧ (wr.setCell ⟨g, off + k, none⟩ (.int .u8 (be n N k))).heap.size = w.heap.size ∧ Below g w (wr.setCell ⟨g, off + k, none⟩ (.int .u8 (be n N k))) ∧ (∀ b, b ≠ g → (wr.setCell ⟨g, off + k, none⟩ (.int .u8 (be n N k))).heap[b]? = w.heap[b]?)) := by
        refine ⟨?_, by simp [World.setCell, hX.out.2.1], hX.out.2.2.1.setCell (Nat.le_refl _) _, fun b hb => (heap_setCell_other _ _ _ _ hb).trans (hX.out.2.2.2 b hb)⟩
        rw [heap_setCell_same _ _ _ _ _ _ hX.out.1, rowF_set _ _ _ _ (by omega)]
        congr 2
        apply rowF_congr
        intro i _
        by_cases e : i = off + k
        · subst e; rw [if_pos rfl, if_pos (by omega)]; congr 1; omega
        · rw [if_neg e]
          have : (off ≤ i ∧ i < off + k) ↔ (off ≤ i ∧ i < off + (k + 1)) := by omega
          simp only [this]
      clear hX HA
      go_wp2
      exact ⟨⟨k + 1, by omega, by go_num, HX⟩, by simp [intOf]; omega⟩
    · obtain rfl : k = n := by omega
      go_wp2
      exact bodyPost_end (results_none Try.results23 _ _ _) rfl ⟨rfl, hX.out⟩
set_option maxHeartbeats 400000 in
theorem nof_any (ao : Option Addr) (n cap : Nat) (f : Nat → Int) (w : World) (hr : ByteRow w ao n cap f) (hf : ∀ i, i < n → 0 ≤ f i ∧ f i ≤ 255) (hn8 : n ≤ 8) :
    Calls Try.prog 24 #[.slice ao n cap] w fun e w' => e = .returned (.int .u64 (num f n)) ∧ w' = w := by
  have HN : Hid (∀ k, k ≤ n → 0 ≤ num f k ∧ num f k < 2 ^ (8 * k)) := by
    intro k hk
    have := num_range (fun i => if i < n then f i else 0) (fun i => by by_cases h : i < n; simp [h]; exact hf i h; simp [h]) k
    have e : ∀ j, j ≤ n → num (fun i => if i < n then f i else 0) j = num f j := by
      intro j
      induction j with
      | zero => intro _; rfl
      | succ j ih => intro hj; simp only [num]; rw [ih (by omega), if_pos (by omega)]
    rw [e k hk] at this
    exact this
  have HR : Hid (ByteRow w ao n cap f) := hr
  have HF : Hid (∀ i, i < n → 0 ≤ f i ∧ f i ≤ 255) := hf
  clear hr hf
  go_enter Try.func24, Try.ntmps24
  go_wp2_with fail
  go_loopw [8, 3] (fun i m wr => ∃ k : Nat, k ≤ n ∧ i = .int .i64 k ∧ m = .int .u64 (num f k) ∧ wr = w) (fun i _ _ => n - (intOf i).toNat)
  case atStart => exact ⟨0, by omega, rfl, rfl, rfl⟩
  case round =>
    obtain ⟨k, hk, rfl, rfl, rfl⟩ := hrel
    by_cases hlt : k < n
    · obtain ⟨b, off, rfl, hb, hc⟩ := HR.out.2 (by omega)
      have hcap := HR.out.1
      have c4 : wr.cell? ⟨b, off + k, none⟩ = some (.int .u8 (f k)) := hc k hlt
      have h256 : 0 ≤ num f k ∧ num f k < 72057594037927936 := by
        have h1 := HN.out k (by omega)
        have h2 : (2 : Int) ^ (8 * k) ≤ 2 ^ (8 * 7) := by exact_mod_cast Nat.pow_le_pow_right (n := 2) (by omega) (show 8 * k ≤ 8 * 7 by omega)
        have h3 : (2 : Int) ^ (8 * 7) = 72057594037927936 := by decide
        omega
      have hfk := HF.out k hlt
      have q := nor8 (num f k) (f k) h256 hfk
      have HQ : Hid (num f (k + 1) = num f k * 256 + f k) := rfl
      clear hc HR HF HN
      generalize num f k = M at *
      go_wp2
      exact ⟨⟨k + 1, by omega, by go_num, by rw [HQ.out], trivial⟩, by simp [intOf]; omega⟩
    · obtain rfl : k = n := by omega
      go_wp2
      go_ret
      exact ⟨rfl, rfl⟩
end Go.Proofs.Ytmjgmngdahhbkaa
