/- walks: the document's Parse, where there is a tag -/
import Derived.Test.YtidlgfiggilchaaR5
namespace Go.Proofs.Ytidlgfiggilchaa
open Go.RowKit

set_option maxHeartbeats 4000000 in
theorem rparse_tagged (b off n c : Nat) (bs : Nat → Int) (w : World) (hr : ByteRow w (some ⟨b, off, none⟩) n c bs) (hbs : ∀ i, i < n → 0 ≤ bs i ∧ bs i ≤ 255) (h18 : 18 ≤ n) (ht : pT (pad n bs) 12 = 33024) :
    Calls Try.prog 12 #[.slice (some ⟨b, off, none⟩) n c] w fun e w' => ParseOut n bs e w' ∧ Below w.heap.size w w' := by
  have hcap : n ≤ c := hr.1
  obtain ⟨b1, off1, e1, hb, hc⟩ := hr.2 (by omega)
  cases e1
  have r12 := hbs 12 (by omega)
  have r13 := hbs 13 (by omega)
  have e12 : w.cell? ⟨b, off + 12, none⟩ = some (.int .u8 (bs 12)) := hc 12 (by omega)
  have e13 : w.cell? ⟨b, off + 13, none⟩ = some (.int .u8 (bs 13)) := hc 13 (by omega)
  have hpT : pT (pad n bs) 12 = bs 12 * 256 + bs 13 := by unfold pT pad; simp only [Nat.reduceAdd]; rw [if_pos (by omega), if_pos (by omega)]
  have h129 : bs 12 = 129 ∧ bs 13 = 0 := by rw [hpT] at ht; omega
  have r14 := hbs 14 (by omega)
  have r15 := hbs 15 (by omega)
  have e14 : w.cell? ⟨b, off + 14, none⟩ = some (.int .u8 (bs 14)) := hc 14 (by omega)
  have e15 : w.cell? ⟨b, off + 15, none⟩ = some (.int .u8 (bs 15)) := hc 15 (by omega)
  have h14T : pT (pad n bs) 14 = bs 14 * 256 + bs 15 := by unfold pT pad; simp only [Nat.reduceAdd]; rw [if_pos (by omega), if_pos (by omega)]
  have htag : isTag (pad n bs) = true := decide_eq_true ht
  have hz : sizeF (pad n bs) = 18 := by
    rw [← head_size, htag]
    rfl
  have h5 : rP (pad n bs) = bs 14 / 32 ∧ rX (pad n bs) = (bs 14 / 16 % 2 == 1) ∧ rV (pad n bs) = bs 14 % 16 * 256 + bs 15 ∧ rY (pad n bs) = pT (pad n bs) 16 := by
    unfold rP rX rV rY
    rw [htag, h14T]
    refine ⟨?_, ?_, ?_, rfl⟩
    · rw [if_pos rfl]; omega
    · rw [if_pos rfl]
      by_cases q : bs 14 / 16 % 2 = 1
      · rw [q, decide_eq_true (by omega)]; rfl
      · rw [decide_eq_false (by omega)]; simp [q]
    · rw [if_pos rfl]; omega
  have hy0 : 0 ≤ pT (pad n bs) 16 ∧ pT (pad n bs) 16 ≤ 65535 := by have := pad_range hbs 16; have := pad_range hbs 17; unfold pT; simp only [Nat.reduceAdd]; omega
  have HA0 : Hid (∀ W, Below w.heap.size w W → Calls Try.prog 23 #[.slice (some ⟨b, off, none⟩) n c, .int .i64 0, .int .i64 6] W fun e w' => e = .returned (.int .u64 (rD (pad n bs))) ∧ w' = W) := fun W hW => at_any b off n c 0 6 _ bs w W hr hbs (by omega) (by omega) (by omega) (by omega) hW (num_congr _ _ 6 (fun i _ => by rw [Nat.zero_add])) 0 6 rfl rfl
  have HA6 : Hid (∀ W, Below w.heap.size w W → Calls Try.prog 23 #[.slice (some ⟨b, off, none⟩) n c, .int .i64 6, .int .i64 6] W fun e w' => e = .returned (.int .u64 (rS (pad n bs))) ∧ w' = W) := fun W hW => at_any b off n c 6 6 _ bs w W hr hbs (by omega) (by omega) (by omega) (by omega) hW rfl 6 6 rfl rfl
  have HA16 : Hid (∀ W, Below w.heap.size w W → Calls Try.prog 23 #[.slice (some ⟨b, off, none⟩) n c, .int .i64 16, .int .i64 2] W fun e w' => e = .returned (.int .u64 (pT (pad n bs) 16)) ∧ w' = W) := fun W hW => at_any b off n c 16 2 _ bs w W hr hbs (by omega) (by omega) (by omega) (by omega) hW (by simp [num, pT]) 16 2 rfl rfl
  have HWR : Hid (∀ (W : World) (a1 : Option Addr) (n1 c1 : Nat), n1 = n - 18 → Calls Try.prog 8 #[.agg #[.int .u64 (rD (pad n bs)), .int .u64 (rS (pad n bs)), .bool true, .int .i64 (bs 14 / 32), .bool (bs 14 / 16 % 2 == 1), .int .i64 (bs 14 % 16 * 256 + bs 15), .int .i64 (pT (pad n bs) 16), .slice a1 n1 c1]] W fun e w' => e = .returned (.int .i64 (wrongB n (pad n bs))) ∧ Below W.heap.size W w') := by
    intro W a1 n1 c1 hn1
    subst hn1
    have h := rwrong_any (rD (pad n bs)) (rS (pad n bs)) true (bs 14 / 32) (bs 14 / 16 % 2 == 1) (bs 14 % 16 * 256 + bs 15) (pT (pad n bs) 16) a1 (n - 18) c1 W (rS_range hbs)
    have hE : wrongB n (pad n bs) = wrong (rD (pad n bs)) (rS (pad n bs)) true (bs 14 / 32) (bs 14 % 16 * 256 + bs 15) (pT (pad n bs) 16) (n - 18) := by
      unfold wrongB
      rw [hz, htag, h5.1, h5.2.2.1, h5.2.2.2]
    rw [hE]
    exact h
  have HPW : Hid (∀ w', wrongB n (pad n bs) ≠ 0 → ParseOut n bs (.returned (.tuple #[.agg (frA 0 0 false 0 false 0 0 none 0 0), .int .i64 (wrongB n (pad n bs))])) w') := fun w' h => Or.inr (Or.inl ⟨by omega, h, rfl⟩)
  have HPR : Hid (∀ (w' : World) (a1 : Option Addr) (n1 c1 : Nat), n1 = n - 18 → wrongB n (pad n bs) = 0 → NilOk a1 n1 c1 → ByteRow w' a1 n1 c1 (fun i => bs (18 + i)) → ParseOut n bs (.returned (.tuple #[.agg (frA (rD (pad n bs)) (rS (pad n bs)) true (bs 14 / 32) (bs 14 / 16 % 2 == 1) (bs 14 % 16 * 256 + bs 15) (pT (pad n bs) 16) a1 n1 c1), .int .i64 0])) w') := by
    intro w' a1 n1 c1 hn1 hE hnl hrow
    subst hn1
    refine Or.inr (Or.inr ⟨by omega, hE, a1, c1, ?_, ?_, ?_⟩)
    · rw [hz, htag, h5.1, h5.2.1, h5.2.2.1, h5.2.2.2]
    · rw [hz]; exact hrow
    · rw [hz]; exact hnl
  have HD : Hid (∀ (W : World), Below w.heap.size w W → ByteRow W (some ⟨b, off + 18, none⟩) (n - 18) (c - 18) (fun i => bs (18 + i))) := fun W hW => by
    refine ⟨by omega, fun hp => ⟨b, off + 18, rfl, Nat.lt_of_lt_of_le hb hW.size, fun i hi => ?_⟩⟩
    rw [Nat.add_assoc, hW.cell (by exact hb)]
    exact hc (18 + i) (by omega)
  rw [h129.1] at e12
  rw [h129.2] at e13
  clear hr hbs hc h5 hz htag ht hpT h14T r12 r13 h129
  generalize wrongB n (pad n bs) = E at *
  generalize rD (pad n bs) = fd at *
  generalize rS (pad n bs) = fs at *
  generalize pT (pad n bs) 16 = fy at *
  generalize bs 14 = X14 at *
  generalize bs 15 = X15 at *
  have hyA : 0 ≤ fy := hy0.1
  have hyB : fy ≤ 65535 := hy0.2
  clear hy0
  have hn14 : ¬ (n : Int) < 14 := by omega
  have hn18 : ¬ (n : Int) < 18 := by omega
  by_cases hcz : c = 18
  · have HNZ : Hid (0 = n - 18) := (show 0 = n - 18 by omega)
    subst hcz
    go_enter Try.func12, Try.ntmps12
    go_wp2_with (first | (go_at_call 23; (with_reducible refine (HA0.out _ (by first | exact below_alloc1 w _ | exact below_alloc2 w _ _)).mono ?_); rintro e w1 ⟨rfl, rfl⟩) | (go_at_call 23; (with_reducible refine (HA6.out _ (by first | exact below_alloc1 w _ | exact below_alloc2 w _ _)).mono ?_); rintro e w1 ⟨rfl, rfl⟩))
    go_region
    go_wp2_with (go_at_call 23; (with_reducible refine (HA16.out _ ((below_alloc2 w _ _).drew)).mono ?_); rintro e w1 ⟨rfl, rfl⟩)
    refine (HWR.out _ (some ⟨b, off, none⟩) 0 0 HNZ.out).mono ?_
    rintro e w4 ⟨rfl, hb4⟩
    have HB4 : Hid (Below w.heap.size w w4) := (below_alloc2 w _ _).drew.trans (hb4.mono (by simp; omega))
    have HA4 : Hid (w4.heap[w.heap.size]? = some (.cells (frA 0 0 false 0 false 0 0 none 0 0) 25 (0, 0))) := (hb4.block _ (by simp; omega)).trans (heap_alloc2_old w _ _)
    have HG4 : Hid (w4.heap[w.heap.size + 1]? = some (.cells (frA fd fs true (X14 / 32) (X14 / 16 % 2 == 1) (X14 % 16 * 256 + X15) fy (some ⟨b, off, none⟩) 0 0) 25 (0, 0))) := (hb4.block _ (by simp)).trans (heap_alloc2_new w _ _)
    have HDR : Hid (∀ W, Below w.heap.size w W → ByteRow W (some ⟨b, off, none⟩) 0 0 (fun i => bs (18 + i))) := fun W hW => ⟨Nat.le_refl _, fun h => absurd h (by omega)⟩
    clear hb4 HWR HD
    by_cases hE : E = 0
    · have HFIN : Hid (∀ w', Below w.heap.size w w' → ParseOut n bs (.returned (.tuple #[.agg (frA fd fs true (X14 / 32) (X14 / 16 % 2 == 1) (X14 % 16 * 256 + X15) fy (some ⟨b, off, none⟩) 0 0), .int .i64 0])) w') := fun w' hw' => HPR.out w' (some ⟨b, off, none⟩) 0 0 HNZ.out hE (fun e => by cases e) (HDR.out w' hw')
      subst hE
      go_wp2_with (first | (refine wpList_load_row rfl 25 _ rfl (w.heap.size + 1) rfl 25 (frA fd fs true (X14 / 32) (X14 / 16 % 2 == 1) (X14 % 16 * 256 + X15) fy (some ⟨b, off, none⟩) 0 0) (0, 0) _ ?_ Try.underlying25 rfl (by rw [sizeFr]; rfl) ?_; exact HG4.out) | (refine wpList_store_row rfl 25 _ _ rfl w.heap.size (frA fd fs true (X14 / 32) (X14 / 16 % 2 == 1) (X14 % 16 * 256 + X15) fy (some ⟨b, off, none⟩) 0 0) rfl rfl 25 (frA 0 0 false 0 false 0 0 none 0 0) ?_ (by rw [sizeFr]; rfl) rfl (frA_all _ _ _ _ _ _ _ _ _ _) ?_; exact HA4.out))
      exact bodyPost_ret (v := .tuple #[.agg (frA fd fs true (X14 / 32) (X14 / 16 % 2 == 1) (X14 % 16 * 256 + X15) fy (some ⟨b, off, none⟩) 0 0), .int .i64 0]) (results_row_tmp (p := 2) (u := 3) (ty := 25) Try.results12 _ _ w.heap.size 25 (frA fd fs true (X14 / 32) (X14 / 16 % 2 == 1) (X14 % 16 * 256 + X15) fy (some ⟨b, off, none⟩) 0 0) (0, 0) _ rfl (setRow_heap _ _ _ _ _ _ HA4.out) Try.underlying25 rfl (by rw [sizeFr]; rfl)) rfl ⟨HFIN.out _ (below_setRow HB4.out (Nat.le_refl _) _), below_setRow HB4.out (Nat.le_refl _) _⟩
    · have hE1 : (E != 0) = true := by simp [hE]
      have HFIN : Hid (∀ w', ParseOut n bs (.returned (.tuple #[.agg (frA 0 0 false 0 false 0 0 none 0 0), .int .i64 E])) w') := fun w' => HPW.out w' hE
      go_wp2_with (refine wpList_store_row rfl 25 _ _ rfl w.heap.size (frA 0 0 false 0 false 0 0 none 0 0) rfl rfl 25 (frA 0 0 false 0 false 0 0 none 0 0) ?_ (by rw [sizeFr]; rfl) rfl (frA_all _ _ _ _ _ _ _ _ _ _) ?_; exact HA4.out)
      exact bodyPost_ret (v := .tuple #[.agg (frA 0 0 false 0 false 0 0 none 0 0), .int .i64 E]) (results_row_tmp (p := 2) (u := 3) (ty := 25) Try.results12 _ _ w.heap.size 25 (frA 0 0 false 0 false 0 0 none 0 0) (0, 0) _ rfl (setRow_heap _ _ _ _ _ _ HA4.out) Try.underlying25 rfl (by rw [sizeFr]; rfl)) rfl ⟨HFIN.out _, below_setRow HB4.out (Nat.le_refl _) _⟩
  · have hcz2 : 18 < c := by omega
    go_enter Try.func12, Try.ntmps12
    go_wp2_with (first | (go_at_call 23; (with_reducible refine (HA0.out _ (by first | exact below_alloc1 w _ | exact below_alloc2 w _ _)).mono ?_); rintro e w1 ⟨rfl, rfl⟩) | (go_at_call 23; (with_reducible refine (HA6.out _ (by first | exact below_alloc1 w _ | exact below_alloc2 w _ _)).mono ?_); rintro e w1 ⟨rfl, rfl⟩))
    go_region
    go_wp2_with (go_at_call 23; (with_reducible refine (HA16.out _ ((below_alloc2 w _ _).drew)).mono ?_); rintro e w1 ⟨rfl, rfl⟩)
    refine (HWR.out _ (some ⟨b, off + 18, none⟩) (n - 18) (c - 18) rfl).mono ?_
    rintro e w4 ⟨rfl, hb4⟩
    have HB4 : Hid (Below w.heap.size w w4) := (below_alloc2 w _ _).drew.trans (hb4.mono (by simp; omega))
    have HA4 : Hid (w4.heap[w.heap.size]? = some (.cells (frA 0 0 false 0 false 0 0 none 0 0) 25 (0, 0))) := (hb4.block _ (by simp; omega)).trans (heap_alloc2_old w _ _)
    have HG4 : Hid (w4.heap[w.heap.size + 1]? = some (.cells (frA fd fs true (X14 / 32) (X14 / 16 % 2 == 1) (X14 % 16 * 256 + X15) fy (some ⟨b, off + 18, none⟩) (n - 18) (c - 18)) 25 (0, 0))) := (hb4.block _ (by simp)).trans (heap_alloc2_new w _ _)
    have HDR : Hid (∀ W, Below w.heap.size w W → ByteRow W (some ⟨b, off + 18, none⟩) (n - 18) (c - 18) (fun i => bs (18 + i))) := fun W hW => HD.out W hW
    clear hb4 HWR HD
    by_cases hE : E = 0
    · have HFIN : Hid (∀ w', Below w.heap.size w w' → ParseOut n bs (.returned (.tuple #[.agg (frA fd fs true (X14 / 32) (X14 / 16 % 2 == 1) (X14 % 16 * 256 + X15) fy (some ⟨b, off + 18, none⟩) (n - 18) (c - 18)), .int .i64 0])) w') := fun w' hw' => HPR.out w' (some ⟨b, off + 18, none⟩) (n - 18) (c - 18) rfl hE (fun e => by cases e) (HDR.out w' hw')
      subst hE
      go_wp2_with (first | (refine wpList_load_row rfl 25 _ rfl (w.heap.size + 1) rfl 25 (frA fd fs true (X14 / 32) (X14 / 16 % 2 == 1) (X14 % 16 * 256 + X15) fy (some ⟨b, off + 18, none⟩) (n - 18) (c - 18)) (0, 0) _ ?_ Try.underlying25 rfl (by rw [sizeFr]; rfl) ?_; exact HG4.out) | (refine wpList_store_row rfl 25 _ _ rfl w.heap.size (frA fd fs true (X14 / 32) (X14 / 16 % 2 == 1) (X14 % 16 * 256 + X15) fy (some ⟨b, off + 18, none⟩) (n - 18) (c - 18)) rfl rfl 25 (frA 0 0 false 0 false 0 0 none 0 0) ?_ (by rw [sizeFr]; rfl) rfl (frA_all _ _ _ _ _ _ _ _ _ _) ?_; exact HA4.out))
      exact bodyPost_ret (v := .tuple #[.agg (frA fd fs true (X14 / 32) (X14 / 16 % 2 == 1) (X14 % 16 * 256 + X15) fy (some ⟨b, off + 18, none⟩) (n - 18) (c - 18)), .int .i64 0]) (results_row_tmp (p := 2) (u := 3) (ty := 25) Try.results12 _ _ w.heap.size 25 (frA fd fs true (X14 / 32) (X14 / 16 % 2 == 1) (X14 % 16 * 256 + X15) fy (some ⟨b, off + 18, none⟩) (n - 18) (c - 18)) (0, 0) _ rfl (setRow_heap _ _ _ _ _ _ HA4.out) Try.underlying25 rfl (by rw [sizeFr]; rfl)) rfl ⟨HFIN.out _ (below_setRow HB4.out (Nat.le_refl _) _), below_setRow HB4.out (Nat.le_refl _) _⟩
    · have hE1 : (E != 0) = true := by simp [hE]
      have HFIN : Hid (∀ w', ParseOut n bs (.returned (.tuple #[.agg (frA 0 0 false 0 false 0 0 none 0 0), .int .i64 E])) w') := fun w' => HPW.out w' hE
      go_wp2_with (refine wpList_store_row rfl 25 _ _ rfl w.heap.size (frA 0 0 false 0 false 0 0 none 0 0) rfl rfl 25 (frA 0 0 false 0 false 0 0 none 0 0) ?_ (by rw [sizeFr]; rfl) rfl (frA_all _ _ _ _ _ _ _ _ _ _) ?_; exact HA4.out)
      exact bodyPost_ret (v := .tuple #[.agg (frA 0 0 false 0 false 0 0 none 0 0), .int .i64 E]) (results_row_tmp (p := 2) (u := 3) (ty := 25) Try.results12 _ _ w.heap.size 25 (frA 0 0 false 0 false 0 0 none 0 0) (0, 0) _ rfl (setRow_heap _ _ _ _ _ _ HA4.out) Try.underlying25 rfl (by rw [sizeFr]; rfl)) rfl ⟨HFIN.out _, below_setRow HB4.out (Nat.le_refl _) _⟩
/-- The document's Parse answers as Parse does. -/
theorem rparse_any (ao : Option Addr) (n c : Nat) (bs : Nat → Int) (w : World) (hr : ByteRow w ao n c bs) (hbs : ∀ i, i < n → 0 ≤ bs i ∧ bs i ≤ 255) :
    Calls Try.prog 12 #[.slice ao n c] w fun e w' => ParseOut n bs e w' ∧ Below w.heap.size w w' := by
  by_cases hn : n < sizeF (pad n bs)
  · exact rparse_short ao n c bs w hr hbs hn
  · have h14 := sizeF_le (pad n bs)
    obtain ⟨b, off, rfl, _, _⟩ := hr.2 (by omega)
    by_cases ht : pT (pad n bs) 12 = 33024
    · refine rparse_tagged b off n c bs w hr hbs ?_ ht
      have : sizeF (pad n bs) = 18 := by
        rw [← head_size]
        unfold isTag
        rw [decide_eq_true ht]
        rfl
      omega
    · exact rparse_plain b off n c bs w hr hbs (by omega) ht
end Go.Proofs.Ytidlgfiggilchaa
