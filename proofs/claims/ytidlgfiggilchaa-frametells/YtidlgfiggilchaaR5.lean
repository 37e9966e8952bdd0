/- walks: the document's Parse, where there is no tag -/
import Derived.Test.YtidlgfiggilchaaR4
namespace Go.Proofs.Ytidlgfiggilchaa
open Go.RowKit

theorem rS_range {n : Nat} {bs : Nat → Int} (hbs : ∀ i, i < n → 0 ≤ bs i ∧ bs i ≤ 255) : 0 ≤ rS (pad n bs) := (num_range (fun i => pad n bs (6 + i)) (fun _ => pad_range hbs _) 6).1
/-- The document's At, at the places that Parse asks for. -/
theorem at_any (b off n c a S : Nat) (k : Int) (bs : Nat → Int) (w W : World) (hr : ByteRow w (some ⟨b, off, none⟩) n c bs) (hbs : ∀ i, i < n → 0 ≤ bs i ∧ bs i ≤ 255) (hn : a + S ≤ n) (hS : S ≤ 6) (hS0 : 0 < S) (ha : a ≤ 16) (hW : Below w.heap.size w W) (hk : num (fun i => pad n bs (a + i)) S = k) (A S' : Int) (hA : A = (a : Int)) (hS' : S' = (S : Int)) :
    Calls Try.prog 23 #[.slice (some ⟨b, off, none⟩) n c, .int .i64 A, .int .i64 S'] W fun e w' => e = .returned (.int .u64 k) ∧ w' = W := by
  subst hA hS'
  have h := at_core b off n c a S bs W (hr.below hW) hbs hn hS hS0 ha
  rw [num_congr (fun i => bs (a + i)) (fun i => pad n bs (a + i)) S (fun i hi => by unfold pad; rw [if_pos (by omega)]), hk] at h
  exact h
set_option maxHeartbeats 2000000 in
theorem rparse_plain (b off n c : Nat) (bs : Nat → Int) (w : World) (hr : ByteRow w (some ⟨b, off, none⟩) n c bs) (hbs : ∀ i, i < n → 0 ≤ bs i ∧ bs i ≤ 255) (h14 : 14 ≤ n) (ht : ¬ pT (pad n bs) 12 = 33024) :
    Calls Try.prog 12 #[.slice (some ⟨b, off, none⟩) n c] w fun e w' => ParseOut n bs e w' ∧ Below w.heap.size w w' := by
  have hcap : n ≤ c := hr.1
  obtain ⟨b1, off1, e1, hb, hc⟩ := hr.2 (by omega)
  cases e1
  have r12 := hbs 12 (by omega)
  have r13 := hbs 13 (by omega)
  have e12 : w.cell? ⟨b, off + 12, none⟩ = some (.int .u8 (bs 12)) := hc 12 (by omega)
  have e13 : w.cell? ⟨b, off + 13, none⟩ = some (.int .u8 (bs 13)) := hc 13 (by omega)
  have hpT : pT (pad n bs) 12 = bs 12 * 256 + bs 13 := by unfold pT pad; simp only [Nat.reduceAdd]; rw [if_pos (by omega), if_pos (by omega)]
  have hne : ¬ (bs 12 = 129 ∧ bs 13 = 0) := fun q => ht (by rw [hpT, q.1, q.2]; rfl)
  have htag : isTag (pad n bs) = false := decide_eq_false ht
  have hz : sizeF (pad n bs) = 14 := by
    rw [← head_size, htag]
    rfl
  have h5 : rP (pad n bs) = 0 ∧ rX (pad n bs) = false ∧ rV (pad n bs) = 0 ∧ rY (pad n bs) = pT (pad n bs) 12 := by
    unfold rP rX rV rY
    rw [htag]
    exact ⟨rfl, rfl, rfl, rfl⟩
  have hy0 : 0 ≤ pT (pad n bs) 12 ∧ pT (pad n bs) 12 ≤ 65535 := by rw [hpT]; omega
  have HA0 : Hid (∀ W, Below w.heap.size w W → Calls Try.prog 23 #[.slice (some ⟨b, off, none⟩) n c, .int .i64 0, .int .i64 6] W fun e w' => e = .returned (.int .u64 (rD (pad n bs))) ∧ w' = W) := fun W hW => at_any b off n c 0 6 _ bs w W hr hbs (by omega) (by omega) (by omega) (by omega) hW (num_congr _ _ 6 (fun i _ => by rw [Nat.zero_add])) 0 6 rfl rfl
  have HA6 : Hid (∀ W, Below w.heap.size w W → Calls Try.prog 23 #[.slice (some ⟨b, off, none⟩) n c, .int .i64 6, .int .i64 6] W fun e w' => e = .returned (.int .u64 (rS (pad n bs))) ∧ w' = W) := fun W hW => at_any b off n c 6 6 _ bs w W hr hbs (by omega) (by omega) (by omega) (by omega) hW rfl 6 6 rfl rfl
  have HA12 : Hid (∀ W, Below w.heap.size w W → Calls Try.prog 23 #[.slice (some ⟨b, off, none⟩) n c, .int .i64 12, .int .i64 2] W fun e w' => e = .returned (.int .u64 (pT (pad n bs) 12)) ∧ w' = W) := fun W hW => at_any b off n c 12 2 _ bs w W hr hbs (by omega) (by omega) (by omega) (by omega) hW (by simp [num, pT]) 12 2 rfl rfl
  have HWR : Hid (∀ (W : World) (a1 : Option Addr) (n1 c1 : Nat), n1 = n - 14 → Calls Try.prog 8 #[.agg #[.int .u64 (rD (pad n bs)), .int .u64 (rS (pad n bs)), .bool false, .int .i64 0, .bool false, .int .i64 0, .int .i64 (pT (pad n bs) 12), .slice a1 n1 c1]] W fun e w' => e = .returned (.int .i64 (wrongB n (pad n bs))) ∧ Below W.heap.size W w') := by
    intro W a1 n1 c1 hn1
    subst hn1
    have h := rwrong_any (rD (pad n bs)) (rS (pad n bs)) false 0 false 0 (pT (pad n bs) 12) a1 (n - 14) c1 W (rS_range hbs)
    have hE : wrongB n (pad n bs) = wrong (rD (pad n bs)) (rS (pad n bs)) false 0 0 (pT (pad n bs) 12) (n - 14) := by
      unfold wrongB
      rw [hz, htag, h5.1, h5.2.2.1, h5.2.2.2]
    rw [hE]
    exact h
  have HPW : Hid (∀ w', wrongB n (pad n bs) ≠ 0 → ParseOut n bs (.returned (.tuple #[.agg (frA 0 0 false 0 false 0 0 none 0 0), .int .i64 (wrongB n (pad n bs))])) w') := fun w' h => Or.inr (Or.inl ⟨by omega, h, rfl⟩)
  have HPR : Hid (∀ (w' : World) (a1 : Option Addr) (n1 c1 : Nat), n1 = n - 14 → wrongB n (pad n bs) = 0 → NilOk a1 n1 c1 → ByteRow w' a1 n1 c1 (fun i => bs (14 + i)) → ParseOut n bs (.returned (.tuple #[.agg (frA (rD (pad n bs)) (rS (pad n bs)) false 0 false 0 (pT (pad n bs) 12) a1 n1 c1), .int .i64 0])) w') := by
    intro w' a1 n1 c1 hn1 hE hnl hrow
    subst hn1
    refine Or.inr (Or.inr ⟨by omega, hE, a1, c1, ?_, ?_, ?_⟩)
    · rw [hz, htag, h5.1, h5.2.1, h5.2.2.1, h5.2.2.2]
    · rw [hz]; exact hrow
    · rw [hz]; exact hnl
  have HD : Hid (∀ (W : World), Below w.heap.size w W → ByteRow W (some ⟨b, off + 14, none⟩) (n - 14) (c - 14) (fun i => bs (14 + i))) := fun W hW => by
    refine ⟨by omega, fun hp => ⟨b, off + 14, rfl, Nat.lt_of_lt_of_le hb hW.size, fun i hi => ?_⟩⟩
    rw [Nat.add_assoc, hW.cell (by exact hb)]
    exact hc (14 + i) (by omega)
  clear hr hbs hc h5 hz htag ht hpT
  generalize wrongB n (pad n bs) = E at *
  generalize rD (pad n bs) = fd at *
  generalize rS (pad n bs) = fs at *
  generalize pT (pad n bs) 12 = fy at *
  generalize bs 12 = X12 at *
  generalize bs 13 = X13 at *
  have hyA : 0 ≤ fy := hy0.1
  have hyB : fy ≤ 65535 := hy0.2
  clear hy0
  have hn14 : ¬ (n : Int) < 14 := by omega
  by_cases q12 : X12 = 129
  · subst q12
    have q13 : (X13 == 0) = false := by simp; omega
    by_cases hcz : c = 14
    · have HNZ : Hid (0 = n - 14) := (show 0 = n - 14 by omega)
      subst hcz
      go_enter Try.func12, Try.ntmps12
      go_wp2_with (first | (go_at_call 23; (with_reducible refine (HA0.out _ (by first | exact below_alloc1 w _ | exact below_alloc2 w _ _)).mono ?_); rintro e w1 ⟨rfl, rfl⟩) | (go_at_call 23; (with_reducible refine (HA6.out _ (by first | exact below_alloc1 w _ | exact below_alloc2 w _ _)).mono ?_); rintro e w1 ⟨rfl, rfl⟩) | (go_at_call 23; (with_reducible refine (HA12.out _ (by first | exact below_alloc1 w _ | exact below_alloc2 w _ _)).mono ?_); rintro e w1 ⟨rfl, rfl⟩))
      refine (HWR.out _ (some ⟨b, off, none⟩) 0 0 HNZ.out).mono ?_
      rintro e w4 ⟨rfl, hb4⟩
      have HB4 : Hid (Below w.heap.size w w4) := (below_alloc2 w _ _).trans (hb4.mono (by simp; omega))
      have HA4 : Hid (w4.heap[w.heap.size]? = some (.cells (frA 0 0 false 0 false 0 0 none 0 0) 25 (0, 0))) := (hb4.block _ (by simp; omega)).trans (heap_alloc2_old w _ _)
      have HG4 : Hid (w4.heap[w.heap.size + 1]? = some (.cells (frA fd fs false 0 false 0 fy (some ⟨b, off, none⟩) 0 0) 25 (0, 0))) := (hb4.block _ (by simp)).trans (heap_alloc2_new w _ _)
      have HDR : Hid (∀ W, Below w.heap.size w W → ByteRow W (some ⟨b, off, none⟩) 0 0 (fun i => bs (14 + i))) := fun W hW => ⟨Nat.le_refl _, fun h => absurd h (by omega)⟩
      clear hb4 HWR HD
      by_cases hE : E = 0
      · have HFIN : Hid (∀ w', Below w.heap.size w w' → ParseOut n bs (.returned (.tuple #[.agg (frA fd fs false 0 false 0 fy (some ⟨b, off, none⟩) 0 0), .int .i64 0])) w') := fun w' hw' => HPR.out w' (some ⟨b, off, none⟩) 0 0 HNZ.out hE (fun e => by cases e) (HDR.out w' hw')
        subst hE
        go_wp2_with (first | (refine wpList_load_row rfl 25 _ rfl (w.heap.size + 1) rfl 25 (frA fd fs false 0 false 0 fy (some ⟨b, off, none⟩) 0 0) (0, 0) _ ?_ Try.underlying25 rfl (by rw [sizeFr]; rfl) ?_; exact HG4.out) | (refine wpList_store_row rfl 25 _ _ rfl w.heap.size (frA fd fs false 0 false 0 fy (some ⟨b, off, none⟩) 0 0) rfl rfl 25 (frA 0 0 false 0 false 0 0 none 0 0) ?_ (by rw [sizeFr]; rfl) rfl (frA_all _ _ _ _ _ _ _ _ _ _) ?_; exact HA4.out))
        exact bodyPost_ret (v := .tuple #[.agg (frA fd fs false 0 false 0 fy (some ⟨b, off, none⟩) 0 0), .int .i64 0]) (results_row_tmp (p := 2) (u := 3) (ty := 25) Try.results12 _ _ w.heap.size 25 (frA fd fs false 0 false 0 fy (some ⟨b, off, none⟩) 0 0) (0, 0) _ rfl (setRow_heap _ _ _ _ _ _ HA4.out) Try.underlying25 rfl (by rw [sizeFr]; rfl)) rfl ⟨HFIN.out _ (below_setRow HB4.out (Nat.le_refl _) _), below_setRow HB4.out (Nat.le_refl _) _⟩
      · have hE1 : (E != 0) = true := by simp [hE]
        have HFIN : Hid (∀ w', ParseOut n bs (.returned (.tuple #[.agg (frA 0 0 false 0 false 0 0 none 0 0), .int .i64 E])) w') := fun w' => HPW.out w' hE
        go_wp2_with (refine wpList_store_row rfl 25 _ _ rfl w.heap.size (frA 0 0 false 0 false 0 0 none 0 0) rfl rfl 25 (frA 0 0 false 0 false 0 0 none 0 0) ?_ (by rw [sizeFr]; rfl) rfl (frA_all _ _ _ _ _ _ _ _ _ _) ?_; exact HA4.out)
        exact bodyPost_ret (v := .tuple #[.agg (frA 0 0 false 0 false 0 0 none 0 0), .int .i64 E]) (results_row_tmp (p := 2) (u := 3) (ty := 25) Try.results12 _ _ w.heap.size 25 (frA 0 0 false 0 false 0 0 none 0 0) (0, 0) _ rfl (setRow_heap _ _ _ _ _ _ HA4.out) Try.underlying25 rfl (by rw [sizeFr]; rfl)) rfl ⟨HFIN.out _, below_setRow HB4.out (Nat.le_refl _) _⟩
    · have hcz2 : 14 < c := by omega
      go_enter Try.func12, Try.ntmps12
      go_wp2_with (first | (go_at_call 23; (with_reducible refine (HA0.out _ (by first | exact below_alloc1 w _ | exact below_alloc2 w _ _)).mono ?_); rintro e w1 ⟨rfl, rfl⟩) | (go_at_call 23; (with_reducible refine (HA6.out _ (by first | exact below_alloc1 w _ | exact below_alloc2 w _ _)).mono ?_); rintro e w1 ⟨rfl, rfl⟩) | (go_at_call 23; (with_reducible refine (HA12.out _ (by first | exact below_alloc1 w _ | exact below_alloc2 w _ _)).mono ?_); rintro e w1 ⟨rfl, rfl⟩))
      refine (HWR.out _ (some ⟨b, off + 14, none⟩) (n - 14) (c - 14) rfl).mono ?_
      rintro e w4 ⟨rfl, hb4⟩
      have HB4 : Hid (Below w.heap.size w w4) := (below_alloc2 w _ _).trans (hb4.mono (by simp; omega))
      have HA4 : Hid (w4.heap[w.heap.size]? = some (.cells (frA 0 0 false 0 false 0 0 none 0 0) 25 (0, 0))) := (hb4.block _ (by simp; omega)).trans (heap_alloc2_old w _ _)
      have HG4 : Hid (w4.heap[w.heap.size + 1]? = some (.cells (frA fd fs false 0 false 0 fy (some ⟨b, off + 14, none⟩) (n - 14) (c - 14)) 25 (0, 0))) := (hb4.block _ (by simp)).trans (heap_alloc2_new w _ _)
      have HDR : Hid (∀ W, Below w.heap.size w W → ByteRow W (some ⟨b, off + 14, none⟩) (n - 14) (c - 14) (fun i => bs (14 + i))) := fun W hW => HD.out W hW
      clear hb4 HWR HD
      by_cases hE : E = 0
      · have HFIN : Hid (∀ w', Below w.heap.size w w' → ParseOut n bs (.returned (.tuple #[.agg (frA fd fs false 0 false 0 fy (some ⟨b, off + 14, none⟩) (n - 14) (c - 14)), .int .i64 0])) w') := fun w' hw' => HPR.out w' (some ⟨b, off + 14, none⟩) (n - 14) (c - 14) rfl hE (fun e => by cases e) (HDR.out w' hw')
        subst hE
        go_wp2_with (first | (refine wpList_load_row rfl 25 _ rfl (w.heap.size + 1) rfl 25 (frA fd fs false 0 false 0 fy (some ⟨b, off + 14, none⟩) (n - 14) (c - 14)) (0, 0) _ ?_ Try.underlying25 rfl (by rw [sizeFr]; rfl) ?_; exact HG4.out) | (refine wpList_store_row rfl 25 _ _ rfl w.heap.size (frA fd fs false 0 false 0 fy (some ⟨b, off + 14, none⟩) (n - 14) (c - 14)) rfl rfl 25 (frA 0 0 false 0 false 0 0 none 0 0) ?_ (by rw [sizeFr]; rfl) rfl (frA_all _ _ _ _ _ _ _ _ _ _) ?_; exact HA4.out))
        exact bodyPost_ret (v := .tuple #[.agg (frA fd fs false 0 false 0 fy (some ⟨b, off + 14, none⟩) (n - 14) (c - 14)), .int .i64 0]) (results_row_tmp (p := 2) (u := 3) (ty := 25) Try.results12 _ _ w.heap.size 25 (frA fd fs false 0 false 0 fy (some ⟨b, off + 14, none⟩) (n - 14) (c - 14)) (0, 0) _ rfl (setRow_heap _ _ _ _ _ _ HA4.out) Try.underlying25 rfl (by rw [sizeFr]; rfl)) rfl ⟨HFIN.out _ (below_setRow HB4.out (Nat.le_refl _) _), below_setRow HB4.out (Nat.le_refl _) _⟩
      · have hE1 : (E != 0) = true := by simp [hE]
        have HFIN : Hid (∀ w', ParseOut n bs (.returned (.tuple #[.agg (frA 0 0 false 0 false 0 0 none 0 0), .int .i64 E])) w') := fun w' => HPW.out w' hE
        go_wp2_with (refine wpList_store_row rfl 25 _ _ rfl w.heap.size (frA 0 0 false 0 false 0 0 none 0 0) rfl rfl 25 (frA 0 0 false 0 false 0 0 none 0 0) ?_ (by rw [sizeFr]; rfl) rfl (frA_all _ _ _ _ _ _ _ _ _ _) ?_; exact HA4.out)
        exact bodyPost_ret (v := .tuple #[.agg (frA 0 0 false 0 false 0 0 none 0 0), .int .i64 E]) (results_row_tmp (p := 2) (u := 3) (ty := 25) Try.results12 _ _ w.heap.size 25 (frA 0 0 false 0 false 0 0 none 0 0) (0, 0) _ rfl (setRow_heap _ _ _ _ _ _ HA4.out) Try.underlying25 rfl (by rw [sizeFr]; rfl)) rfl ⟨HFIN.out _, below_setRow HB4.out (Nat.le_refl _) _⟩
  · have q13 : (X12 == 129) = false := by simp [q12]
    by_cases hcz : c = 14
    · have HNZ : Hid (0 = n - 14) := (show 0 = n - 14 by omega)
      subst hcz
      go_enter Try.func12, Try.ntmps12
      go_wp2_with (first | (go_at_call 23; (with_reducible refine (HA0.out _ (by first | exact below_alloc1 w _ | exact below_alloc2 w _ _)).mono ?_); rintro e w1 ⟨rfl, rfl⟩) | (go_at_call 23; (with_reducible refine (HA6.out _ (by first | exact below_alloc1 w _ | exact below_alloc2 w _ _)).mono ?_); rintro e w1 ⟨rfl, rfl⟩) | (go_at_call 23; (with_reducible refine (HA12.out _ (by first | exact below_alloc1 w _ | exact below_alloc2 w _ _)).mono ?_); rintro e w1 ⟨rfl, rfl⟩))
      refine (HWR.out _ (some ⟨b, off, none⟩) 0 0 HNZ.out).mono ?_
      rintro e w4 ⟨rfl, hb4⟩
      have HB4 : Hid (Below w.heap.size w w4) := (below_alloc2 w _ _).trans (hb4.mono (by simp; omega))
      have HA4 : Hid (w4.heap[w.heap.size]? = some (.cells (frA 0 0 false 0 false 0 0 none 0 0) 25 (0, 0))) := (hb4.block _ (by simp; omega)).trans (heap_alloc2_old w _ _)
      have HG4 : Hid (w4.heap[w.heap.size + 1]? = some (.cells (frA fd fs false 0 false 0 fy (some ⟨b, off, none⟩) 0 0) 25 (0, 0))) := (hb4.block _ (by simp)).trans (heap_alloc2_new w _ _)
      have HDR : Hid (∀ W, Below w.heap.size w W → ByteRow W (some ⟨b, off, none⟩) 0 0 (fun i => bs (14 + i))) := fun W hW => ⟨Nat.le_refl _, fun h => absurd h (by omega)⟩
      clear hb4 HWR HD
      by_cases hE : E = 0
      · have HFIN : Hid (∀ w', Below w.heap.size w w' → ParseOut n bs (.returned (.tuple #[.agg (frA fd fs false 0 false 0 fy (some ⟨b, off, none⟩) 0 0), .int .i64 0])) w') := fun w' hw' => HPR.out w' (some ⟨b, off, none⟩) 0 0 HNZ.out hE (fun e => by cases e) (HDR.out w' hw')
        subst hE
        go_wp2_with (first | (refine wpList_load_row rfl 25 _ rfl (w.heap.size + 1) rfl 25 (frA fd fs false 0 false 0 fy (some ⟨b, off, none⟩) 0 0) (0, 0) _ ?_ Try.underlying25 rfl (by rw [sizeFr]; rfl) ?_; exact HG4.out) | (refine wpList_store_row rfl 25 _ _ rfl w.heap.size (frA fd fs false 0 false 0 fy (some ⟨b, off, none⟩) 0 0) rfl rfl 25 (frA 0 0 false 0 false 0 0 none 0 0) ?_ (by rw [sizeFr]; rfl) rfl (frA_all _ _ _ _ _ _ _ _ _ _) ?_; exact HA4.out))
        exact bodyPost_ret (v := .tuple #[.agg (frA fd fs false 0 false 0 fy (some ⟨b, off, none⟩) 0 0), .int .i64 0]) (results_row_tmp (p := 2) (u := 3) (ty := 25) Try.results12 _ _ w.heap.size 25 (frA fd fs false 0 false 0 fy (some ⟨b, off, none⟩) 0 0) (0, 0) _ rfl (setRow_heap _ _ _ _ _ _ HA4.out) Try.underlying25 rfl (by rw [sizeFr]; rfl)) rfl ⟨HFIN.out _ (below_setRow HB4.out (Nat.le_refl _) _), below_setRow HB4.out (Nat.le_refl _) _⟩
      · have hE1 : (E != 0) = true := by simp [hE]
        have HFIN : Hid (∀ w', ParseOut n bs (.returned (.tuple #[.agg (frA 0 0 false 0 false 0 0 none 0 0), .int .i64 E])) w') := fun w' => HPW.out w' hE
        go_wp2_with (refine wpList_store_row rfl 25 _ _ rfl w.heap.size (frA 0 0 false 0 false 0 0 none 0 0) rfl rfl 25 (frA 0 0 false 0 false 0 0 none 0 0) ?_ (by rw [sizeFr]; rfl) rfl (frA_all _ _ _ _ _ _ _ _ _ _) ?_; exact HA4.out)
        exact bodyPost_ret (v := .tuple #[.agg (frA 0 0 false 0 false 0 0 none 0 0), .int .i64 E]) (results_row_tmp (p := 2) (u := 3) (ty := 25) Try.results12 _ _ w.heap.size 25 (frA 0 0 false 0 false 0 0 none 0 0) (0, 0) _ rfl (setRow_heap _ _ _ _ _ _ HA4.out) Try.underlying25 rfl (by rw [sizeFr]; rfl)) rfl ⟨HFIN.out _, below_setRow HB4.out (Nat.le_refl _) _⟩
    · have hcz2 : 14 < c := by omega
      go_enter Try.func12, Try.ntmps12
      go_wp2_with (first | (go_at_call 23; (with_reducible refine (HA0.out _ (by first | exact below_alloc1 w _ | exact below_alloc2 w _ _)).mono ?_); rintro e w1 ⟨rfl, rfl⟩) | (go_at_call 23; (with_reducible refine (HA6.out _ (by first | exact below_alloc1 w _ | exact below_alloc2 w _ _)).mono ?_); rintro e w1 ⟨rfl, rfl⟩) | (go_at_call 23; (with_reducible refine (HA12.out _ (by first | exact below_alloc1 w _ | exact below_alloc2 w _ _)).mono ?_); rintro e w1 ⟨rfl, rfl⟩))
      refine (HWR.out _ (some ⟨b, off + 14, none⟩) (n - 14) (c - 14) rfl).mono ?_
      rintro e w4 ⟨rfl, hb4⟩
      have HB4 : Hid (Below w.heap.size w w4) := (below_alloc2 w _ _).trans (hb4.mono (by simp; omega))
      have HA4 : Hid (w4.heap[w.heap.size]? = some (.cells (frA 0 0 false 0 false 0 0 none 0 0) 25 (0, 0))) := (hb4.block _ (by simp; omega)).trans (heap_alloc2_old w _ _)
      have HG4 : Hid (w4.heap[w.heap.size + 1]? = some (.cells (frA fd fs false 0 false 0 fy (some ⟨b, off + 14, none⟩) (n - 14) (c - 14)) 25 (0, 0))) := (hb4.block _ (by simp)).trans (heap_alloc2_new w _ _)
      have HDR : Hid (∀ W, Below w.heap.size w W → ByteRow W (some ⟨b, off + 14, none⟩) (n - 14) (c - 14) (fun i => bs (14 + i))) := fun W hW => HD.out W hW
      clear hb4 HWR HD
      by_cases hE : E = 0
      · have HFIN : Hid (∀ w', Below w.heap.size w w' → ParseOut n bs (.returned (.tuple #[.agg (frA fd fs false 0 false 0 fy (some ⟨b, off + 14, none⟩) (n - 14) (c - 14)), .int .i64 0])) w') := fun w' hw' => HPR.out w' (some ⟨b, off + 14, none⟩) (n - 14) (c - 14) rfl hE (fun e => by cases e) (HDR.out w' hw')
        subst hE
        go_wp2_with (first | (refine wpList_load_row rfl 25 _ rfl (w.heap.size + 1) rfl 25 (frA fd fs false 0 false 0 fy (some ⟨b, off + 14, none⟩) (n - 14) (c - 14)) (0, 0) _ ?_ Try.underlying25 rfl (by rw [sizeFr]; rfl) ?_; exact HG4.out) | (refine wpList_store_row rfl 25 _ _ rfl w.heap.size (frA fd fs false 0 false 0 fy (some ⟨b, off + 14, none⟩) (n - 14) (c - 14)) rfl rfl 25 (frA 0 0 false 0 false 0 0 none 0 0) ?_ (by rw [sizeFr]; rfl) rfl (frA_all _ _ _ _ _ _ _ _ _ _) ?_; exact HA4.out))
        exact bodyPost_ret (v := .tuple #[.agg (frA fd fs false 0 false 0 fy (some ⟨b, off + 14, none⟩) (n - 14) (c - 14)), .int .i64 0]) (results_row_tmp (p := 2) (u := 3) (ty := 25) Try.results12 _ _ w.heap.size 25 (frA fd fs false 0 false 0 fy (some ⟨b, off + 14, none⟩) (n - 14) (c - 14)) (0, 0) _ rfl (setRow_heap _ _ _ _ _ _ HA4.out) Try.underlying25 rfl (by rw [sizeFr]; rfl)) rfl ⟨HFIN.out _ (below_setRow HB4.out (Nat.le_refl _) _), below_setRow HB4.out (Nat.le_refl _) _⟩
      · have hE1 : (E != 0) = true := by simp [hE]
        have HFIN : Hid (∀ w', ParseOut n bs (.returned (.tuple #[.agg (frA 0 0 false 0 false 0 0 none 0 0), .int .i64 E])) w') := fun w' => HPW.out w' hE
        go_wp2_with (refine wpList_store_row rfl 25 _ _ rfl w.heap.size (frA 0 0 false 0 false 0 0 none 0 0) rfl rfl 25 (frA 0 0 false 0 false 0 0 none 0 0) ?_ (by rw [sizeFr]; rfl) rfl (frA_all _ _ _ _ _ _ _ _ _ _) ?_; exact HA4.out)
        exact bodyPost_ret (v := .tuple #[.agg (frA 0 0 false 0 false 0 0 none 0 0), .int .i64 E]) (results_row_tmp (p := 2) (u := 3) (ty := 25) Try.results12 _ _ w.heap.size 25 (frA 0 0 false 0 false 0 0 none 0 0) (0, 0) _ rfl (setRow_heap _ _ _ _ _ _ HA4.out) Try.underlying25 rfl (by rw [sizeFr]; rfl)) rfl ⟨HFIN.out _, below_setRow HB4.out (Nat.le_refl _) _⟩
end Go.Proofs.Ytidlgfiggilchaa
