/- walks: frameOf -/
import Derived.Test.YtidlgfiggilchaaW3
namespace Go.Proofs.Ytidlgfiggilchaa
open Go.RowKit

theorem and12 (T : Int) (h0 : 0 ≤ T) (h1 : T ≤ 65535) : bits BinOp.and IntKind.i64 T 4096 = T / 4096 % 2 * 4096 := by
  obtain ⟨a, rfl⟩ := Int.eq_ofNat_of_zero_le h0
  have h := (bits_nat .i64 62 (by decide) wraps_i64 a 4096 (by omega) (by omega)).1
  rw [show ((4096 : Nat) : Int) = 4096 from rfl] at h
  rw [h]
  have h2 : a &&& 2 ^ 12 = a / 2 ^ 12 % 2 ^ 1 * 2 ^ 12 := by
    apply Nat.eq_of_testBit_eq
    intro i
    rw [Nat.testBit_and, Nat.testBit_two_pow, Nat.testBit_mul_two_pow, Nat.testBit_mod_two_pow, Nat.testBit_div_two_pow]
    by_cases e : 12 = i
    · subst e; simp
    · by_cases e2 : 12 ≤ i
      · simp [e, show ¬ (i - 12 < 1) by omega]
      · simp [e, e2]
  rw [show (2 : Nat) ^ 12 = 4096 from rfl] at h2
  rw [h2]
  omega
theorem and4095 (T : Int) (h0 : 0 ≤ T) (h1 : T ≤ 65535) : bits BinOp.and IntKind.i64 T 4095 = T % 4096 :=
  bits_mask .i64 62 (by decide) wraps_i64 12 (by decide) T h0 (by omega)
/-- The fields of the frame of which f is the bytes. -/
def pT (f : Nat → Int) (i : Nat) : Int := f i * 256 + f (i + 1)
def isTag (f : Nat → Int) : Bool := decide (pT f 12 = 33024)
def rD (f : Nat → Int) : Int := num f 6
def rS (f : Nat → Int) : Int := num (fun i => f (6 + i)) 6
def rP (f : Nat → Int) : Int := if isTag f = true then pT f 14 / 8192 else 0
def rX (f : Nat → Int) : Bool := if isTag f = true then decide (pT f 14 / 4096 % 2 = 1) else false
def rV (f : Nat → Int) : Int := if isTag f = true then pT f 14 % 4096 else 0
def rY (f : Nat → Int) : Int := if isTag f = true then pT f 16 else pT f 12
theorem frA_all (d s : Int) (t : Bool) (p : Int) (dr : Bool) (v y : Int) (ao : Option Addr) (n c : Nat) : (frA d s t p dr v y ao n c).all (·.oneCell') = true := by
  rw [Array.all_eq_true_iff_forall_mem]
  intro v hv
  simp [frA] at hv
  rcases hv with rfl | rfl | rfl | rfl | rfl | rfl | rfl | rfl <;> rfl
/-- Behind frameOf's first steps: the head, the answer's place, and the frame. -/
def FrW (w wx : World) (f : Nat → Int) (fr : Array Value) : Prop :=
  wx.heap[w.heap.size]? = some (.cells (rowF 18 f) 41 (0, 0)) ∧ wx.heap[w.heap.size + 1]? = some (.cells (frA 0 0 false 0 false 0 0 none 0 0) 25 (0, 0)) ∧ wx.heap[w.heap.size + 1 + 1]? = some (.cells fr 25 (0, 0)) ∧ Below w.heap.size w wx
theorem FrW.lt {w wx : World} {f : Nat → Int} {fr : Array Value} (h : FrW w wx f fr) : w.heap.size + 2 < wx.heap.size := by
  rcases Nat.lt_or_ge (w.heap.size + 2) wx.heap.size with e | e
  · exact e
  · have := h.2.2.1
    rw [Array.getElem?_eq_none e] at this
    cases this
theorem FrW.grow {w wx w1 : World} {f : Nat → Int} {fr : Array Value} (h : FrW w wx f fr) (h3 : Below wx.heap.size wx w1) : FrW w w1 f fr := by
  have := h.lt
  exact ⟨(h3.block _ (by omega)).trans h.1, (h3.block _ (by omega)).trans h.2.1, (h3.block _ (by omega)).trans h.2.2.1, h.2.2.2.trans (h3.mono (by omega))⟩
theorem FrW.set {w wx : World} {f : Nat → Int} {fr : Array Value} (h : FrW w wx f fr) (k : Nat) (v : Value) : FrW w (wx.setCell ⟨w.heap.size + 1 + 1, k, none⟩ v) f (fr.setIfInBounds k v) := by
  refine ⟨?_, ?_, ?_, h.2.2.2.setCell (by show _ ≤ w.heap.size + 1 + 1; omega) _⟩
  · rw [heap_setCell_other _ _ _ _ (by show _ ≠ w.heap.size + 1 + 1; omega)]; exact h.1
  · rw [heap_setCell_other _ _ _ _ (by show _ ≠ w.heap.size + 1 + 1; omega)]; exact h.2.1
  · rw [heap_setCell_same _ _ _ _ _ _ h.2.2.1]
theorem FrW.drew {w wx : World} {f : Nat → Int} {fr : Array Value} (h : FrW w wx f fr) : FrW w wx.drew f fr := ⟨h.1, h.2.1, h.2.2.1, h.2.2.2.drew⟩
set_option maxHeartbeats 4000000 in
theorem frameOf_any (f : Nat → Int) (w : World) (hf : ∀ i, i < 18 → 0 ≤ f i ∧ f i ≤ 255) :
    Calls Try.prog 21 #[.agg (rowF 18 f)] w fun e w' => e = .returned (.agg #[.int .u64 (rD f), .int .u64 (rS f), .bool (isTag f), .int .i64 (rP f), .bool (rX f), .int .i64 (rV f), .int .i64 (rY f), .slice none 0 0]) ∧ Below w.heap.size w w' := by
  have HF : Hid (∀ i, i < 18 → 0 ≤ f i ∧ f i ≤ 255) := hf
  clear hf
  obtain ⟨W0, HW⟩ : ∃ W0, Hid (W0 = (w.alloc (.cells (rowF 18 f) 41)).alloc (.cells #[.int .u64 0, .int .u64 0, .bool false, .int .i64 0, .bool false, .int .i64 0, .int .i64 0, .slice none 0 0] 25)) := ⟨_, rfl⟩
  have HA : Hid (W0.heap[w.heap.size]? = some (.cells (rowF 18 f) 41 (0, 0))) := by rw [HW.out]; exact heap_alloc2_old _ _ _
  have HB : Hid (W0.heap[w.heap.size + 1]? = some (.cells (frA 0 0 false 0 false 0 0 none 0 0) 25 (0, 0))) := by rw [HW.out]; exact heap_alloc2_new _ _ _
  have hsz : W0.heap.size = w.heap.size + 1 + 1 := by rw [HW.out]; simp
  have HBL : Hid (Below w.heap.size w W0) := by rw [HW.out]; exact ((Below.refl _ w).alloc (Nat.le_refl _) _).alloc (by simp) _
  have HN1 : Hid (∀ W : World, W.heap[w.heap.size]? = some (.cells (rowF 18 f) 41 (0, 0)) → Calls Try.prog 29 #[.slice (some ⟨w.heap.size, 0, none⟩) 6 18] W fun e w' => e = .returned (.int .u64 (rD f)) ∧ w' = W) := fun W h =>
    number_any _ 6 18 f W ((ByteRow.of_row (off := 0) (n := 6) h (by omega) (by omega)).congr (fun i _ => by rw [Nat.zero_add])) (fun i hi => HF.out _ (by omega)) (by omega)
  have HN2 : Hid (∀ W : World, W.heap[w.heap.size]? = some (.cells (rowF 18 f) 41 (0, 0)) → Calls Try.prog 29 #[.slice (some ⟨w.heap.size, 6, none⟩) 6 12] W fun e w' => e = .returned (.int .u64 (rS f)) ∧ w' = W) := fun W h =>
    number_any _ 6 12 (fun i => f (6 + i)) W (ByteRow.of_row h (by omega) (by omega)) (fun i hi => HF.out _ (by omega)) (by omega)
  have HO : Hid (∀ o, (W0.alloc o).drew.heap[w.heap.size]? = some (.cells (rowF 18 f) 41 (0, 0))) := fun o => (Below.heap_alloc W0 o _ (show w.heap.size < W0.heap.size by omega)).trans HA.out
  have HA2 : Hid (W0.drew.heap[w.heap.size]? = some (.cells (rowF 18 f) 41 (0, 0))) := HA.out
  have HFIN : Hid (FrW w (W0.alloc (.cells #[.int .u64 (rD f), .int .u64 (rS f), .bool false, .int .i64 0, .bool false, .int .i64 0, .int .i64 0, .slice none 0 0] 25)).drew f (frA (rD f) (rS f) false 0 false 0 0 none 0 0)) := by
    refine ⟨HO.out _, (Below.heap_alloc W0 _ _ (show w.heap.size + 1 < W0.heap.size by omega)).trans HB.out, ?_, (HBL.out.alloc (by omega) _).drew⟩
    have := heap_alloc_last W0 (.cells #[.int .u64 (rD f), .int .u64 (rS f), .bool false, .int .i64 0, .bool false, .int .i64 0, .int .i64 0, .slice none 0 0] 25)
    rw [hsz] at this
    exact this
  go_enter Try.func21, Try.ntmps21
  go_wp2_with fail
  rw [← HW.out]
  clear HW
  go_cut [3] (fun s3 wx => s3 = .pointer (some ⟨w.heap.size + 1 + 1, 0, none⟩) ∧ Hid (FrW w wx f (frA (rD f) (rS f) false 0 false 0 0 none 0 0)))
  case first =>
    go_region_with (first | (go_at_call 29; with_reducible refine (HN1.out _ (by first | with_reducible exact HA2.out | with_reducible exact HO.out _)).mono ?_; rintro e w1 ⟨rfl, rfl⟩) | (go_at_call 29; with_reducible refine (HN2.out _ (by first | with_reducible exact HA2.out | with_reducible exact HO.out _)).mono ?_; rintro e w1 ⟨rfl, rfl⟩))
    all_goals go_wp2_with fail
    all_goals go_meet
    all_goals exact ⟨rfl, HFIN.out⟩
  case rest =>
  obtain ⟨rfl, H1⟩ := hcut
  clear HFIN HN1 HN2 HO HA2 HA HB HBL hsz
  have r12 : 0 ≤ pT f 12 ∧ pT f 12 ≤ 65535 := by have := HF.out 12 (by omega); have := HF.out 13 (by omega); unfold pT; simp only [Nat.reduceAdd]; omega
  have r14 : 0 ≤ pT f 14 ∧ pT f 14 ≤ 65535 := by have := HF.out 14 (by omega); have := HF.out 15 (by omega); unfold pT; simp only [Nat.reduceAdd]; omega
  have r16 : 0 ≤ pT f 16 ∧ pT f 16 ≤ 65535 := by have := HF.out 16 (by omega); have := HF.out 17 (by omega); unfold pT; simp only [Nat.reduceAdd]; omega
  have HP : Hid (∀ (k : Nat) (a : Int) (W : World), a = (k : Int) → k = 12 ∨ k = 14 ∨ k = 16 → Calls Try.prog 28 #[.agg (rowF 18 f), .int .i64 a] W fun e w' => e = .returned (.int .i64 (pT f k)) ∧ Below W.heap.size W w') := fun k a W ha hk => pairAt_any k a f W HF.out ha hk
  by_cases ht : isTag f = true
  · have HS : Hid (∀ W : World, Calls Try.prog 20 #[.agg (rowF 18 f)] W fun e w' => e = .returned (.int .i64 18) ∧ Below W.heap.size W w') := by
      have h : sizeF f = 18 := by have := of_decide_eq_true ht; unfold sizeF; unfold pT at this; rw [if_pos this]
      intro W
      have := sizeOf_any f W HF.out
      rw [h] at this
      exact this
    have q1 := and12 (pT f 14) r14.1 r14.2
    have q2 := and4095 (pT f 14) r14.1 r14.2
    have HE : Hid (#[Value.int .u64 (rD f), .int .u64 (rS f), .bool (isTag f), .int .i64 (rP f), .bool (rX f), .int .i64 (rV f), .int .i64 (rY f), .slice none 0 0] = frA (rD f) (rS f) true (pT f 14 / 8192) (pT f 14 / 4096 % 2 * 4096 != 0) (pT f 14 % 4096) (pT f 16) none 0 0) := by
      have e1 : rP f = pT f 14 / 8192 := if_pos ht
      have e2 : rX f = decide (pT f 14 / 4096 % 2 = 1) := if_pos ht
      have e3 : rV f = pT f 14 % 4096 := if_pos ht
      have e4 : rY f = pT f 16 := if_pos ht
      have e6 : (pT f 14 / 4096 % 2 * 4096 != 0) = decide (pT f 14 / 4096 % 2 = 1) := by
        by_cases c : pT f 14 / 4096 % 2 = 1
        · simp [c]
        · have : pT f 14 / 4096 % 2 = 0 := by omega
          simp [this]
      rw [e1, e2, e3, e4, ht, e6]
      rfl
    clear ht
    go_wp2_with (first | (refine wpList_load_row rfl 41 _ rfl w.heap.size rfl 41 (rowF 18 f) (0, 0) _ ?_ Try.underlying41 rfl (by rw [sizeH, rowF_size]) ?_; exact H1.out.1) | (go_at_call 20; refine (HS.out _).mono ?_; rintro e w1 ⟨rfl, hb⟩; have H2 : Hid (FrW w w1 f (frA (rD f) (rS f) false 0 false 0 0 none 0 0)) := H1.out.grow hb; clear hb H1) | (refine wpList_load_row rfl 41 _ rfl w.heap.size rfl 41 (rowF 18 f) (0, 0) _ ?_ Try.underlying41 rfl (by rw [sizeH, rowF_size]) ?_; exact H2.out.1))
    refine (HP.out 14 14 _ rfl (by omega)).mono ?_
    rintro e w2 ⟨rfl, hb⟩
    have H3 : Hid (FrW w w2 f (frA (rD f) (rS f) false 0 false 0 0 none 0 0)) := H2.out.grow hb
    clear hb H2
    obtain ⟨c0, c1, c2, c3, c4, c5, c6, c7⟩ := fr_cells H3.out.2.2.1
    obtain ⟨g0, g1, g2, g3, g4, g5, g6, g7⟩ := fr_free H3.out.2.2.1
    have H4 : Hid (FrW w ((((w2.setCell ⟨w.heap.size + 1 + 1, 2, none⟩ (.bool true)).setCell ⟨w.heap.size + 1 + 1, 3, none⟩ (.int .i64 (pT f 14 / 8192))).setCell ⟨w.heap.size + 1 + 1, 4, none⟩ (.bool (pT f 14 / 4096 % 2 * 4096 != 0))).setCell ⟨w.heap.size + 1 + 1, 5, none⟩ (.int .i64 (pT f 14 % 4096))) f (frA (rD f) (rS f) true (pT f 14 / 8192) (pT f 14 / 4096 % 2 * 4096 != 0) (pT f 14 % 4096) 0 none 0 0)) := (((H3.out.set 2 _).set 3 _).set 4 _).set 5 _
    go_wp2_with ((refine wpList_load_row rfl 41 _ rfl w.heap.size rfl 41 (rowF 18 f) (0, 0) _ ?_ Try.underlying41 rfl (by rw [sizeH, rowF_size]) ?_; exact H4.out.1))
    refine (HP.out 16 16 _ rfl (by omega)).mono ?_
    rintro e w3 ⟨rfl, hb⟩
    have H5 : Hid (FrW w w3 f (frA (rD f) (rS f) true (pT f 14 / 8192) (pT f 14 / 4096 % 2 * 4096 != 0) (pT f 14 % 4096) 0 none 0 0)) := H4.out.grow hb
    clear hb H4 H3 c0 c1 c2 c3 c4 c5 c6 c7 g0 g1 g2 g3 g4 g5 g6 g7
    obtain ⟨c0, c1, c2, c3, c4, c5, c6, c7⟩ := fr_cells H5.out.2.2.1
    obtain ⟨g0, g1, g2, g3, g4, g5, g6, g7⟩ := fr_free H5.out.2.2.1
    have H6 : Hid (FrW w (w3.setCell ⟨w.heap.size + 1 + 1, 6, none⟩ (.int .i64 (pT f 16))) f (frA (rD f) (rS f) true (pT f 14 / 8192) (pT f 14 / 4096 % 2 * 4096 != 0) (pT f 14 % 4096) (pT f 16) none 0 0)) := H5.out.set 6 _
    go_wp2_with (first | (refine wpList_load_row rfl 25 _ rfl (w.heap.size + 1 + 1) rfl 25 (frA (rD f) (rS f) true (pT f 14 / 8192) (pT f 14 / 4096 % 2 * 4096 != 0) (pT f 14 % 4096) (pT f 16) none 0 0) (0, 0) _ ?_ Try.underlying25 rfl (by rw [sizeFr]; rfl) ?_; exact H6.out.2.2.1) | (refine wpList_store_row rfl 25 _ _ rfl (w.heap.size + 1) (frA (rD f) (rS f) true (pT f 14 / 8192) (pT f 14 / 4096 % 2 * 4096 != 0) (pT f 14 % 4096) (pT f 16) none 0 0) rfl rfl 25 (frA 0 0 false 0 false 0 0 none 0 0) ?_ (by rw [sizeFr]; rfl) rfl (frA_all _ _ _ _ _ _ _ _ _ _) ?_; exact H6.out.2.1))
    exact bodyPost_ret (v := .agg (frA (rD f) (rS f) true (pT f 14 / 8192) (pT f 14 / 4096 % 2 * 4096 != 0) (pT f 14 % 4096) (pT f 16) none 0 0)) (results_cell_row (p := 2) (ty := 25) rfl _ _ (w.heap.size + 1) 25 _ (0, 0) _ rfl (setRow_heap _ _ _ _ _ _ H6.out.2.1) Try.underlying25 rfl (by rw [sizeFr]; rfl)) rfl ⟨by rw [HE.out], below_setRow H6.out.2.2.2 (by omega) _⟩
  · have hn : isTag f = false := by cases h : isTag f; rfl; exact absurd h ht
    have HS : Hid (∀ W : World, Calls Try.prog 20 #[.agg (rowF 18 f)] W fun e w' => e = .returned (.int .i64 14) ∧ Below W.heap.size W w') := by
      have h : sizeF f = 14 := by have := of_decide_eq_false hn; unfold sizeF; unfold pT at this; rw [if_neg this]
      intro W
      have := sizeOf_any f W HF.out
      rw [h] at this
      exact this
    have HE : Hid (#[Value.int .u64 (rD f), .int .u64 (rS f), .bool (isTag f), .int .i64 (rP f), .bool (rX f), .int .i64 (rV f), .int .i64 (rY f), .slice none 0 0] = frA (rD f) (rS f) false 0 false 0 (pT f 12) none 0 0) := by
      have e1 : rP f = 0 := if_neg ht
      have e2 : rX f = false := if_neg ht
      have e3 : rV f = 0 := if_neg ht
      have e4 : rY f = pT f 12 := if_neg ht
      rw [e1, e2, e3, e4, hn]
      rfl
    clear ht hn
    go_wp2_with (first | (refine wpList_load_row rfl 41 _ rfl w.heap.size rfl 41 (rowF 18 f) (0, 0) _ ?_ Try.underlying41 rfl (by rw [sizeH, rowF_size]) ?_; exact H1.out.1) | (go_at_call 20; refine (HS.out _).mono ?_; rintro e w1 ⟨rfl, hb⟩; have H2 : Hid (FrW w w1 f (frA (rD f) (rS f) false 0 false 0 0 none 0 0)) := H1.out.grow hb; clear hb H1) | (refine wpList_load_row rfl 41 _ rfl w.heap.size rfl 41 (rowF 18 f) (0, 0) _ ?_ Try.underlying41 rfl (by rw [sizeH, rowF_size]) ?_; exact H2.out.1))
    refine (HP.out 12 12 _ rfl (by omega)).mono ?_
    rintro e w2 ⟨rfl, hb⟩
    have H5 : Hid (FrW w w2 f (frA (rD f) (rS f) false 0 false 0 0 none 0 0)) := H2.out.grow hb
    clear hb H2
    obtain ⟨c0, c1, c2, c3, c4, c5, c6, c7⟩ := fr_cells H5.out.2.2.1
    obtain ⟨g0, g1, g2, g3, g4, g5, g6, g7⟩ := fr_free H5.out.2.2.1
    have H6 : Hid (FrW w (w2.setCell ⟨w.heap.size + 1 + 1, 6, none⟩ (.int .i64 (pT f 12))) f (frA (rD f) (rS f) false 0 false 0 (pT f 12) none 0 0)) := H5.out.set 6 _
    go_wp2_with (first | (refine wpList_load_row rfl 25 _ rfl (w.heap.size + 1 + 1) rfl 25 (frA (rD f) (rS f) false 0 false 0 (pT f 12) none 0 0) (0, 0) _ ?_ Try.underlying25 rfl (by rw [sizeFr]; rfl) ?_; exact H6.out.2.2.1) | (refine wpList_store_row rfl 25 _ _ rfl (w.heap.size + 1) (frA (rD f) (rS f) false 0 false 0 (pT f 12) none 0 0) rfl rfl 25 (frA 0 0 false 0 false 0 0 none 0 0) ?_ (by rw [sizeFr]; rfl) rfl (frA_all _ _ _ _ _ _ _ _ _ _) ?_; exact H6.out.2.1))
    exact bodyPost_ret (v := .agg (frA (rD f) (rS f) false 0 false 0 (pT f 12) none 0 0)) (results_cell_row (p := 2) (ty := 25) rfl _ _ (w.heap.size + 1) 25 _ (0, 0) _ rfl (setRow_heap _ _ _ _ _ _ H6.out.2.1) Try.underlying25 rfl (by rw [sizeFr]; rfl)) rfl ⟨by rw [HE.out], below_setRow H6.out.2.2.2 (by omega) _⟩
end Go.Proofs.Ytidlgfiggilchaa
