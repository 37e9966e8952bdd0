/- walks: Parse -/
import Derived.Test.YtidlgfiggilchaaW5
namespace Go.Proofs.Ytidlgfiggilchaa
open Go.RowKit

/-- The first bytes, with noughts behind. -/
def pad (n : Nat) (bs : Nat → Int) (i : Nat) : Int := if i < n then bs i else 0
theorem splice18 {w1 : World} {g n m : Nat} {bs : Nat → Int} (h : Hid (w1.heap[g]? = some (.cells (splice (bytesL 18 (fun _ => 0)) 0 (bytesL m bs)).toArray 41 (0, 0)))) (hm : m = Nat.min n 18) :
    Hid (w1.heap[g]? = some (.cells (rowF 18 (pad n bs)) 41 (0, 0))) := by
  have h' := h.out
  have hm : m = min n 18 := hm
  rw [splice_row 18 m bs (by omega), rowF_congr 18 _ (pad n bs) (fun i hi => by
    unfold pad
    by_cases e : i < n
    · rw [if_pos e, if_pos (by omega)]
    · rw [if_neg e, if_neg (by omega)])] at h'
  exact h'
theorem zeros18L : (#[.int .u8 0, .int .u8 0, .int .u8 0, .int .u8 0, .int .u8 0, .int .u8 0, .int .u8 0, .int .u8 0, .int .u8 0, .int .u8 0, .int .u8 0, .int .u8 0, .int .u8 0, .int .u8 0, .int .u8 0, .int .u8 0, .int .u8 0, .int .u8 0] : Array Value) = (bytesL 18 (fun _ => 0)).toArray := rfl
theorem pad_range {n : Nat} {bs : Nat → Int} (h : ∀ i, i < n → 0 ≤ bs i ∧ bs i ≤ 255) (i : Nat) : 0 ≤ pad n bs i ∧ pad n bs i ≤ 255 := by
  unfold pad
  by_cases e : i < n
  · rw [if_pos e]; exact h i e
  · rw [if_neg e]; omega
theorem sizeF_le (f : Nat → Int) : sizeF f = 14 ∨ sizeF f = 18 := by unfold sizeF; split <;> simp
/-- What is wrong with the frame of n bytes. -/
def wrongB (n : Nat) (f : Nat → Int) : Int := wrong (rD f) (rS f) (isTag f) (rP f) (rV f) (rY f) (n - sizeF f)
/-- What Parse answers, of n bytes. -/
def ParseOut (n : Nat) (bs : Nat → Int) (e : Ending) (w' : World) : Prop :=
  (n < sizeF (pad n bs) ∧ e = .returned (.tuple #[.agg (frA 0 0 false 0 false 0 0 none 0 0), .int .i64 2])) ∨
  (sizeF (pad n bs) ≤ n ∧ wrongB n (pad n bs) ≠ 0 ∧ e = .returned (.tuple #[.agg (frA 0 0 false 0 false 0 0 none 0 0), .int .i64 (wrongB n (pad n bs))])) ∨
  (sizeF (pad n bs) ≤ n ∧ wrongB n (pad n bs) = 0 ∧ ∃ ao c, e = .returned (.tuple #[.agg (frA (rD (pad n bs)) (rS (pad n bs)) (isTag (pad n bs)) (rP (pad n bs)) (rX (pad n bs)) (rV (pad n bs)) (rY (pad n bs)) ao (n - sizeF (pad n bs)) c), .int .i64 0]) ∧
    ByteRow w' ao (n - sizeF (pad n bs)) c (fun i => bs (sizeF (pad n bs) + i)) ∧ (ao = none → n - sizeF (pad n bs) = 0 ∧ c = 0))
set_option maxHeartbeats 2000000 in
theorem parse_any (ao : Option Addr) (n c : Nat) (bs : Nat → Int) (w : World) (hr : ByteRow w ao n c bs) (hnil : ao = none → n = 0 ∧ c = 0) (hbs : ∀ i, i < n → 0 ≤ bs i ∧ bs i ≤ 255) :
    Calls Try.prog 11 #[.slice ao n c] w fun e w' => ParseOut n bs e w' ∧ Below w.heap.size w w' := by
  obtain ⟨W0, HW⟩ : ∃ W0, Hid (W0 = (w.alloc (.cells #[.int .u64 0, .int .u64 0, .bool false, .int .i64 0, .bool false, .int .i64 0, .int .i64 0, .slice none 0 0] 25)).alloc (.cells #[.int .u8 0, .int .u8 0, .int .u8 0, .int .u8 0, .int .u8 0, .int .u8 0, .int .u8 0, .int .u8 0, .int .u8 0, .int .u8 0, .int .u8 0, .int .u8 0, .int .u8 0, .int .u8 0, .int .u8 0, .int .u8 0, .int .u8 0, .int .u8 0] 41)) := ⟨_, rfl⟩
  have HA : Hid (W0.heap[w.heap.size]? = some (.cells (frA 0 0 false 0 false 0 0 none 0 0) 25 (0, 0))) := by rw [HW.out]; exact heap_alloc2_old _ _ _
  have HB : Hid (W0.heap[w.heap.size + 1]? = some (.cells (bytesL 18 (fun _ => 0)).toArray 41 (0, 0))) := by rw [HW.out, zeros18L]; exact heap_alloc2_new _ _ _
  have HBL : Hid (Below w.heap.size w W0) := by rw [HW.out]; exact ((Below.refl _ w).alloc (Nat.le_refl _) _).alloc (by simp) _
  have HRW : Hid (ByteRow w ao n c bs) := hr
  have HR0 : Hid (ByteRow W0 ao n c bs) := hr.below HBL.out
  have HF : Hid (∀ i, i < 18 → 0 ≤ pad n bs i ∧ pad n bs i ≤ 255) := fun i _ => pad_range hbs i
  have hcap : n ≤ c := hr.1
  obtain ⟨m, hm⟩ : ∃ m, m = min n 18 := ⟨_, rfl⟩
  have hm1 : m ≤ 18 := by omega
  have hm2 : m ≤ n := by omega
  have HM : Hid (m = Nat.min n 18) := hm
  have HN : Hid (ao = none → n = 0 ∧ c = 0) := hnil
  obtain ⟨Z, HZ⟩ : ∃ Z, Hid (sizeF (pad n bs) = Z) := ⟨_, rfl⟩
  have hZ : Z = 14 ∨ Z = 18 := by rw [← HZ.out]; exact sizeF_le _
  have hmZ : m < Z ↔ n < Z := by omega
  have HSZ : Hid (∀ W : World, Calls Try.prog 20 #[.agg (rowF 18 (pad n bs))] W fun e w' => e = .returned (.int .i64 Z) ∧ Below W.heap.size W w') := by
    intro W
    have := sizeOf_any (pad n bs) W HF.out
    rw [HZ.out] at this
    exact this
  have HFO : Hid (∀ W : World, Calls Try.prog 21 #[.agg (rowF 18 (pad n bs))] W fun e w' => e = .returned (.agg #[.int .u64 (rD (pad n bs)), .int .u64 (rS (pad n bs)), .bool (isTag (pad n bs)), .int .i64 (rP (pad n bs)), .bool (rX (pad n bs)), .int .i64 (rV (pad n bs)), .int .i64 (rY (pad n bs)), .slice none 0 0]) ∧ Below W.heap.size W w') := fun W => frameOf_any (pad n bs) W HF.out
  have HWR : Hid (∀ (W : World) (a1 : Option Addr) (c1 : Nat), Calls Try.prog 7 #[.agg #[.int .u64 (rD (pad n bs)), .int .u64 (rS (pad n bs)), .bool (isTag (pad n bs)), .int .i64 (rP (pad n bs)), .bool (rX (pad n bs)), .int .i64 (rV (pad n bs)), .int .i64 (rY (pad n bs)), .slice a1 (n - Z) c1]] W fun e w' => e = .returned (.int .i64 (wrongB n (pad n bs))) ∧ Below W.heap.size W w') := by
    intro W a1 c1
    have hr6 := num_range (fun i => pad n bs (6 + i)) (fun i => pad_range hbs _) 6
    unfold wrongB
    rw [HZ.out]
    exact wrong_any _ _ _ _ _ _ _ a1 (n - Z) c1 W hr6.1 (by have h2 : (2 : Int) ^ (8 * 6) = 281474976710656 := by decide
                                                            have h1 := hr6.2
                                                            show num (fun i => pad n bs (6 + i)) 6 < _
                                                            omega)
  have HLE : Hid (wrongB n (pad n bs) = 0 → n - Z ≤ 1500) := by
    intro h
    unfold wrongB at h
    rw [HZ.out] at h
    exact (wrong_zero h).2.2.2.2.1
  clear hm hr hnil hbs
  have HPO : Hid (∀ e w', ((n < Z ∧ e = .returned (.tuple #[.agg (frA 0 0 false 0 false 0 0 none 0 0), .int .i64 2])) ∨
      (Z ≤ n ∧ wrongB n (pad n bs) ≠ 0 ∧ e = .returned (.tuple #[.agg (frA 0 0 false 0 false 0 0 none 0 0), .int .i64 (wrongB n (pad n bs))])) ∨
      (Z ≤ n ∧ wrongB n (pad n bs) = 0 ∧ ∃ ao c, e = .returned (.tuple #[.agg (frA (rD (pad n bs)) (rS (pad n bs)) (isTag (pad n bs)) (rP (pad n bs)) (rX (pad n bs)) (rV (pad n bs)) (rY (pad n bs)) ao (n - Z) c), .int .i64 0]) ∧
      ByteRow w' ao (n - Z) c (fun i => bs (Z + i)) ∧ (ao = none → n - Z = 0 ∧ c = 0))) → ParseOut n bs e w') := by
    intro e w' h
    unfold ParseOut
    rw [HZ.out]
    exact h
  clear HZ
  generalize wrongB n (pad n bs) = E at *
  generalize rD (pad n bs) = fd at *
  generalize rS (pad n bs) = fs at *
  generalize isTag (pad n bs) = ft at *
  generalize rP (pad n bs) = fp at *
  generalize rX (pad n bs) = fx at *
  generalize rV (pad n bs) = fv at *
  generalize rY (pad n bs) = fy at *
  go_enter Try.func11, Try.ntmps11
  go_upto_region 2 with fail
  rw [← HW.out]
  clear HW
  go_wp2_with (first | (refine wpList_copy_splice rfl (.tmp 9) (.tmp 10) 23 23 rfl 5 Try.underlying23 size5 _ _ _ _ _ _ rfl rfl (w.heap.size + 1) 0 (bytesL 18 (fun _ => 0)) 41 HB.out (bytesL m bs) (by rw [bytesL_length]; exact HM.out) (fun hp => ⟨rfl, copy_src HR0.out hm2 hp⟩) (by simp only [bytesL_length]; omega) (bytesL_one _ _) (w.heap.size + 1) _ (Below.refl _ _) (Nat.le_refl _) ?_; intro w1 hw1 hb1; rw [bytesL_length]; have HW1 := splice18 hw1 HM.out; have HA1 : Hid (w1.heap[w.heap.size]? = some (.cells (frA 0 0 false 0 false 0 0 none 0 0) 25 (0, 0))) := (hb1.block w.heap.size (by omega)).trans HA.out; have HB1 : Hid (Below w.heap.size w w1) := HBL.out.trans (hb1.mono (by omega)); clear hw1 hb1 HA HB HBL HR0) | (refine wpList_load_row rfl 41 _ rfl (w.heap.size + 1) rfl 41 (rowF 18 (pad n bs)) (0, 0) _ ?_ Try.underlying41 rfl (by rw [sizeH, rowF_size]) ?_; exact HW1.out))
  have HL1 : Hid (w.heap.size + 1 < w1.heap.size) := block_lt_of_cell ((cell_of_row w1 _ 0 _ _ _ HW1.out).trans (rowF_get _ _ _ (by omega)))
  refine (HSZ.out _).mono ?_
  rintro e w2 ⟨rfl, hb⟩
  have HW2 : Hid (w2.heap[w.heap.size + 1]? = some (.cells (rowF 18 (pad n bs)) 41 (0, 0))) := (hb.block _ HL1.out).trans HW1.out
  have HA2 : Hid (w2.heap[w.heap.size]? = some (.cells (frA 0 0 false 0 false 0 0 none 0 0) 25 (0, 0))) := (hb.block _ (by have := HL1.out; omega)).trans HA1.out
  have HB2 : Hid (Below w.heap.size w w2) := HB1.out.trans (hb.mono (by have := HL1.out; omega))
  have HL2 : Hid (w.heap.size + 1 < w2.heap.size) := Nat.lt_of_lt_of_le HL1.out hb.size
  clear hb HW1 HA1 HB1 HL1 HSZ
  by_cases hlt : m < Z
  · have hb1 : ((m : Int) < (Z : Int)) := by omega
    have hb2 : decide ((m : Int) < (Z : Int)) = true := decide_eq_true hb1
    have hnZ : n < Z := by omega
    clear hmZ hlt hZ
    go_wp2_with (refine wpList_store_row rfl 25 _ _ rfl w.heap.size (frA 0 0 false 0 false 0 0 none 0 0) rfl rfl 25 (frA 0 0 false 0 false 0 0 none 0 0) ?_ (by rw [sizeFr]; rfl) rfl (frA_all _ _ _ _ _ _ _ _ _ _) ?_; exact HA2.out)
    exact bodyPost_ret (v := .tuple #[.agg (frA 0 0 false 0 false 0 0 none 0 0), .int .i64 2]) (results_row_tmp (p := 2) (u := 3) (ty := 25) Try.results11 _ _ w.heap.size 25 (frA 0 0 false 0 false 0 0 none 0 0) (0, 0) _ rfl (setRow_heap _ _ _ _ _ _ HA2.out) Try.underlying25 rfl (by rw [sizeFr]; rfl)) rfl ⟨HPO.out _ _ (Or.inl ⟨hnZ, rfl⟩), below_setRow HB2.out (Nat.le_refl _) _⟩
  · have hb1 : ¬ ((m : Int) < (Z : Int)) := by omega
    have hb2 : decide ((m : Int) < (Z : Int)) = false := decide_eq_false hb1
    have hnZ : Z ≤ n := by omega
    clear hmZ hlt
    rcases hZ with rfl | rfl
    · obtain ⟨b, off, rfl, hlb, hcells⟩ := HRW.out.2 (by omega)
      have HCE : Hid (∀ i, i < n → w.cell? ⟨b, off + i, none⟩ = some (.int .u8 (bs i))) := hcells
      have HLB : Hid (b < w.heap.size) := hlb
      clear hcells hlb HRW HN
      by_cases hcz : c = 14
      · have HNZ : Hid (n = 14) := (show n = 14 by omega)
        have HWR2 : Hid (∀ W : World, Calls Try.prog 7 #[.agg #[.int .u64 fd, .int .u64 fs, .bool ft, .int .i64 fp, .bool fx, .int .i64 fv, .int .i64 fy, .slice (some ⟨b, off, none⟩) 0 0]] W fun e w' => e = .returned (.int .i64 E) ∧ Below W.heap.size W w') := fun W => by
          have h := HWR.out W (some ⟨b, off, none⟩) 0
          rw [show n - 14 = 0 by have := HNZ.out; omega] at h
          exact h
        subst hcz
        go_wp2_with (first | (refine wpList_load_row rfl 41 _ rfl (w.heap.size + 1) rfl 41 (rowF 18 (pad n bs)) (0, 0) _ ?_ Try.underlying41 rfl (by rw [sizeH, rowF_size]) ?_; exact HW2.out) | (go_at_call 21; refine (HFO.out _).mono ?_; rintro e w3 ⟨rfl, hb⟩; have HA3 : Hid (w3.heap[w.heap.size]? = some (.cells (frA 0 0 false 0 false 0 0 none 0 0) 25 (0, 0))) := (hb.block _ (by have := HL2.out; omega)).trans HA2.out; have HB3 : Hid (Below w.heap.size w w3) := HB2.out.trans (hb.mono (by have := HL2.out; omega)); have HL3 : Hid (w.heap.size + 1 < w3.heap.size) := Nat.lt_of_lt_of_le HL2.out hb.size; clear hb HW2 HA2 HB2 HL2 HFO))
        refine (HWR2.out _).mono ?_
        rintro e w4 ⟨rfl, hb⟩
        have HB4 : Hid (Below w.heap.size w w4) := HB3.out.trans ((below_alloc1 w3 _).trans (hb.mono (by simp)) |>.mono (by have := HL3.out; omega))
        have HA4 : Hid (w4.heap[w.heap.size]? = some (.cells (frA 0 0 false 0 false 0 0 none 0 0) 25 (0, 0))) := (hb.block _ (by have := HL3.out; simp; omega)).trans ((Below.heap_alloc _ _ _ (by have := HL3.out; omega)).trans HA3.out)
        have HG4 : Hid (w4.heap[w3.heap.size]? = some (.cells (frA fd fs ft fp fx fv fy (some ⟨b, off, none⟩) 0 0) 25 (0, 0))) := (hb.block _ (by simp)).trans (heap_alloc_last w3 _)
        have HL4 : Hid (w3.heap.size < w4.heap.size) := by have := hb.size; simp at this; exact this
        clear hb HA3 HB3 HWR2 HWR
        by_cases hE : E = 0
        · have hle : n - 14 ≤ 1500 := HLE.out hE
          clear HLE
          subst hE
          have HFIN : Hid (∀ (a5 : Option Addr) (c5 : Nat) (w' : World), NilOk a5 0 c5 → ByteRow w' a5 0 c5 (fun i => bs (14 + i)) → ParseOut n bs (.returned (.tuple #[.agg (frA fd fs ft fp fx fv fy a5 0 c5), .int .i64 0])) w') := by
            intro a5 c5 w' h1 h2
            have hdz : n - 14 = 0 := by have := HNZ.out; omega
            refine HPO.out _ _ (Or.inr (Or.inr ⟨hnZ, rfl, a5, c5, ?_, ?_, ?_⟩))
            · rw [hdz]
            · rw [hdz]; exact h2
            · rw [hdz]; exact h1
          obtain ⟨k0, k1, k2, k3, k4, k5, k6, k7⟩ := fr_cells HG4.out
          have HD4 : Hid (ByteRow w4 (some ⟨b, off, none⟩) 0 0 (fun i => bs (14 + i))) := ⟨by omega, fun hp => ⟨_, _, rfl, Nat.lt_of_lt_of_le HLB.out HB4.out.size, fun i hi => (HB4.out.cell (by exact HLB.out)).trans ((HCE.out (14 + i) (by omega)) |> fun h => by first | (rw [Nat.add_assoc]; exact h) | exact absurd hp (by omega))⟩⟩
          go_wp2_with fail
          refine (clone_any (some ⟨b, off, none⟩) 0 0 (fun i => bs (14 + i)) _ HD4.out (fun e => by cases e) (by omega)).mono ?_
          rintro e w5 ⟨a5, c5, rfl, hr5, hnil5, hnew5, hb⟩
          have HW5 : Hid (∀ ad, a5 = some ad → w4.heap.size ≤ ad.block) := hnew5
          have HB5 : Hid (Below w.heap.size w w5) := HB4.out.trans (hb.mono (by have := HL3.out; have := HL4.out; omega))
          have HA5 : Hid (w5.heap[w.heap.size]? = some (.cells (frA 0 0 false 0 false 0 0 none 0 0) 25 (0, 0))) := (hb.block _ (by have := HL3.out; have := HL4.out; omega)).trans HA4.out
          have HG5 : Hid (w5.heap[w3.heap.size]? = some (.cells (frA fd fs ft fp fx fv fy (some ⟨b, off, none⟩) 0 0) 25 (0, 0))) := (hb.block _ HL4.out).trans HG4.out
          have HR5 : Hid (ByteRow w5 a5 0 c5 (fun i => bs (14 + i))) := hr5
          have HN5 : Hid (NilOk a5 0 c5) := hnil5
          clear hb hr5 hnil5 hnew5 HD4 HG4 HA4 HB4 k0 k1 k2 k3 k4 k5 k6 k7
          obtain ⟨k0, k1, k2, k3, k4, k5, k6, k7⟩ := fr_cells HG5.out
          obtain ⟨g0, g1, g2, g3, g4, g5, g6, g7⟩ := fr_free HG5.out
          have HA6 : Hid ((w5.setCell ⟨w3.heap.size, 7, none⟩ (.slice a5 0 c5)).heap[w.heap.size]? = some (.cells (frA 0 0 false 0 false 0 0 none 0 0) 25 (0, 0))) := (heap_setCell_other _ _ _ _ (by have := HL3.out; show w.heap.size ≠ w3.heap.size; omega)).trans HA5.out
          have HB6 : Hid (Below w.heap.size w (w5.setCell ⟨w3.heap.size, 7, none⟩ (.slice a5 0 c5))) := HB5.out.setCell (by have := HL3.out; show w.heap.size ≤ w3.heap.size; omega) _
          have HR6 : Hid (ByteRow ((w5.setCell ⟨w3.heap.size, 7, none⟩ (.slice a5 0 c5)).setRow w.heap.size (frA fd fs ft fp fx fv fy a5 0 c5)) a5 0 c5 (fun i => bs (14 + i))) := HR5.out.other (fun b' off' e => by
            have h1 := HW5.out _ e
            have h2 := HL4.out
            have h3 := HL3.out
            simp only at h1
            rw [setRow_other _ _ _ _ (by omega), heap_setCell_other _ _ _ _ (by show b' ≠ w3.heap.size; omega)]) (by simp [World.setCell])
          go_wp2_with (refine wpList_store_row rfl 25 _ _ rfl w.heap.size (frA fd fs ft fp fx fv fy a5 0 c5) rfl rfl 25 (frA 0 0 false 0 false 0 0 none 0 0) ?_ (by rw [sizeFr]; rfl) rfl (frA_all _ _ _ _ _ _ _ _ _ _) ?_; exact HA6.out)
          exact bodyPost_ret (v := .tuple #[.agg (frA fd fs ft fp fx fv fy a5 0 c5), .int .i64 0]) (results_row_tmp (p := 2) (u := 3) (ty := 25) Try.results11 _ _ w.heap.size 25 (frA fd fs ft fp fx fv fy a5 0 c5) (0, 0) _ rfl (setRow_heap _ _ _ _ _ _ HA6.out) Try.underlying25 rfl (by rw [sizeFr]; rfl)) rfl ⟨HFIN.out _ _ _ HN5.out HR6.out, below_setRow HB6.out (Nat.le_refl _) _⟩
        · have hE1 : (E != 0) = true := by simp [hE]
          go_wp2_with (refine wpList_store_row rfl 25 _ _ rfl w.heap.size (frA 0 0 false 0 false 0 0 none 0 0) rfl rfl 25 (frA 0 0 false 0 false 0 0 none 0 0) ?_ (by rw [sizeFr]; rfl) rfl (frA_all _ _ _ _ _ _ _ _ _ _) ?_; exact HA4.out)
          exact bodyPost_ret (v := .tuple #[.agg (frA 0 0 false 0 false 0 0 none 0 0), .int .i64 E]) (results_row_tmp (p := 2) (u := 3) (ty := 25) Try.results11 _ _ w.heap.size 25 (frA 0 0 false 0 false 0 0 none 0 0) (0, 0) _ rfl (setRow_heap _ _ _ _ _ _ HA4.out) Try.underlying25 rfl (by rw [sizeFr]; rfl)) rfl ⟨HPO.out _ _ (Or.inr (Or.inl ⟨hnZ, hE, rfl⟩)), below_setRow HB4.out (Nat.le_refl _) _⟩
      · have hcz2 : 14 < c := by omega
        have HWR2 : Hid (∀ W : World, Calls Try.prog 7 #[.agg #[.int .u64 fd, .int .u64 fs, .bool ft, .int .i64 fp, .bool fx, .int .i64 fv, .int .i64 fy, .slice (some ⟨b, off + 14, none⟩) (n - 14) (c - 14)]] W fun e w' => e = .returned (.int .i64 E) ∧ Below W.heap.size W w') := fun W => HWR.out W _ _
        go_wp2_with (first | (refine wpList_load_row rfl 41 _ rfl (w.heap.size + 1) rfl 41 (rowF 18 (pad n bs)) (0, 0) _ ?_ Try.underlying41 rfl (by rw [sizeH, rowF_size]) ?_; exact HW2.out) | (go_at_call 21; refine (HFO.out _).mono ?_; rintro e w3 ⟨rfl, hb⟩; have HA3 : Hid (w3.heap[w.heap.size]? = some (.cells (frA 0 0 false 0 false 0 0 none 0 0) 25 (0, 0))) := (hb.block _ (by have := HL2.out; omega)).trans HA2.out; have HB3 : Hid (Below w.heap.size w w3) := HB2.out.trans (hb.mono (by have := HL2.out; omega)); have HL3 : Hid (w.heap.size + 1 < w3.heap.size) := Nat.lt_of_lt_of_le HL2.out hb.size; clear hb HW2 HA2 HB2 HL2 HFO))
        refine (HWR2.out _).mono ?_
        rintro e w4 ⟨rfl, hb⟩
        have HB4 : Hid (Below w.heap.size w w4) := HB3.out.trans ((below_alloc1 w3 _).trans (hb.mono (by simp)) |>.mono (by have := HL3.out; omega))
        have HA4 : Hid (w4.heap[w.heap.size]? = some (.cells (frA 0 0 false 0 false 0 0 none 0 0) 25 (0, 0))) := (hb.block _ (by have := HL3.out; simp; omega)).trans ((Below.heap_alloc _ _ _ (by have := HL3.out; omega)).trans HA3.out)
        have HG4 : Hid (w4.heap[w3.heap.size]? = some (.cells (frA fd fs ft fp fx fv fy (some ⟨b, off + 14, none⟩) (n - 14) (c - 14)) 25 (0, 0))) := (hb.block _ (by simp)).trans (heap_alloc_last w3 _)
        have HL4 : Hid (w3.heap.size < w4.heap.size) := by have := hb.size; simp at this; exact this
        clear hb HA3 HB3 HWR2 HWR
        by_cases hE : E = 0
        · have hle : n - 14 ≤ 1500 := HLE.out hE
          clear HLE
          subst hE
          have HFIN : Hid (∀ (a5 : Option Addr) (c5 : Nat) (w' : World), NilOk a5 (n - 14) c5 → ByteRow w' a5 (n - 14) c5 (fun i => bs (14 + i)) → ParseOut n bs (.returned (.tuple #[.agg (frA fd fs ft fp fx fv fy a5 (n - 14) c5), .int .i64 0])) w') := by
            intro a5 c5 w' h1 h2
            refine HPO.out _ _ (Or.inr (Or.inr ⟨hnZ, rfl, a5, c5, ?_, ?_, ?_⟩))
            · rfl
            · exact h2
            · exact h1
          obtain ⟨k0, k1, k2, k3, k4, k5, k6, k7⟩ := fr_cells HG4.out
          have HD4 : Hid (ByteRow w4 (some ⟨b, off + 14, none⟩) (n - 14) (c - 14) (fun i => bs (14 + i))) := ⟨by omega, fun hp => ⟨_, _, rfl, Nat.lt_of_lt_of_le HLB.out HB4.out.size, fun i hi => (HB4.out.cell (by exact HLB.out)).trans ((HCE.out (14 + i) (by omega)) |> fun h => by first | (rw [Nat.add_assoc]; exact h) | exact absurd hp (by omega))⟩⟩
          go_wp2_with fail
          refine (clone_any (some ⟨b, off + 14, none⟩) (n - 14) (c - 14) (fun i => bs (14 + i)) _ HD4.out (fun e => by cases e) (by omega)).mono ?_
          rintro e w5 ⟨a5, c5, rfl, hr5, hnil5, hnew5, hb⟩
          have HW5 : Hid (∀ ad, a5 = some ad → w4.heap.size ≤ ad.block) := hnew5
          have HB5 : Hid (Below w.heap.size w w5) := HB4.out.trans (hb.mono (by have := HL3.out; have := HL4.out; omega))
          have HA5 : Hid (w5.heap[w.heap.size]? = some (.cells (frA 0 0 false 0 false 0 0 none 0 0) 25 (0, 0))) := (hb.block _ (by have := HL3.out; have := HL4.out; omega)).trans HA4.out
          have HG5 : Hid (w5.heap[w3.heap.size]? = some (.cells (frA fd fs ft fp fx fv fy (some ⟨b, off + 14, none⟩) (n - 14) (c - 14)) 25 (0, 0))) := (hb.block _ HL4.out).trans HG4.out
          have HR5 : Hid (ByteRow w5 a5 (n - 14) c5 (fun i => bs (14 + i))) := hr5
          have HN5 : Hid (NilOk a5 (n - 14) c5) := hnil5
          clear hb hr5 hnil5 hnew5 HD4 HG4 HA4 HB4 k0 k1 k2 k3 k4 k5 k6 k7
          obtain ⟨k0, k1, k2, k3, k4, k5, k6, k7⟩ := fr_cells HG5.out
          obtain ⟨g0, g1, g2, g3, g4, g5, g6, g7⟩ := fr_free HG5.out
          have HA6 : Hid ((w5.setCell ⟨w3.heap.size, 7, none⟩ (.slice a5 (n - 14) c5)).heap[w.heap.size]? = some (.cells (frA 0 0 false 0 false 0 0 none 0 0) 25 (0, 0))) := (heap_setCell_other _ _ _ _ (by have := HL3.out; show w.heap.size ≠ w3.heap.size; omega)).trans HA5.out
          have HB6 : Hid (Below w.heap.size w (w5.setCell ⟨w3.heap.size, 7, none⟩ (.slice a5 (n - 14) c5))) := HB5.out.setCell (by have := HL3.out; show w.heap.size ≤ w3.heap.size; omega) _
          have HR6 : Hid (ByteRow ((w5.setCell ⟨w3.heap.size, 7, none⟩ (.slice a5 (n - 14) c5)).setRow w.heap.size (frA fd fs ft fp fx fv fy a5 (n - 14) c5)) a5 (n - 14) c5 (fun i => bs (14 + i))) := HR5.out.other (fun b' off' e => by
            have h1 := HW5.out _ e
            have h2 := HL4.out
            have h3 := HL3.out
            simp only at h1
            rw [setRow_other _ _ _ _ (by omega), heap_setCell_other _ _ _ _ (by show b' ≠ w3.heap.size; omega)]) (by simp [World.setCell])
          go_wp2_with (refine wpList_store_row rfl 25 _ _ rfl w.heap.size (frA fd fs ft fp fx fv fy a5 (n - 14) c5) rfl rfl 25 (frA 0 0 false 0 false 0 0 none 0 0) ?_ (by rw [sizeFr]; rfl) rfl (frA_all _ _ _ _ _ _ _ _ _ _) ?_; exact HA6.out)
          exact bodyPost_ret (v := .tuple #[.agg (frA fd fs ft fp fx fv fy a5 (n - 14) c5), .int .i64 0]) (results_row_tmp (p := 2) (u := 3) (ty := 25) Try.results11 _ _ w.heap.size 25 (frA fd fs ft fp fx fv fy a5 (n - 14) c5) (0, 0) _ rfl (setRow_heap _ _ _ _ _ _ HA6.out) Try.underlying25 rfl (by rw [sizeFr]; rfl)) rfl ⟨HFIN.out _ _ _ HN5.out HR6.out, below_setRow HB6.out (Nat.le_refl _) _⟩
        · have hE1 : (E != 0) = true := by simp [hE]
          go_wp2_with (refine wpList_store_row rfl 25 _ _ rfl w.heap.size (frA 0 0 false 0 false 0 0 none 0 0) rfl rfl 25 (frA 0 0 false 0 false 0 0 none 0 0) ?_ (by rw [sizeFr]; rfl) rfl (frA_all _ _ _ _ _ _ _ _ _ _) ?_; exact HA4.out)
          exact bodyPost_ret (v := .tuple #[.agg (frA 0 0 false 0 false 0 0 none 0 0), .int .i64 E]) (results_row_tmp (p := 2) (u := 3) (ty := 25) Try.results11 _ _ w.heap.size 25 (frA 0 0 false 0 false 0 0 none 0 0) (0, 0) _ rfl (setRow_heap _ _ _ _ _ _ HA4.out) Try.underlying25 rfl (by rw [sizeFr]; rfl)) rfl ⟨HPO.out _ _ (Or.inr (Or.inl ⟨hnZ, hE, rfl⟩)), below_setRow HB4.out (Nat.le_refl _) _⟩
    · obtain ⟨b, off, rfl, hlb, hcells⟩ := HRW.out.2 (by omega)
      have HCE : Hid (∀ i, i < n → w.cell? ⟨b, off + i, none⟩ = some (.int .u8 (bs i))) := hcells
      have HLB : Hid (b < w.heap.size) := hlb
      clear hcells hlb HRW HN
      by_cases hcz : c = 18
      · have HNZ : Hid (n = 18) := (show n = 18 by omega)
        have HWR2 : Hid (∀ W : World, Calls Try.prog 7 #[.agg #[.int .u64 fd, .int .u64 fs, .bool ft, .int .i64 fp, .bool fx, .int .i64 fv, .int .i64 fy, .slice (some ⟨b, off, none⟩) 0 0]] W fun e w' => e = .returned (.int .i64 E) ∧ Below W.heap.size W w') := fun W => by
          have h := HWR.out W (some ⟨b, off, none⟩) 0
          rw [show n - 18 = 0 by have := HNZ.out; omega] at h
          exact h
        subst hcz
        go_wp2_with (first | (refine wpList_load_row rfl 41 _ rfl (w.heap.size + 1) rfl 41 (rowF 18 (pad n bs)) (0, 0) _ ?_ Try.underlying41 rfl (by rw [sizeH, rowF_size]) ?_; exact HW2.out) | (go_at_call 21; refine (HFO.out _).mono ?_; rintro e w3 ⟨rfl, hb⟩; have HA3 : Hid (w3.heap[w.heap.size]? = some (.cells (frA 0 0 false 0 false 0 0 none 0 0) 25 (0, 0))) := (hb.block _ (by have := HL2.out; omega)).trans HA2.out; have HB3 : Hid (Below w.heap.size w w3) := HB2.out.trans (hb.mono (by have := HL2.out; omega)); have HL3 : Hid (w.heap.size + 1 < w3.heap.size) := Nat.lt_of_lt_of_le HL2.out hb.size; clear hb HW2 HA2 HB2 HL2 HFO))
        refine (HWR2.out _).mono ?_
        rintro e w4 ⟨rfl, hb⟩
        have HB4 : Hid (Below w.heap.size w w4) := HB3.out.trans ((below_alloc1 w3 _).trans (hb.mono (by simp)) |>.mono (by have := HL3.out; omega))
        have HA4 : Hid (w4.heap[w.heap.size]? = some (.cells (frA 0 0 false 0 false 0 0 none 0 0) 25 (0, 0))) := (hb.block _ (by have := HL3.out; simp; omega)).trans ((Below.heap_alloc _ _ _ (by have := HL3.out; omega)).trans HA3.out)
        have HG4 : Hid (w4.heap[w3.heap.size]? = some (.cells (frA fd fs ft fp fx fv fy (some ⟨b, off, none⟩) 0 0) 25 (0, 0))) := (hb.block _ (by simp)).trans (heap_alloc_last w3 _)
        have HL4 : Hid (w3.heap.size < w4.heap.size) := by have := hb.size; simp at this; exact this
        clear hb HA3 HB3 HWR2 HWR
        by_cases hE : E = 0
        · have hle : n - 18 ≤ 1500 := HLE.out hE
          clear HLE
          subst hE
          have HFIN : Hid (∀ (a5 : Option Addr) (c5 : Nat) (w' : World), NilOk a5 0 c5 → ByteRow w' a5 0 c5 (fun i => bs (18 + i)) → ParseOut n bs (.returned (.tuple #[.agg (frA fd fs ft fp fx fv fy a5 0 c5), .int .i64 0])) w') := by
            intro a5 c5 w' h1 h2
            have hdz : n - 18 = 0 := by have := HNZ.out; omega
            refine HPO.out _ _ (Or.inr (Or.inr ⟨hnZ, rfl, a5, c5, ?_, ?_, ?_⟩))
            · rw [hdz]
            · rw [hdz]; exact h2
            · rw [hdz]; exact h1
          obtain ⟨k0, k1, k2, k3, k4, k5, k6, k7⟩ := fr_cells HG4.out
          have HD4 : Hid (ByteRow w4 (some ⟨b, off, none⟩) 0 0 (fun i => bs (18 + i))) := ⟨by omega, fun hp => ⟨_, _, rfl, Nat.lt_of_lt_of_le HLB.out HB4.out.size, fun i hi => (HB4.out.cell (by exact HLB.out)).trans ((HCE.out (18 + i) (by omega)) |> fun h => by first | (rw [Nat.add_assoc]; exact h) | exact absurd hp (by omega))⟩⟩
          go_wp2_with fail
          refine (clone_any (some ⟨b, off, none⟩) 0 0 (fun i => bs (18 + i)) _ HD4.out (fun e => by cases e) (by omega)).mono ?_
          rintro e w5 ⟨a5, c5, rfl, hr5, hnil5, hnew5, hb⟩
          have HW5 : Hid (∀ ad, a5 = some ad → w4.heap.size ≤ ad.block) := hnew5
          have HB5 : Hid (Below w.heap.size w w5) := HB4.out.trans (hb.mono (by have := HL3.out; have := HL4.out; omega))
          have HA5 : Hid (w5.heap[w.heap.size]? = some (.cells (frA 0 0 false 0 false 0 0 none 0 0) 25 (0, 0))) := (hb.block _ (by have := HL3.out; have := HL4.out; omega)).trans HA4.out
          have HG5 : Hid (w5.heap[w3.heap.size]? = some (.cells (frA fd fs ft fp fx fv fy (some ⟨b, off, none⟩) 0 0) 25 (0, 0))) := (hb.block _ HL4.out).trans HG4.out
          have HR5 : Hid (ByteRow w5 a5 0 c5 (fun i => bs (18 + i))) := hr5
          have HN5 : Hid (NilOk a5 0 c5) := hnil5
          clear hb hr5 hnil5 hnew5 HD4 HG4 HA4 HB4 k0 k1 k2 k3 k4 k5 k6 k7
          obtain ⟨k0, k1, k2, k3, k4, k5, k6, k7⟩ := fr_cells HG5.out
          obtain ⟨g0, g1, g2, g3, g4, g5, g6, g7⟩ := fr_free HG5.out
          have HA6 : Hid ((w5.setCell ⟨w3.heap.size, 7, none⟩ (.slice a5 0 c5)).heap[w.heap.size]? = some (.cells (frA 0 0 false 0 false 0 0 none 0 0) 25 (0, 0))) := (heap_setCell_other _ _ _ _ (by have := HL3.out; show w.heap.size ≠ w3.heap.size; omega)).trans HA5.out
          have HB6 : Hid (Below w.heap.size w (w5.setCell ⟨w3.heap.size, 7, none⟩ (.slice a5 0 c5))) := HB5.out.setCell (by have := HL3.out; show w.heap.size ≤ w3.heap.size; omega) _
          have HR6 : Hid (ByteRow ((w5.setCell ⟨w3.heap.size, 7, none⟩ (.slice a5 0 c5)).setRow w.heap.size (frA fd fs ft fp fx fv fy a5 0 c5)) a5 0 c5 (fun i => bs (18 + i))) := HR5.out.other (fun b' off' e => by
            have h1 := HW5.out _ e
            have h2 := HL4.out
            have h3 := HL3.out
            simp only at h1
            rw [setRow_other _ _ _ _ (by omega), heap_setCell_other _ _ _ _ (by show b' ≠ w3.heap.size; omega)]) (by simp [World.setCell])
          go_wp2_with (refine wpList_store_row rfl 25 _ _ rfl w.heap.size (frA fd fs ft fp fx fv fy a5 0 c5) rfl rfl 25 (frA 0 0 false 0 false 0 0 none 0 0) ?_ (by rw [sizeFr]; rfl) rfl (frA_all _ _ _ _ _ _ _ _ _ _) ?_; exact HA6.out)
          exact bodyPost_ret (v := .tuple #[.agg (frA fd fs ft fp fx fv fy a5 0 c5), .int .i64 0]) (results_row_tmp (p := 2) (u := 3) (ty := 25) Try.results11 _ _ w.heap.size 25 (frA fd fs ft fp fx fv fy a5 0 c5) (0, 0) _ rfl (setRow_heap _ _ _ _ _ _ HA6.out) Try.underlying25 rfl (by rw [sizeFr]; rfl)) rfl ⟨HFIN.out _ _ _ HN5.out HR6.out, below_setRow HB6.out (Nat.le_refl _) _⟩
        · have hE1 : (E != 0) = true := by simp [hE]
          go_wp2_with (refine wpList_store_row rfl 25 _ _ rfl w.heap.size (frA 0 0 false 0 false 0 0 none 0 0) rfl rfl 25 (frA 0 0 false 0 false 0 0 none 0 0) ?_ (by rw [sizeFr]; rfl) rfl (frA_all _ _ _ _ _ _ _ _ _ _) ?_; exact HA4.out)
          exact bodyPost_ret (v := .tuple #[.agg (frA 0 0 false 0 false 0 0 none 0 0), .int .i64 E]) (results_row_tmp (p := 2) (u := 3) (ty := 25) Try.results11 _ _ w.heap.size 25 (frA 0 0 false 0 false 0 0 none 0 0) (0, 0) _ rfl (setRow_heap _ _ _ _ _ _ HA4.out) Try.underlying25 rfl (by rw [sizeFr]; rfl)) rfl ⟨HPO.out _ _ (Or.inr (Or.inl ⟨hnZ, hE, rfl⟩)), below_setRow HB4.out (Nat.le_refl _) _⟩
      · have hcz2 : 18 < c := by omega
        have HWR2 : Hid (∀ W : World, Calls Try.prog 7 #[.agg #[.int .u64 fd, .int .u64 fs, .bool ft, .int .i64 fp, .bool fx, .int .i64 fv, .int .i64 fy, .slice (some ⟨b, off + 18, none⟩) (n - 18) (c - 18)]] W fun e w' => e = .returned (.int .i64 E) ∧ Below W.heap.size W w') := fun W => HWR.out W _ _
        go_wp2_with (first | (refine wpList_load_row rfl 41 _ rfl (w.heap.size + 1) rfl 41 (rowF 18 (pad n bs)) (0, 0) _ ?_ Try.underlying41 rfl (by rw [sizeH, rowF_size]) ?_; exact HW2.out) | (go_at_call 21; refine (HFO.out _).mono ?_; rintro e w3 ⟨rfl, hb⟩; have HA3 : Hid (w3.heap[w.heap.size]? = some (.cells (frA 0 0 false 0 false 0 0 none 0 0) 25 (0, 0))) := (hb.block _ (by have := HL2.out; omega)).trans HA2.out; have HB3 : Hid (Below w.heap.size w w3) := HB2.out.trans (hb.mono (by have := HL2.out; omega)); have HL3 : Hid (w.heap.size + 1 < w3.heap.size) := Nat.lt_of_lt_of_le HL2.out hb.size; clear hb HW2 HA2 HB2 HL2 HFO))
        refine (HWR2.out _).mono ?_
        rintro e w4 ⟨rfl, hb⟩
        have HB4 : Hid (Below w.heap.size w w4) := HB3.out.trans ((below_alloc1 w3 _).trans (hb.mono (by simp)) |>.mono (by have := HL3.out; omega))
        have HA4 : Hid (w4.heap[w.heap.size]? = some (.cells (frA 0 0 false 0 false 0 0 none 0 0) 25 (0, 0))) := (hb.block _ (by have := HL3.out; simp; omega)).trans ((Below.heap_alloc _ _ _ (by have := HL3.out; omega)).trans HA3.out)
        have HG4 : Hid (w4.heap[w3.heap.size]? = some (.cells (frA fd fs ft fp fx fv fy (some ⟨b, off + 18, none⟩) (n - 18) (c - 18)) 25 (0, 0))) := (hb.block _ (by simp)).trans (heap_alloc_last w3 _)
        have HL4 : Hid (w3.heap.size < w4.heap.size) := by have := hb.size; simp at this; exact this
        clear hb HA3 HB3 HWR2 HWR
        by_cases hE : E = 0
        · have hle : n - 18 ≤ 1500 := HLE.out hE
          clear HLE
          subst hE
          have HFIN : Hid (∀ (a5 : Option Addr) (c5 : Nat) (w' : World), NilOk a5 (n - 18) c5 → ByteRow w' a5 (n - 18) c5 (fun i => bs (18 + i)) → ParseOut n bs (.returned (.tuple #[.agg (frA fd fs ft fp fx fv fy a5 (n - 18) c5), .int .i64 0])) w') := by
            intro a5 c5 w' h1 h2
            refine HPO.out _ _ (Or.inr (Or.inr ⟨hnZ, rfl, a5, c5, ?_, ?_, ?_⟩))
            · rfl
            · exact h2
            · exact h1
          obtain ⟨k0, k1, k2, k3, k4, k5, k6, k7⟩ := fr_cells HG4.out
          have HD4 : Hid (ByteRow w4 (some ⟨b, off + 18, none⟩) (n - 18) (c - 18) (fun i => bs (18 + i))) := ⟨by omega, fun hp => ⟨_, _, rfl, Nat.lt_of_lt_of_le HLB.out HB4.out.size, fun i hi => (HB4.out.cell (by exact HLB.out)).trans ((HCE.out (18 + i) (by omega)) |> fun h => by first | (rw [Nat.add_assoc]; exact h) | exact absurd hp (by omega))⟩⟩
          go_wp2_with fail
          refine (clone_any (some ⟨b, off + 18, none⟩) (n - 18) (c - 18) (fun i => bs (18 + i)) _ HD4.out (fun e => by cases e) (by omega)).mono ?_
          rintro e w5 ⟨a5, c5, rfl, hr5, hnil5, hnew5, hb⟩
          have HW5 : Hid (∀ ad, a5 = some ad → w4.heap.size ≤ ad.block) := hnew5
          have HB5 : Hid (Below w.heap.size w w5) := HB4.out.trans (hb.mono (by have := HL3.out; have := HL4.out; omega))
          have HA5 : Hid (w5.heap[w.heap.size]? = some (.cells (frA 0 0 false 0 false 0 0 none 0 0) 25 (0, 0))) := (hb.block _ (by have := HL3.out; have := HL4.out; omega)).trans HA4.out
          have HG5 : Hid (w5.heap[w3.heap.size]? = some (.cells (frA fd fs ft fp fx fv fy (some ⟨b, off + 18, none⟩) (n - 18) (c - 18)) 25 (0, 0))) := (hb.block _ HL4.out).trans HG4.out
          have HR5 : Hid (ByteRow w5 a5 (n - 18) c5 (fun i => bs (18 + i))) := hr5
          have HN5 : Hid (NilOk a5 (n - 18) c5) := hnil5
          clear hb hr5 hnil5 hnew5 HD4 HG4 HA4 HB4 k0 k1 k2 k3 k4 k5 k6 k7
          obtain ⟨k0, k1, k2, k3, k4, k5, k6, k7⟩ := fr_cells HG5.out
          obtain ⟨g0, g1, g2, g3, g4, g5, g6, g7⟩ := fr_free HG5.out
          have HA6 : Hid ((w5.setCell ⟨w3.heap.size, 7, none⟩ (.slice a5 (n - 18) c5)).heap[w.heap.size]? = some (.cells (frA 0 0 false 0 false 0 0 none 0 0) 25 (0, 0))) := (heap_setCell_other _ _ _ _ (by have := HL3.out; show w.heap.size ≠ w3.heap.size; omega)).trans HA5.out
          have HB6 : Hid (Below w.heap.size w (w5.setCell ⟨w3.heap.size, 7, none⟩ (.slice a5 (n - 18) c5))) := HB5.out.setCell (by have := HL3.out; show w.heap.size ≤ w3.heap.size; omega) _
          have HR6 : Hid (ByteRow ((w5.setCell ⟨w3.heap.size, 7, none⟩ (.slice a5 (n - 18) c5)).setRow w.heap.size (frA fd fs ft fp fx fv fy a5 (n - 18) c5)) a5 (n - 18) c5 (fun i => bs (18 + i))) := HR5.out.other (fun b' off' e => by
            have h1 := HW5.out _ e
            have h2 := HL4.out
            have h3 := HL3.out
            simp only at h1
            rw [setRow_other _ _ _ _ (by omega), heap_setCell_other _ _ _ _ (by show b' ≠ w3.heap.size; omega)]) (by simp [World.setCell])
          go_wp2_with (refine wpList_store_row rfl 25 _ _ rfl w.heap.size (frA fd fs ft fp fx fv fy a5 (n - 18) c5) rfl rfl 25 (frA 0 0 false 0 false 0 0 none 0 0) ?_ (by rw [sizeFr]; rfl) rfl (frA_all _ _ _ _ _ _ _ _ _ _) ?_; exact HA6.out)
          exact bodyPost_ret (v := .tuple #[.agg (frA fd fs ft fp fx fv fy a5 (n - 18) c5), .int .i64 0]) (results_row_tmp (p := 2) (u := 3) (ty := 25) Try.results11 _ _ w.heap.size 25 (frA fd fs ft fp fx fv fy a5 (n - 18) c5) (0, 0) _ rfl (setRow_heap _ _ _ _ _ _ HA6.out) Try.underlying25 rfl (by rw [sizeFr]; rfl)) rfl ⟨HFIN.out _ _ _ HN5.out HR6.out, below_setRow HB6.out (Nat.le_refl _) _⟩
        · have hE1 : (E != 0) = true := by simp [hE]
          go_wp2_with (refine wpList_store_row rfl 25 _ _ rfl w.heap.size (frA 0 0 false 0 false 0 0 none 0 0) rfl rfl 25 (frA 0 0 false 0 false 0 0 none 0 0) ?_ (by rw [sizeFr]; rfl) rfl (frA_all _ _ _ _ _ _ _ _ _ _) ?_; exact HA4.out)
          exact bodyPost_ret (v := .tuple #[.agg (frA 0 0 false 0 false 0 0 none 0 0), .int .i64 E]) (results_row_tmp (p := 2) (u := 3) (ty := 25) Try.results11 _ _ w.heap.size 25 (frA 0 0 false 0 false 0 0 none 0 0) (0, 0) _ rfl (setRow_heap _ _ _ _ _ _ HA4.out) Try.underlying25 rfl (by rw [sizeFr]; rfl)) rfl ⟨HPO.out _ _ (Or.inr (Or.inl ⟨hnZ, hE, rfl⟩)), below_setRow HB4.out (Nat.le_refl _) _⟩
end Go.Proofs.Ytidlgfiggilchaa
