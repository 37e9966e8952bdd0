/- What is written is read, and what is read was written: plain facts, second part. -/
import Derived.Test.YtidlgfiggilchaaW7
namespace Go.Proofs.Ytidlgfiggilchaa

theorem wrong_plain (d s p v p' v' y : Int) (n : Nat) : wrong d s false p v y n = wrong d s false p' v' y n := by
  unfold wrong
  rw [if_neg (c := false = true ∧ ¬ ((0 ≤ v ∧ v ≤ 4094) ∧ 0 ≤ p ∧ p ≤ 7)) (fun q => by cases q.1), if_neg (c := false = true ∧ ¬ ((0 ≤ v' ∧ v' ≤ 4094) ∧ 0 ≤ p' ∧ p' ≤ 7)) (fun q => by cases q.1)]
theorem be2_0 (a b : Int) (ha : 0 ≤ a ∧ a ≤ 255) (hb : 0 ≤ b ∧ b ≤ 255) : be 2 (a * 256 + b) 0 = a := by
  unfold be
  simp only [Nat.reduceSub, Nat.reduceMul]
  rw [show (2 : Int) ^ 8 = 256 from rfl]
  omega
theorem be2_1 (a b : Int) (hb : 0 ≤ b ∧ b ≤ 255) : be 2 (a * 256 + b) 1 = b := by
  unfold be
  simp only [Nat.reduceSub, Nat.reduceMul]
  rw [show (2 : Int) ^ 0 = 1 from rfl]
  omega
theorem be6_num (f : Nat → Int) (hf : ∀ i, 0 ≤ f i ∧ f i ≤ 255) (i : Nat) (hi : i < 6) : be 6 (num f 6) i = f i := by
  have h0 := hf 0
  have h1 := hf 1
  have h2 := hf 2
  have h3 := hf 3
  have h4 := hf 4
  have h5 := hf 5
  simp only [num]
  unfold be
  rcases (show i = 0 ∨ i = 1 ∨ i = 2 ∨ i = 3 ∨ i = 4 ∨ i = 5 by omega) with rfl | rfl | rfl | rfl | rfl | rfl
  · rw [show (2 : Int) ^ (8 * (6 - 1 - 0)) = 1099511627776 from rfl]; omega
  · rw [show (2 : Int) ^ (8 * (6 - 1 - 1)) = 4294967296 from rfl]; omega
  · rw [show (2 : Int) ^ (8 * (6 - 1 - 2)) = 16777216 from rfl]; omega
  · rw [show (2 : Int) ^ (8 * (6 - 1 - 3)) = 65536 from rfl]; omega
  · rw [show (2 : Int) ^ (8 * (6 - 1 - 4)) = 256 from rfl]; omega
  · rw [show (2 : Int) ^ (8 * (6 - 1 - 5)) = 1 from rfl]; omega
/-- WHAT IS WRITTEN IS READ. -/
theorem turn_there (d s : Int) (t : Bool) (p : Int) (dr : Bool) (v y : Int) (bs : Nat → Int) (n : Nat) (hd : 0 ≤ d) (hs : 0 ≤ s) (hw : wrong d s t p v y n = 0) :
    sizeF (pad (headN t + n) (bytF d s t p dr v y bs)) = headN t ∧ rD (pad (headN t + n) (bytF d s t p dr v y bs)) = d ∧ rS (pad (headN t + n) (bytF d s t p dr v y bs)) = s ∧ isTag (pad (headN t + n) (bytF d s t p dr v y bs)) = t ∧
    (t = true → rP (pad (headN t + n) (bytF d s t p dr v y bs)) = p ∧ rX (pad (headN t + n) (bytF d s t p dr v y bs)) = dr ∧ rV (pad (headN t + n) (bytF d s t p dr v y bs)) = v) ∧ rY (pad (headN t + n) (bytF d s t p dr v y bs)) = y ∧ wrongB (headN t + n) (pad (headN t + n) (bytF d s t p dr v y bs)) = 0 := by
  have hz := wrong_zero hw
  have h14 := headN_ge t
  have hsz := size_back d s t p dr v y bs (headN t + n) (by omega) (by omega) hz.2.2.2.1
  have htg := tag_back d s t p dr v y bs (headN t + n) (by omega) (by omega) hz.2.2.2.1
  have hpad : ∀ i, i < headN t → pad (headN t + n) (bytF d s t p dr v y bs) i = headF d s t p dr v y i := fun i hi => by
    unfold pad
    rw [if_pos (by omega), bytF_head _ _ _ _ _ _ _ _ _ hi]
  have hD : rD (pad (headN t + n) (bytF d s t p dr v y bs)) = d := be6 d _ ⟨hd, hz.2.2.2.2.2.1⟩ (fun i hi => by rw [hpad i (by omega)]; unfold headF; rw [if_pos hi])
  have hS : rS (pad (headN t + n) (bytF d s t p dr v y bs)) = s := be6 s _ ⟨hs, hz.2.2.2.2.2.2.1⟩ (fun i hi => by rw [hpad (6 + i) (by omega)]; unfold headF; rw [if_neg (by omega), if_pos (by omega)]; congr 1; omega)
  have hP : t = true → rP (pad (headN t + n) (bytF d s t p dr v y bs)) = p ∧ rX (pad (headN t + n) (bytF d s t p dr v y bs)) = dr ∧ rV (pad (headN t + n) (bytF d s t p dr v y bs)) = v := by
    intro e
    have hp := hz.1 e
    have hv := hz.2.1 e
    have ht := tag_range p dr v hp hv
    have h18 : headN t = 18 := by rw [e]; rfl
    have hT : pT (pad (headN t + n) (bytF d s t p dr v y bs)) 14 = tag p dr v := by
      unfold pT
      rw [hpad 14 (by omega), hpad (14 + 1) (by omega)]
      unfold headF
      simp [e, be2 _ ht]
    refine ⟨?_, ?_, ?_⟩
    · unfold rP
      rw [htg, if_pos e, hT]
      unfold tag
      cases dr <;> simp <;> omega
    · unfold rX
      rw [htg, if_pos e, hT]
      unfold tag
      cases dr <;> simp <;> omega
    · unfold rV
      rw [htg, if_pos e, hT]
      unfold tag
      cases dr <;> simp <;> omega
  have hY : rY (pad (headN t + n) (bytF d s t p dr v y bs)) = y := by
    unfold rY
    rw [htg]
    by_cases e : t = true
    · have h18 : headN t = 18 := by rw [e]; rfl
      rw [if_pos e]
      unfold pT
      rw [hpad 16 (by omega), hpad (16 + 1) (by omega)]
      unfold headF
      simp [e, be2 y (by omega)]
    · rw [if_neg e, pT12 d s t p dr v y bs _ (by omega) (by omega), if_neg e]
  refine ⟨hsz, hD, hS, htg, hP, hY, ?_⟩
  unfold wrongB
  rw [hsz, hD, hS, htg, hY, show headN t + n - headN t = n by omega]
  by_cases e : t = true
  · rw [(hP e).1, (hP e).2.2]; exact hw
  · have e' : t = false := by cases t <;> simp_all
    rw [← hw, e']
    exact wrong_plain _ _ _ _ _ _ _ _
/-- WHAT IS READ WAS WRITTEN. -/
theorem turn_back (n : Nat) (bs : Nat → Int) (hbs : ∀ i, i < n → 0 ≤ bs i ∧ bs i ≤ 255) (i : Nat) (hi : i < n) :
    bytF (rD (pad n bs)) (rS (pad n bs)) (isTag (pad n bs)) (rP (pad n bs)) (rX (pad n bs)) (rV (pad n bs)) (rY (pad n bs)) (fun i => bs (sizeF (pad n bs) + i)) i = bs i := by
  have hr := pad_range hbs
  have hpad : ∀ j, j < n → pad n bs j = bs j := fun j hj => if_pos hj
  have hH : headN (isTag (pad n bs)) = sizeF (pad n bs) := by
    unfold headN sizeF isTag pT
    simp only [Nat.reduceAdd, decide_eq_true_eq]
  have hg14 := sizeF_le (pad n bs)
  unfold bytF
  rw [hH]
  by_cases hlt : i < sizeF (pad n bs)
  · rw [if_pos hlt, ← hpad i hi]
    unfold headF
    by_cases e1 : i < 6
    · rw [if_pos e1]; exact be6_num _ hr i e1
    · rw [if_neg e1]
      by_cases e2 : i < 12
      · rw [if_pos e2]
        have := be6_num (fun j => pad n bs (6 + j)) (fun j => hr _) (i - 6) (by omega)
        rw [show 6 + (i - 6) = i by omega] at this
        exact this
      · rw [if_neg e2]
        by_cases et : isTag (pad n bs) = true
        · have h12 : pT (pad n bs) 12 = 33024 := of_decide_eq_true et
          have hz : sizeF (pad n bs) = 18 := by rw [← hH, et]; rfl
          rw [if_pos et]
          by_cases e3 : i < 14
          · rw [if_pos e3, ← h12]
            unfold pT
            rcases (show i = 12 ∨ i = 13 by omega) with rfl | rfl
            · exact be2_0 _ _ (hr _) (hr _)
            · exact be2_1 _ _ (hr _)
          · rw [if_neg e3]
            by_cases e4 : i < 16
            · have hT : tag (rP (pad n bs)) (rX (pad n bs)) (rV (pad n bs)) = pT (pad n bs) 14 := by
                unfold rP rX rV tag
                rw [if_pos et, if_pos et, if_pos et]
                have h1 := hr 14
                have h2 := hr 15
                have h3 : 0 ≤ pT (pad n bs) 14 ∧ pT (pad n bs) 14 ≤ 65535 := by unfold pT; simp only [Nat.reduceAdd]; omega
                by_cases q : pT (pad n bs) 14 / 4096 % 2 = 1
                · simp only [q, decide_true, if_true]; omega
                · simp only [q, decide_false, Bool.false_eq_true, if_false]; omega
              rw [if_pos e4, hT]
              unfold pT
              rcases (show i = 14 ∨ i = 15 by omega) with rfl | rfl
              · exact be2_0 _ _ (hr _) (hr _)
              · exact be2_1 _ _ (hr _)
            · rw [if_neg e4]
              unfold rY
              rw [if_pos et]
              unfold pT
              rcases (show i = 16 ∨ i = 17 by omega) with rfl | rfl
              · exact be2_0 _ _ (hr _) (hr _)
              · exact be2_1 _ _ (hr _)
        · have hz : sizeF (pad n bs) = 14 := by
            rw [← hH]
            unfold headN
            rw [if_neg et]
          rw [if_neg et, if_pos (by omega)]
          unfold rY
          rw [if_neg et]
          unfold pT
          rcases (show i = 12 ∨ i = 13 by omega) with rfl | rfl
          · exact be2_0 _ _ (hr _) (hr _)
          · exact be2_1 _ _ (hr _)
  · rw [if_neg hlt]
    show bs (sizeF (pad n bs) + (i - sizeF (pad n bs))) = bs i
    congr 1; omega
theorem head_size (f : Nat → Int) : headN (isTag f) = sizeF f := by
  unfold headN sizeF isTag pT
  simp only [Nat.reduceAdd, decide_eq_true_eq]
end Go.Proofs.Ytidlgfiggilchaa
