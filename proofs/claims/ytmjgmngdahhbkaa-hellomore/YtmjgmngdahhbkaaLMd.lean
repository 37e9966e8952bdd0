/- What package hello's functions come to: plain functions. -/
import Derived.Test.YtmjgmngdahhbkaaBase
namespace Go.Proofs.Ytmjgmngdahhbkaa
namespace Hl
/-- A tale. -/
structure Tl where
  tree : Int
  root : Int
  cost : Int
  bridge : Int
  port : Int
  age : Int
theorem Tl.eq {t u : Tl} (h0 : t.tree = u.tree) (h1 : t.root = u.root) (h2 : t.cost = u.cost) (h3 : t.bridge = u.bridge) (h4 : t.port = u.port) (h5 : t.age = u.age) : t = u := by
  cases t; cases u; simp_all
/-- Its numbers are in their ranges. -/
def Tl.fits (t : Tl) : Prop := (0 ≤ t.tree ∧ t.tree ≤ 15) ∧ (0 ≤ t.age ∧ t.age ≤ 255) ∧ (0 ≤ t.cost ∧ t.cost ≤ 1000000000) ∧ 0 ≤ t.port ∧ t.port ≤ 30
instance (t : Tl) : Decidable t.fits := by unfold Tl.fits; infer_instance
/-- Its two identities are numbers of 64 bits. -/
def Tl.wide (t : Tl) : Prop := (0 ≤ t.root ∧ t.root < 18446744073709551616) ∧ 0 ≤ t.bridge ∧ t.bridge < 18446744073709551616
/-- What is wrong with a tale behind another one. -/
def taleErr (l : Int) (t : Tl) : Int := if t.fits then (if t.tree ≤ l then 2 else 0) else 3
def last (ts : Nat → Tl) (k : Nat) : Int := if k = 0 then -1 else (ts (k - 1)).tree
/-- What is wrong with the first k tales. -/
def wrongTo (ts : Nat → Tl) : Nat → Int
  | 0 => 0
  | k + 1 => if wrongTo ts k = 0 then taleErr (last ts k) (ts k) else wrongTo ts k
/-- What is wrong with a hello. -/
def wrong (nd : Nat) (ts : Nat → Tl) (n : Nat) : Int := if nd = 16 then wrongTo ts n else 2
theorem wrongTo_stay (ts : Nat → Tl) (k : Nat) (h : wrongTo ts k ≠ 0) : ∀ n, k ≤ n → wrongTo ts n = wrongTo ts k := by
  intro n hn
  induction n with
  | zero => obtain rfl : k = 0 := by omega
            rfl
  | succ n ih =>
    by_cases e : k = n + 1
    · subst e; rfl
    · have h1 := ih (by omega)
      simp only [wrongTo]
      rw [if_neg (by rw [h1]; exact h), h1]
theorem wrongTo_here (ts : Nat → Tl) (k n : Nat) (hk : k < n) (h0 : wrongTo ts k = 0) (h : taleErr (last ts k) (ts k) ≠ 0) : wrongTo ts n = taleErr (last ts k) (ts k) := by
  have h1 : wrongTo ts (k + 1) = taleErr (last ts k) (ts k) := by simp only [wrongTo]; rw [if_pos h0]
  rw [wrongTo_stay ts (k + 1) (by rw [h1]; exact h) n (by omega), h1]
theorem wrongTo_succ (ts : Nat → Tl) (k : Nat) (h0 : wrongTo ts k = 0) (h : taleErr (last ts k) (ts k) = 0) : wrongTo ts (k + 1) = 0 := by
  simp only [wrongTo]; rw [if_pos h0]; exact h
theorem last_succ (ts : Nat → Tl) (k : Nat) : last ts (k + 1) = (ts k).tree := by
  unfold last; rw [if_neg (by omega)]; rfl
theorem wrongTo_congr {ts us : Nat → Tl} : ∀ {n : Nat}, (∀ i, i < n → ts i = us i) → wrongTo ts n = wrongTo us n
  | 0, _ => rfl
  | n + 1, h => by
    have h1 := wrongTo_congr (n := n) (fun i hi => h i (by omega))
    have h2 : last ts n = last us n := by
      unfold last
      by_cases e : n = 0
      · rw [if_pos e, if_pos e]
      · rw [if_neg e, if_neg e, h (n - 1) (by omega)]
    simp only [wrongTo]
    rw [h1, h2, h n (by omega)]
theorem taleErr_zero {l : Int} {t : Tl} (h : taleErr l t = 0) : t.fits ∧ l < t.tree := by
  unfold taleErr at h
  by_cases c : t.fits
  · rw [if_pos c] at h
    by_cases d : t.tree ≤ l
    · rw [if_pos d] at h; cases h
    · exact ⟨c, by omega⟩
  · rw [if_neg c] at h; cases h
/-- Nothing is wrong with n tales. -/
structure Right (ts : Nat → Tl) (n : Nat) : Prop where
  fits : ∀ i, i < n → (ts i).fits
  less : ∀ i j, i < j → j < n → (ts i).tree < (ts j).tree
theorem right_of {ts : Nat → Tl} : ∀ {n : Nat}, wrongTo ts n = 0 → Right ts n
  | 0, _ => ⟨fun i h => by omega, fun i j _ h => by omega⟩
  | n + 1, h => by
    have h0 : wrongTo ts n = 0 := by
      by_cases c : wrongTo ts n = 0
      · exact c
      · simp only [wrongTo] at h; rw [if_neg c] at h; exact h
    have hw : taleErr (last ts n) (ts n) = 0 := by simp only [wrongTo] at h; rw [if_pos h0] at h; exact h
    obtain ⟨r1, r2⟩ := right_of h0
    obtain ⟨q1, q2⟩ := taleErr_zero hw
    refine ⟨fun i hi => ?_, fun i j hij hj => ?_⟩
    · by_cases e : i = n
      · subst e; exact q1
      · exact r1 i (by omega)
    · by_cases e : j = n
      · subst e
        unfold last at q2
        rw [if_neg (by omega)] at q2
        by_cases e2 : i = j - 1
        · subst e2; exact q2
        · have := r2 i (j - 1) (by omega) (by omega)
          omega
      · exact r2 i j hij (by omega)
theorem Right.low {ts : Nat → Tl} {n : Nat} (h : Right ts n) : ∀ i, i < n → (i : Int) ≤ (ts i).tree
  | 0, hi => by have := (h.fits 0 hi).1.1; omega
  | i + 1, hi => by have := Right.low h i (by omega); have := h.less i (i + 1) (by omega) hi; omega
theorem Right.many {ts : Nat → Tl} {n : Nat} (h : Right ts n) : n ≤ 16 := by
  rcases Nat.eq_zero_or_pos n with e | e
  · omega
  · have h1 := h.low (n - 1) (by omega)
    have h2 := (h.fits (n - 1) (by omega)).1.2
    omega
theorem Right.part {ts : Nat → Tl} {n m : Nat} (h : Right ts n) (hm : m ≤ n) : Right ts m := ⟨fun i hi => h.fits i (by omega), fun i j hij hj => h.less i j hij (by omega)⟩
theorem wrong_zero {nd : Nat} {ts : Nat → Tl} {n : Nat} (h : wrong nd ts n = 0) : nd = 16 ∧ wrongTo ts n = 0 ∧ Right ts n := by
  unfold wrong at h
  by_cases c : nd = 16
  · rw [if_pos c] at h; exact ⟨c, h, right_of h⟩
  · rw [if_neg c] at h; cases h
/-- Byte j of a tale. -/
def taleB (t : Tl) (j : Nat) : Int :=
  if j = 0 then t.tree else if j = 1 then t.age else if j < 10 then be 8 t.root (j - 2) else if j < 14 then be 4 t.cost (j - 10) else if j < 22 then be 8 t.bridge (j - 14) else t.port
/-- Byte i of a hello. -/
def byt (dg : Nat → Int) (n : Nat) (ts : Nat → Tl) (i : Nat) : Int :=
  if i < 16 then dg i else if i = 16 then (n : Int) else taleB (ts ((i - 17) / 23)) ((i - 17) % 23)
/-- The tale of which f is the bytes. -/
def taleF (f : Nat → Int) : Tl := ⟨f 0, num (fun i => f (2 + i)) 8, num (fun i => f (10 + i)) 4, num (fun i => f (14 + i)) 8, f 22, f 1⟩
/-- The tales of which f is the bytes. -/
def talesF (f : Nat → Int) (i : Nat) : Tl := taleF (fun j => f (17 + i * 23 + j))
theorem num_range' (f : Nat → Int) : ∀ k, (∀ i, i < k → 0 ≤ f i ∧ f i ≤ 255) → 0 ≤ num f k ∧ num f k < 2 ^ (8 * k)
  | 0, _ => by simp [num]
  | k + 1, hf => by
    have h := num_range' f k (fun i hi => hf i (by omega))
    have := hf k (by omega)
    have h2 : (2 : Int) ^ (8 * (k + 1)) = 2 ^ (8 * k) * 256 := by rw [Nat.mul_add, Int.pow_add]; rfl
    rw [h2]
    simp only [num]
    generalize (2 : Int) ^ (8 * k) = P at *
    omega
theorem be_num (f : Nat → Int) : ∀ k, (∀ i, i < k → 0 ≤ f i ∧ f i ≤ 255) → ∀ i, i < k → be k (num f k) i = f i
  | 0, _, i, hi => by omega
  | k + 1, hf, i, hi => by
    have hk := hf k (by omega)
    simp only [num]
    by_cases e : i = k
    · subst e
      unfold be
      rw [show i + 1 - 1 - i = 0 by omega]
      simp only [Nat.mul_zero, Int.pow_zero, Int.ediv_one]
      omega
    · have ih := be_num f k (fun i hi => hf i (by omega)) i (by omega)
      unfold be at ih ⊢
      rw [show 8 * (k + 1 - 1 - i) = 8 + 8 * (k - 1 - i) by omega, Int.pow_add, ← Int.ediv_ediv_of_nonneg (by decide)]
      rw [show (num f k * 256 + f k) / 2 ^ 8 = num f k by rw [show (2 : Int) ^ 8 = 256 from rfl]; omega]
      exact ih
theorem num_be (N : Int) (f : Nat → Int) (k : Nat) (h0 : 0 ≤ N) (h1 : N < 2 ^ (8 * k)) (hf : ∀ i, i < k → f i = be k N i) : num f k = N := by
  have H : ∀ j, j ≤ k → num f j = N / 2 ^ (8 * (k - j)) := by
    intro j
    induction j with
    | zero => intro _; simp only [num, Nat.sub_zero]; exact (Int.ediv_eq_zero_of_lt h0 h1).symm
    | succ j ih =>
      intro hj
      simp only [num]
      rw [ih (by omega), hf j (by omega)]
      unfold be
      rw [show 8 * (k - j) = 8 * (k - 1 - j) + 8 by omega, Int.pow_add, ← Int.ediv_ediv_of_nonneg (Int.le_of_lt (Int.pow_pos (by decide))), show k - (j + 1) = k - 1 - j by omega, show (2 : Int) ^ 8 = 256 from rfl]
      omega
  have := H k (Nat.le_refl _)
  rw [Nat.sub_self, Nat.mul_zero, Int.pow_zero, Int.ediv_one] at this
  exact this
/-- WHAT IS WRITTEN IS READ: a tale. -/
theorem tale_back (t : Tl) (f : Nat → Int) (h1 : t.fits) (h2 : t.wide) (hf : ∀ j, j < 23 → f j = taleB t j) : taleF f = t := by
  obtain ⟨a, b, c, d⟩ := h1
  refine Tl.eq ?_ ?_ ?_ ?_ ?_ ?_
  · exact hf 0 (by omega)
  · refine num_be _ _ 8 h2.1.1 h2.1.2 (fun i hi => ?_)
    rw [hf _ (by omega)]
    unfold taleB
    rw [if_neg (by omega), if_neg (by omega), if_pos (by omega), show 2 + i - 2 = i by omega]
  · refine num_be _ _ 4 c.1 (by have := c.2; simp only [Nat.reduceMul]; omega) (fun i hi => ?_)
    rw [hf _ (by omega)]
    unfold taleB
    rw [if_neg (by omega), if_neg (by omega), if_neg (by omega), if_pos (by omega), show 10 + i - 10 = i by omega]
  · refine num_be _ _ 8 h2.2.1 h2.2.2 (fun i hi => ?_)
    rw [hf _ (by omega)]
    unfold taleB
    rw [if_neg (by omega), if_neg (by omega), if_neg (by omega), if_neg (by omega), if_pos (by omega), show 14 + i - 14 = i by omega]
  · exact hf 22 (by omega)
  · exact hf 1 (by omega)
/-- WHAT IS READ WAS WRITTEN: a tale. -/
theorem tale_there (f : Nat → Int) (hf : ∀ j, j < 23 → 0 ≤ f j ∧ f j ≤ 255) (j : Nat) (hj : j < 23) : taleB (taleF f) j = f j := by
  unfold taleB taleF
  by_cases e0 : j = 0
  · subst e0; rfl
  · rw [if_neg e0]
    by_cases e1 : j = 1
    · subst e1; rfl
    · rw [if_neg e1]
      by_cases e2 : j < 10
      · rw [if_pos e2, be_num (fun i => f (2 + i)) 8 (fun i hi => hf _ (by omega)) (j - 2) (by omega), show 2 + (j - 2) = j by omega]
      · rw [if_neg e2]
        by_cases e3 : j < 14
        · rw [if_pos e3, be_num (fun i => f (10 + i)) 4 (fun i hi => hf _ (by omega)) (j - 10) (by omega), show 10 + (j - 10) = j by omega]
        · rw [if_neg e3]
          by_cases e4 : j < 22
          · rw [if_pos e4, be_num (fun i => f (14 + i)) 8 (fun i hi => hf _ (by omega)) (j - 14) (by omega), show 14 + (j - 14) = j by omega]
          · rw [if_neg e4, show j = 22 by omega]
theorem taleF_wide (f : Nat → Int) (hf : ∀ j, j < 23 → 0 ≤ f j ∧ f j ≤ 255) : (taleF f).wide :=
  ⟨num_range' _ 8 (fun i hi => hf _ (by omega)), num_range' _ 8 (fun i hi => hf _ (by omega))⟩
theorem taleB_range (t : Tl) (h : t.fits) (j : Nat) : 0 ≤ taleB t j ∧ taleB t j ≤ 255 := by
  obtain ⟨a, b, c, d⟩ := h
  unfold taleB
  by_cases e0 : j = 0
  · rw [if_pos e0]; omega
  · rw [if_neg e0]
    by_cases e1 : j = 1
    · rw [if_pos e1]; omega
    · rw [if_neg e1]
      by_cases e2 : j < 10
      · rw [if_pos e2]; exact be_range _ _ _
      · rw [if_neg e2]
        by_cases e3 : j < 14
        · rw [if_pos e3]; exact be_range _ _ _
        · rw [if_neg e3]
          by_cases e4 : j < 22
          · rw [if_pos e4]; exact be_range _ _ _
          · rw [if_neg e4]; omega
theorem byt_tale (dg : Nat → Int) (n : Nat) (ts : Nat → Tl) (i j : Nat) (hj : j < 23) : byt dg n ts (17 + i * 23 + j) = taleB (ts i) j := by
  unfold byt
  rw [if_neg (by omega), if_neg (by omega), show (17 + i * 23 + j - 17) / 23 = i by omega, show (17 + i * 23 + j - 17) % 23 = j by omega]
/-- WHAT IS WRITTEN IS READ. -/
theorem turn_there (dg : Nat → Int) (n : Nat) (ts : Nat → Tl) (hr : Right ts n) (hw : ∀ i, i < n → (ts i).wide) (i : Nat) (hi : i < n) : talesF (byt dg n ts) i = ts i :=
  tale_back (ts i) _ (hr.fits i hi) (hw i hi) (fun j hj => byt_tale dg n ts i j hj)
/-- WHAT IS READ WAS WRITTEN. -/
theorem turn_back (f : Nat → Int) (n : Nat) (hn : f 16 = (n : Int)) (hf : ∀ i, i < 17 + n * 23 → 0 ≤ f i ∧ f i ≤ 255) (i : Nat) (hi : i < 17 + n * 23) : byt f n (talesF f) i = f i := by
  unfold byt
  by_cases e0 : i < 16
  · rw [if_pos e0]
  · rw [if_neg e0]
    by_cases e1 : i = 16
    · rw [if_pos e1, e1, hn]
    · rw [if_neg e1]
      have h1 : (i - 17) / 23 < n := by omega
      unfold talesF
      rw [tale_there _ (fun j hj => hf _ (by omega)) _ (Nat.mod_lt _ (by omega))]
      congr 1
      omega
theorem byt_range (dg : Nat → Int) (n : Nat) (ts : Nat → Tl) (hd : ∀ i, i < 16 → 0 ≤ dg i ∧ dg i ≤ 255) (hr : Right ts n) (i : Nat) (hi : i < 17 + n * 23) : 0 ≤ byt dg n ts i ∧ byt dg n ts i ≤ 255 := by
  unfold byt
  by_cases e0 : i < 16
  · rw [if_pos e0]; exact hd i e0
  · rw [if_neg e0]
    by_cases e1 : i = 16
    · rw [if_pos e1]; have := hr.many; omega
    · rw [if_neg e1]
      exact taleB_range _ (hr.fits _ (by omega)) _
end Hl
end Go.Proofs.Ytmjgmngdahhbkaa
