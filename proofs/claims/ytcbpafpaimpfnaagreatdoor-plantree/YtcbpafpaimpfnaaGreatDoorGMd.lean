/- What package region's functions come to: plain functions. -/
import Derived.Test.YtcbpafpaimpfnaaGreatDoorG
namespace Go.Proofs.YtcbpafpaimpfnaaGreatDoor
namespace Rg
/-- What is wrong with a way behind another one. -/
def wayErr (last v t : Int) : Int := if (1 ≤ v ∧ v ≤ 4094) ∧ 1 ≤ t ∧ t ≤ 15 then (if v ≤ last then 2 else 0) else 3
def last (vs : Nat → Int) (k : Nat) : Int := if k = 0 then 0 else vs (k - 1)
/-- What is wrong with the first k ways. -/
def wrongTo (vs ts : Nat → Int) : Nat → Int
  | 0 => 0
  | k + 1 => if wrongTo vs ts k = 0 then wayErr (last vs k) (vs k) (ts k) else wrongTo vs ts k
theorem wrongTo_stay (vs ts : Nat → Int) (k : Nat) (h : wrongTo vs ts k ≠ 0) : ∀ n, k ≤ n → wrongTo vs ts n = wrongTo vs ts k := by
  intro n hn
  induction n with
  | zero => obtain rfl : k = 0 := by omega
            rfl
  | succ n ih =>
    by_cases e : k = n + 1
    · subst e; rfl
    · have h1 := ih (by omega)
      simp only [wrongTo]
      rw [if_neg (by rw [h1]; exact h), h1]
theorem wrongTo_here (vs ts : Nat → Int) (k n : Nat) (hk : k < n) (h0 : wrongTo vs ts k = 0) (h : wayErr (last vs k) (vs k) (ts k) ≠ 0) : wrongTo vs ts n = wayErr (last vs k) (vs k) (ts k) := by
  have h1 : wrongTo vs ts (k + 1) = wayErr (last vs k) (vs k) (ts k) := by simp only [wrongTo]; rw [if_pos h0]
  rw [wrongTo_stay vs ts (k + 1) (by rw [h1]; exact h) n (by omega), h1]
theorem wrongTo_succ (vs ts : Nat → Int) (k : Nat) (h0 : wrongTo vs ts k = 0) (h : wayErr (last vs k) (vs k) (ts k) = 0) : wrongTo vs ts (k + 1) = 0 := by
  simp only [wrongTo]; rw [if_pos h0]; exact h
theorem wayErr_zero {l v t : Int} (h : wayErr l v t = 0) : (1 ≤ v ∧ v ≤ 4094) ∧ (1 ≤ t ∧ t ≤ 15) ∧ l < v := by
  unfold wayErr at h
  by_cases c : (1 ≤ v ∧ v ≤ 4094) ∧ 1 ≤ t ∧ t ≤ 15
  · rw [if_pos c] at h
    by_cases d : v ≤ l
    · rw [if_pos d] at h; cases h
    · exact ⟨c.1, c.2, by omega⟩
  · rw [if_neg c] at h; cases h
/-- Nothing is wrong with n ways. -/
structure Right (vs ts : Nat → Int) (n : Nat) : Prop where
  vid : ∀ i, i < n → 1 ≤ vs i ∧ vs i ≤ 4094
  tree : ∀ i, i < n → 1 ≤ ts i ∧ ts i ≤ 15
  less : ∀ i j, i < j → j < n → vs i < vs j
theorem right_of {vs ts : Nat → Int} : ∀ {n : Nat}, wrongTo vs ts n = 0 → Right vs ts n
  | 0, _ => ⟨fun i h => by omega, fun i h => by omega, fun i j _ h => by omega⟩
  | n + 1, h => by
    have h0 : wrongTo vs ts n = 0 := by
      by_cases c : wrongTo vs ts n = 0
      · exact c
      · simp only [wrongTo] at h; rw [if_neg c] at h; exact h
    have hw : wayErr (last vs n) (vs n) (ts n) = 0 := by simp only [wrongTo] at h; rw [if_pos h0] at h; exact h
    obtain ⟨r1, r2, r3⟩ := right_of h0
    obtain ⟨q1, q2, q3⟩ := wayErr_zero hw
    refine ⟨fun i hi => ?_, fun i hi => ?_, fun i j hij hj => ?_⟩
    · by_cases e : i = n
      · subst e; exact q1
      · exact r1 i (by omega)
    · by_cases e : i = n
      · subst e; exact q2
      · exact r2 i (by omega)
    · by_cases e : j = n
      · subst e
        unfold last at q3
        rw [if_neg (by omega)] at q3
        by_cases e2 : i = j - 1
        · subst e2; exact q3
        · have := r3 i (j - 1) (by omega) (by omega)
          omega
      · exact r3 i j hij (by omega)
theorem Right.low {vs ts : Nat → Int} {n : Nat} (h : Right vs ts n) : ∀ i, i < n → (i : Int) + 1 ≤ vs i
  | 0, hi => by have := (h.vid 0 hi).1; omega
  | i + 1, hi => by have := Right.low h i (by omega); have := h.less i (i + 1) (by omega) hi; omega
theorem Right.many {vs ts : Nat → Int} {n : Nat} (h : Right vs ts n) : n ≤ 4094 := by
  rcases Nat.eq_zero_or_pos n with e | e
  · omega
  · have h1 := h.low (n - 1) (by omega)
    have h2 := (h.vid (n - 1) (by omega)).2
    omega
/-- The tree of a way among the first n. -/
def tree (vs ts : Nat → Int) (v : Int) : Nat → Int
  | 0 => 0
  | k + 1 => if vs k = v then ts k else tree vs ts v k
theorem tree_none (vs ts : Nat → Int) (v : Int) : ∀ n, (∀ i, i < n → vs i ≠ v) → tree vs ts v n = 0
  | 0, _ => rfl
  | n + 1, h => by
    simp only [tree]
    rw [if_neg (h n (by omega))]
    exact tree_none vs ts v n (fun i hi => h i (by omega))
theorem tree_at {vs ts : Nat → Int} {n : Nat} (h : Right vs ts n) (i : Nat) (hi : i < n) : ∀ m, i < m → m ≤ n → tree vs ts (vs i) m = ts i
  | 0, hm, _ => by omega
  | m + 1, hm, hn => by
    simp only [tree]
    by_cases e : i = m
    · subst e; rw [if_pos rfl]
    · have := h.less i m (by omega) (by omega)
      rw [if_neg (by omega)]
      exact tree_at h i hi m (by omega) (by omega)
theorem tree_range {vs ts : Nat → Int} {n : Nat} (h : Right vs ts n) (v : Int) : ∀ m, m ≤ n → 0 ≤ tree vs ts v m ∧ tree vs ts v m ≤ 15
  | 0, _ => by simp [tree]
  | m + 1, hm => by
    simp only [tree]
    by_cases e : vs m = v
    · rw [if_pos e]; have := h.tree m (by omega); omega
    · rw [if_neg e]; exact tree_range h v m (by omega)
theorem tree_out {vs ts : Nat → Int} {n : Nat} (h : Right vs ts n) (v : Int) (hv : v < 1 ∨ 4094 < v) : tree vs ts v n = 0 :=
  tree_none vs ts v n (fun i hi => by have := h.vid i hi; omega)
/-- The trees of all ways, as bytes. -/
def pairs (vs ts : Nat → Int) (n i : Nat) : Int := if i % 2 = 0 then 0 else tree vs ts ((i / 2 : Nat) : Int) n
theorem pairs_range {vs ts : Nat → Int} {n : Nat} (h : Right vs ts n) (i : Nat) : 0 ≤ pairs vs ts n i ∧ pairs vs ts n i ≤ 255 := by
  unfold pairs
  by_cases e : i % 2 = 0
  · rw [if_pos e]; omega
  · rw [if_neg e]; have := tree_range h ((i / 2 : Nat) : Int) n (Nat.le_refl _); omega
theorem pairs_even (vs ts : Nat → Int) (n k : Nat) : pairs vs ts n (2 * k) = 0 := by unfold pairs; rw [if_pos (by omega)]
theorem pairs_odd (vs ts : Nat → Int) (n k : Nat) : pairs vs ts n (2 * k + 1) = tree vs ts (k : Int) n := by
  unfold pairs; rw [if_neg (by omega), show (2 * k + 1) / 2 = k by omega]
theorem pairs_same {v1 t1 v2 t2 : Nat → Int} {n1 n2 : Nat} (h1 : Right v1 t1 n1) (h2 : Right v2 t2 n2) (h : ∀ k : Nat, 1 ≤ k → k ≤ 4094 → tree v1 t1 (k : Int) n1 = tree v2 t2 (k : Int) n2) : pairs v1 t1 n1 = pairs v2 t2 n2 := by
  funext i
  unfold pairs
  by_cases e : i % 2 = 0
  · rw [if_pos e, if_pos e]
  · rw [if_neg e, if_neg e]
    by_cases c : 1 ≤ i / 2 ∧ i / 2 ≤ 4094
    · exact h _ c.1 c.2
    · rw [tree_out h1 _ (by omega), tree_out h2 _ (by omega)]
/-- A string's bytes. -/
def nb (s : ByteArray) (i : Nat) : Int := ((s.data.toList.getD i 0).toNat : Int)
theorem nb_range (s : ByteArray) (i : Nat) : 0 ≤ nb s i ∧ nb s i ≤ 255 := by
  unfold nb
  have := (s.data.toList.getD i 0).toNat_lt
  omega
/-- A name's sign that may not stand there. -/
def odd (c : Int) : Bool := decide (c < 32) || decide (126 < c)
def anyOdd (f : Nat → Int) : Nat → Bool
  | 0 => false
  | k + 1 => anyOdd f k || odd (f k)
theorem anyOdd_iff (f : Nat → Int) : ∀ n, anyOdd f n = true ↔ ∃ i, i < n ∧ odd (f i) = true
  | 0 => by simp [anyOdd]
  | n + 1 => by
    simp only [anyOdd, Bool.or_eq_true]
    rw [anyOdd_iff f n]
    constructor
    · rintro (⟨i, hi, h⟩ | h)
      · exact ⟨i, by omega, h⟩
      · exact ⟨n, by omega, h⟩
    · rintro ⟨i, hi, h⟩
      by_cases e : i = n
      · subst e; exact Or.inr h
      · exact Or.inl ⟨i, by omega, h⟩
theorem anyOdd_here (f : Nat → Int) (k n : Nat) (hk : k < n) (h : odd (f k) = true) : anyOdd f n = true := (anyOdd_iff f n).2 ⟨k, hk, h⟩
theorem anyOdd_next (f : Nat → Int) (k : Nat) (h0 : anyOdd f k = false) (h : odd (f k) = false) : anyOdd f (k + 1) = false := by simp [anyOdd, h0, h]
/-- Whether a string is a name. -/
def isName (s : ByteArray) : Bool := decide (1 ≤ s.size) && decide (s.size ≤ 32) && !anyOdd (nb s) s.size
theorem isName_parts {s : ByteArray} (h : isName s = true) : 1 ≤ s.size ∧ s.size ≤ 32 ∧ ∀ i, i < s.size → 32 ≤ nb s i ∧ nb s i ≤ 126 := by
  unfold isName at h
  simp only [Bool.and_eq_true, decide_eq_true_eq, Bool.not_eq_true'] at h
  refine ⟨h.1.1, h.1.2, fun i hi => ?_⟩
  have h2 : ¬ odd (nb s i) = true := fun c => by
    have := (anyOdd_iff (nb s) s.size).2 ⟨i, hi, c⟩
    rw [h.2] at this
    cases this
  unfold odd at h2
  simp only [Bool.or_eq_true, decide_eq_true_eq] at h2
  omega
/-- What is wrong with a region. -/
def wrong (s : ByteArray) (rev : Int) (vs ts : Nat → Int) (n : Nat) : Int :=
  if isName s = true then (if 0 ≤ rev ∧ rev ≤ 65535 then wrongTo vs ts n else 3) else 7
theorem wrong_zero {s : ByteArray} {rev : Int} {vs ts : Nat → Int} {n : Nat} (h : wrong s rev vs ts n = 0) : isName s = true ∧ (0 ≤ rev ∧ rev ≤ 65535) ∧ Right vs ts n := by
  unfold wrong at h
  by_cases c : isName s = true
  · rw [if_pos c] at h
    by_cases d : 0 ≤ rev ∧ rev ≤ 65535
    · rw [if_pos d] at h; exact ⟨c, d, right_of h⟩
    · rw [if_neg d] at h; cases h
  · rw [if_neg c] at h; cases h
/-- A region's identity: its name, its revision, its digest d. -/
def ident (s : ByteArray) (rev : Int) (d : Nat → Int) (i : Nat) : Int :=
  if i < 32 then (if i < s.size then nb s i else 0) else if i = 32 then rev / 256 else if i = 33 then rev % 256 else d (i - 34)
theorem ident_range {s : ByteArray} {rev : Int} {d : Nat → Int} (hr : 0 ≤ rev ∧ rev ≤ 65535) (hd : ∀ i, 0 ≤ d i ∧ d i ≤ 255) (i : Nat) : 0 ≤ ident s rev d i ∧ ident s rev d i ≤ 255 := by
  unfold ident
  by_cases h1 : i < 32
  · rw [if_pos h1]
    by_cases h2 : i < s.size
    · rw [if_pos h2]; exact nb_range s i
    · rw [if_neg h2]; omega
  · rw [if_neg h1]
    by_cases h2 : i = 32
    · rw [if_pos h2]; omega
    · rw [if_neg h2]
      by_cases h3 : i = 33
      · rw [if_pos h3]; omega
      · rw [if_neg h3]; exact hd _
theorem str_eq {a b : ByteArray} (hs : a.size = b.size) (h : ∀ i, i < a.size → nb a i = nb b i) : a = b := by
  apply ByteArray.ext
  apply Array.ext hs
  intro i h1 h2
  have h3 := h i h1
  unfold nb at h3
  have e1 : a.data.toList.getD i 0 = a.data[i] := by simp [List.getD, Array.getElem?_eq_getElem h1]
  have e2 : b.data.toList.getD i 0 = b.data[i] := by simp [List.getD, Array.getElem?_eq_getElem h2]
  rw [e1, e2] at h3
  exact UInt8.toNat_inj.1 (by omega)
/-- ONE REGION, JUST IF ALL IS THE SAME. -/
theorem ident_same {a b : ByteArray} {ra rb : Int} {da db : Nat → Int} (ha : isName a = true) (hb : isName b = true) :
    (∀ i, i < 50 → ident a ra da i = ident b rb db i) ↔ a = b ∧ ra = rb ∧ ∀ i, i < 16 → da i = db i := by
  obtain ⟨a1, a2, a3⟩ := isName_parts ha
  obtain ⟨b1, b2, b3⟩ := isName_parts hb
  constructor
  · intro h
    have hn : ∀ i, i < 32 → (if i < a.size then nb a i else 0) = (if i < b.size then nb b i else 0) := fun i hi => by
      have := h i (by omega)
      unfold ident at this
      rw [if_pos hi, if_pos hi] at this
      exact this
    have hsz : a.size = b.size := by
      rcases Nat.lt_trichotomy a.size b.size with c | c | c
      · have h1 := hn a.size (by omega)
        rw [if_neg (by omega), if_pos c] at h1
        have := b3 a.size c
        omega
      · exact c
      · have h1 := hn b.size (by omega)
        rw [if_pos c, if_neg (by omega)] at h1
        have := a3 b.size c
        omega
    refine ⟨str_eq hsz (fun i hi => ?_), ?_, fun i hi => ?_⟩
    · have h1 := hn i (by omega)
      rw [if_pos hi, if_pos (by omega)] at h1
      exact h1
    · have h1 := h 32 (by omega)
      have h2 := h 33 (by omega)
      simp only [ident] at h1 h2
      simp at h1 h2
      omega
    · have h1 := h (i + 34) (by omega)
      unfold ident at h1
      rw [if_neg (by omega), if_neg (by omega), if_neg (by omega), if_neg (by omega), if_neg (by omega), if_neg (by omega), show i + 34 - 34 = i by omega] at h1
      exact h1
  · rintro ⟨rfl, rfl, h⟩ i hi
    unfold ident
    by_cases h1 : i < 32
    · rw [if_pos h1, if_pos h1]
    · rw [if_neg h1, if_neg h1]
      by_cases h2 : i = 32
      · rw [if_pos h2, if_pos h2]
      · rw [if_neg h2, if_neg h2]
        by_cases h3 : i = 33
        · rw [if_pos h3, if_pos h3]
        · rw [if_neg h3, if_neg h3]; exact h _ (by omega)
end Rg
end Go.Proofs.YtcbpafpaimpfnaaGreatDoor
