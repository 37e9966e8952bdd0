/- Plain: the document's plan: the root port, the ports, their roles -/
import Derived.Test.YtcbpafpaimpfnaaGreatDoorP10
namespace Go.Proofs.YtcbpafpaimpfnaaGreatDoor
section
namespace Pl
open Vc (V Of)
section
variable {ids : Nat → Int} {ls : Nat → Lk} {lv : Nat → Bool} {K L m : Nat} {on : Nat → Nat}
structure Lives (ls : Nat → Lk) (lv : Nat → Bool) (L m : Nat) (on : Nat → Nat) : Prop where
 mem : ∀ j, j < m → on j < L ∧ lv (on j) = true
 all : ∀ k, k < L → lv k = true → ∃ j, j < m ∧ on j = k
def Reach (ls : Nat → Lk) (lv : Nat → Bool) (K L : Nat) (i j : Nat) : Prop := ∃ vs c, Walk (fun i => (i : Int)) (fun i => ends ls lv L i) K i vs (j : Int) c
theorem Walk.ends {ids jds : Nat → Int} {E : Nat → List En} {i : Nat} {vs : List Nat} {ρ c : Int} (h : Walk ids E K i vs ρ c) : ∃ j, j < K ∧ ids j = ρ ∧ Walk jds E K i vs (jds j) c := by
 induction h with
 | here i hi => exact ⟨i, hi, rfl, Walk.here i hi⟩
 | over i e vs ρ c hi he hl _ ih =>
  obtain ⟨j, hj, h1, h2⟩ := ih
  exact ⟨j, hj, h1, Walk.over i e vs _ c hi he hl h2⟩
theorem Walk.to {ids : Nat → Int} {E : Nat → List En} {i j : Nat} {vs : List Nat} {c : Int} (h : Walk (fun i => (i : Int)) E K i vs (j : Int) c) : j < K ∧ Walk ids E K i vs (ids j) c := by
 obtain ⟨k, hk, h1, h2⟩ := h.ends (jds := ids)
 have e : k = j := by have : (k : Int) = (j : Int) := h1; omega
 subst e
 exact ⟨hk, h2⟩
theorem Reach.refl {i : Nat} (hi : i < K) : Reach ls lv K L i i := ⟨_, _, Walk.here i hi⟩
theorem Reach.over {i j : Nat} (R : RightL K L ls) {k : Nat} (hk : k < L) (hl : lv k = true) (h : ((ls k).a.toNat = i ∧ Reach ls lv K L (ls k).b.toNat j) ∨ ((ls k).b.toNat = i ∧ Reach ls lv K L (ls k).a.toNat j)) : Reach ls lv K L i j := by
 obtain ⟨o1, o2, _⟩ := R.ok k hk
 rcases h with ⟨rfl, vs, c, h⟩ | ⟨rfl, vs, c, h⟩
 ·exact ⟨_, _, Walk.over _ (eA (ls k) (lv k)) vs _ c (by omega) (eA_mem R lv hk) hl h⟩
 ·exact ⟨_, _, Walk.over _ (eB (ls k) (lv k)) vs _ c (by omega) (eB_mem R lv hk) hl h⟩
theorem Reach.trans {i j q : Nat} (h1 : Reach ls lv K L i j) (h2 : Reach ls lv K L j q) : Reach ls lv K L i q := by
 obtain ⟨vs, c, h1⟩ := h1
 have key : ∀ {i : Nat} {vs : List Nat} {ρ c : Int}, Walk (fun i => (i : Int)) (fun i => ends ls lv L i) K i vs ρ c → ρ = (j : Int) → Reach ls lv K L i q := by
  intro i vs ρ c h
  induction h with
  | here i hi =>
   intro e
   have : i = j := by omega
   rw [this]; exact h2
  | over i e vs ρ c hi he hl _ ih =>
   intro e'
   obtain ⟨ws, d, hw⟩ := ih e'
   exact ⟨_, _, Walk.over i e ws _ d hi he hl hw⟩
 exact key h1 rfl
theorem Reach.symm (R : RightL K L ls) {i j : Nat} (h1 : Reach ls lv K L i j) : Reach ls lv K L j i := by
 obtain ⟨vs, c, h1⟩ := h1
 have key : ∀ {i : Nat} {vs : List Nat} {ρ c : Int}, Walk (fun i => (i : Int)) (fun i => ends ls lv L i) K i vs ρ c → ρ = (j : Int) → Reach ls lv K L j i := by
  intro i vs ρ c h
  induction h with
  | here i hi =>
   intro e
   have : i = j := by omega
   subst this; exact Reach.refl hi
  | over i e vs ρ c hi he hl hw ih =>
   intro e'
   have h2 := ih e'
   refine h2.trans ?_
   obtain ⟨k, hk, hh⟩ := ends_mem.1 he
   obtain ⟨o1, o2, _⟩ := R.ok k hk
   rcases hh with ⟨q1, rfl⟩ | ⟨q1, rfl⟩
   ·exact Reach.over R hk hl (Or.inr ⟨rfl, by rw [show (ls k).a.toNat = i by omega]; exact Reach.refl hi⟩)
   ·exact Reach.over R hk hl (Or.inl ⟨rfl, by rw [show (ls k).b.toNat = i by omega]; exact Reach.refl hi⟩)
 exact key h1 rfl
def gStep (g : Nat → Nat) (l : Lk) (i : Nat) : Nat := if i = l.a.toNat ∨ i = l.b.toNat then min (g l.a.toNat) (g l.b.toNat) else g i
def gTo (es : Nat → Lk) (g : Nat → Nat) : Nat → (Nat → Nat)
 | 0 => g
 | j + 1 => gStep (gTo es g j) (es j)
def gRounds (es : Nat → Lk) (m : Nat) : Nat → (Nat → Nat)
 | 0 => fun i => i
 | r + 1 => gTo es (gRounds es m r) m
theorem gStep_le (g : Nat → Nat) (l : Lk) (i : Nat) : gStep g l i ≤ g i := by
 unfold gStep
 by_cases h : i = l.a.toNat ∨ i = l.b.toNat
 ·rw [if_pos h]
  rcases h with h | h <;> rw [h]
  ·exact Nat.min_le_left _ _
  ·exact Nat.min_le_right _ _
 ·rw [if_neg h]; exact Nat.le_refl _
theorem gTo_le (es : Nat → Lk) (g : Nat → Nat) (i : Nat) : ∀ j k, j ≤ k → gTo es g k i ≤ gTo es g j i
 | j, 0, h => by rw [show j = 0 by omega]; exact Nat.le_refl _
 | j, k + 1, h => by
  by_cases e : j = k + 1
  ·rw [e]; exact Nat.le_refl _
  ·exact Nat.le_trans (gStep_le _ _ i) (gTo_le es g i j k (by omega))
def GReal (ls : Nat → Lk) (lv : Nat → Bool) (K L : Nat) (g : Nat → Nat) : Prop := ∀ i, i < K → Reach ls lv K L i (g i)
def GUp (ls : Nat → Lk) (lv : Nat → Bool) (K L : Nat) (n : Nat) (g : Nat → Nat) : Prop := ∀ i vs (j : Nat) c, Walk (fun i => (i : Int)) (fun i => ends ls lv L i) K i vs (j : Int) c → vs.length ≤ n → g i ≤ j
theorem gTo_real (R : RightL K L ls) (V : Lives ls lv L m on) {g : Nat → Nat} (h : GReal ls lv K L g) : ∀ j, j ≤ m → GReal ls lv K L (gTo (fun j => ls (on j)) g j)
 | 0, _ => h
 | j + 1, hj => by
  have ih := gTo_real R V h j (by omega)
  obtain ⟨hk, hl⟩ := V.mem j (by omega)
  obtain ⟨o1, o2, _⟩ := R.ok (on j) hk
  have ha := ih (ls (on j)).a.toNat (by omega)
  have hb := ih (ls (on j)).b.toNat (by omega)
  intro i hi
  show Reach ls lv K L i (gStep (gTo (fun j => ls (on j)) g j) (ls (on j)) i)
  unfold gStep
  by_cases c : i = (ls (on j)).a.toNat ∨ i = (ls (on j)).b.toNat
  ·rw [if_pos c]
   rcases Nat.le_total (gTo (fun j => ls (on j)) g j (ls (on j)).a.toNat) (gTo (fun j => ls (on j)) g j (ls (on j)).b.toNat) with q | q
   ·rw [Nat.min_eq_left q]
    rcases c with c | c
    ·rw [c]; exact ha
    ·exact Reach.over R hk hl (Or.inr ⟨c.symm, ha⟩)
   ·rw [Nat.min_eq_right q]
    rcases c with c | c
    ·exact Reach.over R hk hl (Or.inl ⟨c.symm, hb⟩)
    ·rw [c]; exact hb
  ·rw [if_neg c]; exact ih i hi
theorem gTo_up (R : RightL K L ls) (V : Lives ls lv L m on) {g : Nat → Nat} {n : Nat} (h : GUp ls lv K L n g) (h0 : ∀ i, g i ≤ i) : GUp ls lv K L (n + 1) (gTo (fun j => ls (on j)) g m) := by
 intro i vs j c hw hn
 cases hw with
 | here _ hi => exact Nat.le_trans (gTo_le _ g i 0 m (by omega)) (h0 i)
 | over _ e vs _ c _ he hl hw =>
  have h1 := h e.other.toNat vs j c hw (by simp at hn; omega)
  obtain ⟨k, hk, hh⟩ := ends_mem.1 he
  obtain ⟨o1, o2, _⟩ := R.ok k hk
  have hlk : lv k = true := by rcases hh with ⟨_, rfl⟩ | ⟨_, rfl⟩ <;> exact hl
  obtain ⟨q, hq, eq⟩ := V.all k hk hlk
  have h2 := gTo_le (fun j => ls (on j)) g i (q + 1) m (by omega)
  refine Nat.le_trans h2 ?_
  show gStep (gTo (fun j => ls (on j)) g q) (ls (on q)) i ≤ j
  rw [eq]
  have hle : ∀ x, gTo (fun j => ls (on j)) g q x ≤ g x := fun x => gTo_le _ g x 0 q (by omega)
  unfold gStep
  rcases hh with ⟨q1, rfl⟩ | ⟨q1, rfl⟩
  ·rw [if_pos (Or.inl (by omega))]
   exact Nat.le_trans (Nat.min_le_right _ _) (Nat.le_trans (hle _) h1)
  ·rw [if_pos (Or.inr (by omega))]
   exact Nat.le_trans (Nat.min_le_left _ _) (Nat.le_trans (hle _) h1)
theorem gRounds_inv (R : RightL K L ls) (V : Lives ls lv L m on) : ∀ r, GReal ls lv K L (gRounds (fun j => ls (on j)) m r) ∧ GUp ls lv K L (r + 1) (gRounds (fun j => ls (on j)) m r) ∧ ∀ i, gRounds (fun j => ls (on j)) m r i ≤ i
 | 0 => by
  refine ⟨fun i hi => Reach.refl hi, fun i vs j c hw hn => ?_, fun i => Nat.le_refl _⟩
  cases hw with
  | here _ hi => exact Nat.le_refl _
  | over _ e vs _ c _ _ _ hw =>
   cases hw with
   | here => simp at hn
   | over => simp at hn
 | r + 1 => by
  obtain ⟨h1, h2, h3⟩ := gRounds_inv R V r
  exact ⟨gTo_real R V h1 m (Nat.le_refl _), gTo_up R V h2 h3, fun i => Nat.le_trans (gTo_le _ _ i 0 m (by omega)) (h3 i)⟩
theorem group_iff (R : RightL K L ls) (hK : K ≤ 12) (V : Lives ls lv L m on) {i j : Nat} (hi : i < K) (hj : j < K) : gRounds (fun j => ls (on j)) m K i = gRounds (fun j => ls (on j)) m K j ↔ Reach ls lv K L i j := by
 obtain ⟨h1, h2, _⟩ := gRounds_inv (m := m) (on := on) R V K
 have least : ∀ x y, Reach ls lv K L x y → gRounds (fun j => ls (on j)) m K x ≤ y := by
  rintro x y ⟨vs, c, hw⟩
  obtain ⟨us, d, k1, _, k3⟩ := hw.simple (good R hK (fun i => (i : Int)) lv)
  exact h2 x us y d k1 (Nat.le_trans (nodup_few K us k3 k1.all) (by omega))
 constructor
 ·intro e
  have a := h1 i hi
  have b := (h1 j hj).symm R
  rw [← e] at b
  exact a.trans b
 ·intro h
  have a := least i _ (h.trans (h1 j hj))
  have b := least j _ ((h.symm R).trans (h1 i hi))
  omega
def rootTo (ids : Nat → Int) (g : Nat → Nat) (i : Nat) : Nat → Int
 | 0 => ids i
 | k + 1 => if g k = g i ∧ ids k < rootTo ids g i k then ids k else rootTo ids g i k
theorem rootTo_le (ids : Nat → Int) (g : Nat → Nat) (i : Nat) : ∀ k, rootTo ids g i k ≤ ids i ∧ ∀ j, j < k → g j = g i → rootTo ids g i k ≤ ids j
 | 0 => ⟨Int.le_refl _, fun j hj => absurd hj (by omega)⟩
 | k + 1 => by
  obtain ⟨h1, h2⟩ := rootTo_le ids g i k
  simp only [rootTo]
  by_cases c : g k = g i ∧ ids k < rootTo ids g i k
  ·rw [if_pos c]
   refine ⟨by omega, fun j hj hg => ?_⟩
   by_cases e : j = k
   ·rw [e]; exact Int.le_refl _
   ·have := h2 j (by omega) hg; omega
  ·rw [if_neg c]
   refine ⟨h1, fun j hj hg => ?_⟩
   by_cases e : j = k
   ·subst e
    rcases Int.lt_or_le (ids j) (rootTo ids g i j) with q | q
    ·exact absurd ⟨hg, q⟩ c
    ·exact q
   ·exact h2 j (by omega) hg
theorem rootTo_is (ids : Nat → Int) (g : Nat → Nat) (i : Nat) : ∀ k, ∃ j, (j = i ∨ j < k) ∧ g j = g i ∧ rootTo ids g i k = ids j
 | 0 => ⟨i, Or.inl rfl, rfl, rfl⟩
 | k + 1 => by
  simp only [rootTo]
  by_cases c : g k = g i ∧ ids k < rootTo ids g i k
  ·rw [if_pos c]; exact ⟨k, Or.inr (by omega), c.1, rfl⟩
  ·rw [if_neg c]
   obtain ⟨j, h1, h2, h3⟩ := rootTo_is ids g i k
   exact ⟨j, by omega, h2, h3⟩
theorem root_same (R : RightL K L ls) (hK : K ≤ 12) (V : Lives ls lv L m on) {i : Nat} (hi : i < K) : rootTo ids (gRounds (fun j => ls (on j)) m K) i K = (says ids ls lv K L i).v.root := by
 have G := good R hK ids lv
 obtain ⟨j, h1, h2, h3⟩ := rootTo_is ids (gRounds (fun j => ls (on j)) m K) i K
 have hj : j < K := by omega
 obtain ⟨vs, c, hw⟩ := (group_iff R hK V hi hj).1 h2.symm
 have hup := fin_up G hi (hw.to (ids := ids)).2
 obtain ⟨us, hr⟩ := fin_real G i hi
 obtain ⟨q, hq, e1, hw2⟩ := hr.ends (jds := fun i => (i : Int))
 have hreach : Reach ls lv K L i q := ⟨_, _, hw2⟩
 have hle := (rootTo_le ids (gRounds (fun j => ls (on j)) m K) i K).2 q hq ((group_iff R hK V hi hq).2 hreach).symm
 unfold le2 at hup
 change ids q = (says ids ls lv K L i).v.root at e1
 have e2 : (says ids ls lv K L i).v.root = (fin ids (fun i => Pl.ends ls lv L i) K i).v.root := rfl
 omega
def fB (f : Nat → Int) (l : Lk) (i : Nat) : Int := if i = l.b.toNat ∧ f l.a.toNat + l.cost < f l.b.toNat then f l.a.toNat + l.cost else f i
def fA (f : Nat → Int) (l : Lk) (i : Nat) : Int := if i = l.a.toNat ∧ f l.b.toNat + l.cost < f l.a.toNat then f l.b.toNat + l.cost else f i
def fStep (f : Nat → Int) (l : Lk) : Nat → Int := fA (fB f l) l
def fTo (es : Nat → Lk) (f : Nat → Int) : Nat → (Nat → Int)
 | 0 => f
 | j + 1 => fStep (fTo es f j) (es j)
def fRounds (es : Nat → Lk) (m : Nat) (f : Nat → Int) : Nat → (Nat → Int)
 | 0 => f
 | r + 1 => fTo es (fRounds es m f r) m
theorem fB_le (f : Nat → Int) (l : Lk) (i : Nat) : fB f l i ≤ f i := by
 unfold fB
 by_cases h : i = l.b.toNat ∧ f l.a.toNat + l.cost < f l.b.toNat
 ·rw [if_pos h, h.1]; omega
 ·rw [if_neg h]; exact Int.le_refl _
theorem fA_le (f : Nat → Int) (l : Lk) (i : Nat) : fA f l i ≤ f i := by
 unfold fA
 by_cases h : i = l.a.toNat ∧ f l.b.toNat + l.cost < f l.a.toNat
 ·rw [if_pos h, h.1]; omega
 ·rw [if_neg h]; exact Int.le_refl _
theorem fStep_le (f : Nat → Int) (l : Lk) (i : Nat) : fStep f l i ≤ f i := Int.le_trans (fA_le _ _ _) (fB_le _ _ _)
theorem fTo_le (es : Nat → Lk) (f : Nat → Int) (i : Nat) : ∀ j k, j ≤ k → fTo es f k i ≤ fTo es f j i
 | j, 0, h => by rw [show j = 0 by omega]; exact Int.le_refl _
 | j, k + 1, h => by
  by_cases e : j = k + 1
  ·rw [e]; exact Int.le_refl _
  ·exact Int.le_trans (fStep_le _ _ i) (fTo_le es f i j k (by omega))
theorem fB_near (f : Nat → Int) (l : Lk) : fB f l l.b.toNat ≤ f l.a.toNat + l.cost := by
 unfold fB
 by_cases h : f l.a.toNat + l.cost < f l.b.toNat
 ·rw [if_pos ⟨rfl, h⟩]; exact Int.le_refl _
 ·rw [if_neg (fun q => h q.2)]; omega
theorem fA_near (f : Nat → Int) (l : Lk) : fA f l l.a.toNat ≤ f l.b.toNat + l.cost := by
 unfold fA
 by_cases h : f l.b.toNat + l.cost < f l.a.toNat
 ·rw [if_pos ⟨rfl, h⟩]; exact Int.le_refl _
 ·rw [if_neg (fun q => h q.2)]; omega
theorem fStep_b (f : Nat → Int) (l : Lk) : fStep f l l.b.toNat ≤ f l.a.toNat + l.cost := Int.le_trans (fA_le _ _ _) (fB_near f l)
theorem fStep_a (f : Nat → Int) (l : Lk) : fStep f l l.a.toNat ≤ f l.b.toNat + l.cost := Int.le_trans (fA_near _ l) (by have := fB_le f l l.b.toNat; omega)
def FReal (ids : Nat → Int) (ls : Nat → Lk) (lv : Nat → Bool) (K L : Nat) (ρ : Nat → Int) (f : Nat → Int) : Prop := ∀ i, i < K → (0 ≤ f i ∧ f i ≤ 1099511627776) ∧ (f i = 1099511627776 ∨ ∃ vs c, c ≤ f i ∧ Walk ids (fun i => Pl.ends ls lv L i) K i vs (ρ i) c)
def FUp (ids : Nat → Int) (ls : Nat → Lk) (lv : Nat → Bool) (K L : Nat) (ρ : Nat → Int) (n : Nat) (f : Nat → Int) : Prop := ∀ i vs c, Walk ids (fun i => Pl.ends ls lv L i) K i vs (ρ i) c → vs.length ≤ n → f i ≤ c
theorem fA_real (R : RightL K L ls) {ρ : Nat → Int} {k : Nat} (hk : k < L) (hl : lv k = true) (hρ : ρ (ls k).a.toNat = ρ (ls k).b.toNat) {f : Nat → Int} (h : FReal ids ls lv K L ρ f) : FReal ids ls lv K L ρ (fA f (ls k)) := by
 obtain ⟨o1, o2, _, _, _, o6⟩ := R.ok k hk
 intro i hi
 have hle := fA_le f (ls k) i
 unfold fA at hle ⊢
 by_cases c : i = (ls k).a.toNat ∧ f (ls k).b.toNat + (ls k).cost < f (ls k).a.toNat
 ·rw [if_pos c]
  obtain ⟨q1, q2⟩ := h (ls k).b.toNat (by omega)
  obtain ⟨p1, _⟩ := h (ls k).a.toNat (by omega)
  refine ⟨by omega, Or.inr ?_⟩
  rcases q2 with q2 | ⟨vs, d, q3, q4⟩
  ·omega
  ·rw [c.1]
   exact ⟨_, d + (ls k).cost, by omega, Walk.over _ (eA (ls k) (lv k)) vs _ d (by omega) (eA_mem R lv hk) hl (by rw [hρ]; exact q4)⟩
 ·rw [if_neg c]; exact h i hi
theorem fB_real (R : RightL K L ls) {ρ : Nat → Int} {k : Nat} (hk : k < L) (hl : lv k = true) (hρ : ρ (ls k).a.toNat = ρ (ls k).b.toNat) {f : Nat → Int} (h : FReal ids ls lv K L ρ f) : FReal ids ls lv K L ρ (fB f (ls k)) := by
 obtain ⟨o1, o2, _, _, _, o6⟩ := R.ok k hk
 intro i hi
 unfold fB
 by_cases c : i = (ls k).b.toNat ∧ f (ls k).a.toNat + (ls k).cost < f (ls k).b.toNat
 ·rw [if_pos c]
  obtain ⟨q1, q2⟩ := h (ls k).a.toNat (by omega)
  obtain ⟨p1, _⟩ := h (ls k).b.toNat (by omega)
  refine ⟨by omega, Or.inr ?_⟩
  rcases q2 with q2 | ⟨vs, d, q3, q4⟩
  ·omega
  ·rw [c.1]
   exact ⟨_, d + (ls k).cost, by omega, Walk.over _ (eB (ls k) (lv k)) vs _ d (by omega) (eB_mem R lv hk) hl (by rw [← hρ]; exact q4)⟩
 ·rw [if_neg c]; exact h i hi
theorem fTo_real (R : RightL K L ls) (V : Lives ls lv L m on) {ρ : Nat → Int} (hρ : ∀ k, k < L → lv k = true → ρ (ls k).a.toNat = ρ (ls k).b.toNat) {f : Nat → Int} (h : FReal ids ls lv K L ρ f) : ∀ j, j ≤ m → FReal ids ls lv K L ρ (fTo (fun j => ls (on j)) f j)
 | 0, _ => h
 | j + 1, hj => by
  obtain ⟨hk, hl⟩ := V.mem j (by omega)
  exact fA_real R hk hl (hρ _ hk hl) (fB_real R hk hl (hρ _ hk hl) (fTo_real R V hρ h j (by omega)))
theorem fTo_up (R : RightL K L ls) (V : Lives ls lv L m on) {ρ : Nat → Int} (hρ : ∀ k, k < L → lv k = true → ρ (ls k).a.toNat = ρ (ls k).b.toNat) {f : Nat → Int} {n : Nat} (h : FUp ids ls lv K L ρ n f) (h0 : ∀ i, i < K → ρ i = ids i → f i ≤ 0) : FUp ids ls lv K L ρ (n + 1) (fTo (fun j => ls (on j)) f m) := by
 intro i vs c hw hn
 have gen : ∀ r, r = ρ i → Walk ids (fun i => Pl.ends ls lv L i) K i vs r c → fTo (fun j => ls (on j)) f m i ≤ c := by
  intro r hr hw
  cases hw with
  | here _ hi => exact Int.le_trans (fTo_le _ f i 0 m (by omega)) (h0 i hi hr.symm)
  | over _ e vs _ c _ he hl hw2 =>
   obtain ⟨k, hk, hh⟩ := ends_mem.1 he
   obtain ⟨o1, o2, _⟩ := R.ok k hk
   have hlk : lv k = true := by rcases hh with ⟨_, rfl⟩ | ⟨_, rfl⟩ <;> exact hl
   obtain ⟨q, hq, eq⟩ := V.all k hk hlk
   have hle : ∀ x, fTo (fun j => ls (on j)) f q x ≤ f x := fun x => fTo_le _ f x 0 q (by omega)
   have h2 := fTo_le (fun j => ls (on j)) f i (q + 1) m (by omega)
   have h3 : fTo (fun j => ls (on j)) f (q + 1) i = fStep (fTo (fun j => ls (on j)) f q) (ls k) i := by show fStep _ (ls (on q)) i = _; rw [eq]
   have hr2 := hρ k hk hlk
   have hlen : vs.length ≤ n := by simp at hn; omega
   rcases hh with ⟨q1, rfl⟩ | ⟨q1, rfl⟩
   ·have hi : (ls k).a.toNat = i := by omega
    have h1 := h (ls k).b.toNat vs c (by rw [← hr2, hi, ← hr]; exact hw2) hlen
    have h4 := fStep_a (fTo (fun j => ls (on j)) f q) (ls k)
    have h5 := hle (ls k).b.toNat
    rw [hi] at h4
    show _ ≤ c + (ls k).cost
    omega
   ·have hi : (ls k).b.toNat = i := by omega
    have h1 := h (ls k).a.toNat vs c (by rw [hr2, hi, ← hr]; exact hw2) hlen
    have h4 := fStep_b (fTo (fun j => ls (on j)) f q) (ls k)
    have h5 := hle (ls k).a.toNat
    rw [hi] at h4
    show _ ≤ c + (ls k).cost
    omega
 exact gen _ rfl hw
theorem fTo_zero {f : Nat → Int} (es : Nat → Lk) (i : Nat) (h : f i ≤ 0) (j : Nat) : fTo es f j i ≤ 0 := Int.le_trans (fTo_le es f i 0 j (by omega)) h
def far0 (ids ρ : Nat → Int) (i : Nat) : Int := if ρ i = ids i then 0 else 1099511627776
theorem fRounds_inv (R : RightL K L ls) (V : Lives ls lv L m on) {ρ : Nat → Int} (hρ : ∀ k, k < L → lv k = true → ρ (ls k).a.toNat = ρ (ls k).b.toNat) : ∀ r, FReal ids ls lv K L ρ (fRounds (fun j => ls (on j)) m (far0 ids ρ) r) ∧ FUp ids ls lv K L ρ (r + 1) (fRounds (fun j => ls (on j)) m (far0 ids ρ) r) ∧ ∀ i, i < K → ρ i = ids i → fRounds (fun j => ls (on j)) m (far0 ids ρ) r i ≤ 0
 | 0 => by
  refine ⟨fun i hi => ?_, fun i vs c hw hn => ?_, fun i hi h => by show far0 ids ρ i ≤ 0; unfold far0; rw [if_pos h]; exact Int.le_refl _⟩
  ·show (0 ≤ far0 ids ρ i ∧ far0 ids ρ i ≤ 1099511627776) ∧ (far0 ids ρ i = 1099511627776 ∨ _)
   unfold far0
   by_cases c : ρ i = ids i
   ·rw [if_pos c]
    refine ⟨by omega, Or.inr ⟨[i], 0, ?_, by rw [c]; exact Walk.here i hi⟩⟩
    show (0 : Int) ≤ far0 ids ρ i
    unfold far0
    rw [if_pos c]
    exact Int.le_refl _
   ·rw [if_neg c]
    exact ⟨by omega, Or.inl rfl⟩
  ·have gen : ∀ r, r = ρ i → Walk ids (fun i => Pl.ends ls lv L i) K i vs r c → far0 ids ρ i ≤ c := by
    intro r hr hw
    cases hw with
    | here _ hi => unfold far0; rw [if_pos hr.symm]; exact Int.le_refl _
    | over _ e vs _ c _ _ _ hw2 =>
     cases hw2 with
     | here => simp at hn
     | over => simp at hn
   exact gen _ rfl hw
 | r + 1 => by
  obtain ⟨h1, h2, h3⟩ := fRounds_inv R V hρ r
  exact ⟨fTo_real R V hρ h1 m (Nat.le_refl _), fTo_up R V hρ h2 h3, fun i hi h => fTo_zero _ i (h3 i hi h) m⟩
theorem far_same (R : RightL K L ls) (hK : K ≤ 12) (V : Lives ls lv L m on) {i : Nat} (hi : i < K) : fRounds (fun j => ls (on j)) m (far0 ids (fun i => (says ids ls lv K L i).v.root)) K i = (says ids ls lv K L i).v.cost := by
 have G := good R hK ids lv
 obtain ⟨h1, h2, _⟩ := fRounds_inv (ids := ids) (m := m) (on := on) R V (ρ := fun i => (says ids ls lv K L i).v.root) (fun k hk hl => (says_link R hK ids lv hk hl).1) K
 obtain ⟨us, hr⟩ := fin_real G i hi
 obtain ⟨vs, d, k1, k2, k3⟩ := hr.simple G
 have a := h2 i vs d k1 (Nat.le_trans (nodup_few K vs k3 k1.all) (by omega))
 have hc := fin_cost G hi
 have e : (fin ids (fun i => Pl.ends ls lv L i) K i).v.cost = (says ids ls lv K L i).v.cost := rfl
 obtain ⟨q1, q2⟩ := h1 i hi
 rcases q2 with q2 | ⟨ws, c, q3, q4⟩
 ·omega
 ·have b : le2 (fin ids (fun i => Pl.ends ls lv L i) K i).v (says ids ls lv K L i).v.root c := fin_up G hi q4
  unfold le2 at b
  have e2 : (fin ids (fun i => Pl.ends ls lv L i) K i).v.root = (says ids ls lv K L i).v.root := rfl
  omega
end
end Pl
namespace Pl
open Vc (V Of)
def cand (far : Int) (o : Of) : Prop := 0 < far ∧ o.v.cost = far
instance (far : Int) (o : Of) : Decidable (cand far o) := by unfold cand; infer_instance
def rpTo (far : Int) (l : Nat → Of) : Nat → Int × V
 | 0 => (-1, Vc.v0)
 | k + 1 => if cand far (l k) ∧ ((rpTo far l k).1 < 0 ∨ Vc.lt (l k).v (rpTo far l k).2 ∨ ((l k).v = (rpTo far l k).2 ∧ (l k).port < (rpTo far l k).1)) then ((l k).port, (l k).v) else rpTo far l k
theorem rpTo_inv (far : Int) (l : Nat → Of) : ∀ k, (∀ j, j < k → 0 ≤ (l j).port) → ((rpTo far l k).1 = -1 ∧ ∀ j, j < k → ¬ cand far (l j)) ∨ ∃ j, j < k ∧ cand far (l j) ∧ rpTo far l k = ((l j).port, (l j).v) ∧ ∀ q, q < k → cand far (l q) → ¬ Vc.ahead (l q) (l j)
 | 0, _ => Or.inl ⟨rfl, fun j hj => absurd hj (by omega)⟩
 | k + 1, hp => by
  have ih := rpTo_inv far l k (fun j hj => hp j (by omega))
  simp only [rpTo]
  by_cases c : cand far (l k)
  ·rcases ih with ⟨h1, h2⟩ | ⟨j, h1, h2, h3, h4⟩
   ·rw [if_pos ⟨c, Or.inl (by omega)⟩]
    refine Or.inr ⟨k, by omega, c, rfl, fun q hq hc => ?_⟩
    by_cases e : q = k
    ·subst e; exact Vc.ahead_irrefl _
    ·exact absurd hc (h2 q (by omega))
   ·have hpj := hp j (by omega)
    rw [h3]
    by_cases ha : Vc.ahead (l k) (l j)
    ·rw [if_pos ⟨c, Or.inr ha⟩]
     refine Or.inr ⟨k, by omega, c, rfl, fun q hq hc => ?_⟩
     by_cases e : q = k
     ·subst e; exact Vc.ahead_irrefl _
     ·exact fun h => h4 q (by omega) hc (Vc.ahead_trans h ha)
    ·rw [if_neg (by
      rintro ⟨_, h | h⟩
      ·simp only at h; omega
      ·exact ha h)]
     refine Or.inr ⟨j, by omega, h2, rfl, fun q hq hc => ?_⟩
     by_cases e : q = k
     ·subst e; exact ha
     ·exact h4 q (by omega) hc
  ·rw [if_neg (fun h => c h.1)]
   rcases ih with ⟨h1, h2⟩ | ⟨j, h1, h2, h3, h4⟩
   ·refine Or.inl ⟨h1, fun j hj => ?_⟩
    by_cases e : j = k
    ·subst e; exact c
    ·exact h2 j (by omega)
   ·refine Or.inr ⟨j, by omega, h2, h3, fun q hq hc => ?_⟩
    by_cases e : q = k
    ·subst e; exact absurd hc c
    ·exact h4 q (by omega) hc
section
variable {ids : Nat → Int} {ls : Nat → Lk} {lv : Nat → Bool} {K L m : Nat} {on : Nat → Nat}
def offL (ls : Nat → Lk) (on : Nat → Nat) (m i : Nat) (x : Nat → St) : List Of := (endsTo (fun j => ls (on j)) (fun _ => true) i m).map (offerOf x)
theorem offL_mem (V : Lives ls lv L m on) (i : Nat) (x : Nat → St) (o : Of) : o ∈ offL ls on m i x ↔ o ∈ offs (ends ls lv L i) x := by
 constructor
 ·intro h
  obtain ⟨e, he, rfl⟩ := List.mem_map.1 h
  obtain ⟨j, hj, hh⟩ := endsTo_mem.1 he
  obtain ⟨h1, h2⟩ := V.mem j hj
  rcases endsAt_mem.1 hh with ⟨q, rfl⟩ | ⟨q, rfl⟩
  ·have hm : (⟨(ls (on j)).pa, (ls (on j)).cost, (ls (on j)).b, (ls (on j)).pb, lv (on j)⟩ : En) ∈ ends ls lv L i := ends_mem.2 ⟨on j, h1, Or.inl ⟨q, rfl⟩⟩
   rw [h2] at hm
   exact mem_offs (x := x) hm rfl
  ·have hm : (⟨(ls (on j)).pb, (ls (on j)).cost, (ls (on j)).a, (ls (on j)).pa, lv (on j)⟩ : En) ∈ ends ls lv L i := ends_mem.2 ⟨on j, h1, Or.inr ⟨q, rfl⟩⟩
   rw [h2] at hm
   exact mem_offs (x := x) hm rfl
 ·intro h
  obtain ⟨e, he, hl, rfl⟩ := offs_mem h
  obtain ⟨k, hk, hh⟩ := ends_mem.1 he
  have hlk : lv k = true := by rcases hh with ⟨_, rfl⟩ | ⟨_, rfl⟩ <;> exact hl
  obtain ⟨j, hj, ej⟩ := V.all k hk hlk
  rcases hh with ⟨q, rfl⟩ | ⟨q, rfl⟩
  ·exact List.mem_map.2 ⟨⟨(ls k).pa, (ls k).cost, (ls k).b, (ls k).pb, true⟩, endsTo_mem.2 ⟨j, hj, endsAt_mem.2 (Or.inl ⟨by rw [ej]; exact q, by rw [ej]⟩)⟩, rfl⟩
  ·exact List.mem_map.2 ⟨⟨(ls k).pb, (ls k).cost, (ls k).a, (ls k).pa, true⟩, endsTo_mem.2 ⟨j, hj, endsAt_mem.2 (Or.inr ⟨by rw [ej]; exact q, by rw [ej]⟩)⟩, rfl⟩
theorem rp_same (R : RightL K L ls) (hK : K ≤ 12) (V : Lives ls lv L m on) {i : Nat} (hi : i < K) : (rpTo (says ids ls lv K L i).v.cost (lf (offL ls on m i (says ids ls lv K L))) (offL ls on m i (says ids ls lv K L)).length).1 = (says ids ls lv K L i).rp := by
 have G := good R hK ids lv
 obtain ⟨l, hl⟩ : ∃ l, l = offL ls on m i (says ids ls lv K L) := ⟨_, rfl⟩
 rw [← hl]
 have hm : ∀ o, o ∈ l ↔ o ∈ offs (ends ls lv L i) (says ids ls lv K L) := fun o => by rw [hl]; exact offL_mem V i _ o
 have hport : ∀ j, j < l.length → 0 ≤ (lf l j).port := fun j hj => by
  obtain ⟨e, he, hle, heq⟩ := offs_mem ((hm _).1 (lf_mem hj))
  rw [heq]
  exact (G.lt i hi e he hle).2.2
 have pos : ∀ e, e ∈ ends ls lv L i → e.live = true → 1 ≤ e.cost ∧ 0 ≤ (says ids ls lv K L e.other.toNat).v.cost := fun e he hle => by
  obtain ⟨g1, g2, _⟩ := G.lt i hi e he hle
  exact ⟨g2.1, (fin_cost G (toNat_lt g1)).1⟩
 rcases fin_port G hi with ⟨h1, h2, h3⟩ | ⟨h1, h2, e, e1, e2, e3, e4, e5, e6⟩
 ·change (says ids ls lv K L i).rp = -1 at h1
  change (says ids ls lv K L i).v.cost = 0 at h3
  rw [h1, h3]
  rcases rpTo_inv 0 (lf l) l.length hport with ⟨q, _⟩ | ⟨j, _, q, _⟩
  ·exact q
  ·exact absurd q.1 (by omega)
 ·change e.port = (says ids ls lv K L i).rp at e3
  change (says ids ls lv K L i).v.cost = (says ids ls lv K L e.other.toNat).v.cost + e.cost at e5
  obtain ⟨p1, p2⟩ := pos e e1 e2
  have he : offerOf (says ids ls lv K L) e ∈ l := (hm _).2 (mem_offs e1 e2)
  have hc : cand (says ids ls lv K L i).v.cost (offerOf (says ids ls lv K L) e) := ⟨by omega, by
   show (says ids ls lv K L e.other.toNat).v.cost + e.cost = _
   omega⟩
  obtain ⟨t, ht, et⟩ := lf_of_mem he
  rcases rpTo_inv (says ids ls lv K L i).v.cost (lf l) l.length hport with ⟨_, q⟩ | ⟨j, q1, q2, q3, q4⟩
  ·exact absurd (by rw [et]; exact hc) (q t ht)
  ·rw [q3]
   obtain ⟨u, hu, hul, hueq⟩ := offs_mem ((hm _).1 (lf_mem q1))
   have n1 : ¬ Vc.ahead (lf l j) (offerOf (says ids ls lv K L) e) := by rw [hueq]; exact e6 u hu hul
   have n2 : ¬ Vc.ahead (offerOf (says ids ls lv K L) e) (lf l j) := by rw [← et]; exact q4 t ht (by rw [et]; exact hc)
   have := (Vc.not_ahead n1 n2).2
   show (lf l j).port = _
   rw [this, ← e3]
   rfl
def ptsTo (ls : Nat → Lk) (i : Nat) (p : Int) : Nat → List Int
 | 0 => []
 | k + 1 => ptsTo ls i p k ++ if isEnd (ls k) (i : Int) p = true then [p] else []
def ptsAll (ls : Nat → Lk) (L i : Nat) : Nat → List Int
 | 0 => []
 | p + 1 => ptsAll ls L i p ++ ptsTo ls i ((p : Int) + 1) L
theorem ptsTo_one (R : RightL K L ls) (i : Nat) (p : Int) : ∀ k, k ≤ L → (ptsTo ls i p k = [] ∧ ∀ j, j < k → isEnd (ls j) (i : Int) p = false) ∨ (ptsTo ls i p k = [p] ∧ ∃ j, j < k ∧ isEnd (ls j) (i : Int) p = true)
 | 0, _ => Or.inl ⟨rfl, fun j hj => absurd hj (by omega)⟩
 | k + 1, hk => by
  simp only [ptsTo]
  rcases ptsTo_one R i p k (by omega) with ⟨h1, h2⟩ | ⟨h1, j, hj, h2⟩
  ·rw [h1]
   cases c : isEnd (ls k) (i : Int) p with
   | true => exact Or.inr ⟨rfl, k, by omega, c⟩
   | false =>
    refine Or.inl ⟨rfl, fun j hj => ?_⟩
    by_cases e : j = k
    ·rw [e]; exact c
    ·exact h2 j (by omega)
  ·rw [h1]
   have c : isEnd (ls k) (i : Int) p = false := by
    obtain ⟨o1, o2⟩ := R.one j k hj (by omega)
    cases c : isEnd (ls k) (i : Int) p with
    | false => rfl
    | true =>
     unfold isEnd at c
     simp only [Bool.or_eq_true, decide_eq_true_eq] at c
     rcases c with ⟨c1, c2⟩ | ⟨c1, c2⟩
     ·rw [c1, c2, h2] at o1; cases o1
     ·rw [c1, c2, h2] at o2; cases o2
   rw [c]
   exact Or.inr ⟨rfl, j, by omega, h2⟩
theorem ptsAll_rise (R : RightL K L ls) (i : Nat) : ∀ n, (ptsAll ls L i n).Pairwise (· < ·) ∧ ∀ x, x ∈ ptsAll ls L i n ↔ (1 ≤ x ∧ x ≤ (n : Int)) ∧ ∃ k, k < L ∧ isEnd (ls k) (i : Int) x = true
 | 0 => ⟨List.Pairwise.nil, fun x => ⟨fun h => by simp [ptsAll] at h, fun h => absurd h.1 (by omega)⟩⟩
 | n + 1 => by
  obtain ⟨h1, h2⟩ := ptsAll_rise R i n
  simp only [ptsAll]
  rcases ptsTo_one R i ((n : Int) + 1) L (Nat.le_refl _) with ⟨q1, q2⟩ | ⟨q1, k, hk, q2⟩
  ·rw [q1, List.append_nil]
   refine ⟨h1, fun x => ?_⟩
   rw [h2 x]
   constructor
   ·rintro ⟨a, b⟩; exact ⟨by omega, b⟩
   ·rintro ⟨a, k, hk, b⟩
    by_cases e : x = (n : Int) + 1
    ·rw [e, q2 k hk] at b; cases b
    ·exact ⟨by omega, k, hk, b⟩
  ·rw [q1]
   refine ⟨?_, fun x => ?_⟩
   ·rw [List.pairwise_append]
    refine ⟨h1, List.pairwise_singleton _ _, fun x hx y hy => ?_⟩
    have := ((h2 x).1 hx).1
    rw [List.mem_singleton] at hy
    omega
   ·rw [List.mem_append, h2 x, List.mem_singleton]
    constructor
    ·rintro (⟨a, b⟩ | rfl)
     ·exact ⟨by omega, b⟩
     ·exact ⟨by omega, k, hk, q2⟩
    ·rintro ⟨a, b⟩
     by_cases e : x = (n : Int) + 1
     ·exact Or.inr e
     ·exact Or.inl ⟨by omega, b⟩
theorem rise_ext : ∀ {l l' : List Int}, l.Pairwise (· < ·) → l'.Pairwise (· < ·) → (∀ e, e ∈ l ↔ e ∈ l') → l = l'
 | [], [], _, _, _ => rfl
 | [], a :: _, _, _, h => by have := (h a).2 (by simp); simp at this
 | a :: _, [], _, _, h => by have := (h a).1 (by simp); simp at this
 | a :: l, b :: l', h1, h2, h => by
  obtain ⟨p1, p2⟩ := List.pairwise_cons.1 h1
  obtain ⟨q1, q2⟩ := List.pairwise_cons.1 h2
  have e : a = b := by
   rcases List.mem_cons.1 ((h a).1 (by simp)) with e | e
   ·exact e
   ·rcases List.mem_cons.1 ((h b).2 (by simp)) with e' | e'
    ·exact e'.symm
    ·have := p1 b e'; have := q1 a e; omega
  subst e
  congr 1
  refine rise_ext p2 q2 (fun e => ⟨fun he => ?_, fun he => ?_⟩)
  ·rcases List.mem_cons.1 ((h e).1 (by simp [he])) with q | q
   ·subst q; have := p1 e he; omega
   ·exact q
  ·rcases List.mem_cons.1 ((h e).2 (by simp [he])) with q | q
   ·subst q; have := q1 e he; omega
   ·exact q
theorem ports_same (R : RightL K L ls) (lv : Nat → Bool) (i : Nat) : ptsAll ls L i 30 = (ends ls lv L i).map (·.port) := by
 obtain ⟨h1, h2⟩ := ptsAll_rise R i 30
 refine rise_ext h1 ?_ (fun x => ?_)
 ·rw [List.pairwise_map]
  exact ends_sorted R lv i
 ·rw [h2 x, List.mem_map]
  constructor
  ·rintro ⟨_, k, hk, b⟩
   unfold isEnd at b
   simp only [Bool.or_eq_true, decide_eq_true_eq] at b
   rcases b with ⟨b1, b2⟩ | ⟨b1, b2⟩
   ·exact ⟨_, ends_mem.2 ⟨k, hk, Or.inl ⟨b1, rfl⟩⟩, b2⟩
   ·exact ⟨_, ends_mem.2 ⟨k, hk, Or.inr ⟨b1, rfl⟩⟩, b2⟩
  ·rintro ⟨e, he, rfl⟩
   obtain ⟨k, hk, hh⟩ := ends_mem.1 he
   obtain ⟨_, _, _, o4, o5, _⟩ := R.ok k hk
   rcases hh with ⟨q, rfl⟩ | ⟨q, rfl⟩
   ·exact ⟨⟨by show 1 ≤ (ls k).pa; omega, by show (ls k).pa ≤ 30; omega⟩, k, hk, by unfold isEnd; simp [q]⟩
   ·exact ⟨⟨by show 1 ≤ (ls k).pb; omega, by show (ls k).pb ≤ 30; omega⟩, k, hk, by unfold isEnd; simp [q]⟩
def roleR (ls : Nat → Lk) (on : Nat → Nat) (m i : Nat) (s : St) (l : List Of) (p : Int) : Int := if Vc.someTo (fun j => isEnd (ls (on j)) (i : Int) p) m = true then Vc.role s.v s.rp p (lf l) l.length else 0
theorem role_same (R : RightL K L ls) (V : Lives ls lv L m on) {i : Nat} (x : Nat → St) {e : En} (he : e ∈ ends ls lv L i) : roleR ls on m i (x i) (offL ls on m i x) e.port = roleAt (x i) (offs (ends ls lv L i) x) e := by
 have hrole : Vc.role (x i).v (x i).rp e.port (lf (offL ls on m i x)) (offL ls on m i x).length = Vc.role (x i).v (x i).rp e.port (lf (offs (ends ls lv L i) x)) (offs (ends ls lv L i) x).length := by
  unfold Vc.role
  have key : (Vc.someTo (fun j => decide (Vc.hears (x i).v e.port (lf (offL ls on m i x) j))) (offL ls on m i x).length = true) ↔ (Vc.someTo (fun j => decide (Vc.hears (x i).v e.port (lf (offs (ends ls lv L i) x) j))) (offs (ends ls lv L i) x).length = true) := by
   rw [someTo_iff, someTo_iff]
   constructor
   ·rintro ⟨j, hj, h⟩
    obtain ⟨q, hq, eq⟩ := lf_of_mem ((offL_mem V i x _).1 (lf_mem hj))
    exact ⟨q, hq, by rw [eq]; exact h⟩
   ·rintro ⟨j, hj, h⟩
    obtain ⟨q, hq, eq⟩ := lf_of_mem ((offL_mem V i x _).2 (lf_mem hj))
    exact ⟨q, hq, by rw [eq]; exact h⟩
  by_cases c : e.port = (x i).rp
  ·rw [if_pos c, if_pos c]
  ·rw [if_neg c, if_neg c]
   by_cases d : Vc.someTo (fun j => decide (Vc.hears (x i).v e.port (lf (offL ls on m i x) j))) (offL ls on m i x).length = true
   ·rw [if_pos d, if_pos (key.1 d)]
   ·rw [if_neg d, if_neg (fun q => d (key.2 q))]
 have hlive : Vc.someTo (fun j => isEnd (ls (on j)) (i : Int) e.port) m = true ↔ e.live = true := by
  rw [someTo_iff]
  obtain ⟨k, hk, hh⟩ := ends_mem.1 he
  constructor
  ·rintro ⟨j, hj, h⟩
   obtain ⟨h1, h2⟩ := V.mem j hj
   unfold isEnd at h
   simp only [Bool.or_eq_true, decide_eq_true_eq] at h
   rcases h with ⟨a1, a2⟩ | ⟨a1, a2⟩
   ·have hm : (⟨(ls (on j)).pa, (ls (on j)).cost, (ls (on j)).b, (ls (on j)).pb, lv (on j)⟩ : En) ∈ ends ls lv L i := ends_mem.2 ⟨on j, h1, Or.inl ⟨a1, rfl⟩⟩
    have := ends_one R lv hm he a2
    rw [← this]; exact h2
   ·have hm : (⟨(ls (on j)).pb, (ls (on j)).cost, (ls (on j)).a, (ls (on j)).pa, lv (on j)⟩ : En) ∈ ends ls lv L i := ends_mem.2 ⟨on j, h1, Or.inr ⟨a1, rfl⟩⟩
    have := ends_one R lv hm he a2
    rw [← this]; exact h2
  ·intro hl
   have hlk : lv k = true := by rcases hh with ⟨_, rfl⟩ | ⟨_, rfl⟩ <;> exact hl
   obtain ⟨j, hj, ej⟩ := V.all k hk hlk
   refine ⟨j, hj, ?_⟩
   rw [ej]
   unfold isEnd
   rcases hh with ⟨q, rfl⟩ | ⟨q, rfl⟩
   ·simp [q]
   ·simp [q]
 unfold roleR roleAt
 by_cases c : e.live = true
 ·rw [if_pos (hlive.2 c), if_pos c, hrole]
 ·rw [if_neg (fun q => c (hlive.1 q)), if_neg c]
end
end Pl
end
end Go.Proofs.YtcbpafpaimpfnaaGreatDoor
