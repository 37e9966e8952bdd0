/- Rounds in which each bridge chooses: they settle; what is said then (walks, no way is better) -/
import Derived.Test.YtaakjhdbelefiaeDoorPMd
namespace Go.Proofs.YtaakjhdbelefiaeDoor
namespace Pl
open Vc (V Of)
theorem lf_mem {l : List Of} {j : Nat} (h : j < l.length) : lf l j ∈ l := by
  unfold lf
  rw [List.getD_eq_getElem?_getD, List.getElem?_eq_getElem h]
  exact List.getElem_mem h
theorem lf_of_mem {l : List Of} {o : Of} (h : o ∈ l) : ∃ j, j < l.length ∧ lf l j = o := by
  obtain ⟨j, hj, e⟩ := List.getElem_of_mem h
  refine ⟨j, hj, ?_⟩
  unfold lf
  rw [List.getD_eq_getElem?_getD, List.getElem?_eq_getElem hj]
  exact e
/-- No worse than root ρ at cost c. -/
def le2 (v : V) (ρ c : Int) : Prop := v.root < ρ ∨ (v.root = ρ ∧ v.cost ≤ c)
/-- WHERE A CHOICE COMES FROM. -/
theorem chS_real (id : Int) (l : List Of) : (chS id l = ⟨⟨id, 0, id, 0⟩, -1⟩ ∧ ∀ o ∈ l, ¬ Vc.may id o) ∨ ∃ o ∈ l, Vc.may id o ∧ chS id l = ⟨⟨o.vec.root, o.vec.cost + o.cost, id, 0⟩, o.port⟩ ∧ ∀ q ∈ l, Vc.may id q → ¬ Vc.ahead q o := by
  cases h : Vc.chTo id (lf l) l.length with
  | none =>
    refine Or.inl ⟨?_, fun o ho hm => ?_⟩
    · unfold chS Vc.chV Vc.chP
      rw [h]
    · obtain ⟨j, hj, e⟩ := lf_of_mem ho
      exact Vc.chTo_none id (lf l) l.length h j hj (by rw [e]; exact hm)
  | some i =>
    obtain ⟨h1, h2, h3⟩ := Vc.chTo_some id (lf l) l.length i h
    refine Or.inr ⟨lf l i, lf_mem h1, h2, ?_, fun q hq hm => ?_⟩
    · unfold chS Vc.chV Vc.chP
      rw [h]
      rfl
    · obtain ⟨j, hj, e⟩ := lf_of_mem hq
      rw [← e]
      exact h3 j hj (by rw [e]; exact hm)
theorem chS_self (id : Int) (l : List Of) : le2 (chS id l).v id 0 := by
  rcases chS_real id l with ⟨h, _⟩ | ⟨o, _, hm, h, _⟩
  · rw [h]; exact Or.inr ⟨rfl, Int.le_refl _⟩
  · rw [h]; exact Or.inl hm.2.2.2
theorem chS_le (id : Int) (l : List Of) {o : Of} (ho : o ∈ l) (hf : Vc.fitsOver o.vec o.cost) (hp : 0 ≤ o.port) (ha : 0 ≤ o.age ∧ o.age < 20) : le2 (chS id l).v o.vec.root (o.vec.cost + o.cost) := by
  have hf' := hf
  obtain ⟨⟨q1, _⟩, ⟨q2, _⟩, _⟩ := hf'
  by_cases hr : o.vec.root < id
  · have hm : Vc.may id o := ⟨hf, hp, ha, hr⟩
    rcases chS_real id l with ⟨_, h⟩ | ⟨p, _, _, h, hn⟩
    · exact absurd hm (h o ho)
    · rw [h]
      have := hn o ho hm
      have k : ¬ Vc.lt (Vc.Of.v o) (Vc.Of.v p) := fun q => this (Or.inl q)
      unfold Vc.lt Vc.Of.v Vc.add at k
      unfold le2
      simp only at k ⊢
      omega
  · have := chS_self id l
    unfold le2 at this ⊢
    omega
/-- What is known of the net. -/
structure Good (ids : Nat → Int) (E : Nat → List En) (K : Nat) : Prop where
  few : K ≤ 12
  lt : ∀ i, i < K → ∀ e, e ∈ E i → e.live = true → (0 ≤ e.other ∧ e.other < K) ∧ (1 ≤ e.cost ∧ e.cost ≤ 200000) ∧ 0 ≤ e.port
/-- A walk: the bridges on it, the last one's identity, what its links cost. -/
inductive Walk (ids : Nat → Int) (E : Nat → List En) (K : Nat) : Nat → List Nat → Int → Int → Prop
  | here (i : Nat) : i < K → Walk ids E K i [i] (ids i) 0
  | over (i : Nat) (e : En) (vs : List Nat) (ρ c : Int) : i < K → e ∈ E i → e.live = true → Walk ids E K e.other.toNat vs ρ c → Walk ids E K i (i :: vs) ρ (c + e.cost)
section
variable {ids : Nat → Int} {E : Nat → List En} {K : Nat}
theorem Walk.start {i : Nat} {vs : List Nat} {ρ c : Int} (h : Walk ids E K i vs ρ c) : i < K := by
  cases h with
  | here _ h => exact h
  | over _ _ _ _ _ h => exact h
theorem Walk.cost (G : Good ids E K) {i : Nat} {vs : List Nat} {ρ c : Int} (h : Walk ids E K i vs ρ c) : 0 ≤ c := by
  induction h with
  | here => exact Int.le_refl _
  | over i e vs ρ c hi he hl _ ih => have := (G.lt i hi e he hl).2.1; omega
theorem Walk.all {i : Nat} {vs : List Nat} {ρ c : Int} (h : Walk ids E K i vs ρ c) : ∀ v ∈ vs, v < K := by
  induction h with
  | here i hi => intro v hv; rw [List.mem_singleton] at hv; rw [hv]; exact hi
  | over i e vs ρ c hi _ _ _ ih =>
    intro v hv
    rcases List.mem_cons.1 hv with e | e
    · rw [e]; exact hi
    · exact ih v e
theorem Walk.from (G : Good ids E K) {i : Nat} {vs : List Nat} {ρ c : Int} (h : Walk ids E K i vs ρ c) : ∀ v ∈ vs, ∃ us d, Walk ids E K v us ρ d ∧ d ≤ c ∧ us.Sublist vs := by
  induction h with
  | here i hi =>
    intro v hv
    rw [List.mem_singleton] at hv
    subst hv
    exact ⟨_, _, Walk.here v hi, Int.le_refl _, List.Sublist.refl _⟩
  | over i e vs ρ c hi he hl hw ih =>
    intro v hv
    rcases List.mem_cons.1 hv with q | q
    · subst q
      exact ⟨_, _, Walk.over v e vs ρ c hi he hl hw, Int.le_refl _, List.Sublist.refl _⟩
    · obtain ⟨us, d, h1, h2, h3⟩ := ih v q
      have := (G.lt i hi e he hl).2.1
      exact ⟨us, d, h1, by omega, h3.cons _⟩
/-- A walk that goes through no bridge twice is no farther. -/
theorem Walk.simple (G : Good ids E K) {i : Nat} {vs : List Nat} {ρ c : Int} (h : Walk ids E K i vs ρ c) : ∃ us d, Walk ids E K i us ρ d ∧ d ≤ c ∧ us.Nodup := by
  induction h with
  | here i hi => exact ⟨_, _, Walk.here i hi, Int.le_refl _, by simp⟩
  | over i e vs ρ c hi he hl hw ih =>
    obtain ⟨us, d, h1, h2, h3⟩ := ih
    have hc := (G.lt i hi e he hl).2.1
    by_cases hm : i ∈ us
    · obtain ⟨us', d', k1, k2, k3⟩ := h1.from G i hm
      exact ⟨us', d', k1, by omega, k3.nodup h3⟩
    · exact ⟨_, _, Walk.over i e us ρ d hi he hl h1, by omega, List.nodup_cons.2 ⟨hm, h3⟩⟩
theorem nodup_few : ∀ (K : Nat) (l : List Nat), l.Nodup → (∀ v ∈ l, v < K) → l.length ≤ K
  | 0, l, _, h => by
    cases l with
    | nil => exact Nat.le_refl _
    | cons a _ => exact absurd (h a (by simp)) (by omega)
  | K + 1, l, hn, h => by
    have h1 := nodup_few K (l.erase K) (hn.erase K) (fun v hv => by
      have := (List.Nodup.mem_erase_iff hn).1 hv
      have := h v this.2
      omega)
    have := List.length_erase (a := K) (l := l)
    split at this <;> omega
/-- All walks of n bridges at most are no better than what is said. -/
def Up (ids : Nat → Int) (E : Nat → List En) (K : Nat) (n : Nat) (x : Nat → St) (i : Nat) : Prop := ∀ vs ρ c, Walk ids E K i vs ρ c → vs.length ≤ n → le2 (x i).v ρ c
/-- What is said comes by a walk. -/
def Real (ids : Nat → Int) (E : Nat → List En) (K : Nat) (x : Nat → St) : Prop := ∀ i, i < K → ∃ vs, Walk ids E K i vs (x i).v.root (x i).v.cost
def Bd (K : Nat) (B : Int) (x : Nat → St) : Prop := ∀ i, i < K → 0 ≤ (x i).v.cost ∧ (x i).v.cost ≤ B
theorem offs_mem {l : List En} {x : Nat → St} {o : Of} (h : o ∈ offs l x) : ∃ e, e ∈ l ∧ e.live = true ∧ o = offerOf x e := by
  unfold offs at h
  obtain ⟨e, he, rfl⟩ := List.mem_map.1 h
  obtain ⟨h1, h2⟩ := List.mem_filter.1 he
  exact ⟨e, h1, h2, rfl⟩
theorem mem_offs {l : List En} {x : Nat → St} {e : En} (h : e ∈ l) (hl : e.live = true) : offerOf x e ∈ offs l x :=
  List.mem_map.2 ⟨e, List.mem_filter.2 ⟨h, hl⟩, rfl⟩
theorem toNat_lt {a : Int} {K : Nat} (h : 0 ≤ a ∧ a < K) : a.toNat < K := by omega
theorem fits (G : Good ids E K) {B : Int} {x : Nat → St} (hB : Bd K B x) (hb : B ≤ 999000000) {i : Nat} (hi : i < K) {e : En} (he : e ∈ E i) (hl : e.live = true) : Vc.fitsOver (offerOf x e).vec (offerOf x e).cost := by
  obtain ⟨h1, h2, _⟩ := G.lt i hi e he hl
  have := hB e.other.toNat (toNat_lt h1)
  unfold Vc.fitsOver offerOf
  simp only
  omega
theorem step_bd (G : Good ids E K) {B : Int} {x : Nat → St} (hB : Bd K B x) (i : Nat) (hi : i < K) (hb : 0 ≤ B) : Bd K (B + 200000) (step ids E x i) := by
  intro j hj
  unfold step
  by_cases e : j = i
  · rw [if_pos e]
    rcases chS_real (ids i) (offs (E i) x) with ⟨h, _⟩ | ⟨o, ho, _, h, _⟩
    · rw [h]; simp only; omega
    · rw [h]
      obtain ⟨q, h1, h2, rfl⟩ := offs_mem ho
      obtain ⟨k1, k2, _⟩ := G.lt i hi q h1 h2
      have := hB q.other.toNat (toNat_lt k1)
      simp only [offerOf]
      omega
  · rw [if_neg e]
    have := hB j hj
    omega
theorem step_real (G : Good ids E K) {x : Nat → St} (h : Real ids E K x) (i : Nat) (hi : i < K) : Real ids E K (step ids E x i) := by
  intro j hj
  unfold step
  by_cases e : j = i
  · rw [if_pos e]
    subst e
    rcases chS_real (ids j) (offs (E j) x) with ⟨h', _⟩ | ⟨o, ho, _, h', _⟩
    · rw [h']; exact ⟨_, Walk.here j hj⟩
    · rw [h']
      obtain ⟨q, h1, h2, rfl⟩ := offs_mem ho
      obtain ⟨k1, k2, _⟩ := G.lt j hi q h1 h2
      obtain ⟨vs, hw⟩ := h q.other.toNat (toNat_lt k1)
      exact ⟨_, Walk.over j q vs _ _ hi h1 h2 hw⟩
  · rw [if_neg e]
    exact h j hj
theorem step_up (G : Good ids E K) {n : Nat} {B : Int} {x : Nat → St} (hB : Bd K B x) (hb : B ≤ 999000000) (h : ∀ j, j < K → Up ids E K n x j) (i : Nat) (hi : i < K) : Up ids E K (n + 1) (step ids E x i) i := by
  intro vs ρ c hw hn
  unfold step
  rw [if_pos rfl]
  cases hw with
  | here _ => exact chS_self _ _
  | over _ e vs _ c _ he hl hw =>
    obtain ⟨k1, k2, k3⟩ := G.lt i hi e he hl
    have h1 := h e.other.toNat (toNat_lt k1) vs ρ c hw (by simp at hn; omega)
    have h2 := chS_le (ids i) (offs (E i) x) (mem_offs he hl) (fits G hB hb hi he hl) k3 ⟨Int.le_refl _, show (0 : Int) < 20 by decide⟩
    unfold le2 at h1 h2 ⊢
    simp only [offerOf] at h2
    omega
theorem Up.mono {n m : Nat} {x : Nat → St} {i : Nat} (h : Up ids E K m x i) (hn : n ≤ m) : Up ids E K n x i := fun vs ρ c hw hl => h vs ρ c hw (by omega)
theorem roundTo_inv (G : Good ids E K) {n : Nat} {B : Int} {x : Nat → St} (hB : Bd K B x) (hb : 0 ≤ B) (hr : Real ids E K x) (h : ∀ j, j < K → Up ids E K n x j) : ∀ k, k ≤ K → B + 200000 * k ≤ 999000000 → Bd K (B + 200000 * k) (roundTo ids E x k) ∧ Real ids E K (roundTo ids E x k) ∧ (∀ j, j < K → Up ids E K n (roundTo ids E x k) j) ∧ ∀ j, j < k → Up ids E K (n + 1) (roundTo ids E x k) j
  | 0, _, _ => ⟨by simpa [roundTo] using hB, hr, h, fun j hj => absurd hj (by omega)⟩
  | k + 1, hk, hbk => by
    obtain ⟨h1, h2, h3, h4⟩ := roundTo_inv G hB hb hr h k (by omega) (by omega)
    have q1 := step_bd G h1 k (by omega) (by omega)
    have q2 := step_real G h2 k (by omega)
    have q3 := step_up G h1 (by omega) h3 k (by omega)
    have other : ∀ j, j ≠ k → roundTo ids E x (k + 1) j = roundTo ids E x k j := fun j hj => by simp only [roundTo, step]; rw [if_neg hj]
    refine ⟨?_, q2, fun j hj => ?_, fun j hj => ?_⟩
    · have : B + 200000 * ((k + 1 : Nat) : Int) = B + 200000 * (k : Int) + 200000 := by omega
      rw [this]; exact q1
    · by_cases e : j = k
      · subst e; exact q3.mono (by omega)
      · intro vs ρ c; rw [other j e]; exact h3 j hj vs ρ c
    · by_cases e : j = k
      · subst e; exact q3
      · intro vs ρ c; rw [other j e]; exact h4 j (by omega) vs ρ c
theorem rounds_inv (G : Good ids E K) : ∀ r : Nat, r ≤ 12 → Bd K (200000 * (12 * r)) (rounds ids E K r) ∧ Real ids E K (rounds ids E K r) ∧ ∀ j, j < K → Up ids E K (r + 1) (rounds ids E K r) j
  | 0, _ => by
    refine ⟨fun i hi => ⟨Int.le_refl _, by simp [rounds]⟩, fun i hi => ⟨_, Walk.here i hi⟩, fun j hj vs ρ c hw hl => ?_⟩
    cases hw with
    | here _ => exact Or.inr ⟨rfl, Int.le_refl _⟩
    | over _ e vs _ c _ _ _ hw =>
      cases hw with
      | here => simp at hl
      | over => simp at hl
  | r + 1, hr => by
    obtain ⟨h1, h2, h3⟩ := rounds_inv G r (by omega)
    have hK := G.few
    obtain ⟨q1, q2, _, q4⟩ := roundTo_inv G h1 (by omega) h2 h3 K (Nat.le_refl _) (by omega)
    refine ⟨fun i hi => ?_, q2, fun j hj => q4 j hj⟩
    have := q1 i hi
    simp only [rounds]
    omega
/-- SETTLED: no walk is better. -/
theorem Up.whole (G : Good ids E K) {n : Nat} {x : Nat → St} {i : Nat} (h : Up ids E K n x i) (hn : K ≤ n) {vs : List Nat} {ρ c : Int} (hw : Walk ids E K i vs ρ c) : le2 (x i).v ρ c := by
  obtain ⟨us, d, h1, h2, h3⟩ := hw.simple G
  have := h us ρ d h1 (Nat.le_trans (nodup_few K us h3 h1.all) hn)
  unfold le2 at this ⊢
  omega
/-- Two states that are both as good as can be say the same. -/
theorem same_of (G : Good ids E K) {n m : Nat} {x y : Nat → St} (hx : Real ids E K x) (hy : Real ids E K y) (ux : ∀ j, j < K → Up ids E K n x j) (uy : ∀ j, j < K → Up ids E K m y j) (hn : K ≤ n) (hm : K ≤ m) : ∀ i, i < K → (x i).v.root = (y i).v.root ∧ (x i).v.cost = (y i).v.cost := by
  intro i hi
  obtain ⟨vs, h1⟩ := hx i hi
  obtain ⟨us, h2⟩ := hy i hi
  have a := (ux i hi).whole G hn h2
  have b := (uy i hi).whole G hm h1
  unfold le2 at a b
  omega
def fin (ids : Nat → Int) (E : Nat → List En) (K : Nat) : Nat → St := rounds ids E K K
theorem offs_congr {l : List En} {x y : Nat → St} (h : ∀ e, e ∈ l → e.live = true → (x e.other.toNat).v = (y e.other.toNat).v) : offs l x = offs l y := by
  unfold offs
  apply List.map_congr_left
  intro e he
  obtain ⟨h1, h2⟩ := List.mem_filter.1 he
  unfold offerOf
  rw [h e h1 h2]
theorem fin_real (G : Good ids E K) : Real ids E K (fin ids E K) := (rounds_inv G K G.few).2.1
theorem fin_up (G : Good ids E K) {i : Nat} (hi : i < K) {vs : List Nat} {ρ c : Int} (hw : Walk ids E K i vs ρ c) : le2 (fin ids E K i).v ρ c := ((rounds_inv G K G.few).2.2 i hi).whole G (by omega) hw
/-- ALL STANDS: each has chosen by what all say in the end. -/
theorem fin_fix (G : Good ids E K) : ∀ i, i < K → fin ids E K i = chS (ids i) (offs (E i) (fin ids E K)) := by
  intro i hi
  obtain ⟨r, rfl⟩ : ∃ r, K = r + 1 := ⟨K - 1, by omega⟩
  have hK := G.few
  obtain ⟨h1, h2, h3⟩ := rounds_inv G r (by omega)
  have F := rounds_inv G (r + 1) (by omega)
  have key : ∀ k, k ≤ r + 1 → ∀ j, j < r + 1 → (roundTo ids E (rounds ids E (r + 1) r) k j).v = (fin ids E (r + 1) j).v := by
    intro k hk j hj
    obtain ⟨_, q2, q3, _⟩ := roundTo_inv G h1 (by omega) h2 h3 k hk (by omega)
    obtain ⟨e1, e2⟩ := same_of G q2 F.2.1 q3 F.2.2 (by omega) (by omega) j hj
    have b1 := roundTo_bridge ids E _ (rounds_bridge ids E (r + 1) r) k j
    have b2 := rounds_bridge ids E (r + 1) (r + 1) j
    exact Vc.V.eq e1 e2 (by rw [b1.1]; exact b2.1.symm) (by rw [b1.2]; exact b2.2.symm)
  have last : ∀ k, i < k → k ≤ r + 1 → roundTo ids E (rounds ids E (r + 1) r) k i = chS (ids i) (offs (E i) (roundTo ids E (rounds ids E (r + 1) r) i)) := by
    intro k
    induction k with
    | zero => intro h; omega
    | succ k ih =>
      intro h1 h2
      by_cases e : i = k
      · subst e
        simp [roundTo, step]
      · simp only [roundTo, step]
        rw [if_neg e]
        exact ih (by omega) (by omega)
  have : fin ids E (r + 1) i = chS (ids i) (offs (E i) (roundTo ids E (rounds ids E (r + 1) r) i)) := last (r + 1) hi (Nat.le_refl _)
  rw [this]
  congr 1
  apply offs_congr
  intro e he hl
  exact key i (by omega) _ (toNat_lt (G.lt i hi e he hl).1)
end
end Pl
end Go.Proofs.YtaakjhdbelefiaeDoor
