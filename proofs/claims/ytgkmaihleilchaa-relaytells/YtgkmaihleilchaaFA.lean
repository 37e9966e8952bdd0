/- Families of rows of the call's own: no two in one block; one is written, one is laid anew; what stays as it was -/
import Derived.Test.YtgkmaihleilchaaRS
import Derived.Test.YtgkmaihleilchaaDN
namespace Go.Proofs.Ytgkmaihleilchaa
open Go.RowKit

/-- Nothing has changed but blocks that P names, and what is new. -/
structure Bt (P : Nat → Prop) (w w' : World) : Prop where
  os : w'.os = w.os
  tape : w'.tape = w.tape
  output : w'.output = w.output
  size : w.heap.size ≤ w'.heap.size
  block : ∀ q, q < w.heap.size → ¬ P q → w'.heap[q]? = w.heap[q]?
theorem Bt.refl (P : Nat → Prop) (w : World) : Bt P w w := ⟨rfl, rfl, rfl, Nat.le_refl _, fun _ _ _ => rfl⟩
theorem Bt.trans {P : Nat → Prop} {a b c : World} (h : Bt P a b) (k : Bt P b c) : Bt P a c :=
  ⟨k.os.trans h.os, k.tape.trans h.tape, k.output.trans h.output, Nat.le_trans h.size k.size, fun q hq hn => (k.block q (Nat.lt_of_lt_of_le hq h.size) hn).trans (h.block q hq hn)⟩
theorem Bt.mono {P Q : Nat → Prop} {a b : World} (h : Bt P a b) (k : ∀ q, q < a.heap.size → P q → Q q) : Bt Q a b :=
  ⟨h.os, h.tape, h.output, h.size, fun q hq hn => h.block q hq (fun p => hn (k q hq p))⟩
theorem Bt.of {P : Nat → Prop} {a b : World} (h : Below a.heap.size a b) : Bt P a b := ⟨h.os, h.tape, h.output, h.size, fun q hq _ => h.block q hq⟩
theorem Bt.low {P : Nat → Prop} {a b c : World} (h : Bt P a b) (k : Below b.heap.size b c) : Bt P a c := h.trans (Bt.of k)
theorem Bt.below {P : Nat → Prop} {a b : World} (h : Bt P a b) {n : Nat} (hn : n ≤ a.heap.size) (hP : ∀ q, q < n → ¬ P q) : Below n a b :=
  ⟨h.os, h.tape, h.output, h.size, fun q hq => h.block q (Nat.lt_of_lt_of_le hq hn) (hP q hq)⟩
theorem Bt.setCell {P : Nat → Prop} {a b : World} (h : Bt P a b) {g : Nat} (hg : P g ∨ a.heap.size ≤ g) (o : Nat) (v : Value) : Bt P a (b.setCell ⟨g, o, none⟩ v) := by
  have hb : Below 0 b (b.setCell ⟨g, o, none⟩ v) := (Below.refl 0 b).setCell (Nat.zero_le _) _
  refine ⟨hb.os.trans h.os, hb.tape.trans h.tape, hb.output.trans h.output, Nat.le_trans h.size hb.size, fun q hq hn => ?_⟩
  have hne : q ≠ g := fun e => by
    subst e
    rcases hg with r | r
    · exact hn r
    · omega
  rw [heap_setCell_other _ _ _ _ (by exact hne)]
  exact h.block q hq hn
theorem Bt.keep {P : Nat → Prop} {a b : World} (h : Bt P a b) {g : Nat} {o : Obj} (hg : a.heap[g]? = some o) (hn : ¬ P g) : b.heap[g]? = some o :=
  (h.block g (Array.getElem?_eq_some_iff.1 hg).1 hn).trans hg
theorem Bt.drew {P : Nat → Prop} {a b : World} (h : Bt P a b) : Bt P a b.drew := h.low (Below.drew (Below.refl _ _))
theorem Bt.drewN {P : Nat → Prop} {a b : World} (h : Bt P a b) (m : Nat) : Bt P a (b.drewN m) := h.low (below_drewN (Below.refl _ _) m)
theorem owns_keep {w w' : World} {base e k n : Nat} {v : Value} {xs : List Value} (h : w.ownsRow base e k v n xs) (hk : ∀ q, v.ownBlock = some q → w'.heap[q]? = w.heap[q]?) : w'.ownsRow base e k v n xs := by
  obtain ⟨h1, h2⟩ := h
  refine ⟨h1, ?_⟩
  rcases h2 with h2 | ⟨g, cap, cur, hv, hg, hh, r⟩
  · exact Or.inl h2
  · refine Or.inr ⟨g, cap, cur, hv, hg, ?_, r⟩
    rw [hk g (by rw [hv]; simp [Value.ownBlock])]
    exact hh
theorem owns_mono {w : World} {base base' e k n : Nat} {v : Value} {xs : List Value} (h : w.ownsRow base e k v n xs) (hb : base' ≤ base) : w.ownsRow base' e k v n xs := by
  obtain ⟨h1, h2⟩ := h
  refine ⟨h1, ?_⟩
  rcases h2 with h2 | ⟨g, cap, cur, hv, hg, r⟩
  · exact Or.inl h2
  · exact Or.inr ⟨g, cap, cur, hv, Nat.le_trans hb hg, r⟩
/-- What type a block has that a row lies in. -/
theorem owns_type {w : World} {base e k n : Nat} {v : Value} {xs : List Value} (h : w.ownsRow base e k v n xs) {q : Nat} (hq : v.ownBlock = some q) : ∃ cur, w.heap[q]? = some (.cells cur e (0, 0)) := by
  obtain ⟨_, h2⟩ := h
  rcases h2 with ⟨rfl, _⟩ | ⟨g, cap, cur, rfl, hg, hh, r⟩
  · simp [Value.ownBlock] at hq
  · simp [Value.ownBlock] at hq
    subst hq
    exact ⟨cur, hh⟩
/-- Rows of two types lie in two blocks. -/
theorem owns_apart {w : World} {base base' e e' k k' n n' : Nat} {v v' : Value} {xs xs' : List Value} (h : w.ownsRow base e k v n xs) (h' : w.ownsRow base' e' k' v' n' xs') (he : e ≠ e') {q : Nat} (hq : v.ownBlock = some q) : v'.ownBlock ≠ some q := fun hq' => by
  obtain ⟨c1, h1⟩ := owns_type h hq
  obtain ⟨c2, h2⟩ := owns_type h' hq'
  rw [h1] at h2
  injection h2 with h2
  injection h2 with _ h3
  exact he h3
def upF {α : Type} (f : Nat → α) (j : Nat) (x : α) : Nat → α := fun a => if a = j then x else f a
theorem upF_same {α : Type} (f : Nat → α) (j : Nat) (x : α) : upF f j x j = x := if_pos rfl
theorem upF_other {α : Type} (f : Nat → α) {j a : Nat} (x : α) (h : a ≠ j) : upF f j x a = f a := if_neg h
/-- A family of rows. -/
structure Fam (W : World) (base e kk T : Nat) (v : Nat → Value) (n : Nat → Nat) (c : Nat → Nat → Nat → Value) : Prop where
  own : ∀ a, a < T → W.ownsRow base e kk (v a) (n a) (cellsL (n a) kk (c a))
  one : ∀ a b, a < T → b < T → ∀ q, (v a).ownBlock = some q → (v b).ownBlock = some q → a = b
section
variable {W W' : World} {base e kk T : Nat} {v : Nat → Value} {n : Nat → Nat} {c : Nat → Nat → Nat → Value}
theorem Fam.keep (h : Fam W base e kk T v n c) (hk : ∀ a, a < T → ∀ q, (v a).ownBlock = some q → W'.heap[q]? = W.heap[q]?) : Fam W' base e kk T v n c :=
  ⟨fun a ha => owns_keep (h.own a ha) (hk a ha), h.one⟩
theorem Fam.below (h : Fam W base e kk T v n c) (hb : Below W.heap.size W W') : Fam W' base e kk T v n c :=
  h.keep (fun a ha q hq => hb.block q (ownsC_block (h.own a ha) q hq).2)
theorem Fam.bt {P : Nat → Prop} (h : Fam W base e kk T v n c) (hb : Bt P W W') (hP : ∀ a, a < T → ∀ q, (v a).ownBlock = some q → ¬ P q) : Fam W' base e kk T v n c :=
  h.keep (fun a ha q hq => hb.block q (ownsC_block (h.own a ha) q hq).2 (hP a ha q hq))
theorem Fam.congr {n' : Nat → Nat} {c' : Nat → Nat → Nat → Value} (h : Fam W base e kk T v n c) (hn : ∀ a, a < T → n a = n' a) (hc : ∀ a, a < T → ∀ i, i < n a → ∀ x, x < kk → c a i x = c' a i x) : Fam W base e kk T v n' c' := by
  refine ⟨fun a ha => ?_, h.one⟩
  have := h.own a ha
  rw [← hn a ha]
  have e1 : cellsL (n a) kk (c a) = cellsL (n a) kk (c' a) := by
    have := rowC_congr2 (hc a ha)
    unfold rowC at this
    simpa using congrArg Array.toList this
  rw [← e1]
  exact this
/-- One row is written anew, where it lies. -/
theorem Fam.write {P : Nat → Prop} (h : Fam W base e kk T v n c) {j g cap : Nat} {sp : Array Value} {c' : Nat → Nat → Value} (hj : j < T) (hv : v j = .slice (some ⟨g, 0, none⟩) (n j) cap) (hb : Bt P W W') (hP : ∀ a, a < T → a ≠ j → ∀ q, (v a).ownBlock = some q → ¬ P q)
    (hn : n j ≤ cap) (hm : cap ≤ maxLen) (hs : sp.size + n j * kk = cap * kk) (hh : W'.heap[g]? = some (.cells (rowS sp (n j) kk c') e (0, 0))) : Fam W' base e kk T v n (upF c j c') := by
  refine ⟨fun a ha => ?_, h.one⟩
  by_cases q : a = j
  · subst q
    have hbg : base ≤ g := (ownsC_block (h.own a ha) g (by rw [hv]; simp [Value.ownBlock])).1
    rw [upF_same, hv]
    exact rowS_owns hbg hn hm hs hh
  · rw [upF_other _ _ q]
    exact owns_keep (h.own a ha) (fun r hr => hb.block r (ownsC_block (h.own a ha) r hr).2 (hP a ha q r hr))
/-- One row is laid anew. -/
theorem Fam.put {P : Nat → Prop} (h : Fam W base e kk T v n c) {j base' n' : Nat} {v' : Value} {c' : Nat → Nat → Value} (hb : Bt P W W') (hP : ∀ a, a < T → a ≠ j → ∀ q, (v a).ownBlock = some q → ¬ P q)
    (ho : W'.ownsRow base' e kk v' n' (cellsL n' kk c')) (h1 : W.heap.size ≤ base') (h2 : base ≤ base') : Fam W' base e kk T (upF v j v') (upF n j n') (upF c j c') := by
  refine ⟨fun a ha => ?_, fun a b ha hb' q hqa hqb => ?_⟩
  · by_cases q : a = j
    · subst q
      rw [upF_same, upF_same, upF_same]
      exact owns_mono ho h2
    · rw [upF_other _ _ q, upF_other _ _ q, upF_other _ _ q]
      exact owns_keep (h.own a ha) (fun r hr => hb.block r (ownsC_block (h.own a ha) r hr).2 (hP a ha q r hr))
  · by_cases qa : a = j
    · by_cases qb : b = j
      · rw [qa, qb]
      · subst qa
        rw [upF_same] at hqa
        rw [upF_other _ _ qb] at hqb
        have x1 := (ownsC_block ho q hqa).1
        have x2 := (ownsC_block (h.own b hb') q hqb).2
        omega
    · by_cases qb : b = j
      · subst qb
        rw [upF_same] at hqb
        rw [upF_other _ _ qa] at hqa
        have x1 := (ownsC_block ho q hqb).1
        have x2 := (ownsC_block (h.own a ha) q hqa).2
        omega
      · rw [upF_other _ _ qa] at hqa
        rw [upF_other _ _ qb] at hqb
        exact h.one a b ha hb' q hqa hqb
end
/-- No rows at all. -/
theorem Fam.nil (W : World) (base e kk T : Nat) (c : Nat → Nat → Nat → Value) : Fam W base e kk T (fun _ => .slice none 0 0) (fun _ => 0) c :=
  ⟨fun _ _ => ownsC_nil _ _ _ _ _, fun a b _ _ q hq => by simp [Value.ownBlock] at hq⟩
end Go.Proofs.Ytgkmaihleilchaa
