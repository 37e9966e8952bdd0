/- walks: the document's Digest of regions; bytes appended to a row that may bear a mark -/
import Derived.Test.YtconlnoolenhjaaDoorGR2a
import Derived.Test.YtconlnoolenhjaaDoorDR5
import Derived.ArgAppend
import Derived.Lib.LazyBuf
namespace Go.Proofs.YtconlnoolenhjaaDoor
open Go.RowKit

/-- A slice of n bytes f in a row of the call's own, of whatever mark, no cell of it frozen. -/
def OwnC (w : World) (base : Nat) (v : Value) (n : Nat) (f : Nat → Int) : Prop :=
  ∃ g cap, v = .slice (some ⟨g, 0, none⟩) n cap ∧ base ≤ g ∧ g < w.heap.size ∧ n ≤ cap ∧ (∀ i, i < n → w.cell? ⟨g, i, none⟩ = some (.int .u8 (f i))) ∧ (∀ i, i < cap → (w.cell? ⟨g, i, none⟩).isSome = true) ∧ (∀ i, i < cap → w.frozen? ⟨g, i, none⟩ = false)
theorem OwnC.below {w w' : World} {base n : Nat} {v : Value} {f : Nat → Int} (h : OwnC w base v n f) (hb : Below w.heap.size w w') : OwnC w' base v n f := by
  obtain ⟨g, cap, e, h1, h2, h3, h4, h5, h6⟩ := h
  exact ⟨g, cap, e, h1, Nat.lt_of_lt_of_le h2 hb.size, h3, fun i hi => (hb.cell (by exact h2)).trans (h4 i hi), fun i hi => by rw [hb.cell (by exact h2)]; exact h5 i hi, fun i hi => by rw [hb.frozen (by exact h2)]; exact h6 i hi⟩
theorem OwnC.congr {w : World} {base n : Nat} {v : Value} {f g : Nat → Int} (h : OwnC w base v n f) (e : ∀ i, i < n → f i = g i) : OwnC w base v n g := by
  obtain ⟨g, cap, e1, h1, h2, h3, h4, h5⟩ := h
  exact ⟨g, cap, e1, h1, h2, h3, fun i hi => by rw [← e i hi]; exact h4 i hi, h5⟩
theorem OwnC.bytes {w : World} {base n : Nat} {v : Value} {f : Nat → Int} (h : OwnC w base v n f) : ∃ g cap, v = .slice (some ⟨g, 0, none⟩) n cap ∧ ByteRow w (some ⟨g, 0, none⟩) n cap f := by
  obtain ⟨g, cap, e1, h1, h2, h3, h4, h5⟩ := h
  exact ⟨g, cap, e1, h3, fun _ => ⟨g, 0, rfl, h2, fun i hi => by rw [Nat.zero_add]; exact h4 i hi⟩⟩
theorem ownC_of_row {w : World} {g cap n base : Nat} {cur : Array Value} {f : Nat → Int} {fr : Nat × Nat} (h : w.heap[g]? = some (.cells cur 5 fr)) (hfr : fr = (0, 0) ∨ cur.size ≤ fr.1) (hsz : cur.size = cap) (hn : n ≤ cap) (hb : base ≤ g) (hc : ∀ i, i < n → cur[i]? = some (.int .u8 (f i))) :
    OwnC w base (.slice (some ⟨g, 0, none⟩) n cap) n f := by
  have hcell : ∀ i, w.cell? ⟨g, i, none⟩ = cur[i]? := fun i => cell_of_row w g i _ _ _ h
  refine ⟨g, cap, rfl, hb, (Array.getElem?_eq_some_iff.1 h).1, hn, fun i hi => (hcell i).trans (hc i hi), fun i hi => ?_, fun i hi => ?_⟩
  · rw [hcell i, Array.getElem?_eq_getElem (by omega)]; rfl
  · rcases hfr with rfl | hfr
    · exact frozen_of_row _ _ _ _ _ h
    · unfold World.frozen?
      rw [h]
      simp
      omega
theorem ownC_of_owns {w : World} {base n : Nat} {v : Value} {f : Nat → Int} (h : w.ownsRow base 5 1 v n (bytesL n f)) (hn : 0 < n) : OwnC w base v n f := by
  obtain ⟨_, h2⟩ := h
  rcases h2 with ⟨rfl, rfl⟩ | ⟨g, cap, cur, rfl, hg, hh, hnc, hm, hs, ht⟩
  · omega
  · refine ownC_of_row hh (Or.inl rfl) (by omega) hnc hg (fun i hi => ?_)
    have h3 : (cur.toList.take (n * 1))[i]? = (bytesL n f)[i]? := by rw [ht]
    rw [Nat.mul_one, List.getElem?_take_of_lt hi, Array.getElem?_toList] at h3
    rw [h3]
    simp [bytesL, hi]
/-- 'append(s, x...)' onto such a row. -/
theorem wpList_append_c {w : World} {ops : Array Oper} {rest : List Oper} {o : Oper} {a : Act} {Q : Exit → Act → World → Prop} (hgd : o.guard = none) (s x : Operand)
    (ho : o.op = .call { callee := .builtin .append, args := #[s, x], argTypes := #[29, 29] }) (base : Nat)
    (v : Value) (n : Nat) (f : Nat → Int) (hs : a.eval s = v) (hown : OwnC w base v n f)
    (xg xo m c : Nat) (bs : Nat → Int) (hx : a.eval x = .slice (some ⟨xg, xo, none⟩) m c) (hr : ByteRow w (some ⟨xg, xo, none⟩) m c bs) (hm : 0 < m) (hb : n + m ≤ 1000000) (hbase : base ≤ w.heap.size)
    (h : ∀ v' w', OwnC w' base v' (n + m) (cat n f bs) → Below base w w' → wpList Tryd.prog ops Q rest (a.put o.dst v') w') : wpList Tryd.prog ops Q (o :: rest) a w := by
  obtain ⟨i0, hi, hz0, hz1, hz2⟩ := info_parts info5
  obtain ⟨g, cap, rfl, h1, h2, h3, h4, h5, h6⟩ := hown
  have hlen : ∀ (k : Nat) (q : Nat → Int), (bytesL k q).length = k * 1 := fun k q => by rw [bytesL_length, Nat.mul_one]
  refine wpList_append_arg w hgd s x 29 ho 5 i0 (.int .u8 0) 1 1 Tryd.underlying29 hi hz0 hz1 hz2 rfl (by decide) g 0 n cap (bytesL n f) hs (hlen n f) (fun j u hj => ?_) ⟨xg, xo, none⟩ m c (bytesL m bs) hx (hlen m bs) (src_row hr rfl) (bytesL_one _ _) (fun hroom j hj => ?_) (by unfold maxLen; omega) (by omega) (fun hroom => ?_) (fun _ v' w' hown' hg' => ?_)
  · obtain ⟨hj1, rfl⟩ := bytesL_get _ _ _ _ hj
    rw [Nat.zero_add]
    exact h4 j hj1
  · rw [bytesL_length] at hj
    rw [Nat.zero_add, Nat.mul_one]
    exact ⟨h5 _ (by omega), h6 _ (by omega)⟩
  · have hin := World.cell?_setCells_in g (bytesL m bs) (0 + n * 1) w (fun j hj => by rw [bytesL_length] at hj; rw [Nat.zero_add, Nat.mul_one]; exact h5 _ (by omega))
    have hout := World.cell?_setCells_out g (bytesL m bs) (0 + n * 1) w
    have hcell : ∀ i, i < n + m → (w.setCells g (0 + n * 1) (bytesL m bs)).cell? ⟨g, i, none⟩ = some (.int .u8 (cat n f bs i)) := by
      intro i hi
      unfold cat
      by_cases e : i < n
      · rw [if_pos e, hout ⟨g, i, none⟩ (fun _ _ => Or.inl (by show i < 0 + n * 1; omega))]
        exact h4 i e
      · rw [if_neg e]
        have h7 := hin (i - n) (by rw [bytesL_length]; omega)
        rw [show 0 + n * 1 + (i - n) = i by omega] at h7
        rw [h7]
        simp [bytesL]
    refine h _ _ ⟨g, cap, rfl, h1, ?_, hroom, hcell, fun i hi => ?_, fun i hi => ?_⟩ (below_setCells h1 _ _ _ (Below.refl _ _))
    · exact block_lt_of_cell (hcell 0 (by omega))
    · by_cases e : i < n + m
      · rw [hcell i e]; rfl
      · rw [hout ⟨g, i, none⟩ (fun _ _ => Or.inr (by rw [bytesL_length]; show 0 + n * 1 + m ≤ i; omega))]
        exact h5 i hi
    · rw [World.frozen?_setCells]; exact h6 i hi
  · rw [bytesL_cat] at hown'
    have h7 := ownC_of_owns hown' (by omega)
    obtain ⟨g', cap', e1, q1, q2⟩ := h7
    exact h v' w' ⟨g', cap', e1, by omega, q2⟩ ((Below.refl _ _).grown hg' hbase (fun k hk => by cases hk))
end Go.Proofs.YtconlnoolenhjaaDoor
