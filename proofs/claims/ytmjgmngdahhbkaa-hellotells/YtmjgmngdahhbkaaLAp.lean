/- Tales appended to a row of the call's own. -/
import Derived.Test.YtmjgmngdahhbkaaLRow
import Derived.Laws.OwnMore
namespace Go.Proofs.Ytmjgmngdahhbkaa
open Go.RowKit
open Hl (Tl)

/-- The cells of n tales, as a list. -/
def talesL (n : Nat) (ts : Nat → Tl) : List Value := (List.range (n * 6)).map (tlsC ts)
theorem talesL_length (n : Nat) (ts : Nat → Tl) : (talesL n ts).length = n * 6 := by simp [talesL]
theorem talesL_get (n : Nat) (ts : Nat → Tl) (j : Nat) (v : Value) (h : (talesL n ts)[j]? = some v) : j < n * 6 ∧ v = tlsC ts j := by
  have hj : j < n * 6 := by
    have := (List.getElem?_eq_some_iff.1 h).1
    simpa [talesL] using this
  refine ⟨hj, ?_⟩
  simp [talesL, hj] at h
  exact h.symm
theorem tlC_one (t : Tl) (j : Nat) : (l9tlC t j).oneCell' = true := by
  unfold l9tlC
  repeat' split
  all_goals rfl
theorem talesL_one (n : Nat) (ts : Nat → Tl) : ∀ v ∈ talesL n ts, v.oneCell' = true := by
  intro v hv
  simp [talesL] at hv
  obtain ⟨i, _, rfl⟩ := hv
  exact tlC_one _ _
/-- One after the other. -/
def catT (n : Nat) (us ts : Nat → Tl) (i : Nat) : Tl := if i < n then us i else ts (i - n)
theorem talesL_cat (n m : Nat) (us ts : Nat → Tl) : talesL n us ++ talesL m ts = talesL (n + m) (catT n us ts) := by
  apply List.ext_getElem?
  intro i
  by_cases h : i < n * 6
  · rw [List.getElem?_append_left (by rw [talesL_length]; exact h)]
    simp [talesL, h, show i < (n + m) * 6 by omega]
    unfold tlsC catT
    rw [if_pos (by omega)]
  · rw [List.getElem?_append_right (by rw [talesL_length]; omega), talesL_length]
    by_cases h2 : i < (n + m) * 6
    · simp [talesL, h2, show i - n * 6 < m * 6 by omega]
      unfold tlsC catT
      rw [if_neg (by omega), show (i - n * 6) / 6 = i / 6 - n by omega, show (i - n * 6) % 6 = i % 6 by omega]
    · rw [List.getElem?_eq_none (by rw [talesL_length]; omega), List.getElem?_eq_none (by rw [talesL_length]; omega)]
theorem talesL_congr (n : Nat) (us ts : Nat → Tl) (h : ∀ i, i < n → us i = ts i) : talesL n us = talesL n ts := by
  unfold talesL
  apply List.map_congr_left
  intro i hi
  have : i < n * 6 := by simpa using hi
  unfold tlsC
  rw [h _ (by omega)]
/-- The cells of a slice of tales, by their places. -/
theorem src_tales {W : World} {ao : Option Addr} {n cap : Nat} {ts : Nat → Tl} (h : TaleRow W ao n cap ts) {ad : Addr} (e : ao = some ad) : ∀ j v, (talesL n ts)[j]? = some v → W.cell? (ad.add j) = some v := by
  intro j v hj
  obtain ⟨hj1, rfl⟩ := talesL_get _ _ _ _ hj
  obtain ⟨b, off, e2, _, hc⟩ := h.2 (by omega)
  rw [e] at e2
  cases e2
  rw [add_row]
  obtain ⟨k0, k1, k2, k3, k4, k5⟩ := hc (j / 6) (by omega)
  unfold tlsC
  have hj6 : j % 6 = 0 ∨ j % 6 = 1 ∨ j % 6 = 2 ∨ j % 6 = 3 ∨ j % 6 = 4 ∨ j % 6 = 5 := by omega
  rcases hj6 with e | e | e | e | e | e
  · rw [e, show off + j = off + j / 6 * 6 by omega]; exact k0
  · rw [e, show off + j = off + j / 6 * 6 + 1 by omega]; exact k1
  · rw [e, show off + j = off + j / 6 * 6 + 2 by omega]; exact k2
  · rw [e, show off + j = off + j / 6 * 6 + 3 by omega]; exact k3
  · rw [e, show off + j = off + j / 6 * 6 + 4 by omega]; exact k4
  · rw [e, show off + j = off + j / 6 * 6 + 5 by omega]; exact k5
theorem owns_tales {w : World} {base n : Nat} {v : Value} {ts : Nat → Tl} (h : w.ownsRow base 39 6 v n (talesL n ts)) : ∃ ao cap, v = .slice ao n cap ∧ TaleRow w ao n cap ts ∧ NilOk ao n cap ∧ (∀ ad, ao = some ad → base ≤ ad.block) := by
  have h' := h
  obtain ⟨_, h2⟩ := h
  rcases h2 with ⟨rfl, rfl⟩ | ⟨g, cap, cur, rfl, hg, hh, hn, hm, _, _⟩
  · exact ⟨none, 0, rfl, ⟨Nat.le_refl _, fun h => absurd h (by omega)⟩, fun _ => ⟨rfl, rfl⟩, fun ad e => by cases e⟩
  · refine ⟨_, cap, rfl, ⟨hn, fun hp => ⟨g, 0, rfl, ?_, fun i hi => ?_⟩⟩, (fun e => by cases e), (fun ad e => by cases e; exact hg)⟩
    · exact (Array.getElem?_eq_some_iff.1 hh).1
    · have H : ∀ j, j < 6 → w.cell? ⟨g, 0 + i * 6 + j, none⟩ = some (l9tlC (ts i) j) := fun j hj => by
        rw [Nat.zero_add, h'.cellAt (i * 6 + j) (by omega)]
        simp [talesL, show i * 6 + j < n * 6 by omega]
        unfold tlsC
        rw [show (i * 6 + j) / 6 = i by omega, show (i * 6 + j) % 6 = j by omega]
      exact ⟨H 0 (by omega), H 1 (by omega), H 2 (by omega), H 3 (by omega), H 4 (by omega), H 5 (by omega)⟩
theorem ownsT_below {w w' : World} {base n : Nat} {v : Value} {xs : List Value} (h : w.ownsRow base 39 6 v n xs) (hb : Below w.heap.size w w') : w'.ownsRow base 39 6 v n xs := by
  obtain ⟨h1, h2⟩ := h
  refine ⟨h1, ?_⟩
  rcases h2 with h2 | ⟨g, cap, cur, hv, hg, hh, r⟩
  · exact Or.inl h2
  · exact Or.inr ⟨g, cap, cur, hv, hg, keep hh hb, r⟩
theorem ownsT_block {w : World} {base n : Nat} {v : Value} {xs : List Value} (h : w.ownsRow base 39 6 v n xs) : ∀ k, v.ownBlock = some k → base ≤ k := by
  intro k hk
  obtain ⟨_, h2⟩ := h
  rcases h2 with ⟨rfl, _⟩ | ⟨g, cap, cur, rfl, hg, _⟩
  · simp [Value.ownBlock] at hk
  · simp [Value.ownBlock] at hk; omega
/-- 'append(s, x...)', s a row of the call's own. -/
theorem append_tales_at (w : World) (base : Nat) (v : Value) (n : Nat) (us : Nat → Tl) (hown : w.ownsRow base 39 6 v n (talesL n us)) (ao : Option Addr) (m c : Nat) (ts : Nat → Tl) (hr : TaleRow w ao m c ts) (hnil : NilOk ao m c) (hb : (n + m) * 48 ≤ 140737488355328) (hbase : base ≤ w.heap.size) :
    ∃ a1 c1 w', (Builtin.append_ #[23, 23] 23 #[v, .slice ao m c]).run Try.prog w = .ok (.slice a1 (n + m) c1) w' ∧ w'.ownsRow base 39 6 (.slice a1 (n + m) c1) (n + m) (talesL (n + m) (catT n us ts)) ∧ Below base w w' ∧ (∀ k, k < w.heap.size → some k ≠ v.ownBlock → w'.heap[k]? = w.heap[k]?) := by
  obtain ⟨i0, hi, hz0, hz1, hz2⟩ := info_parts l9infoTl
  cases ao with
  | none =>
    obtain ⟨rfl, rfl⟩ := hnil rfl
    have hrun := run_append_owned_none (P := Try.prog) (w := w) base 23 23 39 i0 6 Try.underlying23 hi v n _ hown
    obtain ⟨a1, c1, rfl, _⟩ := owns_tales hown
    refine ⟨a1, c1, w, hrun, ?_, Below.refl _ _, fun _ _ _ => rfl⟩
    rw [Nat.add_zero, talesL_congr n (catT n us ts) us (fun i hi => if_pos hi)]
    exact hown
  | some ad =>
    obtain ⟨v', w', hrun, h1, h2, _⟩ := run_append_own (P := Try.prog) w base 23 23 39 i0 (.agg (tlA tl0)) 6 48 Try.underlying23 hi hz0 hz1 hz2 rfl (by decide) v n _ hown ad m c (talesL m ts) (talesL_length _ _) (src_tales hr rfl) (talesL_one _ _) (by unfold maxLen; omega) hb hbase
    rw [talesL_cat] at h1
    obtain ⟨a1, c1, rfl, _⟩ := owns_tales h1
    exact ⟨a1, c1, w', hrun, h1, (Below.refl _ _).grown h2 hbase (ownsT_block hown), h2.block⟩
theorem append_tales (w : World) (base : Nat) (v : Value) (n : Nat) (us : Nat → Tl) (hown : w.ownsRow base 39 6 v n (talesL n us)) (ao : Option Addr) (m c : Nat) (ts : Nat → Tl) (hr : TaleRow w ao m c ts) (hnil : NilOk ao m c) (hb : (n + m) * 48 ≤ 140737488355328) (hbase : base ≤ w.heap.size) :
    ∃ a1 c1 w', (Builtin.append_ #[23, 23] 23 #[v, .slice ao m c]).run Try.prog w = .ok (.slice a1 (n + m) c1) w' ∧ w'.ownsRow base 39 6 (.slice a1 (n + m) c1) (n + m) (talesL (n + m) (catT n us ts)) ∧ Below base w w' := by
  obtain ⟨a1, c1, w', h1, h2, h3, _⟩ := append_tales_at w base v n us hown ao m c ts hr hnil hb hbase
  exact ⟨a1, c1, w', h1, h2, h3⟩
theorem ownsT_empty {w : World} {g : Nat} {base : Nat} (ts : Nat → Tl) (h : w.heap[g]? = some (.cells #[] 39 (0, 0))) (hb : base ≤ g) : w.ownsRow base 39 6 (.slice (some ⟨g, 0, none⟩) 0 0) 0 (talesL 0 ts) :=
  ⟨rfl, Or.inr ⟨g, 0, #[], rfl, hb, h, Nat.le_refl _, by unfold maxLen; omega, rfl, rfl⟩⟩
/-- A tale alone in a block. -/
theorem one_tale {w : World} {g : Nat} {t : Tl} {ty : TypeId} (h : w.heap[g]? = some (.cells (tlA t) ty (0, 0))) : TaleRow w (some ⟨g, 0, none⟩) 1 1 (fun _ => t) := by
  refine ⟨Nat.le_refl _, fun _ => ⟨g, 0, rfl, (Array.getElem?_eq_some_iff.1 h).1, fun i hi => ?_⟩⟩
  obtain rfl : i = 0 := by omega
  exact tl_cells h
end Go.Proofs.Ytmjgmngdahhbkaa
