/- walks: slices.Index at ints; slices of ints -/
import Derived.Test.YtgkmaihleilchaaCR
import Derived.Test.YtgkmaihleilchaaDN
namespace Go.Proofs.Ytgkmaihleilchaa
open Go.RowKit


/-- A slice of ints: the list l. -/
def ILs (w : World) (ao : Option Addr) (cap : Nat) (l : List Int) : Prop := CRow w ao l.length cap 1 (fun i _ => .int .i64 (l.getD i 0))
theorem ILs.below {w w' : World} {ao : Option Addr} {cap : Nat} {l : List Int} (h : ILs w ao cap l) (hb : Below w.heap.size w w') : ILs w' ao cap l := CRow.below h hb
theorem ILs.cell {w : World} {b off cap : Nat} {l : List Int} (h : ILs w (some ⟨b, off, none⟩) cap l) {i : Nat} (hi : i < l.length) : w.cell? ⟨b, off + i, none⟩ = some (.int .i64 (l.getD i 0)) := by
  obtain ⟨b', off', e, _, hc⟩ := h.2 (by omega)
  cases e
  have := hc i hi 0 (by omega)
  rw [Nat.mul_one, Nat.add_zero] at this
  exact this
theorem ILs.place {w : World} {ao : Option Addr} {cap : Nat} {l : List Int} (h : ILs w ao cap l) (hn : 0 < l.length) : ∃ b off, ao = .some ⟨b, off, .none⟩ ∧ b < w.heap.size := by
  obtain ⟨b, off, e, hb, _⟩ := h.2 hn
  exact ⟨b, off, e, hb⟩
theorem ILs.of {w : World} {ao : Option Addr} {n cap : Nat} {f : Nat → Int} (h : CRow w ao n cap 1 (fun i _ => .int .i64 (f i))) : ILs w ao cap ((List.range n).map f) := by
  unfold ILs
  rw [show ((List.range n).map f).length = n by simp]
  exact h.congr (fun i hi => by simp [hi])
/-- Where n stands first, or -1. -/
def Bk.idx (l : List Int) (n : Int) : Nat → Int
  | 0 => -1
  | k + 1 => if 0 ≤ Bk.idx l n k then Bk.idx l n k else if n = l.getD k 0 then (k : Int) else -1
theorem Bk.idx_contains (l : List Int) (n : Int) : decide (Bk.idx l n l.length ≥ 0) = l.contains n := by
  have H : ∀ k, k ≤ l.length → (0 ≤ Bk.idx l n k ↔ ∃ i, i < k ∧ n = l.getD i 0) := by
    intro k
    induction k with
    | zero => intro _; simp [Bk.idx]
    | succ k ih =>
      intro hk
      have ih := ih (by omega)
      show (0 ≤ if 0 ≤ Bk.idx l n k then Bk.idx l n k else if n = l.getD k 0 then (k : Int) else -1) ↔ _
      by_cases q : 0 ≤ Bk.idx l n k
      · rw [if_pos q]
        obtain ⟨i, hi, he⟩ := ih.1 q
        exact ⟨fun _ => ⟨i, by omega, he⟩, fun _ => q⟩
      · rw [if_neg q]
        by_cases q2 : n = l.getD k 0
        · rw [if_pos q2]
          exact ⟨fun _ => ⟨k, by omega, q2⟩, fun _ => by omega⟩
        · rw [if_neg q2]
          refine ⟨fun h => by omega, ?_⟩
          rintro ⟨i, hi, he⟩
          by_cases e : i = k
          · subst e; exact absurd he q2
          · exact absurd (ih.2 ⟨i, by omega, he⟩) q
  have h := H l.length (Nat.le_refl _)
  have h2 : (∃ i, i < l.length ∧ n = l.getD i 0) ↔ n ∈ l := by
    constructor
    · rintro ⟨i, hi, he⟩
      rw [he]
      simp [hi]
    · intro hm
      obtain ⟨i, hi, he⟩ := List.getElem_of_mem hm
      exact ⟨i, hi, by simp [hi, he]⟩
  by_cases q : n ∈ l
  · rw [decide_eq_true (show Bk.idx l n l.length ≥ 0 from h.2 (h2.2 q))]
    simp [q]
  · rw [decide_eq_false (show ¬ Bk.idx l n l.length ≥ 0 from fun hh => q (h2.1 (h.1 hh)))]
    simp [q]
theorem Bk.idx_stay (l : List Int) (n : Int) (k : Nat) (h : 0 ≤ Bk.idx l n k) : ∀ m, k ≤ m → Bk.idx l n m = Bk.idx l n k := by
  intro m hm
  induction m with
  | zero => obtain rfl : k = 0 := by omega
            rfl
  | succ m ih =>
    by_cases e : k = m + 1
    · subst e; rfl
    · have := ih (by omega)
      show (if 0 ≤ Bk.idx l n m then Bk.idx l n m else _) = _
      rw [if_pos (by omega), this]
set_option maxHeartbeats 400000 in
theorem bindex_any (ao : Option Addr) (cap : Nat) (l : List Int) (n : Int) (w : World) (hn : l.length ≤ 9223372036854775807) (hr : ILs w ao cap l) :
    Calls Try.prog 70 #[.slice ao l.length cap, .int .i64 n] w fun e w' => e = .returned (.int .i64 (Bk.idx l n l.length)) ∧ w' = w := by
  have hcap : l.length ≤ cap := hr.1
  have HR : Hid (ILs w ao cap l) := hr
  clear hr
  go_enter Try.func70, Try.ntmps70
  go_wp2_with fail
  go_loopw [8] (fun i wr => ∃ k : Nat, k ≤ l.length ∧ i = .int .i64 k ∧ Hid (Bk.idx l n k = -1) ∧ wr = w) (fun i _ => l.length - (intOf i).toNat)
  case atStart => exact ⟨0, by omega, rfl, rfl, rfl⟩
  case round =>
    obtain ⟨k, hk, rfl, hS, rfl⟩ := hrel
    by_cases hlt : k < l.length
    · obtain ⟨b, off, rfl, _⟩ := HR.out.place (by omega)
      have c0 := HR.out.cell hlt
      have HS2 : Hid (Bk.idx l n (k + 1) = if n = l.getD k 0 then (k : Int) else -1) := by
        show (if 0 ≤ Bk.idx l n k then Bk.idx l n k else if n = l.getD k 0 then (k : Int) else -1) = _
        rw [if_neg (by rw [hS.out]; omega)]
      have HSS : Hid (n = l.getD k 0 → Bk.idx l n l.length = (k : Int)) := fun h => by
        have h1 := HS2.out
        rw [if_pos h] at h1
        rw [Bk.idx_stay l n (k + 1) (by omega) l.length (by omega), h1]
      clear HR hS
      by_cases q : n = l.getD k 0
      · have HS3 : Hid _ := HSS.out q
        rw [← q] at c0
        clear HSS HS2 q
        go_wp2_with fail
        go_ret
        exact ⟨by rw [HS3.out]; rfl, rfl⟩
      · have HS3 : Hid (Bk.idx l n (k + 1) = -1) := by rw [HS2.out, if_neg q]; rfl
        have dq : (n == l.getD k 0) = false := by simpa using q
        clear HSS HS2
        generalize l.getD k 0 = y at *
        go_wp2_with fail
        exact ⟨⟨k + 1, by omega, by go_num, HS3, trivial⟩, by simp [intOf]; omega⟩
    · obtain rfl : k = l.length := by omega
      clear HR
      go_wp2_with fail
      go_ret
      exact ⟨by rw [hS.out]; rfl, rfl⟩
end Go.Proofs.Ytgkmaihleilchaa
