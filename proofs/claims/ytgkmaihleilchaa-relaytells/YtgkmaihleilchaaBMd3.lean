/- How the document learns: plainly -/
import Derived.Test.YtgkmaihleilchaaBMd2
namespace Go.Proofs.Ytgkmaihleilchaa
namespace Bk
/-- What the document has written down of the first k. -/
def outK (l : List E) (s : E) (k : Nat) : List E := lo (l.take k) s ++ (match hi (l.take k) s with | [] => [] | a :: r => s :: a :: r)
def putK (l : List E) (s : E) (k : Nat) : Bool := match hi (l.take k) s with | [] => false | _ :: _ => true
def hadK (l : List E) (s : E) (k : Nat) : Bool := decide (Known (l.take k) s)
theorem lo_append (l m : List E) (s : E) : lo (l ++ m) s = lo l s ++ lo m s := by unfold lo; rw [List.filter_append]
theorem hi_append (l m : List E) (s : E) : hi (l ++ m) s = hi l s ++ hi m s := by unfold hi; rw [List.filter_append]
theorem lo_one (x s : E) : lo [x] s = if lt x s then [x] else [] := by
  unfold lo
  by_cases h : lt x s
  · rw [if_pos h, List.filter_cons, if_pos (ltb_iff.2 h)]; rfl
  · rw [if_neg h, List.filter_cons, if_neg (fun q => h (ltb_iff.1 q))]; rfl
theorem hi_one (x s : E) : hi [x] s = if lt s x then [x] else [] := by
  unfold hi
  by_cases h : lt s x
  · rw [if_pos h, List.filter_cons, if_pos (ltb_iff.2 h)]; rfl
  · rw [if_neg h, List.filter_cons, if_neg (fun q => h (ltb_iff.1 q))]; rfl
section
variable {l : List E} (hb : Book l) (s : E) {k : Nat} (hk : k < l.length)
include hk
theorem lo_step : lo (l.take (k + 1)) s = lo (l.take k) s ++ if lt (at' l k) s then [at' l k] else [] := by
  rw [take_succ l k hk, lo_append, lo_one]
theorem hi_step : hi (l.take (k + 1)) s = hi (l.take k) s ++ if lt s (at' l k) then [at' l k] else [] := by
  rw [take_succ l k hk, hi_append, hi_one]
theorem had_step : hadK l s (k + 1) = (hadK l s k || decide (key (at' l k) s)) := by
  unfold hadK
  rw [take_succ l k hk]
  by_cases q : key (at' l k) s
  · rw [decide_eq_true q, Bool.or_true]
    exact decide_eq_true ⟨_, by simp, q⟩
  · rw [decide_eq_false q, Bool.or_false]
    refine decide_eq_decide.2 ⟨?_, ?_⟩
    · rintro ⟨e, he, hk'⟩
      rcases List.mem_append.1 he with h | h
      · exact ⟨e, h, hk'⟩
      · simp at h; subst h; exact absurd hk' q
    · rintro ⟨e, he, hk'⟩
      exact ⟨e, List.mem_append_left _ he, hk'⟩
theorem step_key (h : key (at' l k) s) : outK l s (k + 1) = outK l s k ∧ putK l s (k + 1) = putK l s k := by
  have h1 := (key_iff.1 h).1
  have h2 := (key_iff.1 h).2
  unfold outK putK
  rw [lo_step s hk, hi_step s hk, if_neg h1, if_neg h2, List.append_nil, List.append_nil]
  exact ⟨rfl, rfl⟩
theorem step_put (h : lt s (at' l k)) (hp : putK l s k = false) : outK l s (k + 1) = outK l s k ++ [s] ++ [at' l k] ∧ putK l s (k + 1) = true := by
  unfold outK putK at *
  rw [lo_step s hk, hi_step s hk, if_neg (lt_asymm h), if_pos h, List.append_nil]
  cases q : hi (l.take k) s with
  | nil => simp
  | cons a r => rw [q] at hp; cases hp
theorem step_more (h : lt s (at' l k)) (hp : putK l s k = true) : outK l s (k + 1) = outK l s k ++ [at' l k] ∧ putK l s (k + 1) = true := by
  unfold outK putK at *
  rw [lo_step s hk, hi_step s hk, if_neg (lt_asymm h), if_pos h, List.append_nil]
  cases q : hi (l.take k) s with
  | nil => rw [q] at hp; cases hp
  | cons a r => simp
include hb
theorem step_low (h : lt (at' l k) s) : outK l s (k + 1) = outK l s k ++ [at' l k] ∧ putK l s (k + 1) = false ∧ putK l s k = false := by
  have e : hi (l.take k) s = [] := by
    unfold hi
    apply filter_no
    intro e he
    obtain ⟨i, h1, h2, rfl⟩ := mem_take he
    exact decide_eq_false (lt_asymm (lt_trans (hb.less h1 hk) h))
  unfold outK putK
  rw [lo_step s hk, hi_step s hk, if_pos h, if_neg (lt_asymm h), e]
  simp
end
theorem outK_zero (l : List E) (s : E) : outK l s 0 = [] ∧ putK l s 0 = false ∧ hadK l s 0 = false := by
  refine ⟨rfl, rfl, decide_eq_false ?_⟩
  rintro ⟨e, he, _⟩
  simp at he
theorem outK_length (l : List E) (s : E) (k : Nat) : (outK l s k).length ≤ l.length + 1 := by
  have h := lens (l.take k) s
  have h2 : (l.take k).length ≤ l.length := by simp; omega
  unfold outK
  cases q : hi (l.take k) s with
  | nil => simp; omega
  | cons a r =>
    rw [q] at h
    simp only [List.length_append, List.length_cons] at h ⊢
    omega
theorem out_all (l : List E) (s : E) : (if putK l s l.length = true then outK l s l.length else outK l s l.length ++ [s]) = lo l s ++ s :: hi l s := by
  unfold outK putK
  rw [List.take_length]
  cases q : hi l s with
  | nil => simp
  | cons a r => simp
end Bk
end Go.Proofs.Ytgkmaihleilchaa
