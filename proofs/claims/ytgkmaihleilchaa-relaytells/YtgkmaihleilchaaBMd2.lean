/- What is learnt, gets old and is flushed: plainly -/
import Derived.Test.YtgkmaihleilchaaBMd
namespace Go.Proofs.Ytgkmaihleilchaa
namespace Bk
theorem key.ltb_right {s t : E} (h : key s t) (e : E) : ltb e s = ltb e t := by
  unfold ltb
  exact decide_eq_decide.2 h.lt_right
theorem key.ltb_left {s t : E} (h : key s t) (e : E) : ltb s e = ltb t e := by
  unfold ltb
  exact decide_eq_decide.2 h.lt_left
theorem lo_key {s t : E} (h : key s t) (l : List E) : lo l s = lo l t := by
  unfold lo
  congr 1
  funext e
  exact h.ltb_right e
theorem hi_key {s t : E} (h : key s t) (l : List E) : hi l s = hi l t := by
  unfold hi
  congr 1
  funext e
  exact h.ltb_left e
theorem ltb_self (s : E) : ltb s s = false := decide_eq_false (lt_irrefl s)
theorem ltb_asymm {a b : E} (h : ltb a b = true) : ltb b a = false := decide_eq_false (lt_asymm (ltb_iff.1 h))
theorem lo_put (l : List E) (s : E) : lo (lo l s ++ s :: hi l s) s = lo l s := by
  unfold lo hi
  rw [List.filter_append, List.filter_cons, if_neg (by rw [ltb_self]; simp), List.filter_filter, List.filter_filter]
  rw [filter_no (p := fun e => ltb e s && ltb s e), List.append_nil]
  · congr 1
    funext e
    exact Bool.and_self _
  · intro e _
    by_cases h : ltb e s = true
    · rw [ltb_asymm h, Bool.and_false]
    · rw [Bool.not_eq_true] at h; rw [h, Bool.false_and]
theorem hi_put (l : List E) (s : E) : hi (lo l s ++ s :: hi l s) s = hi l s := by
  unfold lo hi
  rw [List.filter_append, List.filter_cons, if_neg (by rw [ltb_self]; simp), List.filter_filter, List.filter_filter]
  rw [filter_no (p := fun e => ltb s e && ltb e s), List.nil_append]
  · congr 1
    funext e
    exact Bool.and_self _
  · intro e _
    by_cases h : ltb e s = true
    · rw [ltb_asymm h, Bool.false_and]
    · rw [Bool.not_eq_true] at h; rw [h, Bool.and_false]
theorem known_key {s t : E} (h : key s t) {l : List E} : Known l s ↔ Known l t := by
  constructor
  · rintro ⟨e, he, hk⟩
    exact ⟨e, he, hk.1.trans h.1, hk.2.trans h.2⟩
  · rintro ⟨e, he, hk⟩
    exact ⟨e, he, hk.1.trans h.1.symm, hk.2.trans h.2.symm⟩
/-- Seen last counts. -/
theorem learn_twice {l : List E} {s t : E} (h : key s t) (hm : may s ↔ may t) : learn (learn l s) t = learn l t := by
  by_cases c : ¬ may s ∨ (¬ Known l s ∧ 30 ≤ l.length)
  · have : learn l s = l := if_pos c
    rw [this]
  · have e1 : learn l s = lo l s ++ s :: hi l s := if_neg c
    have ct : ¬ (¬ may t ∨ (¬ Known l t ∧ 30 ≤ l.length)) := by rw [← hm, ← known_key h]; exact c
    have e2 : learn l t = lo l t ++ t :: hi l t := if_neg ct
    have kn : Known (lo l s ++ s :: hi l s) t := ⟨s, by simp, h⟩
    have e3 : learn (lo l s ++ s :: hi l s) t = lo (lo l s ++ s :: hi l s) t ++ t :: hi (lo l s ++ s :: hi l s) t := if_neg (fun q => q.elim (fun q => ct (Or.inl q)) (fun q => q.1 kn))
    rw [e1, e2, e3, ← lo_key h, ← hi_key h, lo_put, hi_put, lo_key h, hi_key h]
theorem lens (l : List E) (s : E) : (lo l s).length + (hi l s).length + (l.filter (fun e => decide (key e s))).length = l.length := by
  induction l with
  | nil => rfl
  | cons x l ih =>
    unfold lo hi at *
    rw [List.filter_cons, List.filter_cons, List.filter_cons, List.length_cons]
    by_cases h1 : lt x s
    · have h2 : ¬ lt s x := lt_asymm h1
      have h3 : ¬ key x s := fun k => (key_iff.1 k).1 h1
      rw [if_pos (ltb_iff.2 h1), if_neg (fun q => h2 (ltb_iff.1 q)), if_neg (by simpa using h3), List.length_cons]
      omega
    · by_cases h2 : lt s x
      · have h3 : ¬ key x s := fun k => (key_iff.1 k).2 h2
        rw [if_neg (fun q => h1 (ltb_iff.1 q)), if_pos (ltb_iff.2 h2), if_neg (by simpa using h3), List.length_cons]
        omega
      · have h3 : key x s := key_iff.2 ⟨h1, h2⟩
        rw [if_neg (fun q => h1 (ltb_iff.1 q)), if_neg (fun q => h2 (ltb_iff.1 q)), if_pos (by simpa using h3), List.length_cons]
        omega
theorem Known.pos {l : List E} {s : E} (h : Known l s) : 1 ≤ (l.filter (fun e => decide (key e s))).length := by
  obtain ⟨e, he, hk⟩ := h
  exact List.length_pos_of_mem (List.mem_filter.2 ⟨he, by simpa using hk⟩)
theorem one_key {l : List E} (hb : Book l) (s : E) : (l.filter (fun e => decide (key e s))).length ≤ 1 := by
  have hp : (l.filter (fun e => decide (key e s))).Pairwise lt := hb.asc.filter _
  match hq : l.filter (fun e => decide (key e s)), hp with
  | [], _ => simp
  | [_], _ => simp
  | a :: b :: r, hp =>
    have h1 : lt a b := (List.pairwise_cons.1 hp).1 b (by simp)
    have ha : a ∈ l.filter (fun e => decide (key e s)) := by rw [hq]; simp
    have hb' : b ∈ l.filter (fun e => decide (key e s)) := by rw [hq]; simp
    have ka : key a s := by simpa using (List.mem_filter.1 ha).2
    have kb : key b s := by simpa using (List.mem_filter.1 hb').2
    exact absurd ((kb.lt_right).1 h1) (key_iff.1 ka).1
theorem learn_book {l : List E} (hb : Book l) (s : E) : Book (learn l s) := by
  by_cases c : ¬ may s ∨ (¬ Known l s ∧ 30 ≤ l.length)
  · have : learn l s = l := if_pos c
    rw [this]
    exact hb
  · have e1 : learn l s = lo l s ++ s :: hi l s := if_neg c
    have hl := lens l s
    rw [e1]
    refine ⟨?_, ?_, ?_⟩
    · rw [List.length_append, List.length_cons]
      have := hb.many
      by_cases kn : Known l s
      · have := kn.pos; omega
      · have : ¬ 30 ≤ l.length := fun q => c (Or.inr ⟨kn, q⟩)
        omega
    · intro e he
      rw [List.mem_append, List.mem_cons] at he
      rcases he with he | rfl | he
      · exact hb.rng e (List.mem_filter.1 he).1
      · exact (Decidable.not_not.1 (fun q => c (Or.inl q))).1
      · exact hb.rng e (List.mem_filter.1 he).1
    · rw [List.pairwise_append, List.pairwise_cons]
      refine ⟨hb.asc.filter _, ⟨fun e he => ltb_iff.1 (List.mem_filter.1 he).2, hb.asc.filter _⟩, fun a ha b hb' => ?_⟩
      have h1 := ltb_iff.1 (List.mem_filter.1 ha).2
      rcases List.mem_cons.1 hb' with rfl | h
      · exact h1
      · exact lt_trans h1 (ltb_iff.1 (List.mem_filter.1 h).2)
theorem learn_length {l : List E} (hb : Book l) (s : E) : l.length ≤ (learn l s).length ∧ (learn l s).length ≤ l.length + 1 := by
  by_cases c : ¬ may s ∨ (¬ Known l s ∧ 30 ≤ l.length)
  · have : learn l s = l := if_pos c
    rw [this]
    omega
  · have e1 : learn l s = lo l s ++ s :: hi l s := if_neg c
    have hl := lens l s
    have := one_key hb s
    rw [e1, List.length_append, List.length_cons]
    omega
theorem learn_mem {l : List E} {s t : E} (h : ¬ key s t) {e : E} (he : key e t) : e ∈ learn l s ↔ e ∈ l := by
  by_cases c : ¬ may s ∨ (¬ Known l s ∧ 30 ≤ l.length)
  · have : learn l s = l := if_pos c
    rw [this]
  · have e1 : learn l s = lo l s ++ s :: hi l s := if_neg c
    have hs : ¬ key e s := fun q => h ⟨q.1.symm.trans he.1, q.2.symm.trans he.2⟩
    rw [e1, List.mem_append, List.mem_cons]
    constructor
    · rintro (q | rfl | q)
      · exact (List.mem_filter.1 q).1
      · exact absurd he h
      · exact (List.mem_filter.1 q).1
    · intro q
      by_cases h1 : lt e s
      · exact Or.inl (List.mem_filter.2 ⟨q, ltb_iff.2 h1⟩)
      · by_cases h2 : lt s e
        · exact Or.inr (Or.inr (List.mem_filter.2 ⟨q, ltb_iff.2 h2⟩))
        · exact absurd (key_iff.2 ⟨h1, h2⟩) hs
theorem learn_known {l : List E} {s t : E} (h : ¬ key s t) : Known (learn l s) t ↔ Known l t := by
  constructor
  · rintro ⟨e, he, hk⟩
    exact ⟨e, (learn_mem h hk).1 he, hk⟩
  · rintro ⟨e, he, hk⟩
    exact ⟨e, (learn_mem h hk).2 he, hk⟩
theorem learn_look {l : List E} (hb : Book l) {s t : E} (h : ¬ key s t) : look (learn l s) t = look l t := by
  by_cases kn : Known l t
  · obtain ⟨e, he, hk⟩ := kn
    rw [look_some hb he hk, look_some (learn_book hb s) ((learn_mem h hk).2 he) hk]
  · rw [look_none kn, look_none (fun q => kn ((learn_known h).1 q))]
theorem learn_seen {l : List E} (hb : Book l) {s t : E} (h : key s t) (hm : may s) (hr : Known l s ∨ l.length < 30) : Known (learn l s) t ∧ look (learn l s) t = some s := by
  have c : ¬ (¬ may s ∨ (¬ Known l s ∧ 30 ≤ l.length)) := fun q => q.elim (fun q => q hm) (fun q => hr.elim (fun r => q.1 r) (fun r => by omega))
  have e1 : learn l s = lo l s ++ s :: hi l s := if_neg c
  have hmem : s ∈ learn l s := by rw [e1]; simp
  exact ⟨⟨s, hmem, h⟩, look_some (learn_book hb s) hmem h⟩
/-- So much, and so much later. -/
theorem old_old (l : List E) (a b : Int) (ha : 0 ≤ a) (hb : 0 ≤ b) : old (old l a) b = old l (a + b) := by
  unfold old
  induction l with
  | nil => rfl
  | cons x l ih =>
    rw [List.filter_cons, List.filter_cons]
    by_cases h1 : stays a x = true
    · rw [if_pos h1, List.map_cons, List.filter_cons]
      have d1 := of_decide_eq_true h1
      by_cases h2 : stays b (older a x) = true
      · have d2 := of_decide_eq_true h2
        have h3 : stays (a + b) x = true := decide_eq_true (by simp only [older] at d2; omega)
        rw [if_pos h2, if_pos h3, List.map_cons, List.map_cons, ih]
        congr 1
        exact E.eq rfl rfl rfl (by simp only [older]; omega)
      · have h3 : ¬ stays (a + b) x = true := fun q => h2 (decide_eq_true (by have := of_decide_eq_true q; simp only [older]; omega))
        rw [if_neg h2, if_neg h3, ih]
    · have h3 : ¬ stays (a + b) x = true := fun q => h1 (decide_eq_true (by have := of_decide_eq_true q; omega))
      rw [if_neg h1, if_neg h3, ih]
theorem old_zero {l : List E} (h : ∀ e ∈ l, e.age ≤ 300) : old l 0 = l := by
  unfold old
  rw [filter_all (p := stays 0) (fun e he => decide_eq_true (by have := h e he; omega))]
  have : older 0 = id := by
    funext e
    exact E.eq rfl rfl rfl (by simp only [older, id]; omega)
  rw [this, List.map_id]
theorem old_gone {l : List E} (h : ∀ e ∈ l, 0 ≤ e.age) (later : Int) (hl : 300 < later) : old l later = [] := by
  unfold old
  rw [filter_no (p := stays later) (fun e he => decide_eq_false (by have := h e he; omega))]
  rfl
theorem old_age {l : List E} (h : ∀ e ∈ l, 0 ≤ e.age ∧ e.age ≤ 300) (later : Int) : ∀ e ∈ old l later, 0 ≤ e.age ∧ e.age ≤ 300 := by
  intro e he
  obtain ⟨x, hx, rfl⟩ := List.mem_map.1 he
  have h1 := List.mem_filter.1 hx
  have := of_decide_eq_true h1.2
  have := h x h1.1
  simp only [older]
  omega
theorem old_length (l : List E) (later : Int) : (old l later).length ≤ l.length := by
  unfold old
  rw [List.length_map]
  exact List.length_filter_le _ _
theorem flush_book {l : List E} (hb : Book l) (port : Int) (ways : List Int) : Book (flush l port ways) :=
  ⟨Nat.le_trans (List.length_filter_le _ _) hb.many, fun e he => hb.rng e (List.mem_filter.1 he).1, hb.asc.filter _⟩
theorem flush_known {l : List E} (hb : Book l) (port : Int) (ways : List Int) {e t : E} (he : e ∈ l) (ht : key e t) : Known (flush l port ways) t ↔ left port ways e = true := by
  constructor
  · rintro ⟨x, hx, hk⟩
    obtain ⟨h1, h2⟩ := List.mem_filter.1 hx
    have q1 := look_some hb he ht
    have q2 := look_some hb h1 hk
    rw [q1] at q2
    injection q2 with q2
    rw [q2]
    exact h2
  · intro h
    exact ⟨e, List.mem_filter.2 ⟨he, h⟩, ht⟩
end Bk
end Go.Proofs.Ytgkmaihleilchaa
