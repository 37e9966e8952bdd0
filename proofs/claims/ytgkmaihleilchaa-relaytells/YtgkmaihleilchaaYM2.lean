/- What Relay answers: the laws, on plain functions. -/
import Derived.Test.YtgkmaihleilchaaYL0
import Derived.Test.YtgkmaihleilchaaBMd2
namespace Go.Proofs.Ytgkmaihleilchaa
namespace Rl
open Bk (E at')
section
variable {r : R} {l : List G} {b : List E} {p : Int} {f : F}
/-- Nothing is wrong, and the port is there. -/
structure Ok (r : R) (l : List G) (b : List E) (p : Int) (f : F) : Prop where
  gate : ∃ k, k < l.length ∧ idx l p l.length = (k : Int)
  right : Right l
  reg : Rg.Right r.vs r.ts r.n
  book : Bk.Book b
  frame : f.wrong = 0
  err : errR r l b f = 0
theorem relay_cases (r : R) (l : List G) (b : List E) (p : Int) (f : F) : ((relay r l b p f).err ≠ 0 ∧ (relay r l b p f).out = [] ∧ (relay r l b p f).book = []) ∨ ((relay r l b p f).err = 0 ∧ Ok r l b p f ∧ ((stays r l p f = true ∧ relay r l b p f = ⟨[], b, 0⟩) ∨ (stays r l p f = false ∧ relay r l b p f = ⟨outs r l b p f, learnt b l p f, 0⟩))) := by
  by_cases h : errR r l b f = 0
  · obtain ⟨h1, h2, h3, h4⟩ := or4_zero h
    have e1 : relay r l b p f = (if idx l p l.length < 0 then ⟨[], [], 6⟩ else if stays r l p f = true then ⟨[], b, 0⟩ else ⟨outs r l b p f, learnt b l p f, 0⟩) := if_pos h
    rcases idx_cases l p l.length with ⟨h5, _⟩ | ⟨k, hk, h5, _⟩
    · rw [h5, if_pos (by omega)] at e1
      rw [e1]
      exact Or.inl ⟨by simp, rfl, rfl⟩
    · rw [h5, if_neg (by omega)] at e1
      right
      have hok : Ok r l b p f := ⟨⟨k, hk, h5⟩, right_of h2, (Rg.wrong_zero h1).2.2, Bk.wrong_book.1 h3, h4, h⟩
      cases hs : stays r l p f with
      | true =>
        rw [hs, if_pos rfl] at e1
        exact ⟨by rw [e1], hok, Or.inl ⟨rfl, e1⟩⟩
      | false =>
        rw [hs, if_neg (by simp)] at e1
        exact ⟨by rw [e1], hok, Or.inr ⟨rfl, e1⟩⟩
  · have e1 : relay r l b p f = ⟨[], [], errR r l b f⟩ := if_neg h
    rw [e1]
    exact Or.inl ⟨h, rfl, rfl⟩
theorem Ok.atG (h : Ok r l b p f) : Rl.atG l p = inG l p := by
  obtain ⟨k, _, hk⟩ := h.gate
  unfold Rl.atG
  rw [hk, if_neg (by omega)]
theorem Right.idx (h : Right l) {i : Nat} (hi : i < l.length) : idx l (gat l i).port l.length = (i : Int) := by
  rcases idx_cases l (gat l i).port l.length with ⟨_, h2⟩ | ⟨k, hk, h1, h2, _⟩
  · exact absurd rfl (h2 i hi)
  · rw [h1, h.one hk hi h2]
theorem Right.atG (h : Right l) {g : G} (hg : g ∈ l) : Rl.atG l g.port = g := by
  obtain ⟨i, hi, rfl⟩ := mem_gat hg
  exact atG_at (h.idx hi)
theorem Right.asc (h : Right l) : l.Pairwise (fun a c => a.port < c.port) := by
  rw [List.pairwise_iff_getElem]
  intro i j hi hj hij
  have := h.less i j hij hj
  rwa [gat_get l i hi, gat_get l j hj] at this
/-- A frame's way. -/
def vid (l : List G) (p : Int) (f : F) : Int := wayOf f (Rl.atG l p)
theorem Ok.vid (h : Ok r l b p f) : wayOf f (inG l p) = vid l p f := by unfold Rl.vid; rw [h.atG]
theorem Ok.stays (h : Ok r l b p f) : stays r l p f = (!passes (Rl.atG l p) (r.tree (Rl.vid l p f)) (Rl.vid l p f) || res f.dst) := by
  unfold Rl.stays
  rw [h.vid, ← h.atG]
theorem outs_mem (h : Ok r l b p f) {o : O} (ho : o ∈ outs r l b p f) : ∃ g ∈ l, leads r (learnt b l p f) (Rl.vid l p f) f p g = true ∧ leave f (Rl.vid l p f) g = o := by
  unfold outs at ho
  rw [h.vid] at ho
  obtain ⟨g, hg, rfl⟩ := List.mem_map.1 ho
  exact ⟨g, (List.mem_filter.1 hg).1, (List.mem_filter.1 hg).2, rfl⟩
/-- NOTHING PASSES A SHUT GATE. -/
theorem out_gate (h : Ok r l b p f) (hs : Rl.stays r l p f = false) {o : O} (ho : o ∈ outs r l b p f) : o.port ≠ p ∧ 0 ≤ o.port ∧ passes (Rl.atG l o.port) (r.tree (Rl.vid l p f)) (Rl.vid l p f) = true ∧ passes (Rl.atG l p) (r.tree (Rl.vid l p f)) (Rl.vid l p f) = true ∧ leave f (Rl.vid l p f) (Rl.atG l o.port) = o := by
  obtain ⟨g, hg, hl, rfl⟩ := outs_mem h ho
  rw [leave_port, h.right.atG hg]
  unfold leads at hl
  simp only [Bool.and_eq_true, decide_eq_true_eq] at hl
  obtain ⟨i, hi, rfl⟩ := mem_gat hg
  refine ⟨hl.1, (h.right.port i hi).1, hl.2.1, ?_, rfl⟩
  rw [h.stays] at hs
  cases hp : passes (Rl.atG l p) (r.tree (Rl.vid l p f)) (Rl.vid l p f) with
  | true => rfl
  | false => rw [hp] at hs; simp at hs
theorem out_asc (h : Ok r l b p f) : (outs r l b p f).Pairwise (fun a c => a.port < c.port) := by
  unfold outs
  rw [List.pairwise_map]
  refine (h.right.asc.filter _).imp ?_
  intro a c hac
  rw [leave_port, leave_port]
  exact hac
/-- What leaves, one by one. -/
theorem out_at (h : (relay r l b p f).err = 0) {o : O} (ho : o ∈ (relay r l b p f).out) : Ok r l b p f ∧ o.port ≠ p ∧ 0 ≤ o.port ∧ passes (Rl.atG l o.port) (r.tree (Rl.vid l p f)) (Rl.vid l p f) = true ∧ passes (Rl.atG l p) (r.tree (Rl.vid l p f)) (Rl.vid l p f) = true ∧ leave f (Rl.vid l p f) (Rl.atG l o.port) = o := by
  rcases relay_cases r l b p f with ⟨h1, _⟩ | ⟨_, h2, ⟨_, h3⟩ | ⟨hs, h3⟩⟩
  · exact absurd h h1
  · rw [h3] at ho; simp at ho
  · rw [h3] at ho
    exact ⟨h2, out_gate h2 hs ho⟩
theorem out_less (h : (relay r l b p f).err = 0) : (relay r l b p f).out.Pairwise (fun a c => a.port < c.port) := by
  rcases relay_cases r l b p f with ⟨h1, _⟩ | ⟨_, h2, ⟨_, h3⟩ | ⟨hs, h3⟩⟩
  · exact absurd h h1
  · rw [h3]; exact List.Pairwise.nil
  · rw [h3]; exact out_asc h2
theorem ok_of (h : (relay r l b p f).err = 0) : Ok r l b p f := by
  rcases relay_cases r l b p f with ⟨h1, _⟩ | ⟨_, h2, _⟩
  · exact absurd h h1
  · exact h2
theorem out_none (h : (relay r l b p f).err ≠ 0) : (relay r l b p f).out = [] := by
  rcases relay_cases r l b p f with ⟨_, h2, _⟩ | ⟨h1, _⟩
  · exact h2
  · exact absurd h1 h
/-- The ways of a gate are from 1 on. -/
theorem passes_way (h : Right l) {g : G} (hg : g ∈ l) {t w : Int} (hp : passes g t w = true) : 1 ≤ w ∧ w ≤ 4094 := by
  unfold passes at hp
  simp only [Bool.and_eq_true] at hp
  have hm : w ∈ g.ways := by simpa using hp.1
  obtain ⟨i, hi, rfl⟩ := mem_gat hg
  obtain ⟨j, hj, e⟩ := List.getElem_of_mem hm
  have := (h.ways i hi).vid j hj
  have e2 : wv (gat l i).ways j = w := by simp [wv, hj, e]
  rwa [e2] at this
theorem Ok.inMem (h : Ok r l b p f) : Rl.atG l p ∈ l := by
  obtain ⟨k, hk, e⟩ := h.gate
  rw [atG_at e]
  exact gat_mem l k hk
theorem Ok.atPort (h : Ok r l b p f) : (Rl.atG l p).port = p := by
  rcases idx_cases l p l.length with ⟨h1, _⟩ | ⟨k, hk, h1, h2, _⟩
  · obtain ⟨k, _, e⟩ := h.gate
    omega
  · rw [atG_at h1]; exact h2
/-- WHO IS NOT KNOWN IS ASKED FOR EVERYWHERE. -/
def want (r : R) (v p : Int) (g : G) : Bool := decide (g.port ≠ p) && passes g (r.tree v) v
theorem res_iff (d : Int) : res d = decide (d / 16 = 103282638848) := by
  unfold res
  exact decide_eq_decide.2 ⟨fun h => by omega, fun h => by omega⟩
theorem one_of_asc {α : Type} (k : α → Int) (s : Int) : ∀ l : List α, l.Pairwise (fun a c => k a < k c) → (∀ x ∈ l, k x = s) → l.length ≤ 1
  | [], _, _ => by simp
  | [a], _, _ => by simp
  | a :: c :: m, h, hs => by
    have h1 : k a < k c := (List.pairwise_cons.1 h).1 c (by simp)
    have h2 := hs a (by simp)
    have h3 := hs c (by simp)
    omega
theorem flood_some (h : Ok r l b p f) (hk : Bk.Known (learnt b l p f) (sought (Rl.vid l p f) f.dst)) : (outs r l b p f).length ≤ 1 := by
  refine one_of_asc O.port (Bk.lookP (learnt b l p f) (sought (Rl.vid l p f) f.dst)) _ (out_asc h) (fun o ho => ?_)
  obtain ⟨g, hg, hl, rfl⟩ := outs_mem h ho
  rw [leave_port]
  unfold leads at hl
  simp only [Bool.and_eq_true] at hl
  have h2 := hl.2.2
  rw [decide_eq_true hk] at h2
  simpa using h2
theorem flood_all (h : Ok r l b p f) (hk : ¬ Bk.Known (learnt b l p f) (sought (Rl.vid l p f) f.dst)) : (outs r l b p f).length = (l.filter (want r (Rl.vid l p f) p)).length := by
  unfold outs
  rw [List.length_map, h.vid]
  congr 2
  funext g
  unfold leads want
  rw [decide_eq_false hk]
  simp
theorem flood_stays (h : Ok r l b p f) : Rl.stays r l p f = (decide (Rl.vid l p f = 0) || (!passes (Rl.atG l p) (r.tree (Rl.vid l p f)) (Rl.vid l p f) || decide (f.dst / 16 = 103282638848))) := by
  rw [h.stays, res_iff]
  by_cases e : Rl.vid l p f = 0
  · rw [decide_eq_true e, Bool.true_or]
    cases hp : passes (Rl.atG l p) (r.tree (Rl.vid l p f)) (Rl.vid l p f) with
    | false => rfl
    | true =>
      have := passes_way h.right h.inMem hp
      omega
  · rw [decide_eq_false e, Bool.false_or]
/-- WHAT LEAVES IS WHAT CAME. -/
theorem leave_right (h : Ok r l b p f) {o : O} (hp : passes (Rl.atG l p) (r.tree (Rl.vid l p f)) (Rl.vid l p f) = true) (g : G) (ho : leave f (Rl.vid l p f) g = o) : o.tagged = decide (g.plain ≠ Rl.vid l p f) ∧ (o.tagged = true → o.vid = Rl.vid l p f) ∧ Go.Proofs.Ytgkmaihleilchaa.wrong f.dst f.src o.tagged o.prio o.vid f.type f.n = 0 := by
  have hv := passes_way h.right h.inMem hp
  have hf := h.frame
  subst ho
  unfold leave
  unfold F.wrong Go.Proofs.Ytgkmaihleilchaa.wrong at hf
  by_cases e : g.plain = Rl.vid l p f
  · rw [if_pos e]
    refine ⟨by simp [e], by simp, ?_⟩
    unfold Go.Proofs.Ytgkmaihleilchaa.wrong
    by_cases c1 : 281474976710655 < f.dst ∨ 281474976710655 < f.src
    · rw [if_pos c1] at hf; cases hf
    · rw [if_neg c1] at hf ⊢
      by_cases c2 : f.src / 1099511627776 % 2 = 1
      · rw [if_pos c2] at hf; cases hf
      · rw [if_neg c2] at hf ⊢
        rw [if_neg (by simp)]
        by_cases c3 : f.tagged = true ∧ ¬ ((0 ≤ f.vid ∧ f.vid ≤ 4094) ∧ 0 ≤ f.prio ∧ f.prio ≤ 7)
        · rw [if_pos c3] at hf; cases hf
        · rw [if_neg c3] at hf; exact hf
  · rw [if_neg e]
    refine ⟨by simp [e], fun _ => rfl, ?_⟩
    unfold Go.Proofs.Ytgkmaihleilchaa.wrong
    by_cases c1 : 281474976710655 < f.dst ∨ 281474976710655 < f.src
    · rw [if_pos c1] at hf; cases hf
    · rw [if_neg c1] at hf ⊢
      by_cases c2 : f.src / 1099511627776 % 2 = 1
      · rw [if_pos c2] at hf; cases hf
      · rw [if_neg c2] at hf ⊢
        by_cases c3 : f.tagged = true ∧ ¬ ((0 ≤ f.vid ∧ f.vid ≤ 4094) ∧ 0 ≤ f.prio ∧ f.prio ≤ 7)
        · rw [if_pos c3] at hf; cases hf
        · rw [if_neg c3] at hf
          have c4 : (0 ≤ Rl.vid l p f ∧ Rl.vid l p f ≤ 4094) ∧ 0 ≤ (if f.tagged = true then f.prio else 0) ∧ (if f.tagged = true then f.prio else 0) ≤ 7 := by
            refine ⟨⟨by omega, by omega⟩, ?_⟩
            by_cases e2 : f.tagged = true
            · rw [if_pos e2]
              by_cases c5 : (0 ≤ f.vid ∧ f.vid ≤ 4094) ∧ 0 ≤ f.prio ∧ f.prio ≤ 7
              · exact c5.2
              · exact absurd ⟨e2, c5⟩ c3
            · rw [if_neg e2]; omega
          rw [if_neg (fun q => q.2 c4)]
          exact hf
/-- WHO SPOKE IS FOUND. -/
theorem answer_stays {f2 : F} {q : Int} (h : Ok r l b q f2) (hr : res f2.dst = false) : Rl.stays r l q f2 = !passes (Rl.atG l q) (r.tree (Rl.vid l q f2)) (Rl.vid l q f2) := by
  rw [h.stays, hr, Bool.or_false]
theorem answer_outs {f2 : F} {q : Int} (h : Ok r l b q f2) (hpq : p ≠ q) (hne : f2.src ≠ f2.dst) (hk : Bk.Known b (sought (Rl.vid l q f2) f2.dst)) (hl : Bk.lookP b (sought (Rl.vid l q f2) f2.dst) = p) :
    outs r l b q f2 = (l.filter (fun g => decide (g.port = p) && passes g (r.tree (Rl.vid l q f2)) (Rl.vid l q f2))).map (leave f2 (Rl.vid l q f2)) := by
  unfold outs
  rw [h.vid]
  congr 1
  have hnk : ¬ Bk.key (⟨Rl.vid l q f2, f2.src, q, 0⟩ : E) (sought (Rl.vid l q f2) f2.dst) := fun hh => hne hh.2
  have e1 : learnt b l q f2 = Bk.learn b ⟨Rl.vid l q f2, f2.src, q, 0⟩ := by unfold learnt; rw [h.vid]
  have k1 : Bk.Known (learnt b l q f2) (sought (Rl.vid l q f2) f2.dst) := by rw [e1]; exact (Bk.learn_known hnk).2 hk
  have k2 : Bk.lookP (learnt b l q f2) (sought (Rl.vid l q f2) f2.dst) = p := by
    rw [e1, ← hl]
    unfold Bk.lookP
    rw [Bk.learn_look h.book hnk]
  congr 1
  funext g
  unfold leads
  rw [decide_eq_true k1, k2]
  by_cases e : g.port = p
  · rw [decide_eq_true e, decide_eq_true (show g.port ≠ q by rw [e]; exact hpq)]
    simp
  · rw [decide_eq_false e]
    simp
theorem filter_port (h : Right l) {g : G} (hg : g ∈ l) (P : G → Bool) : l.filter (fun x => decide (x.port = g.port) && P x) = if P g = true then [g] else [] := by
  have h1 : (l.filter (fun x => decide (x.port = g.port) && P x)).length ≤ 1 := one_of_asc G.port g.port _ (h.asc.filter _) (fun x hx => by
    have := (List.mem_filter.1 hx).2
    simp at this
    exact this.1)
  by_cases e : P g = true
  · rw [if_pos e]
    have hm : g ∈ l.filter (fun x => decide (x.port = g.port) && P x) := List.mem_filter.2 ⟨hg, by simp [e]⟩
    match hl : l.filter (fun x => decide (x.port = g.port) && P x) with
    | [] => rw [hl] at hm; simp at hm
    | [a] => rw [hl] at hm; simp at hm; exact hl.trans (by rw [hm])
    | a :: c :: m => rw [hl] at h1; simp at h1
  · rw [if_neg e, List.filter_eq_nil_iff]
    intro x hx hh
    simp at hh
    have := h.atG hx
    rw [hh.1, h.atG hg] at this
    subst this
    exact e hh.2
end
end Rl
end Go.Proofs.Ytgkmaihleilchaa
