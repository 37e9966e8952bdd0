/- The ends of links at a bridge, as ports rise; what is known of a right net's -/
import Derived.Test.YtaakjhdbelefiaeDoorPBf
namespace Go.Proofs.YtaakjhdbelefiaeDoor
namespace Pl
open Vc (V Of)
/-- Nothing is wrong with the links. -/
structure RightL (K L : Nat) (ls : Nat → Lk) : Prop where
  ok : ∀ k, k < L → (0 ≤ (ls k).a ∧ (ls k).a < K) ∧ (0 ≤ (ls k).b ∧ (ls k).b < K) ∧ (ls k).a ≠ (ls k).b ∧ (1 ≤ (ls k).pa ∧ (ls k).pa ≤ 30) ∧ (1 ≤ (ls k).pb ∧ (ls k).pb ≤ 30) ∧ (1 ≤ (ls k).cost ∧ (ls k).cost ≤ 200000)
  one : ∀ j k, j < k → k < L → isEnd (ls j) (ls k).a (ls k).pa = false ∧ isEnd (ls j) (ls k).b (ls k).pb = false
theorem someTo_false {p : Nat → Bool} : ∀ {n : Nat}, Vc.someTo p n = false → ∀ i, i < n → p i = false
  | 0, _, i, hi => by omega
  | n + 1, h, i, hi => by
    simp only [Vc.someTo, Bool.or_eq_false_iff] at h
    by_cases e : i = n
    · subst e; exact h.2
    · exact someTo_false h.1 i (by omega)
theorem someTo_none {p : Nat → Bool} : ∀ {n : Nat}, (∀ i, i < n → p i = false) → Vc.someTo p n = false
  | 0, _ => rfl
  | n + 1, h => by simp only [Vc.someTo, Bool.or_eq_false_iff]; exact ⟨someTo_none (fun i hi => h i (by omega)), h n (by omega)⟩
theorem lkErr_ok {K : Nat} {l : Lk} (h : lkErr K l = 0) : (0 ≤ l.a ∧ l.a < K) ∧ (0 ≤ l.b ∧ l.b < K) ∧ l.a ≠ l.b ∧ (1 ≤ l.pa ∧ l.pa ≤ 30) ∧ (1 ≤ l.pb ∧ l.pb ≤ 30) ∧ (1 ≤ l.cost ∧ l.cost ≤ 200000) := by
  unfold lkErr at h
  split at h
  · omega
  · split at h
    · omega
    · split at h
      · omega
      · omega
theorem lErr_ok {K : Nat} {ls : Nat → Lk} {i : Nat} (h : lErr K ls i = 0) : lkErr K (ls i) = 0 ∧ ∀ j, j < i → isEnd (ls j) (ls i).a (ls i).pa = false ∧ isEnd (ls j) (ls i).b (ls i).pb = false := by
  unfold lErr at h
  split at h
  · omega
  · rename_i h1
    split at h
    · omega
    · rename_i h2
      refine ⟨by omega, fun j hj => ?_⟩
      have := someTo_false (by simpa using h2) j hj
      simpa using this
theorem rightL {K L : Nat} {ls : Nat → Lk} (h : ∀ i, i < L → lErr K ls i = 0) : RightL K L ls :=
  ⟨fun k hk => lkErr_ok (lErr_ok (h k hk)).1, fun j k hj hk => (lErr_ok (h k hk)).2 j hj⟩
theorem endsAt_mem {l : Lk} {lv : Bool} {i : Nat} {e : En} : e ∈ endsAt l lv i ↔ (l.a = (i : Int) ∧ e = ⟨l.pa, l.cost, l.b, l.pb, lv⟩) ∨ (l.b = (i : Int) ∧ e = ⟨l.pb, l.cost, l.a, l.pa, lv⟩) := by
  unfold endsAt
  by_cases h1 : l.a = (i : Int) <;> by_cases h2 : l.b = (i : Int) <;> simp [h1, h2]
theorem endsTo_mem {ls : Nat → Lk} {lv : Nat → Bool} {i : Nat} {e : En} : ∀ {L : Nat}, e ∈ endsTo ls lv i L ↔ ∃ k, k < L ∧ e ∈ endsAt (ls k) (lv k) i
  | 0 => ⟨fun h => by simp [endsTo] at h, fun ⟨k, hk, _⟩ => by omega⟩
  | L + 1 => by
    simp only [endsTo, List.mem_append]
    rw [endsTo_mem (L := L)]
    constructor
    · rintro (⟨k, hk, h⟩ | h)
      · exact ⟨k, by omega, h⟩
      · exact ⟨L, by omega, h⟩
    · rintro ⟨k, hk, h⟩
      by_cases e : k = L
      · subst e; exact Or.inr h
      · exact Or.inl ⟨k, by omega, h⟩
theorem ends_perm (ls : Nat → Lk) (lv : Nat → Bool) (L i : Nat) : (ends ls lv L i).Perm (endsTo ls lv i L) := List.mergeSort_perm _ _
theorem ends_mem {ls : Nat → Lk} {lv : Nat → Bool} {L i : Nat} {e : En} : e ∈ ends ls lv L i ↔ ∃ k, k < L ∧ (((ls k).a = (i : Int) ∧ e = ⟨(ls k).pa, (ls k).cost, (ls k).b, (ls k).pb, lv k⟩) ∨ ((ls k).b = (i : Int) ∧ e = ⟨(ls k).pb, (ls k).cost, (ls k).a, (ls k).pa, lv k⟩)) := by
  rw [(ends_perm ls lv L i).mem_iff, endsTo_mem]
  constructor
  · rintro ⟨k, hk, h⟩; exact ⟨k, hk, endsAt_mem.1 h⟩
  · rintro ⟨k, hk, h⟩; exact ⟨k, hk, endsAt_mem.2 h⟩
/-- No port is there twice. -/
theorem endsTo_ports {K L : Nat} {ls : Nat → Lk} (R : RightL K L ls) (lv : Nat → Bool) (i : Nat) : ∀ n, n ≤ L → (endsTo ls lv i n).Pairwise (fun x y => x.port ≠ y.port)
  | 0, _ => List.Pairwise.nil
  | n + 1, hn => by
    simp only [endsTo]
    rw [List.pairwise_append]
    refine ⟨endsTo_ports R lv i n (by omega), ?_, ?_⟩
    · have := (R.ok n (by omega)).2.2.1
      unfold endsAt
      by_cases h1 : (ls n).a = (i : Int) <;> by_cases h2 : (ls n).b = (i : Int) <;> simp [h1, h2]
      omega
    · intro x hx y hy
      obtain ⟨k, hk, hx⟩ := endsTo_mem.1 hx
      obtain ⟨o1, o2⟩ := R.one k n (by omega) (by omega)
      unfold isEnd at o1 o2
      simp only [Bool.or_eq_false_iff, decide_eq_false_iff_not] at o1 o2
      rcases endsAt_mem.1 hx with ⟨a1, rfl⟩ | ⟨a1, rfl⟩ <;> rcases endsAt_mem.1 hy with ⟨b1, rfl⟩ | ⟨b1, rfl⟩ <;> simp only <;> intro e
      · exact o1.1 ⟨by omega, e⟩
      · exact o2.1 ⟨by omega, e⟩
      · exact o1.2 ⟨by omega, e⟩
      · exact o2.2 ⟨by omega, e⟩
theorem ends_sorted {K L : Nat} {ls : Nat → Lk} (R : RightL K L ls) (lv : Nat → Bool) (i : Nat) : (ends ls lv L i).Pairwise (fun x y => x.port < y.port) := by
  have h1 : (ends ls lv L i).Pairwise (fun x y => leP x y = true) := List.pairwise_mergeSort (fun a b c h1 h2 => by simp [leP] at *; omega) (fun a b => by simp [leP]; omega) _
  have h2 : (ends ls lv L i).Pairwise (fun x y => x.port ≠ y.port) := ((ends_perm ls lv L i).pairwise_iff (fun {a b} (h : a.port ≠ b.port) => h.symm)).2 (endsTo_ports R lv i L (Nat.le_refl _))
  have := h1.and h2
  exact this.imp (fun {a b} ⟨q1, q2⟩ => by simp [leP] at q1; omega)
/-- What is sorted by ports is this. -/
theorem ends_unique {K L : Nat} {ls : Nat → Lk} (R : RightL K L ls) (lv : Nat → Bool) (i : Nat) {l : List En} (hp : l.Perm (endsTo ls lv i L)) (h : l.Pairwise (fun x y => ¬ y.port < x.port)) : l = ends ls lv L i := by
  have h2 : l.Pairwise (fun x y => x.port ≠ y.port) := (hp.pairwise_iff (fun {a b} (h : a.port ≠ b.port) => h.symm)).2 (endsTo_ports R lv i L (Nat.le_refl _))
  exact sorted_unique (hp.trans (ends_perm ls lv L i).symm) ((h.and h2).imp (fun {a b} ⟨q1, q2⟩ => by omega)) (ends_sorted R lv i)
theorem good {K L : Nat} {ls : Nat → Lk} (R : RightL K L ls) (hK : K ≤ 12) (ids : Nat → Int) (lv : Nat → Bool) : Good ids (fun i => ends ls lv L i) K := by
  refine ⟨hK, fun i hi e he _ => ?_⟩
  obtain ⟨k, hk, h⟩ := ends_mem.1 he
  obtain ⟨o1, o2, o3, o4, o5, o6⟩ := R.ok k hk
  rcases h with ⟨_, rfl⟩ | ⟨_, rfl⟩ <;> simp only <;> omega
/-- The port of a bridge has one link. -/
theorem ends_one {K L : Nat} {ls : Nat → Lk} (R : RightL K L ls) (lv : Nat → Bool) {i : Nat} {x y : En} (hx : x ∈ ends ls lv L i) (hy : y ∈ ends ls lv L i) (h : x.port = y.port) : x = y := by
  have S := ends_sorted R lv i
  obtain ⟨a, ha, ea⟩ := List.getElem_of_mem hx
  obtain ⟨b, hb, eb⟩ := List.getElem_of_mem hy
  have key := List.pairwise_iff_getElem.1 S
  by_cases e : a = b
  · subst e; rw [← ea, ← eb]
  · rcases Nat.lt_or_ge a b with q | q
    · have := key a b ha hb q
      rw [ea, eb] at this; omega
    · have := key b a hb ha (by omega)
      rw [ea, eb] at this; omega
end Pl
end Go.Proofs.YtaakjhdbelefiaeDoor
