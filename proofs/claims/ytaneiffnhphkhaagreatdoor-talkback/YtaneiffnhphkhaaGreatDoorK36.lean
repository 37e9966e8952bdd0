/- What all four rows ask: the tables out of the row's list; a slice of bytes that came in; a world for the witness. -/
import Derived.Test.YtaneiffnhphkhaaGreatDoorK15
import Derived.Test.YtaneiffnhphkhaaGreatDoorK35
import Derived.Test.YtaneiffnhphkhaaGreatDoorK04
import Derived.Test.YtaneiffnhphkhaaGreatDoorK17
import Derived.ProofKit
import Derived.OpenShut
import Derived.ChangeOld
import Derived.SizedLaws
import Derived.Deep.DeepHandedRow
import Derived.Lib.LaidTab
import Derived.Stop.LaidErr
namespace Go.Proofs.YtaneiffnhphkhaaGreatDoor
namespace Tk
open Vc (V Of)
open Pl (Lk En St fin offs RightL ends)
/-- Frames go through that port. -/
def Open (c : Cn) (s : Sc) (k i : Nat) (port : Int) : Prop := ∃ j e, (s.E c i)[j]? = some e ∧ e.port = port ∧ 50 ≤ (s.ms k i).calm.getD j 0
theorem map_getD {α : Type} (l : List α) (f : α → Int) {j : Nat} {e : α} (h : l[j]? = some e) : (l.map f).getD j 0 = f e := by
  rw [List.getD_eq_getElem?_getD, List.getElem?_map, h]; rfl
theorem get_lt {α : Type} {l : List α} {j : Nat} {e : α} (h : l[j]? = some e) : j < l.length := (List.getElem?_eq_some_iff.1 h).1
/-- THE TREE OPENS. -/
theorem Ok.opens {c : Cn} {s : Sc} {T : Nat} (h : Ok c s T) {t : Nat} (ht : 83 ≤ t) {k : Nat} (hk : k < T) {i : Nat} (hi : i < c.K) {j : Nat} {e : En} (he : (s.E c i)[j]? = some e) :
    50 ≤ ((s.ticks c t).ms k i).calm.getD j 0 ↔ ((s.roles c k i).getD j 0 = 1 ∨ (s.roles c k i).getD j 0 = 2) := by
  have hj := get_lt he
  have hr : ∀ u, 33 ≤ u → (ticksF (s.ids c k) (s.E c) (s.ms k) u i).roles = s.roles c k i := fun u hu => (settledF (h.fine.good _) h.fine.ports (s.ms k) hu hi).2.2
  constructor
  · intro q
    have := (ticksF_Calm (ids := s.ids c k) (h.fit k hk) (h.calm k hk) t i hi j).2 (by change 50 ≤ _ at q; change 0 < _; exact Int.lt_of_lt_of_le (by decide) q)
    rw [hr t (by omega)] at this
    exact this
  · intro q
    have := calm_on (ids := s.ids c k) (h.fit k hk) (h.calm k hk) hi hj (t - 50) (fun u hu => by rw [hr u (by omega)]; exact q) 50 (Nat.le_refl _)
    rw [show t - 50 + 50 = t by omega] at this
    exact this
/-- Roles at the two ends of a link. -/
theorem isOn_of {c : Cn} {s : Sc} (h : Fine c s) (k : Nat) {m : Nat} (hm : m < c.L) {ja jb : Nat} {ea eb : En} (ha : (s.E c (s.ls m).a.toNat)[ja]? = some ea) (hb : (s.E c (s.ls m).b.toNat)[jb]? = some eb) (pa : ea.port = (s.ls m).pa) (pb : eb.port = (s.ls m).pb)
    (ra : (s.roles c k (s.ls m).a.toNat).getD ja 0 = 1 ∨ (s.roles c k (s.ls m).a.toNat).getD ja 0 = 2) (rb : (s.roles c k (s.ls m).b.toNat).getD jb 0 = 1 ∨ (s.roles c k (s.ls m).b.toNat).getD jb 0 = 2) :
    s.lv c m = true ∧ Pl.isOn (s.ids c k) s.ls (s.lv c) c.K c.L m := by
  have ea' : ea = Pl.eA (s.ls m) (s.lv c m) := h.ports _ (by have := (h.links.ok m hm).1; omega) _ _ (List.mem_of_getElem? ha) (Pl.eA_mem h.links (s.lv c) hm) pa
  have eb' : eb = Pl.eB (s.ls m) (s.lv c m) := h.ports _ (by have := (h.links.ok m hm).2.1; omega) _ _ (List.mem_of_getElem? hb) (Pl.eB_mem h.links (s.lv c) hm) pb
  unfold Sc.roles at ra rb
  rw [map_getD _ _ ha, ea'] at ra
  rw [map_getD _ _ hb, eb'] at rb
  have hlv : s.lv c m = true := by
    cases q : s.lv c m with
    | true => rfl
    | false =>
      exfalso
      rw [q] at ra
      unfold Pl.roleAt Pl.eA at ra
      rw [if_neg (by simp)] at ra
      omega
  refine ⟨hlv, ?_⟩
  have ids_ne : ∀ i j, i < c.K → j < c.K → s.ids c k i = s.ids c k j → i = j := fun i j hi hj e => by
    apply h.apart i j hi hj
    have h1 := h.addr i hi
    have h2 := h.addr j hj
    unfold Sc.ids at e
    omega
  have key := Pl.says_roles h.links h.few (s.ids c k) ids_ne (s.lv c) hm hlv _ _ rfl rfl
  have e1 : Pl.roleAt (Pl.says (s.ids c k) s.ls (s.lv c) c.K c.L (s.ls m).a.toNat) (offs (ends s.ls (s.lv c) c.L (s.ls m).a.toNat) (Pl.says (s.ids c k) s.ls (s.lv c) c.K c.L)) (Pl.eA (s.ls m) (s.lv c m)) = Pl.roleAt (s.says c k (s.ls m).a.toNat) (offs (s.E c (s.ls m).a.toNat) (s.says c k)) (Pl.eA (s.ls m) (s.lv c m)) := rfl
  have e2 : Pl.roleAt (Pl.says (s.ids c k) s.ls (s.lv c) c.K c.L (s.ls m).b.toNat) (offs (ends s.ls (s.lv c) c.L (s.ls m).b.toNat) (Pl.says (s.ids c k) s.ls (s.lv c) c.K c.L)) (Pl.eB (s.ls m) (s.lv c m)) = Pl.roleAt (s.says c k (s.ls m).b.toNat) (offs (s.E c (s.ls m).b.toNat) (s.says c k)) (Pl.eB (s.ls m) (s.lv c m)) := rfl
  rw [← e1] at ra
  rw [← e2] at rb
  have root : ∀ {i : Nat} {e : En}, e.live = true → Pl.roleAt (Pl.says (s.ids c k) s.ls (s.lv c) c.K c.L i) (offs (ends s.ls (s.lv c) c.L i) (Pl.says (s.ids c k) s.ls (s.lv c) c.K c.L)) e = 1 → e.port = (Pl.says (s.ids c k) s.ls (s.lv c) c.K c.L i).rp := fun {i e} hl q => by
    unfold Pl.roleAt Vc.role at q
    rw [if_pos hl] at q
    by_cases z : e.port = (Pl.says (s.ids c k) s.ls (s.lv c) c.K c.L i).rp
    · exact z
    · rw [if_neg z] at q
      split at q <;> omega
  unfold Pl.isOn
  rcases key with ⟨_, q⟩ | ⟨_, q⟩
  · refine Or.inr (root (e := Pl.eB (s.ls m) (s.lv c m)) hlv ?_)
    omega
  · refine Or.inl (root (e := Pl.eA (s.ls m) (s.lv c m)) hlv ?_)
    omega
/-- No links that forward at both ends make a ring. -/
def NoRing (c : Cn) (s : Sc) (k : Nat) : Prop := ∀ (n : Nat) (on : Nat → Nat), (∀ j, j < n → on j < c.L ∧ s.lv c (on j) = true ∧ Open c s k (s.ls (on j)).a.toNat (s.ls (on j)).pa ∧ Open c s k (s.ls (on j)).b.toNat (s.ls (on j)).pb) → (∀ i j, i < j → j < n → on i ≠ on j) → Pl.ring (fun j => Pl.edge s.ls (on j)) n = false
/-- Ahead of a change, or of the start: all stand as they must, or none is calm. -/
def Before (c : Cn) (b : Sc) (T : Nat) : Prop := ∃ a : Sc, Ok c a T ∧ SameEnds c a b ∧ b.ms = a.ms ∧ ((∀ k, k < T → As c a k) ∨ ∀ k, k < T → ∀ i, i < c.K → ∀ j, (a.ms k i).calm.getD j 0 = 0)
theorem ring_congr {es fs : Nat → Nat × Nat} : ∀ n, (∀ j, j < n → es j = fs j) → Pl.ring es n = Pl.ring fs n ∧ ∀ i, Pl.lab es n i = Pl.lab fs n i
  | 0, _ => ⟨rfl, fun _ => rfl⟩
  | n + 1, h => by
    obtain ⟨h1, h2⟩ := ring_congr n (fun j hj => h j (by omega))
    have e := h n (by omega)
    refine ⟨?_, fun i => ?_⟩
    · simp only [Pl.ring]; rw [h1, e, h2, h2]
    · simp only [Pl.lab]; rw [e, h2, h2, h2]
/-- NEVER A RING. -/
theorem Before.rings {c : Cn} {b : Sc} {T : Nat} (h : Before c b T) (hb : Fine c b) (t : Nat) {k : Nat} (hk : k < T) : NoRing c (b.ticks c t) k := by
  obtain ⟨a, ha, hse, hms, hcase⟩ := h
  intro n on hon hne
  have hbo : Ok c b T := ⟨hb, fun q hq i hi => by rw [hms, (hse.len ha.fine hb i).2]; exact ha.fit q hq i hi, fun q hq => by rw [hms]; exact ha.calm q hq⟩
  by_cases ht : 33 ≤ t
  · refine Pl.no_ring (ids := b.ids c k) (lv := b.lv c) hb.links hb.few (fun j hj => ?_) hne
    obtain ⟨h1, h2, ⟨ja, ea, a1, a2, a3⟩, ⟨jb, eb, b1, b2, b3⟩⟩ := hon j hj
    have hr : ∀ i, i < c.K → ((b.ticks c t).ms k i).roles = b.roles c k i := fun i hi => (settledF (hb.good _) hb.ports (b.ms k) ht hi).2.2
    have hcl := fun i hi q => ticksF_Calm (ids := b.ids c k) (hbo.fit k hk) (hbo.calm k hk) t i hi q
    have ia : (b.ls (on j)).a.toNat < c.K := by have := (hb.links.ok _ h1).1; omega
    have ib : (b.ls (on j)).b.toNat < c.K := by have := (hb.links.ok _ h1).2.1; omega
    have ra := (hcl _ ia ja).2 (by change 50 ≤ _ at a3; exact Int.lt_of_lt_of_le (by decide) a3)
    have rb := (hcl _ ib jb).2 (by change 50 ≤ _ at b3; exact Int.lt_of_lt_of_le (by decide) b3)
    change ((b.ticks c t).ms k _).roles.getD ja 0 = 1 ∨ ((b.ticks c t).ms k _).roles.getD ja 0 = 2 at ra
    change ((b.ticks c t).ms k _).roles.getD jb 0 = 1 ∨ ((b.ticks c t).ms k _).roles.getD jb 0 = 2 at rb
    rw [hr _ ia] at ra
    rw [hr _ ib] at rb
    obtain ⟨z1, z2⟩ := isOn_of hb k h1 a1 b1 a2 b2 ra rb
    exact ⟨h1, z1, z2⟩
  · have back : ∀ i, i < c.K → ∀ j e, (b.E c i)[j]? = some e → 50 ≤ ((b.ticks c t).ms k i).calm.getD j 0 → 0 < (a.ms k i).calm.getD j 0 := fun i hi j e he hc => by
      have := calm_back (ids := b.ids c k) (hbo.fit k hk) hi (get_lt he) t 50 (by omega) hc
      rw [hms] at this
      omega
    have eqE : ∀ j, j < n → Pl.edge (b.ticks c t).ls (on j) = Pl.edge a.ls (on j) := fun j hj => by
      obtain ⟨q1, q2, _, _⟩ := hse (on j) (hon j hj).1
      unfold Pl.edge
      change ((b.ls (on j)).a.toNat, (b.ls (on j)).b.toNat) = _
      rw [q1, q2]
    rw [(ring_congr n eqE).1]
    refine Pl.no_ring (ids := a.ids c k) (lv := a.lv c) ha.fine.links ha.fine.few (fun j hj => ?_) hne
    obtain ⟨h1, h2, ⟨ja, ea, a1, a2, a3⟩, ⟨jb, eb, b1, b2, b3⟩⟩ := hon j hj
    obtain ⟨q1, q2, q3, q4⟩ := hse (on j) h1
    change (b.E c (b.ls (on j)).a.toNat)[ja]? = some ea at a1
    change (b.E c (b.ls (on j)).b.toNat)[jb]? = some eb at b1
    change ea.port = (b.ls (on j)).pa at a2
    change eb.port = (b.ls (on j)).pb at b2
    change 50 ≤ ((b.ticks c t).ms k (b.ls (on j)).a.toNat).calm.getD ja 0 at a3
    change 50 ≤ ((b.ticks c t).ms k (b.ls (on j)).b.toNat).calm.getD jb 0 at b3
    have ia : (b.ls (on j)).a.toNat < c.K := by have := (hb.links.ok _ h1).1; omega
    have ib : (b.ls (on j)).b.toNat < c.K := by have := (hb.links.ok _ h1).2.1; omega
    have ca := back _ ia ja ea a1 a3
    have cb := back _ ib jb eb b1 b3
    rcases hcase with hAs | h0
    · have ra := (ha.calm k hk _ ia ja).2 ca
      have rb := (ha.calm k hk _ ib jb).2 cb
      rw [(hAs k hk _ ia).2.2] at ra
      rw [(hAs k hk _ ib).2.2] at rb
      have pe : ∀ (i j : Nat) (e : En), (b.E c i)[j]? = some e → ∃ e' : En, (a.E c i)[j]? = some e' ∧ e'.port = e.port := fun i j e he => by
        have hm := (hse.len ha.fine hb i).1
        have h3 : ((b.E c i).map (·.port))[j]? = some e.port := by rw [List.getElem?_map, he]; rfl
        rw [hm, List.getElem?_map] at h3
        cases h4 : (a.E c i)[j]? with
        | none => rw [h4] at h3; cases h3
        | some e' => rw [h4] at h3; exact ⟨e', rfl, by simpa using h3⟩
      obtain ⟨ea', a1', a2'⟩ := pe _ ja ea a1
      obtain ⟨eb', b1', b2'⟩ := pe _ jb eb b1
      rw [q1] at a1' ra
      rw [q2] at b1' rb
      obtain ⟨z1, z2⟩ := isOn_of ha.fine k h1 a1' b1' (by rw [a2', a2, q3]) (by rw [b2', b2, q4]) ra rb
      exact ⟨h1, z1, z2⟩
    · exfalso
      have := h0 k hk _ ia ja
      omega
/-- A ring is there, as the law looks for it: all of the one's are the other one's now. -/
def lab7 (es : Nat → Nat × Nat) : Nat → (Nat → Nat)
  | 0 => fun i => i
  | k + 1 => fun i => if lab7 es k i = lab7 es k (es k).1 then lab7 es k (es k).2 else lab7 es k i
def ring7 (es : Nat → Nat × Nat) : Nat → Bool
  | 0 => false
  | k + 1 => ring7 es k || decide (lab7 es k (es k).1 = lab7 es k (es k).2)
theorem lab7_edge (es : Nat → Nat × Nat) : ∀ k j, j < k → lab7 es k (es j).1 = lab7 es k (es j).2
  | 0, j, h => by omega
  | k + 1, j, h => by
    simp only [lab7]
    by_cases e : j = k
    · subst e
      rw [if_pos rfl]
      split <;> rfl
    · rw [lab7_edge es k j (by omega)]
theorem lab7_equiv (es : Nat → Nat × Nat) {R : Nat → Nat → Prop} (hr : ∀ u, R u u) (hs : ∀ u v, R u v → R v u) (ht : ∀ u v x, R u v → R v x → R u x) : ∀ k, (∀ j, j < k → R (es j).1 (es j).2) → ∀ u v, lab7 es k u = lab7 es k v → R u v
  | 0, _, u, v, h => by simp only [lab7] at h; subst h; exact hr u
  | k + 1, hR, u, v, h => by
    have ih := lab7_equiv es hr hs ht k (fun j hj => hR j (by omega))
    have hk := hR k (by omega)
    simp only [lab7] at h
    by_cases h1 : lab7 es k u = lab7 es k (es k).1 <;> by_cases h2 : lab7 es k v = lab7 es k (es k).1
    · exact ih u v (h1.trans h2.symm)
    · rw [if_pos h1, if_neg h2] at h
      exact ht _ _ _ (ih _ _ h1) (ht _ _ _ hk (ih _ _ h))
    · rw [if_neg h1, if_pos h2] at h
      exact ht _ _ _ (ih _ _ h) (ht _ _ _ (hs _ _ hk) (hs _ _ (ih _ _ h2)))
    · rw [if_neg h1, if_neg h2] at h
      exact ih u v h
theorem lab7_iff (es : Nat → Nat × Nat) (k u v : Nat) : lab7 es k u = lab7 es k v ↔ Pl.lab es k u = Pl.lab es k v :=
  ⟨fun h => lab7_equiv es (R := fun u v => Pl.lab es k u = Pl.lab es k v) (fun _ => rfl) (fun _ _ h => h.symm) (fun _ _ _ h q => h.trans q) k (Pl.lab_edge es k) u v h,
   fun h => Pl.lab_equiv es (R := fun u v => lab7 es k u = lab7 es k v) (fun _ => rfl) (fun _ _ h => h.symm) (fun _ _ _ h q => h.trans q) k (lab7_edge es k) u v h⟩
theorem ring7_eq (es : Nat → Nat × Nat) : ∀ k, ring7 es k = Pl.ring es k
  | 0 => rfl
  | k + 1 => by
    simp only [ring7, Pl.ring]
    rw [ring7_eq es k]
    congr 1
    exact decide_eq_decide.2 (lab7_iff es k _ _)
end Tk
end Go.Proofs.YtaneiffnhphkhaaGreatDoor

namespace Go.Proofs.YtaneiffnhphkhaaGreatDoor
namespace Tk
open Vc (V Of)
open Pl (Lk En St fin offs RightL ends)
/-- For how many ticks nothing has changed, as the law reckons it. -/
def calmTo (l : Nat → Dn) : Nat → Int
  | 0 => 40
  | k + 1 => if (l k).kind = 1 then (if calmTo l k + (l k).n < 40 then calmTo l k + (l k).n else 40) else 0
def Apart (l : Nat → Dn) (n : Nat) : Prop := ∀ k, k < n → (l k).kind ≠ 1 → calmTo l k < 40 → k = 0 ∨ (l (k - 1)).kind ≠ 1
theorem Sc.one_tick {s : Sc} {c : Cn} {d : Dn} (h : d.kind = 1) : s.one c d = s.ticks c d.n.toNat := by unfold Sc.one; rw [if_pos h]
theorem Sc.one_ms {s : Sc} {c : Cn} {d : Dn} (h : d.kind ≠ 1) : (s.one c d).ms = s.ms := by
  unfold Sc.one
  rw [if_neg h]
  split
  · rfl
  · split
    · rfl
    · split <;> rfl
theorem err_tick {c : Cn} {d : Dn} (h : d.kind = 1) (he : errOf c d = 0) : 0 ≤ d.n ∧ d.n ≤ 200 := by
  unfold errOf at he
  rw [if_pos h] at he
  by_cases q : 0 ≤ d.n ∧ d.n ≤ 200
  · exact q
  · rw [if_neg q] at he; omega
/-- Ahead of the last change all stood as they must, or it is the start. -/
theorem hist {c : Cn} {s : Sc} {T : Nat} (h : Ok c s T) (h0 : ∀ k, k < T → ∀ i, i < c.K → ∀ j, (s.ms k i).calm.getD j 0 = 0) (l : Nat → Dn) (l0 : (l 0).kind = 1 ∧ 40 ≤ (l 0).n) (n : Nat) (ha : Apart l n) (he : ∀ k, k < n → errOf c (l k) = 0) :
    ∀ m, m ≤ n → ∃ b t, Before c b T ∧ Fine c b ∧ s.all c l m = b.ticks c t ∧ (1 ≤ m → calmTo l m ≤ t) ∧ (1 ≤ m → (l (m - 1)).kind ≠ 1 → t = 0)
  | 0, _ => ⟨s, 0, ⟨s, h, fun _ _ => ⟨rfl, rfl, rfl, rfl⟩, rfl, Or.inr h0⟩, h.fine, rfl, fun q => by omega, fun q => by omega⟩
  | m + 1, hm => by
    obtain ⟨b, t, hB, hF, hs, hc, hz⟩ := hist h h0 l l0 n ha he m (by omega)
    have hOk := Ok.all h l m (fun k hk => he k (by omega))
    by_cases k1 : (l m).kind = 1
    · have hn := err_tick k1 (he m (by omega))
      refine ⟨b, t + (l m).n.toNat, hB, hF, ?_, fun _ => ?_, fun _ q => absurd k1 q⟩
      · show (s.all c l m).one c (l m) = _
        rw [Sc.one_tick k1, hs, Sc.ticks_add]
      · show calmTo l (m + 1) ≤ _
        simp only [calmTo]
        rw [if_pos k1]
        by_cases e : m = 0
        · subst e
          have := l0.2
          split <;> omega
        · have := hc (by omega)
          split <;> omega
    · have hm1 : 1 ≤ m := by
        rcases Nat.eq_zero_or_pos m with e | e
        · subst e; exact absurd l0.1 k1
        · exact e
      obtain ⟨f1, f2⟩ := hOk.fine.one (l m) (he m (by omega))
      refine ⟨(s.all c l m).one c (l m), 0, ?_, f1, rfl, fun _ => ?_, fun _ _ => rfl⟩
      · by_cases hcal : calmTo l m < 40
        · have := ha m (by omega) k1 hcal
          have t0 : t = 0 := hz hm1 (by omega)
          subst t0
          have e : s.all c l m = b := hs
          rw [e] at f2 ⊢
          obtain ⟨a, a1, a2, a3, a4⟩ := hB
          refine ⟨a, a1, fun k hk => ?_, by rw [Sc.one_ms k1]; exact a3, a4⟩
          obtain ⟨x1, x2, x3, x4⟩ := a2 k hk
          obtain ⟨y1, y2, y3, y4⟩ := f2 k hk
          exact ⟨y1.trans x1, y2.trans x2, y3.trans x3, y4.trans x4⟩
        · have ht := hc hm1
          refine ⟨s.all c l m, hOk, f2, Sc.one_ms k1, Or.inl (fun k _ => ?_)⟩
          rw [hs]
          exact hF.settles (by omega) k
      · simp only [calmTo]
        rw [if_neg k1]
        exact Int.le_refl _
/-- NEVER A RING, at no tick. -/
theorem never {c : Cn} {s : Sc} {T : Nat} (h : Ok c s T) (h0 : ∀ k, k < T → ∀ i, i < c.K → ∀ j, (s.ms k i).calm.getD j 0 = 0) (l : Nat → Dn) (l0 : (l 0).kind = 1 ∧ 40 ≤ (l 0).n) (n : Nat) (ha : Apart l n) (he : ∀ k, k < n → errOf c (l k) = 0) (q : Nat) {k : Nat} (hk : k < T) : NoRing c ((s.all c l n).ticks c q) k := by
  obtain ⟨b, t, hB, hF, hs, _⟩ := hist h h0 l l0 n ha he n (Nat.le_refl _)
  rw [hs, Sc.ticks_add]
  exact hB.rings hF _ hk
/-- ONE THING AFTER THE OTHER. -/
theorem all_add (s : Sc) (c : Cn) (l m : Nat → Dn) (a : Nat) : ∀ b, (s.all c l a).all c m b = s.all c (fun k => if k < a then l k else m (k - a)) (a + b)
  | 0 => by
    show s.all c l a = _
    have : ∀ n, n ≤ a → s.all c l n = s.all c (fun k => if k < a then l k else m (k - a)) n := by
      intro n
      induction n with
      | zero => intro _; rfl
      | succ n ih => intro hn; simp only [Sc.all]; rw [ih (by omega), if_pos (by omega)]
    exact this a (Nat.le_refl _)
  | b + 1 => by
    show ((s.all c l a).all c m b).one c (m b) = (s.all c _ (a + b)).one c ((fun k => if k < a then l k else m (k - a)) (a + b))
    rw [all_add s c l m a b]
    simp only
    rw [if_neg (by omega), show a + b - a = b by omega]
theorem all_congr (s : Sc) (c : Cn) {l m : Nat → Dn} : ∀ n, (∀ k, k < n → l k = m k) → s.all c l n = s.all c m n
  | 0, _ => rfl
  | n + 1, h => by simp only [Sc.all]; rw [all_congr s c n (fun k hk => h k (by omega)), h n (by omega)]
theorem all_last (s : Sc) (c : Cn) (l : Nat → Dn) (n : Nat) (d : Dn) : s.all c (fun k => if k < n then l k else d) (n + 1) = (s.all c l n).one c d := by
  show (s.all c _ n).one c _ = _
  rw [all_congr s c n (m := l) (fun k hk => if_pos hk)]
  simp only
  rw [if_neg (by omega)]
/-- TREES KNOW NOTHING OF EACH OTHER. -/
theorem one_trees {s t : Sc} (c : Cn) {T : Nat} (hp : t.pr = s.pr) (hl : t.ls = s.ls) (hm : ∀ k, k < T → t.ms k = s.ms k) (d : Dn) : (t.one c d).pr = (s.one c d).pr ∧ (t.one c d).ls = (s.one c d).ls ∧ ∀ k, k < T → (t.one c d).ms k = (s.one c d).ms k := by
  obtain ⟨p, ls, ms⟩ := t
  obtain ⟨p', ls', ms'⟩ := s
  simp only at hp hl hm
  subst hp
  subst hl
  by_cases k1 : d.kind = 1
  · rw [Sc.one_tick k1, Sc.one_tick k1]
    refine ⟨rfl, rfl, fun k hk => ?_⟩
    show ticksF _ _ (ms k) _ = ticksF _ _ (ms' k) _
    rw [hm k hk]
    rfl
  · rw [Sc.one_ms k1, Sc.one_ms k1]
    unfold Sc.one
    rw [if_neg k1, if_neg k1]
    refine ⟨?_, ?_, hm⟩
    · split
      · rfl
      · split
        · rfl
        · split <;> rfl
    · split
      · rfl
      · split
        · rfl
        · split <;> rfl
theorem all_trees {s t : Sc} (c : Cn) {T : Nat} (hp : t.pr = s.pr) (hl : t.ls = s.ls) (hm : ∀ k, k < T → t.ms k = s.ms k) (l : Nat → Dn) : ∀ n, (t.all c l n).pr = (s.all c l n).pr ∧ (t.all c l n).ls = (s.all c l n).ls ∧ ∀ k, k < T → (t.all c l n).ms k = (s.all c l n).ms k
  | 0 => ⟨hp, hl, hm⟩
  | n + 1 => by
    obtain ⟨h1, h2, h3⟩ := all_trees c hp hl hm l n
    exact one_trees c h1 h2 h3 (l n)
/-- NO TALE IS OLDER than it may be. -/
def Aged (x : Nat → Mnd) (K : Nat) : Prop := ∀ i, i < K → (0 ≤ (x i).md.age ∧ (x i).md.age ≤ 20) ∧ ((x i).md.age = 0 ↔ (x i).md.rp < 0) ∧ ((x i).md.v.root = (x i).md.v.bridge ↔ (x i).md.rp < 0)
theorem ticksF_aged {ids : Nat → Int} {E : Nat → List En} {K : Nat} {x : Nat → Mnd} (h : Aged x K) : ∀ t, Aged (ticksF ids E x t) K
  | 0 => h
  | t + 1 => fun i _ => by
    have := chM_own (ids i) (heard (E i) (fun j => (ticksF ids E x t j).md))
    simp only [ticksF, tickF]
    exact ⟨this.2.2.1, this.2.2.2.1, by rw [this.1]; exact this.2.2.2.2.1⟩
theorem all_aged {s : Sc} (c : Cn) {T : Nat} (h : ∀ k, k < T → Aged (s.ms k) c.K) (l : Nat → Dn) : ∀ n, ∀ k, k < T → Aged ((s.all c l n).ms k) c.K
  | 0 => h
  | n + 1 => fun k hk => by
    show Aged (((s.all c l n).one c (l n)).ms k) c.K
    by_cases k1 : (l n).kind = 1
    · rw [Sc.one_tick k1]; exact ticksF_aged (all_aged c h l n k hk) _
    · rw [Sc.one_ms k1]; exact all_aged c h l n k hk
end Tk
end Go.Proofs.YtaneiffnhphkhaaGreatDoor

namespace Go.Proofs.YtaneiffnhphkhaaGreatDoor
open Go.RowKit
open Vc (V Of)
open Pl (Br Net Pc Lk En St)
open Tk (Md Mnd Cn Sc Dn)

set_option maxRecDepth 100000 in
set_option maxHeartbeats 1000000 in
theorem t7two_any (w : World) : Calls Tryz.prog 46 #[] w fun e w' => ∃ b1 b2, e = .returned (netTwo b1 b2).val ∧ (netTwo b1 b2).at' w' ∧ Below w.heap.size w w' := by
  go_enter Tryz.func46, Tryz.ntmps46
  go_wp2_with fail
  obtain ⟨X, hX⟩ : ∃ X, X = (w.alloc (.cells #[.slice (some ⟨w.heap.size + 1 + 1, 0, none⟩) 2 2, .slice (some ⟨w.heap.size + 1 + 1 + 1, 0, none⟩) 1 1] 25)).alloc (.cells #[.string ⟨#[114]⟩, .int .i64 0, .slice none 0 0] 72) := ⟨_, rfl⟩
  rw [← hX]
  have hs : X.heap.size = w.heap.size + 1 + 1 := by rw [hX]; simp
  have hn : X.heap[w.heap.size]? = some (.cells #[.slice (some ⟨w.heap.size + 1 + 1, 0, none⟩) 2 2, .slice (some ⟨w.heap.size + 1 + 1 + 1, 0, none⟩) 1 1] 25 (0, 0)) := by rw [hX]; exact heap_alloc2_old w _ _
  have hb : Below w.heap.size w X := by rw [hX]; exact below_alloc2 _ _ _
  have hb2 := below_alloc2 X (.cells #[.int .u64 1, .slice none 0 0, .string ⟨#[114]⟩, .int .i64 0, .slice none 0 0, .int .u64 2, .slice none 0 0, .string ⟨#[114]⟩, .int .i64 0, .slice none 0 0] 74) (.cells #[.int .i64 0, .int .i64 1, .int .i64 1, .int .i64 2, .int .i64 5, .bool true] 83)
  have h1 := heap_alloc2_old X (.cells #[.int .u64 1, .slice none 0 0, .string ⟨#[114]⟩, .int .i64 0, .slice none 0 0, .int .u64 2, .slice none 0 0, .string ⟨#[114]⟩, .int .i64 0, .slice none 0 0] 74) (.cells #[.int .i64 0, .int .i64 1, .int .i64 1, .int .i64 2, .int .i64 5, .bool true] 83)
  have h2 := heap_alloc2_new X (.cells #[.int .u64 1, .slice none 0 0, .string ⟨#[114]⟩, .int .i64 0, .slice none 0 0, .int .u64 2, .slice none 0 0, .string ⟨#[114]⟩, .int .i64 0, .slice none 0 0] 74) (.cells #[.int .i64 0, .int .i64 1, .int .i64 1, .int .i64 2, .int .i64 5, .bool true] 83)
  rw [hs] at h1 h2
  exact bodyPost_ret (v := .agg #[.slice (some ⟨w.heap.size + 1 + 1, 0, none⟩) 2 2, .slice (some ⟨w.heap.size + 1 + 1 + 1, 0, none⟩) 1 1]) (results_row (p := 0) (ty := 25) Tryz.results46 _ _ w.heap.size 25 _ (0, 0) _ rfl (keep hn hb2) Tryz.underlying25 rfl (by rw [sizeNet]; rfl)) rfl ⟨w.heap.size + 1 + 1, w.heap.size + 1 + 1 + 1, rfl, two_at h1 h2, hb.trans (hb2.mono hb.size)⟩
theorem sizeDo : (Tryz.prog.info? 45).map (·.size) = some 4 := by kernel_rfl
set_option maxHeartbeats 1000000 in
theorem t7ticks_any (x : Int) (w : World) : Calls Tryz.prog 23 #[.int .i64 x] w fun e w' => e = .returned (.agg #[.int .i64 1, .int .i64 x, .int .i64 0, .int .i64 0]) ∧ Below w.heap.size w w' := by
  go_enter Tryz.func23, Tryz.ntmps23
  go_wp2_with fail
  exact bodyPost_ret (v := .agg #[.int .i64 1, .int .i64 x, .int .i64 0, .int .i64 0]) (results_row (p := 2) (ty := 45) Tryz.results23 _ _ w.heap.size 45 _ (0, 0) _ rfl (heap_alloc_last _ _) Tryz.underlying45 rfl (by rw [sizeDo]; rfl)) rfl ⟨rfl, below_alloc1 _ _⟩
/-- One thing to do, in a block of its own. -/
theorem one_do {w : World} {g : Nat} {d : Dn} {ty : TypeId} (h : w.heap[g]? = some (.cells #[.int .i64 d.kind, .int .i64 d.n, .int .i64 d.tree, .int .i64 d.value] ty (0, 0))) : DRow w (some ⟨g, 0, none⟩) 1 1 (fun _ => d) := by
  refine ⟨Nat.le_refl _, fun _ => ⟨g, 0, rfl, (Array.getElem?_eq_some_iff.1 h).1, fun i hi j hj => ?_⟩⟩
  obtain rfl : i = 0 := by omega
  rcases (by omega : j = 0 ∨ j = 1 ∨ j = 2 ∨ j = 3) with e | e | e | e <;> subst e
  · exact cell_of_row w g 0 _ _ _ h
  · exact cell_of_row w g 1 _ _ _ h
  · exact cell_of_row w g 2 _ _ _ h
  · exact cell_of_row w g 3 _ _ _ h
def tickD (x : Int) : Dn := ⟨1, x, 0, 0⟩
/-- How the two stand behind two ticks. -/
def st2 (j : Nat) : Md := ⟨⟨ids2 j, 0, ids2 j, 0⟩, 0, -1⟩
theorem two_ticks : (Tk.ticks ids2 E2 st2 2 1).v.cost = 5 ∧ (Tk.ticks ids2 E2 st2 2 1).rp = 2 ∧ (Tk.ticks ids2 E2 st2 2 1).age = 1 := ⟨by kernel_rfl, by kernel_rfl, by kernel_rfl⟩
theorem two_said (b1 b2 : Nat) : ((((netTwo b1 b2).sc (startMs (netTwo b1 b2))).all (netTwo b1 b2).cn (fun _ => tickD 2) 1).ms 0 1).md = Tk.ticks ids2 E2 st2 2 1 := by
  show ((((netTwo b1 b2).sc (startMs (netTwo b1 b2))).one (netTwo b1 b2).cn (tickD 2)).ms 0 1).md = _
  rw [Tk.Sc.one_tick rfl]
  show (Tk.ticksF (((netTwo b1 b2).sc (startMs (netTwo b1 b2))).ids (netTwo b1 b2).cn ((0 : Nat) : Int)) (((netTwo b1 b2).sc (startMs (netTwo b1 b2))).E (netTwo b1 b2).cn) (startMs (netTwo b1 b2) 0) 2 1).md = _
  rw [Tk.ticksF_md, Pl.Net.sc_E, two_ends]
  have e1 : ((netTwo b1 b2).sc (startMs (netTwo b1 b2))).ids (netTwo b1 b2).cn ((0 : Nat) : Int) = ids2 := by
    funext i
    rw [net_ids]
    exact congrFun (two_ids b1 b2) i
  have e2 : (fun j => (startMs (netTwo b1 b2) 0 j).md) = st2 := by
    funext j
    show (⟨⟨(netTwo b1 b2).ids ((0 : Nat) : Int) j, 0, (netTwo b1 b2).ids ((0 : Nat) : Int) j, 0⟩, 0, -1⟩ : Md) = _
    have := congrFun (two_ids b1 b2) j
    rw [show ((0 : Nat) : Int) = 0 from rfl, this]
    rfl
  rw [e1, e2]
theorem two_ok (b1 b2 : Nat) (x : Int) (hx : 0 ≤ x ∧ x ≤ 200) : (plErr (netTwo b1 b2) 1 (fun _ => tickD x) 1).1 = 0 := by
  have h0 := two_right b1 b2
  have e : stErr (netTwo b1 b2) 1 = (0, 0) := by
    unfold stErr
    rw [if_neg (fun z => z h0), if_neg (fun z => z (by omega))]
  unfold plErr
  rw [e, if_neg (fun z => z rfl), if_neg (by omega)]
  have : Tk.errOf (netTwo b1 b2).cn (tickD x) = 0 := by
    unfold Tk.errOf tickD
    simp only [if_pos]
    rw [if_pos hx]
  show (Pl.firstTo (fun _ => Tk.errOf (netTwo b1 b2).cn (tickD x)) 1).1 = 0
  rw [Pl.firstTo_all _ _ (fun _ _ => this)]
/-- What Play leaves, taken apart. -/
def PlF (w w' : World) (n : Net) (trees : Int) (ds : Nat → Dn) (dn : Nat) (na : Option Addr) (nk nc : Nat) (la : Option Addr) (lk lc : Nat) (oa : Option Addr) (ol oc : Nat) (f1 f2 : Int) : Prop :=
  ((plErr n trees ds dn).1 ≠ 0 ∧ (f1 = (plErr n trees ds dn).1 ∧ f2 = (plErr n trees ds dn).2) ∧ (na = none ∧ nk = 0 ∧ nc = 0) ∧ (la = none ∧ lk = 0 ∧ lc = 0) ∧ oa = none ∧ ol = 0 ∧ oc = 0) ∨
    ((plErr n trees ds dn).1 = 0 ∧ (f1 = 0 ∧ f2 = 0) ∧ ∃ (n' : Net) (t' : List Tr), (na = n'.bao ∧ nk = n'.K ∧ nc = n'.bcap) ∧ (la = n'.lao ∧ lk = n'.L ∧ lc = n'.lcap) ∧ ol = t'.length ∧ ∃ b, w.heap.size ≤ b ∧ Kept w' b (fun V => SnOut V n trees.toNat ((n.sc (startMs n)).all n.cn ds dn) n' oa oc t'))
theorem tplay_flat (n : Net) (trees : Int) (dao : Option Addr) (dn dcap : Nat) (ds : Nat → Dn) (w : World) (hwf : n.Wf) (hat : n.at' w) (hdn : dn ≤ 9223372036854775807) (hds : DRow w dao dn dcap ds) (htb : Tabs w) (hbt : 2 ≤ w.heap.size) :
    Calls Tryz.prog 15 #[.agg #[.slice n.bao n.K n.bcap, .slice n.lao n.L n.lcap], .int .i64 trees, .slice dao dn dcap] w fun e w' => ∃ na nk nc la lk lc oa ol oc f1 f2, e = .returned (.tuple #[.agg #[.slice na nk nc, .slice la lk lc], .agg #[.slice oa ol oc], .agg #[.int .i64 f1, .int .i64 f2]]) ∧ Hid (Below w.heap.size w w' ∧ PlF w w' n trees ds dn na nk nc la lk lc oa ol oc f1 f2) := by
  refine (tplay_any n trees dao dn dcap ds w hwf hat hdn hds htb hbt).mono ?_
  rintro e w' ⟨h1, ⟨h2, rfl⟩ | ⟨h2, n', oao, ocap, t', rfl, b, hb, h3⟩⟩
  · exact ⟨none, 0, 0, none, 0, 0, none, 0, 0, _, _, rfl, h1, Or.inl ⟨h2, ⟨rfl, rfl⟩, ⟨rfl, rfl, rfl⟩, ⟨rfl, rfl, rfl⟩, rfl, rfl, rfl⟩⟩
  · exact ⟨n'.bao, n'.K, n'.bcap, n'.lao, n'.L, n'.lcap, oao, t'.length, ocap, 0, 0, rfl, h1, Or.inr ⟨h2, ⟨rfl, rfl⟩, n', t', ⟨rfl, rfl, rfl⟩, ⟨rfl, rfl, rfl⟩, rfl, b, hb, h3⟩⟩
set_option maxRecDepth 100000 in
set_option maxHeartbeats 4000000 in
theorem t7alive_any (w : World) (ht : Tabs w) (hbt : 2 ≤ w.heap.size) : Calls Tryz.prog 22 #[] w fun e w' => e = .returned (.bool true) ∧ Below w.heap.size w w' := by
  have HT : Hid (∀ V, Below w.heap.size w V → Tabs V ∧ 2 ≤ V.heap.size) := fun V hV => ⟨ht.below hV hbt, Nat.le_trans hbt hV.size⟩
  clear ht hbt
  go_enter Tryz.func22, Tryz.ntmps22
  go_wp2_with fail
  refine (t7two_any _).mono ?_
  rintro e w1 ⟨b1, b2, rfl, hat, hb1⟩
  unfold Pl.Net.val netTwo
  go_wp2_with fail
  refine (t7ticks_any 2 _).mono ?_
  rintro e w2 ⟨rfl, hb2⟩
  obtain ⟨X, HX⟩ : ∃ X, Hid (X = w2.alloc (.cells #[.int .i64 1, .int .i64 2, .int .i64 0, .int .i64 0] 45)) := ⟨_, rfl⟩
  have hX2 : Below w2.heap.size w2 X := by rw [HX.out]; exact below_alloc1 _ _
  have hXd : DRow X (some ⟨w2.heap.size, 0, none⟩) 1 1 (fun _ => tickD 2) := one_do (by rw [HX.out]; exact heap_alloc_last _ _)
  have h12 := hb2.trans (hX2.mono hb2.size)
  have h0X := hb1.trans (h12.mono hb1.size)
  have HP : Hid (Calls Tryz.prog 15 #[.agg #[.slice (some ⟨b1, 0, none⟩) 2 2, .slice (some ⟨b2, 0, none⟩) 1 1], .int .i64 1, .slice (some ⟨w2.heap.size, 0, none⟩) 1 1] X fun e w' => ∃ na nk nc la lk lc b off oc mb moff mc, e = .returned (.tuple #[.agg #[.slice na nk nc, .slice la lk lc], .agg #[.slice (some ⟨b, off, none⟩) 1 oc], .agg #[.int .i64 0, .int .i64 0]]) ∧ (1 ≤ oc ∧ 2 ≤ mc) ∧ Hid (Below w.heap.size w w' ∧ ∀ V, Below w'.heap.size w' V → V.cell? ⟨b, off, none⟩ = some (.slice (some ⟨mb, moff, none⟩) 2 mc) ∧ V.cell? ⟨mb, moff + 9 + 1, none⟩ = some (.int .i64 5) ∧ V.cell? ⟨mb, moff + 9 + 5, none⟩ = some (.int .i64 2) ∧ V.cell? ⟨mb, moff + 9 + 4, none⟩ = some (.int .i64 1))) := by
    refine (tplay_any (netTwo b1 b2) 1 _ 1 1 (fun _ => tickD 2) X (two_wf b1 b2) (hat.below h12) (by omega) hXd (HT.out X h0X).1 (HT.out X h0X).2).mono ?_
    rintro e w' ⟨z1, ⟨z2, _⟩ | ⟨_, n', oao, ocap, t', rfl, bb, _, z3⟩⟩
    · exact absurd (two_ok b1 b2 2 (by omega)) z2
    · have hS := z3.here
      have tl : t'.length = 1 := hS.len
      obtain ⟨el, em⟩ := hS.each 0 (by show 0 < 1; omega)
      have el : (tat t' 0).l.length = 2 := el
      obtain ⟨e1, _⟩ := em 1 (by show 1 < 2; omega)
      have e2 : (mat (tat t' 0).l 1).md = Tk.ticks ids2 E2 st2 2 1 := by
        have := congrArg Mnd.md e1
        rw [two_said] at this
        exact this
      obtain ⟨b, off, rfl, _⟩ := hS.row.place (by omega)
      have hm := hS.row.each 0 (by omega)
      obtain ⟨mb, moff, em2, _⟩ := hm.place (by omega)
      have oc1 := hS.row.row.1
      have mc1 := hm.row.1
      obtain ⟨t1, t2, t3⟩ := two_ticks
      refine ⟨_, _, _, _, _, _, b, off, ocap, mb, moff, (tat t' 0).cap, by rw [tl]; rfl, ⟨by omega, by omega⟩, h0X.trans (z1.mono h0X.size), fun V hV => ?_⟩
      have hV2 := hS.row.below hV
      have v0 := hV2.cell (i := 0) (by omega)
      have vm := hV2.each 0 (by omega)
      rw [em2] at vm
      obtain ⟨_, d1, _, _, d4, d5, _⟩ := vm.cells (i := 1) (by omega)
      rw [em2, el, Nat.add_zero] at v0
      rw [e2, t1, Nat.one_mul] at d1
      rw [e2, t3, Nat.one_mul] at d4
      rw [e2, t2, Nat.one_mul] at d5
      exact ⟨v0, d1, d5, d4⟩
  clear hat hb1 hb2 hX2 hXd h12 h0X HT
  go_wp2_with fail
  rw [← HX.out]
  refine HP.out.mono ?_
  rintro e w3 ⟨na, nk, nc, la, lk, lc, b, off, oc, mb, moff, mc, rfl, ⟨l1, l2⟩, H3⟩
  clear HP
  obtain ⟨Z, HZ⟩ : ∃ Z, Hid (Z = ((w3.alloc (.cells #[.slice na nk nc, .slice la lk lc] 25)).alloc (.cells #[.slice (some ⟨b, off, none⟩) 1 oc] 29)).alloc (.cells #[.int .i64 0, .int .i64 0] 32)) := ⟨_, rfl⟩
  have hZ3 : Below w3.heap.size w3 Z := by rw [HZ.out]; exact (below_alloc2 _ _ _).alloc (by simp; omega) _
  obtain ⟨c0, c1, c2, c3⟩ := H3.out.2 Z hZ3
  have HB : Hid (Below w.heap.size w Z) := H3.out.1.trans (hZ3.mono H3.out.1.size)
  rw [HZ.out] at c0 c1 c2 c3
  clear hZ3 H3
  go_wp2_with fail
  rw [← HZ.out]
  go_ret
  exact ⟨rfl, HB.out⟩
end Go.Proofs.YtaneiffnhphkhaaGreatDoor

namespace Go.Proofs.YtaneiffnhphkhaaGreatDoor
open Go.ChangeShapes Go.WideShapes Go.ChangeAt Go.RowKit

theorem gTurns : Tryz.prog.globalNamed "hedgerow/md5.turns" = some 1 := by kernel_rfl
theorem gTurnsType : (Tryz.prog.globals[1]?).map (·.type) = some 245 := by kernel_rfl
theorem gAdds : Tryz.prog.globalNamed "hedgerow/md5.addends" = some 0 := by kernel_rfl
theorem gAddsType : (Tryz.prog.globals[0]?).map (·.type) = some 241 := by kernel_rfl
theorem cells52 : Tryz.prog.cellsOf 241 = 64 := by kernel_rfl
theorem cells55 : Tryz.prog.cellsOf 244 = 4 := by kernel_rfl
theorem cells32 : Tryz.prog.cellsOf 193 = 1 := by kernel_rfl
theorem cells3 : Tryz.prog.cellsOf 3 = 1 := by kernel_rfl
theorem bytes5 : Tryz.prog.bytesOf 5 = 1 := by kernel_rfl

theorem tabs_of {W : World} (h : laidMetH Tryz.prog [("hedgerow/md5.turns", Rows.laid_hedgerow_md5_turns), ("hedgerow/md5.addends", Rows.laid_hedgerow_md5_addends)] W) : Tabs W := by
  have h' : laidMet Tryz.prog [("hedgerow/md5.turns", Rows.laid_hedgerow_md5_turns), ("hedgerow/md5.addends", Rows.laid_hedgerow_md5_addends)] W := h
  refine ⟨fun i hi => ?_, fun i hi => ?_⟩
  · have ht : laidMet Tryz.prog [("hedgerow/md5.addends", Lib.tabData .u32 Md.tab)] W := laidMet.tail h'
    have := Lib.tabIs_of_head (rest := []) gAdds gAddsType Tryz.underlying241 Tryz.underlying193 cells32 cells52 ht
    exact this.cell gAdds i hi
  · obtain ⟨ps, ⟨g', t', cs, fuel, p, q, hg', ht', hvar, hd, _, _⟩, _⟩ := h'
    obtain rfl := Option.some.inj (gTurns.symm.trans hg')
    obtain rfl := Option.some.inj (gTurnsType.symm.trans ht')
    obtain ⟨xs, m, rfl, hx, hl, hxl, hall⟩ := DataW.trod_array Tryz.underlying245 hd
    have hx1 : xs.map (·.1) = [Lib.tabData .i64 [7, 12, 17, 22], Lib.tabData .i64 [5, 9, 14, 20], Lib.tabData .i64 [4, 11, 16, 23], Lib.tabData .i64 [6, 10, 15, 21]] := by
      have := congrArg Prod.fst hx
      simp only [Rows.laid_hedgerow_md5_turns] at this
      exact (DataW.agg.inj this).symm
    have row : ∀ r zs, r < 4 → (xs.map (·.1))[r]? = some (Lib.tabData .i64 zs) → (cs.toList.drop (r * 4)).take 4 = zs.map fun z => Value.int .i64 z := by
      intro r zs hr hz
      have h1 := hall r hr
      rw [cells55] at h1
      simp only [List.getElem?_map, Option.map_eq_some_iff] at hz
      obtain ⟨y, hy, hy1⟩ := hz
      rw [hy] at h1
      obtain ⟨y1, y2⟩ := y
      simp only at hy1
      subst hy1
      exact Lib.cells_of_tab Tryz.underlying244 Tryz.underlying3 cells3 cells55 h1
    have cell := World.var?_cell gTurns hvar i
    rw [cell]
    have hget : ∀ r j, j < 4 → cs[r * 4 + j]? = ((cs.toList.drop (r * 4)).take 4)[j]? := by
      intro r j hj
      rw [List.getElem?_take_of_lt hj, List.getElem?_drop, Array.getElem?_toList]
    rcases (show (∃ j, j < 4 ∧ i = 0 * 4 + j) ∨ (∃ j, j < 4 ∧ i = 1 * 4 + j) ∨ (∃ j, j < 4 ∧ i = 2 * 4 + j) ∨ (∃ j, j < 4 ∧ i = 3 * 4 + j) from by
      by_cases h1 : i < 4
      · exact Or.inl ⟨i, h1, by omega⟩
      · by_cases h2 : i < 8
        · exact Or.inr (Or.inl ⟨i - 4, by omega, by omega⟩)
        · by_cases h3 : i < 12
          · exact Or.inr (Or.inr (Or.inl ⟨i - 8, by omega, by omega⟩))
          · exact Or.inr (Or.inr (Or.inr ⟨i - 12, by omega, by omega⟩))) with ⟨j, hj, rfl⟩ | ⟨j, hj, rfl⟩ | ⟨j, hj, rfl⟩ | ⟨j, hj, rfl⟩
    · rw [hget 0 j hj, row 0 [7, 12, 17, 22] (by omega) (by rw [hx1]; rfl)]
      rcases (show j = 0 ∨ j = 1 ∨ j = 2 ∨ j = 3 by omega) with rfl | rfl | rfl | rfl <;> rfl
    · rw [hget 1 j hj, row 1 [5, 9, 14, 20] (by omega) (by rw [hx1]; rfl)]
      rcases (show j = 0 ∨ j = 1 ∨ j = 2 ∨ j = 3 by omega) with rfl | rfl | rfl | rfl <;> rfl
    · rw [hget 2 j hj, row 2 [4, 11, 16, 23] (by omega) (by rw [hx1]; rfl)]
      rcases (show j = 0 ∨ j = 1 ∨ j = 2 ∨ j = 3 by omega) with rfl | rfl | rfl | rfl <;> rfl
    · rw [hget 3 j hj, row 3 [6, 10, 15, 21] (by omega) (by rw [hx1]; rfl)]
      rcases (show j = 0 ∨ j = 1 ∨ j = 2 ∨ j = 3 by omega) with rfl | rfl | rfl | rfl <;> rfl

set_option maxRecDepth 100000 in
/-- A SLICE OF BYTES THAT CAME IN. -/
theorem bytes_in_d {H : Type} {enc : TypeId × Value → H} {W : World} {base : Nat} {v : Value} {d : DataW H} {p : List MemPlace}
    (hv : Value.okWide Tryz.prog W .any base 126 v) (h : DataW.Trod enc Tryz.prog W 0 (fun _ => true) true 126 v d p) :
    ∃ ao n cap bs, v = .slice ao n cap ∧ ByteRow W ao n cap bs ∧ (∀ i, i < n → 0 ≤ bs i ∧ bs i ≤ 255) ∧ (d = .nil ∧ n = 0 ∨ ∃ el sp, d = .slice el sp ∧ n ≤ el.length) ∧ (ao = none → n = 0 ∧ cap = 0) := by
  obtain ⟨a0, len0, cap0, rfl⟩ := okWide_slice Tryz.underlying126 hv
  obtain ⟨fuel, hf⟩ := h
  rcases open_ints Tryz.underlying126 Tryz.underlying5 cells5 hf with ⟨hcs, hx⟩ | ⟨x, l, c, zs, hcs, _, hl, hm, hz, hx, hcell, hwz⟩
  · simp [Value.cells] at hcs
    obtain ⟨rfl, rfl, rfl⟩ := hcs
    refine ⟨none, 0, 0, fun _ => 0, rfl, ⟨Nat.le_refl _, fun h => absurd h (by omega)⟩, fun i hi => absurd hi (by omega), ?_⟩
    exact ⟨Or.inl ⟨congrArg Prod.fst hx, rfl⟩, fun _ => ⟨rfl, rfl⟩⟩
  · simp [Value.cells] at hcs
    obtain ⟨rfl, rfl, rfl⟩ := hcs
    rw [if_pos rfl] at hz
    refine ⟨some x, len0, cap0, fun i => zs.getD i 0, rfl, ⟨hl, fun hp => ?_⟩, fun i _ => ?_, Or.inr ⟨_, _, congrArg Prod.fst hx, by simp [lits, hz, hl]⟩, fun h => by cases h⟩
    · obtain ⟨b, off, rfl, hc⟩ := ints_at hcell (by omega)
      exact ⟨b, off, rfl, block_lt_of_cell (hc 0 (by omega)), fun i hi => hc i (by omega)⟩
    · have := range_u8 hwz i
      simpa [List.getD] using this

/-- Such a slice's length is within the form's own reach. -/
theorem reach_in {H : Type} {ts : List TypeId} {ds : List (DataW H)} {d : DataW H} {n j : Nat} (hsz : (DataW.weightsEach Tryz.prog ts ds).all (· ≤ reachBytes) = true) (ht : ts[j]? = some 126) (hd : ds[j]? = some d)
    (h : d = .nil ∧ n = 0 ∨ ∃ el sp, d = .slice el sp ∧ n ≤ el.length) : n ≤ 140737488351232 := by
  rcases h with ⟨_, rfl⟩ | ⟨el, sp, rfl, hn⟩
  · omega
  · have := sized_slice hsz ht hd Tryz.underlying126
    rw [bytes5] at this
    simp only [reachBytes] at this
    omega

/-- A WORLD FOR THE WITNESS: w, the two tables (blocks 0 and 1) holding what their initialisers lay. -/
def rowPut (cs : Array Value) : Obj → Obj
  | .cells _ t frozen => .cells cs t frozen
  | o => o
def laidW (w : World) : World :=
  { w with heap := (w.heap.modify 0 (rowPut (Md.tab.map (Value.int .u32)).toArray)).modify 1 (rowPut (Md.trn.map (Value.int .i64)).toArray) }
end Go.Proofs.YtaneiffnhphkhaaGreatDoor
