/- walks: package talk's Opens -/
import Derived.Test.YtflghpnpjmodaaaGreatDoorK21
import Derived.Test.YtflghpnpjmodaaaGreatDoorK35
import Derived.Test.YtflghpnpjmodaaaGreatDoorK28
import Derived.Test.YtflghpnpjmodaaaGreatDoorK14
import Derived.Test.YtflghpnpjmodaaaGreatDoorK31
import Derived.Test.YtflghpnpjmodaaaGreatDoorK08
namespace Go.Proofs.YtflghpnpjmodaaaGreatDoor
namespace Tk
open Vc (V Of)
open Pl (Lk En St fin offs RightL ends)
/-- Frames go through that port. -/
def Open (c : Cn) (s : Sc) (k i : Nat) (port : Int) : Prop := ∃ j e, (s.E c i)[j]? = some e ∧ e.port = port ∧ 50 ≤ (s.ms k i).calm.getD j 0
theorem map_getD {α : Type} (l : List α) (f : α → Int) {j : Nat} {e : α} (h : l[j]? = some e) : (l.map f).getD j 0 = f e := by
  rw [List.getD_eq_getElem?_getD, List.getElem?_map, h]; rfl
theorem get_lt {α : Type} {l : List α} {j : Nat} {e : α} (h : l[j]? = some e) : j < l.length := (List.getElem?_eq_some_iff.1 h).1
/-- THE TREE OPENS. -/
theorem Ok.opens {c : Cn} {s : Sc} {T : Nat} (h : Ok c s T) {t : Nat} (ht : 83 ≤ t) {k : Nat} (hk : k < T) {i : Nat} (hi : i < c.K) {j : Nat} {e : En} (he : (s.E c i)[j]? = some e) :
    50 ≤ ((s.ticks c t).ms k i).calm.getD j 0 ↔ ((s.roles c k i).getD j 0 = 1 ∨ (s.roles c k i).getD j 0 = 2) := by
  have hj := get_lt he
  have hr : ∀ u, 33 ≤ u → (ticksF (s.ids c k) (s.E c) (s.ms k) u i).roles = s.roles c k i := fun u hu => (settledF (h.fine.good _) h.fine.ports (s.ms k) hu hi).2.2
  constructor
  · intro q
    have := (ticksF_Calm (ids := s.ids c k) (h.fit k hk) (h.calm k hk) t i hi j).2 (by change 50 ≤ _ at q; change 0 < _; exact Int.lt_of_lt_of_le (by decide) q)
    rw [hr t (by omega)] at this
    exact this
  · intro q
    have := calm_on (ids := s.ids c k) (h.fit k hk) (h.calm k hk) hi hj (t - 50) (fun u hu => by rw [hr u (by omega)]; exact q) 50 (Nat.le_refl _)
    rw [show t - 50 + 50 = t by omega] at this
    exact this
/-- Roles at the two ends of a link. -/
theorem isOn_of {c : Cn} {s : Sc} (h : Fine c s) (k : Nat) {m : Nat} (hm : m < c.L) {ja jb : Nat} {ea eb : En} (ha : (s.E c (s.ls m).a.toNat)[ja]? = some ea) (hb : (s.E c (s.ls m).b.toNat)[jb]? = some eb) (pa : ea.port = (s.ls m).pa) (pb : eb.port = (s.ls m).pb)
    (ra : (s.roles c k (s.ls m).a.toNat).getD ja 0 = 1 ∨ (s.roles c k (s.ls m).a.toNat).getD ja 0 = 2) (rb : (s.roles c k (s.ls m).b.toNat).getD jb 0 = 1 ∨ (s.roles c k (s.ls m).b.toNat).getD jb 0 = 2) :
    s.lv c m = true ∧ Pl.isOn (s.ids c k) s.ls (s.lv c) c.K c.L m := by
  have ea' : ea = Pl.eA (s.ls m) (s.lv c m) := h.ports _ (by have := (h.links.ok m hm).1; omega) _ _ (List.mem_of_getElem? ha) (Pl.eA_mem h.links (s.lv c) hm) pa
  have eb' : eb = Pl.eB (s.ls m) (s.lv c m) := h.ports _ (by have := (h.links.ok m hm).2.1; omega) _ _ (List.mem_of_getElem? hb) (Pl.eB_mem h.links (s.lv c) hm) pb
  unfold Sc.roles at ra rb
  rw [map_getD _ _ ha, ea'] at ra
  rw [map_getD _ _ hb, eb'] at rb
  have hlv : s.lv c m = true := by
    cases q : s.lv c m with
    | true => rfl
    | false =>
      exfalso
      rw [q] at ra
      unfold Pl.roleAt Pl.eA at ra
      rw [if_neg (by simp)] at ra
      omega
  refine ⟨hlv, ?_⟩
  have ids_ne : ∀ i j, i < c.K → j < c.K → s.ids c k i = s.ids c k j → i = j := fun i j hi hj e => by
    apply h.apart i j hi hj
    have h1 := h.addr i hi
    have h2 := h.addr j hj
    unfold Sc.ids at e
    omega
  have key := Pl.says_roles h.links h.few (s.ids c k) ids_ne (s.lv c) hm hlv _ _ rfl rfl
  have e1 : Pl.roleAt (Pl.says (s.ids c k) s.ls (s.lv c) c.K c.L (s.ls m).a.toNat) (offs (ends s.ls (s.lv c) c.L (s.ls m).a.toNat) (Pl.says (s.ids c k) s.ls (s.lv c) c.K c.L)) (Pl.eA (s.ls m) (s.lv c m)) = Pl.roleAt (s.says c k (s.ls m).a.toNat) (offs (s.E c (s.ls m).a.toNat) (s.says c k)) (Pl.eA (s.ls m) (s.lv c m)) := rfl
  have e2 : Pl.roleAt (Pl.says (s.ids c k) s.ls (s.lv c) c.K c.L (s.ls m).b.toNat) (offs (ends s.ls (s.lv c) c.L (s.ls m).b.toNat) (Pl.says (s.ids c k) s.ls (s.lv c) c.K c.L)) (Pl.eB (s.ls m) (s.lv c m)) = Pl.roleAt (s.says c k (s.ls m).b.toNat) (offs (s.E c (s.ls m).b.toNat) (s.says c k)) (Pl.eB (s.ls m) (s.lv c m)) := rfl
  rw [← e1] at ra
  rw [← e2] at rb
  have root : ∀ {i : Nat} {e : En}, e.live = true → Pl.roleAt (Pl.says (s.ids c k) s.ls (s.lv c) c.K c.L i) (offs (ends s.ls (s.lv c) c.L i) (Pl.says (s.ids c k) s.ls (s.lv c) c.K c.L)) e = 1 → e.port = (Pl.says (s.ids c k) s.ls (s.lv c) c.K c.L i).rp := fun {i e} hl q => by
    unfold Pl.roleAt Vc.role at q
    rw [if_pos hl] at q
    by_cases z : e.port = (Pl.says (s.ids c k) s.ls (s.lv c) c.K c.L i).rp
    · exact z
    · rw [if_neg z] at q
      split at q <;> omega
  unfold Pl.isOn
  rcases key with ⟨_, q⟩ | ⟨_, q⟩
  · refine Or.inr (root (e := Pl.eB (s.ls m) (s.lv c m)) hlv ?_)
    omega
  · refine Or.inl (root (e := Pl.eA (s.ls m) (s.lv c m)) hlv ?_)
    omega
/-- No links that forward at both ends make a ring. -/
def NoRing (c : Cn) (s : Sc) (k : Nat) : Prop := ∀ (n : Nat) (on : Nat → Nat), (∀ j, j < n → on j < c.L ∧ s.lv c (on j) = true ∧ Open c s k (s.ls (on j)).a.toNat (s.ls (on j)).pa ∧ Open c s k (s.ls (on j)).b.toNat (s.ls (on j)).pb) → (∀ i j, i < j → j < n → on i ≠ on j) → Pl.ring (fun j => Pl.edge s.ls (on j)) n = false
/-- Ahead of a change, or of the start: all stand as they must, or none is calm. -/
def Before (c : Cn) (b : Sc) (T : Nat) : Prop := ∃ a : Sc, Ok c a T ∧ SameEnds c a b ∧ b.ms = a.ms ∧ ((∀ k, k < T → As c a k) ∨ ∀ k, k < T → ∀ i, i < c.K → ∀ j, (a.ms k i).calm.getD j 0 = 0)
theorem ring_congr {es fs : Nat → Nat × Nat} : ∀ n, (∀ j, j < n → es j = fs j) → Pl.ring es n = Pl.ring fs n ∧ ∀ i, Pl.lab es n i = Pl.lab fs n i
  | 0, _ => ⟨rfl, fun _ => rfl⟩
  | n + 1, h => by
    obtain ⟨h1, h2⟩ := ring_congr n (fun j hj => h j (by omega))
    have e := h n (by omega)
    refine ⟨?_, fun i => ?_⟩
    · simp only [Pl.ring]; rw [h1, e, h2, h2]
    · simp only [Pl.lab]; rw [e, h2, h2, h2]
/-- NEVER A RING. -/
theorem Before.rings {c : Cn} {b : Sc} {T : Nat} (h : Before c b T) (hb : Fine c b) (t : Nat) {k : Nat} (hk : k < T) : NoRing c (b.ticks c t) k := by
  obtain ⟨a, ha, hse, hms, hcase⟩ := h
  intro n on hon hne
  have hbo : Ok c b T := ⟨hb, fun q hq i hi => by rw [hms, (hse.len ha.fine hb i).2]; exact ha.fit q hq i hi, fun q hq => by rw [hms]; exact ha.calm q hq⟩
  by_cases ht : 33 ≤ t
  · refine Pl.no_ring (ids := b.ids c k) (lv := b.lv c) hb.links hb.few (fun j hj => ?_) hne
    obtain ⟨h1, h2, ⟨ja, ea, a1, a2, a3⟩, ⟨jb, eb, b1, b2, b3⟩⟩ := hon j hj
    have hr : ∀ i, i < c.K → ((b.ticks c t).ms k i).roles = b.roles c k i := fun i hi => (settledF (hb.good _) hb.ports (b.ms k) ht hi).2.2
    have hcl := fun i hi q => ticksF_Calm (ids := b.ids c k) (hbo.fit k hk) (hbo.calm k hk) t i hi q
    have ia : (b.ls (on j)).a.toNat < c.K := by have := (hb.links.ok _ h1).1; omega
    have ib : (b.ls (on j)).b.toNat < c.K := by have := (hb.links.ok _ h1).2.1; omega
    have ra := (hcl _ ia ja).2 (by change 50 ≤ _ at a3; exact Int.lt_of_lt_of_le (by decide) a3)
    have rb := (hcl _ ib jb).2 (by change 50 ≤ _ at b3; exact Int.lt_of_lt_of_le (by decide) b3)
    change ((b.ticks c t).ms k _).roles.getD ja 0 = 1 ∨ ((b.ticks c t).ms k _).roles.getD ja 0 = 2 at ra
    change ((b.ticks c t).ms k _).roles.getD jb 0 = 1 ∨ ((b.ticks c t).ms k _).roles.getD jb 0 = 2 at rb
    rw [hr _ ia] at ra
    rw [hr _ ib] at rb
    obtain ⟨z1, z2⟩ := isOn_of hb k h1 a1 b1 a2 b2 ra rb
    exact ⟨h1, z1, z2⟩
  · have back : ∀ i, i < c.K → ∀ j e, (b.E c i)[j]? = some e → 50 ≤ ((b.ticks c t).ms k i).calm.getD j 0 → 0 < (a.ms k i).calm.getD j 0 := fun i hi j e he hc => by
      have := calm_back (ids := b.ids c k) (hbo.fit k hk) hi (get_lt he) t 50 (by omega) hc
      rw [hms] at this
      omega
    have eqE : ∀ j, j < n → Pl.edge (b.ticks c t).ls (on j) = Pl.edge a.ls (on j) := fun j hj => by
      obtain ⟨q1, q2, _, _⟩ := hse (on j) (hon j hj).1
      unfold Pl.edge
      change ((b.ls (on j)).a.toNat, (b.ls (on j)).b.toNat) = _
      rw [q1, q2]
    rw [(ring_congr n eqE).1]
    refine Pl.no_ring (ids := a.ids c k) (lv := a.lv c) ha.fine.links ha.fine.few (fun j hj => ?_) hne
    obtain ⟨h1, h2, ⟨ja, ea, a1, a2, a3⟩, ⟨jb, eb, b1, b2, b3⟩⟩ := hon j hj
    obtain ⟨q1, q2, q3, q4⟩ := hse (on j) h1
    change (b.E c (b.ls (on j)).a.toNat)[ja]? = some ea at a1
    change (b.E c (b.ls (on j)).b.toNat)[jb]? = some eb at b1
    change ea.port = (b.ls (on j)).pa at a2
    change eb.port = (b.ls (on j)).pb at b2
    change 50 ≤ ((b.ticks c t).ms k (b.ls (on j)).a.toNat).calm.getD ja 0 at a3
    change 50 ≤ ((b.ticks c t).ms k (b.ls (on j)).b.toNat).calm.getD jb 0 at b3
    have ia : (b.ls (on j)).a.toNat < c.K := by have := (hb.links.ok _ h1).1; omega
    have ib : (b.ls (on j)).b.toNat < c.K := by have := (hb.links.ok _ h1).2.1; omega
    have ca := back _ ia ja ea a1 a3
    have cb := back _ ib jb eb b1 b3
    rcases hcase with hAs | h0
    · have ra := (ha.calm k hk _ ia ja).2 ca
      have rb := (ha.calm k hk _ ib jb).2 cb
      rw [(hAs k hk _ ia).2.2] at ra
      rw [(hAs k hk _ ib).2.2] at rb
      have pe : ∀ (i j : Nat) (e : En), (b.E c i)[j]? = some e → ∃ e' : En, (a.E c i)[j]? = some e' ∧ e'.port = e.port := fun i j e he => by
        have hm := (hse.len ha.fine hb i).1
        have h3 : ((b.E c i).map (·.port))[j]? = some e.port := by rw [List.getElem?_map, he]; rfl
        rw [hm, List.getElem?_map] at h3
        cases h4 : (a.E c i)[j]? with
        | none => rw [h4] at h3; cases h3
        | some e' => rw [h4] at h3; exact ⟨e', rfl, by simpa using h3⟩
      obtain ⟨ea', a1', a2'⟩ := pe _ ja ea a1
      obtain ⟨eb', b1', b2'⟩ := pe _ jb eb b1
      rw [q1] at a1' ra
      rw [q2] at b1' rb
      obtain ⟨z1, z2⟩ := isOn_of ha.fine k h1 a1' b1' (by rw [a2', a2, q3]) (by rw [b2', b2, q4]) ra rb
      exact ⟨h1, z1, z2⟩
    · exfalso
      have := h0 k hk _ ia ja
      omega
/-- A ring is there, as the law looks for it: all of the one's are the other one's now. -/
def lab7 (es : Nat → Nat × Nat) : Nat → (Nat → Nat)
  | 0 => fun i => i
  | k + 1 => fun i => if lab7 es k i = lab7 es k (es k).1 then lab7 es k (es k).2 else lab7 es k i
def ring7 (es : Nat → Nat × Nat) : Nat → Bool
  | 0 => false
  | k + 1 => ring7 es k || decide (lab7 es k (es k).1 = lab7 es k (es k).2)
theorem lab7_edge (es : Nat → Nat × Nat) : ∀ k j, j < k → lab7 es k (es j).1 = lab7 es k (es j).2
  | 0, j, h => by omega
  | k + 1, j, h => by
    simp only [lab7]
    by_cases e : j = k
    · subst e
      rw [if_pos rfl]
      split <;> rfl
    · rw [lab7_edge es k j (by omega)]
theorem lab7_equiv (es : Nat → Nat × Nat) {R : Nat → Nat → Prop} (hr : ∀ u, R u u) (hs : ∀ u v, R u v → R v u) (ht : ∀ u v x, R u v → R v x → R u x) : ∀ k, (∀ j, j < k → R (es j).1 (es j).2) → ∀ u v, lab7 es k u = lab7 es k v → R u v
  | 0, _, u, v, h => by simp only [lab7] at h; subst h; exact hr u
  | k + 1, hR, u, v, h => by
    have ih := lab7_equiv es hr hs ht k (fun j hj => hR j (by omega))
    have hk := hR k (by omega)
    simp only [lab7] at h
    by_cases h1 : lab7 es k u = lab7 es k (es k).1 <;> by_cases h2 : lab7 es k v = lab7 es k (es k).1
    · exact ih u v (h1.trans h2.symm)
    · rw [if_pos h1, if_neg h2] at h
      exact ht _ _ _ (ih _ _ h1) (ht _ _ _ hk (ih _ _ h))
    · rw [if_neg h1, if_pos h2] at h
      exact ht _ _ _ (ih _ _ h) (ht _ _ _ (hs _ _ hk) (hs _ _ (ih _ _ h2)))
    · rw [if_neg h1, if_neg h2] at h
      exact ih u v h
theorem lab7_iff (es : Nat → Nat × Nat) (k u v : Nat) : lab7 es k u = lab7 es k v ↔ Pl.lab es k u = Pl.lab es k v :=
  ⟨fun h => lab7_equiv es (R := fun u v => Pl.lab es k u = Pl.lab es k v) (fun _ => rfl) (fun _ _ h => h.symm) (fun _ _ _ h q => h.trans q) k (Pl.lab_edge es k) u v h,
   fun h => Pl.lab_equiv es (R := fun u v => lab7 es k u = lab7 es k v) (fun _ => rfl) (fun _ _ h => h.symm) (fun _ _ _ h q => h.trans q) k (lab7_edge es k) u v h⟩
theorem ring7_eq (es : Nat → Nat × Nat) : ∀ k, ring7 es k = Pl.ring es k
  | 0 => rfl
  | k + 1 => by
    simp only [ring7, Pl.ring]
    rw [ring7_eq es k]
    congr 1
    exact decide_eq_decide.2 (lab7_iff es k _ _)
end Tk
end Go.Proofs.YtflghpnpjmodaaaGreatDoor

namespace Go.Proofs.YtflghpnpjmodaaaGreatDoor
namespace Tk
open Vc (V Of)
open Pl (Lk En St fin offs RightL ends)
/-- For how many ticks nothing has changed, as the law reckons it. -/
def calmTo (l : Nat → Dn) : Nat → Int
  | 0 => 40
  | k + 1 => if (l k).kind = 1 then (if calmTo l k + (l k).n < 40 then calmTo l k + (l k).n else 40) else 0
def Apart (l : Nat → Dn) (n : Nat) : Prop := ∀ k, k < n → (l k).kind ≠ 1 → calmTo l k < 40 → k = 0 ∨ (l (k - 1)).kind ≠ 1
theorem Sc.one_tick {s : Sc} {c : Cn} {d : Dn} (h : d.kind = 1) : s.one c d = s.ticks c d.n.toNat := by unfold Sc.one; rw [if_pos h]
theorem Sc.one_ms {s : Sc} {c : Cn} {d : Dn} (h : d.kind ≠ 1) : (s.one c d).ms = s.ms := by
  unfold Sc.one
  rw [if_neg h]
  split
  · rfl
  · split
    · rfl
    · split <;> rfl
theorem err_tick {c : Cn} {d : Dn} (h : d.kind = 1) (he : errOf c d = 0) : 0 ≤ d.n ∧ d.n ≤ 200 := by
  unfold errOf at he
  rw [if_pos h] at he
  by_cases q : 0 ≤ d.n ∧ d.n ≤ 200
  · exact q
  · rw [if_neg q] at he; omega
/-- Ahead of the last change all stood as they must, or it is the start. -/
theorem hist {c : Cn} {s : Sc} {T : Nat} (h : Ok c s T) (h0 : ∀ k, k < T → ∀ i, i < c.K → ∀ j, (s.ms k i).calm.getD j 0 = 0) (l : Nat → Dn) (l0 : (l 0).kind = 1 ∧ 40 ≤ (l 0).n) (n : Nat) (ha : Apart l n) (he : ∀ k, k < n → errOf c (l k) = 0) :
    ∀ m, m ≤ n → ∃ b t, Before c b T ∧ Fine c b ∧ s.all c l m = b.ticks c t ∧ (1 ≤ m → calmTo l m ≤ t) ∧ (1 ≤ m → (l (m - 1)).kind ≠ 1 → t = 0)
  | 0, _ => ⟨s, 0, ⟨s, h, fun _ _ => ⟨rfl, rfl, rfl, rfl⟩, rfl, Or.inr h0⟩, h.fine, rfl, fun q => by omega, fun q => by omega⟩
  | m + 1, hm => by
    obtain ⟨b, t, hB, hF, hs, hc, hz⟩ := hist h h0 l l0 n ha he m (by omega)
    have hOk := Ok.all h l m (fun k hk => he k (by omega))
    by_cases k1 : (l m).kind = 1
    · have hn := err_tick k1 (he m (by omega))
      refine ⟨b, t + (l m).n.toNat, hB, hF, ?_, fun _ => ?_, fun _ q => absurd k1 q⟩
      · show (s.all c l m).one c (l m) = _
        rw [Sc.one_tick k1, hs, Sc.ticks_add]
      · show calmTo l (m + 1) ≤ _
        simp only [calmTo]
        rw [if_pos k1]
        by_cases e : m = 0
        · subst e
          have := l0.2
          split <;> omega
        · have := hc (by omega)
          split <;> omega
    · have hm1 : 1 ≤ m := by
        rcases Nat.eq_zero_or_pos m with e | e
        · subst e; exact absurd l0.1 k1
        · exact e
      obtain ⟨f1, f2⟩ := hOk.fine.one (l m) (he m (by omega))
      refine ⟨(s.all c l m).one c (l m), 0, ?_, f1, rfl, fun _ => ?_, fun _ _ => rfl⟩
      · by_cases hcal : calmTo l m < 40
        · have := ha m (by omega) k1 hcal
          have t0 : t = 0 := hz hm1 (by omega)
          subst t0
          have e : s.all c l m = b := hs
          rw [e] at f2 ⊢
          obtain ⟨a, a1, a2, a3, a4⟩ := hB
          refine ⟨a, a1, fun k hk => ?_, by rw [Sc.one_ms k1]; exact a3, a4⟩
          obtain ⟨x1, x2, x3, x4⟩ := a2 k hk
          obtain ⟨y1, y2, y3, y4⟩ := f2 k hk
          exact ⟨y1.trans x1, y2.trans x2, y3.trans x3, y4.trans x4⟩
        · have ht := hc hm1
          refine ⟨s.all c l m, hOk, f2, Sc.one_ms k1, Or.inl (fun k _ => ?_)⟩
          rw [hs]
          exact hF.settles (by omega) k
      · simp only [calmTo]
        rw [if_neg k1]
        exact Int.le_refl _
/-- NEVER A RING, at no tick. -/
theorem never {c : Cn} {s : Sc} {T : Nat} (h : Ok c s T) (h0 : ∀ k, k < T → ∀ i, i < c.K → ∀ j, (s.ms k i).calm.getD j 0 = 0) (l : Nat → Dn) (l0 : (l 0).kind = 1 ∧ 40 ≤ (l 0).n) (n : Nat) (ha : Apart l n) (he : ∀ k, k < n → errOf c (l k) = 0) (q : Nat) {k : Nat} (hk : k < T) : NoRing c ((s.all c l n).ticks c q) k := by
  obtain ⟨b, t, hB, hF, hs, _⟩ := hist h h0 l l0 n ha he n (Nat.le_refl _)
  rw [hs, Sc.ticks_add]
  exact hB.rings hF _ hk
/-- ONE THING AFTER THE OTHER. -/
theorem all_add (s : Sc) (c : Cn) (l m : Nat → Dn) (a : Nat) : ∀ b, (s.all c l a).all c m b = s.all c (fun k => if k < a then l k else m (k - a)) (a + b)
  | 0 => by
    show s.all c l a = _
    have : ∀ n, n ≤ a → s.all c l n = s.all c (fun k => if k < a then l k else m (k - a)) n := by
      intro n
      induction n with
      | zero => intro _; rfl
      | succ n ih => intro hn; simp only [Sc.all]; rw [ih (by omega), if_pos (by omega)]
    exact this a (Nat.le_refl _)
  | b + 1 => by
    show ((s.all c l a).all c m b).one c (m b) = (s.all c _ (a + b)).one c ((fun k => if k < a then l k else m (k - a)) (a + b))
    rw [all_add s c l m a b]
    simp only
    rw [if_neg (by omega), show a + b - a = b by omega]
theorem all_congr (s : Sc) (c : Cn) {l m : Nat → Dn} : ∀ n, (∀ k, k < n → l k = m k) → s.all c l n = s.all c m n
  | 0, _ => rfl
  | n + 1, h => by simp only [Sc.all]; rw [all_congr s c n (fun k hk => h k (by omega)), h n (by omega)]
theorem all_last (s : Sc) (c : Cn) (l : Nat → Dn) (n : Nat) (d : Dn) : s.all c (fun k => if k < n then l k else d) (n + 1) = (s.all c l n).one c d := by
  show (s.all c _ n).one c _ = _
  rw [all_congr s c n (m := l) (fun k hk => if_pos hk)]
  simp only
  rw [if_neg (by omega)]
/-- TREES KNOW NOTHING OF EACH OTHER. -/
theorem one_trees {s t : Sc} (c : Cn) {T : Nat} (hp : t.pr = s.pr) (hl : t.ls = s.ls) (hm : ∀ k, k < T → t.ms k = s.ms k) (d : Dn) : (t.one c d).pr = (s.one c d).pr ∧ (t.one c d).ls = (s.one c d).ls ∧ ∀ k, k < T → (t.one c d).ms k = (s.one c d).ms k := by
  obtain ⟨p, ls, ms⟩ := t
  obtain ⟨p', ls', ms'⟩ := s
  simp only at hp hl hm
  subst hp
  subst hl
  by_cases k1 : d.kind = 1
  · rw [Sc.one_tick k1, Sc.one_tick k1]
    refine ⟨rfl, rfl, fun k hk => ?_⟩
    show ticksF _ _ (ms k) _ = ticksF _ _ (ms' k) _
    rw [hm k hk]
    rfl
  · rw [Sc.one_ms k1, Sc.one_ms k1]
    unfold Sc.one
    rw [if_neg k1, if_neg k1]
    refine ⟨?_, ?_, hm⟩
    · split
      · rfl
      · split
        · rfl
        · split <;> rfl
    · split
      · rfl
      · split
        · rfl
        · split <;> rfl
theorem all_trees {s t : Sc} (c : Cn) {T : Nat} (hp : t.pr = s.pr) (hl : t.ls = s.ls) (hm : ∀ k, k < T → t.ms k = s.ms k) (l : Nat → Dn) : ∀ n, (t.all c l n).pr = (s.all c l n).pr ∧ (t.all c l n).ls = (s.all c l n).ls ∧ ∀ k, k < T → (t.all c l n).ms k = (s.all c l n).ms k
  | 0 => ⟨hp, hl, hm⟩
  | n + 1 => by
    obtain ⟨h1, h2, h3⟩ := all_trees c hp hl hm l n
    exact one_trees c h1 h2 h3 (l n)
/-- NO TALE IS OLDER than it may be. -/
def Aged (x : Nat → Mnd) (K : Nat) : Prop := ∀ i, i < K → (0 ≤ (x i).md.age ∧ (x i).md.age ≤ 20) ∧ ((x i).md.age = 0 ↔ (x i).md.rp < 0) ∧ ((x i).md.v.root = (x i).md.v.bridge ↔ (x i).md.rp < 0)
theorem ticksF_aged {ids : Nat → Int} {E : Nat → List En} {K : Nat} {x : Nat → Mnd} (h : Aged x K) : ∀ t, Aged (ticksF ids E x t) K
  | 0 => h
  | t + 1 => fun i _ => by
    have := chM_own (ids i) (heard (E i) (fun j => (ticksF ids E x t j).md))
    simp only [ticksF, tickF]
    exact ⟨this.2.2.1, this.2.2.2.1, by rw [this.1]; exact this.2.2.2.2.1⟩
theorem all_aged {s : Sc} (c : Cn) {T : Nat} (h : ∀ k, k < T → Aged (s.ms k) c.K) (l : Nat → Dn) : ∀ n, ∀ k, k < T → Aged ((s.all c l n).ms k) c.K
  | 0 => h
  | n + 1 => fun k hk => by
    show Aged (((s.all c l n).one c (l n)).ms k) c.K
    by_cases k1 : (l n).kind = 1
    · rw [Sc.one_tick k1]; exact ticksF_aged (all_aged c h l n k hk) _
    · rw [Sc.one_ms k1]; exact all_aged c h l n k hk
end Tk
end Go.Proofs.YtflghpnpjmodaaaGreatDoor

namespace Go.Proofs.YtflghpnpjmodaaaGreatDoor
open Go.RowKit
open Vc (V Of)
open Pl (Br Net Pc Lk En St)
open Tk (Md Mnd Cn Sc Dn)

theorem sizeDo : (Tryz.prog.info? 47).map (·.size) = some 4 := by kernel_rfl
/-- One thing to do, in a block of its own. -/
theorem one_do {w : World} {g : Nat} {d : Dn} {ty : TypeId} (h : w.heap[g]? = some (.cells #[.int .i64 d.kind, .int .i64 d.n, .int .i64 d.tree, .int .i64 d.value] ty (0, 0))) : DRow w (some ⟨g, 0, none⟩) 1 1 (fun _ => d) := by
  refine ⟨Nat.le_refl _, fun _ => ⟨g, 0, rfl, (Array.getElem?_eq_some_iff.1 h).1, fun i hi j hj => ?_⟩⟩
  obtain rfl : i = 0 := by omega
  rcases (by omega : j = 0 ∨ j = 1 ∨ j = 2 ∨ j = 3) with e | e | e | e <;> subst e
  · exact cell_of_row w g 0 _ _ _ h
  · exact cell_of_row w g 1 _ _ _ h
  · exact cell_of_row w g 2 _ _ _ h
  · exact cell_of_row w g 3 _ _ _ h
def tickD (x : Int) : Dn := ⟨1, x, 0, 0⟩
/-- What Play leaves, taken apart. -/
def PlF (w w' : World) (n : Net) (trees : Int) (ds : Nat → Dn) (dn : Nat) (na : Option Addr) (nk nc : Nat) (la : Option Addr) (lk lc : Nat) (oa : Option Addr) (ol oc : Nat) (f1 f2 : Int) : Prop :=
  ((plErr n trees ds dn).1 ≠ 0 ∧ (f1 = (plErr n trees ds dn).1 ∧ f2 = (plErr n trees ds dn).2) ∧ (na = none ∧ nk = 0 ∧ nc = 0) ∧ (la = none ∧ lk = 0 ∧ lc = 0) ∧ oa = none ∧ ol = 0 ∧ oc = 0) ∨
    ((plErr n trees ds dn).1 = 0 ∧ (f1 = 0 ∧ f2 = 0) ∧ ∃ (n' : Net) (t' : List Tr), (na = n'.bao ∧ nk = n'.K ∧ nc = n'.bcap) ∧ (la = n'.lao ∧ lk = n'.L ∧ lc = n'.lcap) ∧ ol = t'.length ∧ ∃ b, w.heap.size ≤ b ∧ Kept w' b (fun V => SnOut V n trees.toNat ((n.sc (startMs n)).all n.cn ds dn) n' oa oc t'))
theorem tplay_flat (n : Net) (trees : Int) (dao : Option Addr) (dn dcap : Nat) (ds : Nat → Dn) (w : World) (hwf : n.Wf) (hat : n.at' w) (hdn : dn ≤ 9223372036854775807) (hds : DRow w dao dn dcap ds) (htb : Tabs w) (hbt : 2 ≤ w.heap.size) :
    Calls Tryz.prog 15 #[.agg #[.slice n.bao n.K n.bcap, .slice n.lao n.L n.lcap], .int .i64 trees, .slice dao dn dcap] w fun e w' => ∃ na nk nc la lk lc oa ol oc f1 f2, e = .returned (.tuple #[.agg #[.slice na nk nc, .slice la lk lc], .agg #[.slice oa ol oc], .agg #[.int .i64 f1, .int .i64 f2]]) ∧ Hid (Below w.heap.size w w' ∧ PlF w w' n trees ds dn na nk nc la lk lc oa ol oc f1 f2) := by
  refine (tplay_any n trees dao dn dcap ds w hwf hat hdn hds htb hbt).mono ?_
  rintro e w' ⟨h1, ⟨h2, rfl⟩ | ⟨h2, n', oao, ocap, t', rfl, b, hb, h3⟩⟩
  · exact ⟨none, 0, 0, none, 0, 0, none, 0, 0, _, _, rfl, h1, Or.inl ⟨h2, ⟨rfl, rfl⟩, ⟨rfl, rfl, rfl⟩, ⟨rfl, rfl, rfl⟩, rfl, rfl, rfl⟩⟩
  · exact ⟨n'.bao, n'.K, n'.bcap, n'.lao, n'.L, n'.lcap, oao, t'.length, ocap, 0, 0, rfl, h1, Or.inr ⟨h2, ⟨rfl, rfl⟩, n', t', ⟨rfl, rfl, rfl⟩, ⟨rfl, rfl, rfl⟩, rfl, b, hb, h3⟩⟩
end Go.Proofs.YtflghpnpjmodaaaGreatDoor

namespace Go.Proofs.YtflghpnpjmodaaaGreatDoor
open Go.RowKit
open Tk (Dn)

section
variable {P : Program} {ops : Array Oper} {Q : Exit → Act → World → Prop} {md : Region.Mode} {z : Nat} {C : World → Prop}
theorem z_mem {fuel : Nat} {listed : Array Bool} {a : Act} {w : World} {rs : List Nat} (hr : Region.ready md ops listed = rs) (hne : rs ≠ [])
    (h : ∀ i, i ∈ rs → wpOp P ops Q i (fun a' w' => ((listed.setIfInBounds i true).getD z true = true ∨ C w') ∧ wpAnyZ P md ops Q z C fuel (listed.setIfInBounds i true) a' w') a w) : wpAnyZ P md ops Q z C (fuel + 1) listed a w :=
  ⟨fun h0 => absurd (hr.symm.trans h0) hne, fun i hi => h i (by rw [← hr]; exact hi)⟩
theorem z_op {i : Nat} {o : Oper} {fuel : Nat} {listed : Array Bool} {a : Act} {w : World} (ho : ops[i]? = some o)
    (h : ∀ K' : Act → World → Prop, Shut (∀ a w, ((listed.setIfInBounds i true).getD z true = true ∨ C w) → wpAnyZ P md ops Q z C fuel (listed.setIfInBounds i true) a w → K' a w) → if Region.wanted o (yielded ops a.tmps) = true then Oper.wp P o a w K' Q else K' (a.put o.dst undef) w) :
    wpOp P ops Q i (fun a' w' => ((listed.setIfInBounds i true).getD z true = true ∨ C w') ∧ wpAnyZ P md ops Q z C fuel (listed.setIfInBounds i true) a' w') a w :=
  wpOp_step ho (fun K' hK => h K' (fun a w hS hW => hK a w ⟨hS, hW⟩))
end
def cnt3 (a b c : Bool) : Nat := (if a then 0 else 1) + (if b then 0 else 1) + (if c then 0 else 1)
/-- A variable's box, if it is there. -/
def AlF (W : World) (lo : Nat) (b : Bool) (s : Value) (g : Nat) (z : Array Value) (ty : TypeId) : Prop := b = true → s = .pointer (some ⟨g, 0, none⟩) ∧ W.heap[g]? = some (.cells z ty (0, 0)) ∧ lo ≤ g
theorem AlF.below {W W' : World} {lo : Nat} {b : Bool} {s : Value} {g : Nat} {z : Array Value} {ty : TypeId} (h : AlF W lo b s g z ty) (hb : Below W.heap.size W W') : AlF W' lo b s g z ty := fun e => ⟨(h e).1, keep (h e).2.1 hb, (h e).2.2⟩
theorem AlF.new (W : World) {lo : Nat} (hl : lo ≤ W.heap.size) (b : Bool) (z : Array Value) (ty : TypeId) : AlF (W.alloc (.cells z ty)) lo b (.pointer (some ⟨W.heap.size, 0, none⟩)) W.heap.size z ty := fun _ => ⟨rfl, heap_alloc_last _ _, hl⟩
theorem AlF.app {W W' : World} {lo lo2 n k e : Nat} {v : Value} {xs : List Value} {b : Bool} {s : Value} {g : Nat} {z : Array Value} {ty : TypeId} (h : AlF W lo b s g z ty) (ho : W.ownsRow lo2 e k v n xs) (hq : ∀ q, q < W.heap.size → some q ≠ v.ownBlock → W'.heap[q]? = W.heap[q]?) (hne : ty ≠ e) : AlF W' lo b s g z ty := fun eb => by
  obtain ⟨h1, h2, h3⟩ := h eb
  refine ⟨h1, (hq g (lt_some h2) (fun hv => ?_)).trans h2, h3⟩
  obtain ⟨c2, h4⟩ := owns_type ho hv.symm
  exact hne (cells_type h2 h4)
/-- What is done, and so many ticks more. -/
def dsT (dn : Nat) (ds : Nat → Dn) (tk : Int) (i : Nat) : Dn := if i < dn then ds i else tickD tk
theorem infoDo : (Tryz.prog.info? 47).map (fun i => (i.zero, i.size, i.bytes)) = some (some (.agg #[.int .i64 0, .int .i64 0, .int .i64 0, .int .i64 0]), 4, 32) := by kernel_rfl
theorem dnC_one (d : Dn) (j : Nat) : (dnC d j).oneCell' = true := by
  unfold dnC
  repeat' split
  all_goals rfl
abbrev runAppD (v x : Value) (w : World) (v' : Value) (w' : World) : Prop := (Builtin.append_ #[49, 49] 49 #[v, x]).run Tryz.prog w = .ok v' w'
theorem own_empty (W : World) {lo : Nat} (hl : lo ≤ W.heap.size) : (W.alloc (.cells #[] 47)).ownsRow lo 47 4 (.slice (some ⟨W.heap.size, 0, none⟩) 0 0) 0 (cellsL 0 4 (fun _ _ => .int .i64 0)) :=
  ⟨cellsL_length _ _ _, Or.inr ⟨W.heap.size, 0, #[], rfl, hl, heap_alloc_last _ _, Nat.le_refl _, by unfold maxLen; omega, rfl, by simp [cellsL]⟩⟩
/-- 'append([]api.Do{}, l...)'. -/
theorem do_copy {W : World} {lo : Nat} {v : Value} {dao : Option Addr} {dn dcap : Nat} {ds : Nat → Dn} (ho : W.ownsRow lo 47 4 v 0 (cellsL 0 4 (fun _ _ => .int .i64 0))) (hr : DRow W dao dn dcap ds) (hnil : NilOk dao dn dcap) (hn : dn * 32 ≤ 140737488355328) (hl : lo ≤ W.heap.size) :
    ∃ a1 c1 w', runAppD v (.slice dao dn dcap) W (.slice a1 dn c1) w' ∧ w'.ownsRow lo 47 4 (.slice a1 dn c1) dn (cellsL dn 4 (fun i => dnC (ds i))) ∧ Below lo W w' ∧ (∀ q, q < W.heap.size → some q ≠ v.ownBlock → w'.heap[q]? = W.heap[q]?) := by
  obtain ⟨a1, c1, w', r, o, b, q⟩ := append_c W 49 47 _ 4 32 Tryz.underlying49 infoDo rfl (by omega) lo v 0 _ ho dao dn dcap (fun i => dnC (ds i)) (fun _ _ => dnC_one _ _) hr hnil (by unfold maxLen; omega) (by omega) hl
  rw [Nat.zero_add] at r o
  rw [cellsL_congr dn 4 _ (fun i => dnC (ds i)) (fun i hi => by unfold catC; rw [if_neg (by omega), Nat.sub_zero])] at o
  exact ⟨a1, c1, w', r, o, b, q⟩
/-- 'append(.., ticks(t))'. -/
theorem do_more {W : World} {lo : Nat} {a1 : Option Addr} {c1 dn g : Nat} {ds : Nat → Dn} {tk : Int} (ho : W.ownsRow lo 47 4 (.slice a1 dn c1) dn (cellsL dn 4 (fun i => dnC (ds i)))) (hg : W.heap[g]? = some (.cells #[.int .i64 1, .int .i64 tk, .int .i64 0, .int .i64 0] 47 (0, 0))) (hn : dn ≤ 100000) (hl : lo ≤ W.heap.size) :
    ∃ a2 c2 w', runAppD (.slice a1 dn c1) (.slice (some ⟨g, 0, none⟩) 1 1) W (.slice a2 (dn + 1) c2) w' ∧ w'.ownsRow lo 47 4 (.slice a2 (dn + 1) c2) (dn + 1) (cellsL (dn + 1) 4 (fun i => dnC (dsT dn ds tk i))) ∧ Below lo W w' ∧ (∀ q, q < W.heap.size → some q ≠ (Value.slice a1 dn c1).ownBlock → w'.heap[q]? = W.heap[q]?) := by
  obtain ⟨a2, c2, w', r, o, b, q⟩ := append_c W 49 47 _ 4 32 Tryz.underlying49 infoDo rfl (by omega) lo (.slice a1 dn c1) dn _ ho (some ⟨g, 0, none⟩) 1 1 (fun _ => dnC (tickD tk)) (fun _ _ => dnC_one _ _) (one_do (d := tickD tk) hg) (fun h => by cases h) (by unfold maxLen; omega) (by omega) hl
  rw [cellsL_congr (dn + 1) 4 _ (fun i => dnC (dsT dn ds tk i)) (fun i hi => by
    unfold catC dsT
    by_cases h : i < dn
    · rw [if_pos h, if_pos h]
    · rw [if_neg h, if_neg h])] at o
  exact ⟨a2, c2, w', r, o, b, q⟩
theorem own_do {W : World} {lo dn c : Nat} {a : Option Addr} {ds : Nat → Dn} (h : W.ownsRow lo 47 4 (.slice a dn c) dn (cellsL dn 4 (fun i => dnC (ds i)))) : DRow W a dn c ds := (owns_cs (by omega) h).2
end Go.Proofs.YtflghpnpjmodaaaGreatDoor

namespace Go.Proofs.YtflghpnpjmodaaaGreatDoor
open Go.RowKit
open Tk (Md)

/-- Whether a mind's port forwards. -/
def opM (m : Mi) (port : Int) : Bool := if 0 ≤ Bk.idx m.ports port m.ports.length ∧ Bk.idx m.ports port m.ports.length ≤ (m.calm.length : Int) - 1 then decide (50 ≤ m.calm.getD (Bk.idx m.ports port m.ports.length).toNat 0) else false
/-- Whether frames go through that port. -/
def opT (t : List Tr) (tree bridge port : Int) : Bool := if (0 ≤ tree ∧ tree ≤ (t.length : Int) - 1) ∧ (0 ≤ bridge ∧ bridge ≤ ((tat t tree.toNat).l.length : Int) - 1) then opM (mat (tat t tree.toNat).l bridge.toNat) port else false
set_option maxRecDepth 100000 in
set_option maxHeartbeats 4000000 in
theorem topens_any (oao : Option Addr) (ocap : Nat) (t : List Tr) (tree bridge port : Int) (w : World) (ht : TrRow w oao ocap t) :
    Calls Tryz.prog 27 #[.agg #[.slice oao t.length ocap], .int .i64 tree, .int .i64 bridge, .int .i64 port] w fun e w' => e = .returned (.bool (opT t tree bridge port)) ∧ Below w.heap.size w w' := by
  obtain ⟨X, HX⟩ : ∃ X, Hid (X = w.alloc (.cells #[.slice oao t.length ocap] 43)) := ⟨_, rfl⟩
  have hXB : Below w.heap.size w X := by rw [HX.out]; exact below_alloc1 _ _
  have hX0 : X.heap[w.heap.size]? = some (.cells #[.slice oao t.length ocap] 43 (0, 0)) := by rw [HX.out]; exact heap_alloc_last _ _
  have c0 : X.cell? ⟨w.heap.size, 0, none⟩ = some (.slice oao t.length ocap) := cell_of_row X _ 0 _ _ _ hX0
  have hmany := ht.many
  have hcap := ht.row.1
  by_cases h1 : 0 ≤ tree ∧ tree ≤ (t.length : Int) - 1
  · obtain ⟨k, rfl⟩ : ∃ k : Nat, tree = (k : Int) := ⟨tree.toNat, by omega⟩
    have hk : k < t.length := by omega
    have hrow := ht.below hXB
    obtain ⟨b, off, rfl, _⟩ := hrow.place (by omega)
    have c1 := hrow.cell hk
    have hm := hrow.each k hk
    have ik : (0 : Int) ≤ (k : Int) := by omega
    have nk : (k : Int) < (t.length : Int) := by omega
    have hmm := hm.many
    have hmc := hm.row.1
    have HOP : Hid (opT t k bridge port = if 0 ≤ bridge ∧ bridge ≤ ((tat t k).l.length : Int) - 1 then opM (mat (tat t k).l bridge.toNat) port else false) := by
      show (if (0 ≤ (k : Int) ∧ (k : Int) ≤ (t.length : Int) - 1) ∧ (0 ≤ bridge ∧ bridge ≤ ((tat t ((k : Int)).toNat).l.length : Int) - 1) then opM (mat (tat t ((k : Int)).toNat).l bridge.toNat) port else false) = _
      rw [Int.toNat_natCast]
      by_cases z : 0 ≤ bridge ∧ bridge ≤ ((tat t k).l.length : Int) - 1
      · rw [if_pos ⟨h1, z⟩, if_pos z]
      · rw [if_neg (fun q => z q.2), if_neg z]
    generalize tat t k = x at *
    by_cases h2 : 0 ≤ bridge ∧ bridge ≤ (x.l.length : Int) - 1
    · obtain ⟨i, rfl⟩ : ∃ i : Nat, bridge = (i : Int) := ⟨bridge.toNat, by omega⟩
      have hi : i < x.l.length := by omega
      obtain ⟨xa, xc, xl⟩ := x
      simp only at *
      obtain ⟨b2, off2, rfl, _⟩ := hm.place (by omega)
      obtain ⟨d0, d1, d2, d3, d4, d5, d6, d7, d8⟩ := hm.cells hi
      have hmi := hm.each i hi
      have ii : (0 : Int) ≤ (i : Int) := by omega
      have ni : (i : Int) < (xl.length : Int) := by omega
      rw [Int.toNat_natCast, if_pos h2] at HOP
      generalize mat xl i = m at *
      obtain ⟨Y, HY⟩ : ∃ Y, Hid (Y = X.alloc (.cells #[.int .u64 m.md.v.root, .int .i64 m.md.v.cost, .int .u64 m.md.v.bridge, .int .i64 m.md.v.port, .int .i64 m.md.age, .int .i64 m.md.rp, .slice m.po m.ports.length m.pc, .slice m.ro m.roles.length m.rc, .slice m.co m.calm.length m.cc] 52)) := ⟨_, rfl⟩
      have hYB : Below X.heap.size X Y := by rw [HY.out]; exact below_alloc1 _ _
      have hY0 : Y.heap[X.heap.size]? = some (.cells #[.int .u64 m.md.v.root, .int .i64 m.md.v.cost, .int .u64 m.md.v.bridge, .int .i64 m.md.v.port, .int .i64 m.md.age, .int .i64 m.md.rp, .slice m.po m.ports.length m.pc, .slice m.ro m.roles.length m.rc, .slice m.co m.calm.length m.cc] 52 (0, 0)) := by rw [HY.out]; exact heap_alloc_last _ _
      have y6 : Y.cell? ⟨X.heap.size, 6, none⟩ = some (.slice m.po m.ports.length m.pc) := cell_of_row Y _ 6 _ _ _ hY0
      have y8 : Y.cell? ⟨X.heap.size, 8, none⟩ = some (.slice m.co m.calm.length m.cc) := cell_of_row Y _ 8 _ _ _ hY0
      have hXs : X.heap.size = w.heap.size + 1 := by rw [HX.out]; simp
      rw [hXs] at y8
      have HIX : Hid (Calls Tryz.prog 55 #[.slice m.po m.ports.length m.pc, .int .i64 port] Y fun e w' => e = .returned (.int .i64 (Bk.idx m.ports port m.ports.length)) ∧ w' = Y) := bindex_any m.po m.pc m.ports port Y hmi.pn (hmi.ports.below hYB)
      have HWY : Hid (Below w.heap.size w Y) := hXB.trans (hYB.mono hXB.size)
      have hcn := hmi.cn
      have hco := hmi.calm.below hYB
      have hcc := hco.1
      have HM : Hid (opM m port = if 0 ≤ Bk.idx m.ports port m.ports.length ∧ Bk.idx m.ports port m.ports.length ≤ (m.calm.length : Int) - 1 then decide (50 ≤ m.calm.getD (Bk.idx m.ports port m.ports.length).toNat 0) else false) := rfl
      generalize Bk.idx m.ports port m.ports.length = ix at *
      rw [HX.out] at c0 c1 d0 d1 d2 d3 d4 d5 d6 d7 d8
      have z6 := y6
      rw [HY.out, HX.out] at z6
      clear hrow hm hmi hXB hX0 hYB hY0 ht
      go_enter Tryz.func27, Tryz.ntmps27
      go_wp2_with fail
      refine (vwithin_any _ _ _ _).mono ?_
      rintro e w1 ⟨rfl, rfl⟩
      rw [decide_eq_true h1]
      go_wp2_with fail
      refine (vwithin_any _ _ _ _).mono ?_
      rintro e w1 ⟨rfl, rfl⟩
      rw [decide_eq_true h2]
      go_wp2_with fail
      rw [← HX.out, ← HY.out]
      refine HIX.out.mono ?_
      rintro e w1 ⟨rfl, rfl⟩
      clear c0 c1 d0 d1 d2 d3 d4 d5 d6 d7 d8 HIX z6
      by_cases h3 : 0 ≤ ix ∧ ix ≤ (m.calm.length : Int) - 1
      · obtain ⟨j, rfl⟩ : ∃ j : Nat, ix = (j : Int) := ⟨ix.toNat, by omega⟩
        have hj : j < m.calm.length := by omega
        obtain ⟨b3, off3, e3, _⟩ := hco.place (by omega)
        rw [e3] at hco y8
        have d9 := hco.cell hj
        have jj : (0 : Int) ≤ (j : Int) := by omega
        have nj : (j : Int) < (m.calm.length : Int) := by omega
        rw [Int.toNat_natCast, if_pos h3] at HM
        clear hco
        go_wp2_with fail
        refine (vwithin_any _ _ _ _).mono ?_
        rintro e w1 ⟨rfl, rfl⟩
        rw [decide_eq_true h3]
        go_wp2_with fail
        go_ret
        exact ⟨by rw [HOP.out, HM.out]; first | rfl | simp [hj], HWY.out⟩
      · rw [if_neg h3] at HM
        clear hco
        go_wp2_with fail
        refine (vwithin_any _ _ _ _).mono ?_
        rintro e w1 ⟨rfl, rfl⟩
        rw [decide_eq_false h3]
        go_wp2_with fail
        go_ret
        exact ⟨by rw [HOP.out, HM.out]; rfl, HWY.out⟩
    · rw [if_neg h2] at HOP
      have HWX : Hid (Below w.heap.size w X) := hXB
      rw [HX.out] at c0 c1
      clear hrow hm hXB hX0 ht
      go_enter Tryz.func27, Tryz.ntmps27
      go_wp2_with fail
      refine (vwithin_any _ _ _ _).mono ?_
      rintro e w1 ⟨rfl, rfl⟩
      rw [decide_eq_true h1]
      go_wp2_with fail
      refine (vwithin_any _ _ _ _).mono ?_
      rintro e w1 ⟨rfl, rfl⟩
      rw [decide_eq_false h2]
      go_wp2_with fail
      rw [← HX.out]
      go_ret
      exact ⟨by rw [HOP.out]; rfl, HWX.out⟩
  · have HOP : Hid (opT t tree bridge port = false) := if_neg (fun q => h1 q.1)
    have HWX : Hid (Below w.heap.size w X) := hXB
    rw [HX.out] at c0
    clear hXB hX0 ht
    go_enter Tryz.func27, Tryz.ntmps27
    go_wp2_with fail
    refine (vwithin_any _ _ _ _).mono ?_
    rintro e w1 ⟨rfl, rfl⟩
    rw [decide_eq_false h1]
    go_wp2_with fail
    rw [← HX.out]
    go_ret
    exact ⟨by rw [HOP.out]; rfl, HWX.out⟩
end Go.Proofs.YtflghpnpjmodaaaGreatDoor
