/- walks: cmp.Or of faults, package plan's Wrong and Ident -/
import Derived.Test.YtaakjhdbelefiaeDoorPEn
import Derived.Test.YtaakjhdbelefiaeDoorPW3
import Derived.Deep.RegionHeld3
import Derived.Laws.EntriesVeiled
namespace Go.Proofs.YtaakjhdbelefiaeDoor
namespace Pl
open Vc (V Of)
section
variable {ids : Nat → Int} {E : Nat → List En} {K : Nat}
theorem fin_edge (G : Good ids E K) {i : Nat} (hi : i < K) {e : En} (he : e ∈ E i) (hl : e.live = true) : le2 (fin ids E K i).v (fin ids E K e.other.toNat).v.root ((fin ids E K e.other.toNat).v.cost + e.cost) := by
  obtain ⟨vs, hw⟩ := fin_real G e.other.toNat (toNat_lt (G.lt i hi e he hl).1)
  exact fin_up G hi (Walk.over i e vs _ _ hi he hl hw)
theorem fin_bridge (i : Nat) : (fin ids E K i).v.bridge = ids i ∧ (fin ids E K i).v.port = 0 := rounds_bridge ids E K K i
theorem fin_cost (G : Good ids E K) {i : Nat} (hi : i < K) : 0 ≤ (fin ids E K i).v.cost ∧ (fin ids E K i).v.cost ≤ 28800000 := by
  have h := (rounds_inv G K G.few).1 i hi
  have := G.few
  have h2 : (fin ids E K i).v.cost = (rounds ids E K K i).v.cost := rfl
  omega
/-- Who is the root, and by which port the others hear of it. -/
theorem fin_port (G : Good ids E K) {i : Nat} (hi : i < K) : ((fin ids E K i).rp = -1 ∧ (fin ids E K i).v.root = ids i ∧ (fin ids E K i).v.cost = 0) ∨
    (0 ≤ (fin ids E K i).rp ∧ (fin ids E K i).v.root < ids i ∧ ∃ e, e ∈ E i ∧ e.live = true ∧ e.port = (fin ids E K i).rp ∧ (fin ids E K i).v.root = (fin ids E K e.other.toNat).v.root ∧ (fin ids E K i).v.cost = (fin ids E K e.other.toNat).v.cost + e.cost ∧
      ∀ q, q ∈ E i → q.live = true → ¬ Vc.ahead (offerOf (fin ids E K) q) (offerOf (fin ids E K) e)) := by
  have hf := fin_fix G i hi
  obtain ⟨X, hX⟩ : ∃ X, X = fin ids E K := ⟨_, rfl⟩
  rw [← hX] at hf ⊢
  rcases chS_real (ids i) (offs (E i) X) with ⟨h, _⟩ | ⟨o, ho, hm, h, hn⟩
  · rw [h] at hf
    rw [hf]
    exact Or.inl ⟨rfl, rfl, rfl⟩
  · rw [h] at hf
    obtain ⟨e, h1, h2, rfl⟩ := offs_mem ho
    refine Or.inr ?_
    rw [hf]
    refine ⟨hm.2.1, hm.2.2.2, e, h1, h2, rfl, rfl, rfl, fun q hq hql => ?_⟩
    by_cases hmq : Vc.may (ids i) (offerOf X q)
    · exact hn _ (mem_offs hq hql) hmq
    · intro ha
      apply hmq
      have hB := (rounds_inv G K G.few).1
      have hk := G.few
      have hfit := fits G (x := X) (by rw [hX]; exact hB) (by omega) hi hq hql
      refine ⟨hfit, (G.lt i hi q hq hql).2.2, ⟨Int.le_refl _, show (0 : Int) < 20 by decide⟩, ?_⟩
      have hr : (offerOf X e).vec.root < ids i := hm.2.2.2
      have : (offerOf X q).v.root ≤ (offerOf X e).v.root := by
        rcases ha with ha | ⟨ha, _⟩
        · unfold Vc.lt at ha; omega
        · rw [ha]; exact Int.le_refl _
      have e1 : (offerOf X q).v.root = (offerOf X q).vec.root := rfl
      have e2 : (offerOf X e).v.root = (offerOf X e).vec.root := rfl
      omega
theorem Walk.last {i : Nat} {vs : List Nat} {ρ c : Int} (h : Walk ids E K i vs ρ c) : ∃ j, j < K ∧ ids j = ρ ∧ ∀ us ρ' c', Walk ids E K j us ρ' c' → ∃ ws d, Walk ids E K i ws ρ' d := by
  induction h with
  | here i hi => exact ⟨i, hi, rfl, fun us ρ' c' h => ⟨us, c', h⟩⟩
  | over i e vs ρ c hi he hl _ ih =>
    obtain ⟨j, hj, e1, h2⟩ := ih
    refine ⟨j, hj, e1, fun us ρ' c' h => ?_⟩
    obtain ⟨ws, d, hw⟩ := h2 us ρ' c' h
    exact ⟨_, _, Walk.over i e ws ρ' d hi he hl hw⟩
/-- The root is one of the bridges, and says so. -/
theorem fin_there (G : Good ids E K) {i : Nat} (hi : i < K) : ∃ k, k < K ∧ (fin ids E K k).v.root = (fin ids E K i).v.root ∧ (fin ids E K k).v.bridge = (fin ids E K k).v.root := by
  obtain ⟨vs, hw⟩ := fin_real G i hi
  obtain ⟨j, hj, e1, h2⟩ := hw.last
  obtain ⟨us, hu⟩ := fin_real G j hj
  obtain ⟨ws, d, h3⟩ := h2 us _ _ hu
  have a := fin_up G hi h3
  have b := fin_up G hj (Walk.here j hj)
  unfold le2 at a b
  have e : (fin ids E K j).v.root = (fin ids E K i).v.root := by omega
  exact ⟨j, hj, e, by rw [(fin_bridge j).1, e1, e]⟩
theorem someTo_iff {p : Nat → Bool} : ∀ {n : Nat}, Vc.someTo p n = true ↔ ∃ i, i < n ∧ p i = true
  | 0 => ⟨fun h => by simp [Vc.someTo] at h, fun ⟨i, hi, _⟩ => by omega⟩
  | n + 1 => by
    simp only [Vc.someTo, Bool.or_eq_true]
    rw [someTo_iff (n := n)]
    constructor
    · rintro (⟨i, hi, h⟩ | h)
      · exact ⟨i, by omega, h⟩
      · exact ⟨n, by omega, h⟩
    · rintro ⟨i, hi, h⟩
      by_cases e : i = n
      · subst e; exact Or.inr h
      · exact Or.inl ⟨i, by omega, h⟩
/-- What a port is, by the one link that is there. -/
theorem role_eq {i : Nat} {x : Nat → St} {l : List En} (one : ∀ p q, p ∈ l → q ∈ l → p.port = q.port → p = q) {e : En} (he : e ∈ l) (hl : e.live = true) :
    roleAt (x i) (offs l x) e = if e.port = (x i).rp then 1 else if Vc.lt ⟨(x e.other.toNat).v.root, (x e.other.toNat).v.cost, (x e.other.toNat).v.bridge, e.oport⟩ ⟨(x i).v.root, (x i).v.cost, (x i).v.bridge, e.port⟩ then 3 else 2 := by
  unfold roleAt Vc.role
  rw [if_pos hl]
  by_cases h : e.port = (x i).rp
  · rw [if_pos h, if_pos h]
  · rw [if_neg h, if_neg h]
    have key : Vc.someTo (fun j => decide (Vc.hears (x i).v e.port (lf (offs l x) j))) (offs l x).length = true ↔ Vc.lt ⟨(x e.other.toNat).v.root, (x e.other.toNat).v.cost, (x e.other.toNat).v.bridge, e.oport⟩ ⟨(x i).v.root, (x i).v.cost, (x i).v.bridge, e.port⟩ := by
      rw [someTo_iff]
      constructor
      · rintro ⟨j, hj, hh⟩
        have hh := of_decide_eq_true hh
        obtain ⟨q, q1, q2, q3⟩ := offs_mem (lf_mem hj)
        rw [q3] at hh
        obtain ⟨k1, _, k3⟩ := hh
        have := one q e q1 he k1
        subst this
        exact k3
      · intro hlt
        obtain ⟨j, hj, e1⟩ := lf_of_mem (mem_offs (x := x) he hl)
        refine ⟨j, hj, decide_eq_true ?_⟩
        rw [e1]
        exact ⟨rfl, ⟨Int.le_refl _, show (0 : Int) ≤ 20 by decide⟩, hlt⟩
    by_cases hlt : Vc.lt ⟨(x e.other.toNat).v.root, (x e.other.toNat).v.cost, (x e.other.toNat).v.bridge, e.oport⟩ ⟨(x i).v.root, (x i).v.cost, (x i).v.bridge, e.port⟩
    · rw [if_pos (key.2 hlt), if_pos hlt]
    · rw [if_neg (fun q => hlt (key.1 q)), if_neg hlt]
end
section
variable {K L : Nat} {ls : Nat → Lk}
theorem three_ways {p q : Prop} [Decidable p] [Decidable q] {r : Int} (h : r = if p then 1 else if q then 3 else 2) : (p ∧ r = 1) ∨ (¬ p ∧ q ∧ r = 3) ∨ (¬ p ∧ ¬ q ∧ r = 2) := by
  by_cases h1 : p
  · rw [if_pos h1] at h; exact Or.inl ⟨h1, h⟩
  · rw [if_neg h1] at h
    by_cases h2 : q
    · rw [if_pos h2] at h; exact Or.inr (Or.inl ⟨h1, h2, h⟩)
    · rw [if_neg h2] at h; exact Or.inr (Or.inr ⟨h1, h2, h⟩)
/-- A link's two ends. -/
def eA (l : Lk) (lv : Bool) : En := ⟨l.pa, l.cost, l.b, l.pb, lv⟩
def eB (l : Lk) (lv : Bool) : En := ⟨l.pb, l.cost, l.a, l.pa, lv⟩
theorem eA_mem (R : RightL K L ls) (lv : Nat → Bool) {k : Nat} (hk : k < L) : eA (ls k) (lv k) ∈ ends ls lv L (ls k).a.toNat :=
  ends_mem.2 ⟨k, hk, Or.inl ⟨by have := (R.ok k hk).1; omega, rfl⟩⟩
theorem eB_mem (R : RightL K L ls) (lv : Nat → Bool) {k : Nat} (hk : k < L) : eB (ls k) (lv k) ∈ ends ls lv L (ls k).b.toNat :=
  ends_mem.2 ⟨k, hk, Or.inr ⟨by have := (R.ok k hk).2.1; omega, rfl⟩⟩
/-- What all say. -/
def says (ids : Nat → Int) (ls : Nat → Lk) (lv : Nat → Bool) (K L : Nat) : Nat → St := fin ids (fun i => ends ls lv L i) K
/-- PlanRoot, PlanFar: over a live link. -/
theorem says_link (R : RightL K L ls) (hK : K ≤ 12) (ids : Nat → Int) (lv : Nat → Bool) {k : Nat} (hk : k < L) (hl : lv k = true) :
    (says ids ls lv K L (ls k).a.toNat).v.root = (says ids ls lv K L (ls k).b.toNat).v.root ∧
    (says ids ls lv K L (ls k).a.toNat).v.cost ≤ (says ids ls lv K L (ls k).b.toNat).v.cost + (ls k).cost ∧
    (says ids ls lv K L (ls k).b.toNat).v.cost ≤ (says ids ls lv K L (ls k).a.toNat).v.cost + (ls k).cost := by
  have G := good R hK ids lv
  obtain ⟨o1, o2, _⟩ := R.ok k hk
  have h1 := fin_edge G (i := (ls k).a.toNat) (by omega) (eA_mem R lv hk) hl
  have h2 := fin_edge G (i := (ls k).b.toNat) (by omega) (eB_mem R lv hk) hl
  unfold le2 eA at h1
  unfold le2 eB at h2
  simp only at h1 h2
  unfold says
  omega
/-- PlanEnds: of the two ends of a live link one is designated. -/
theorem says_roles (R : RightL K L ls) (hK : K ≤ 12) (ids : Nat → Int) (hids : ∀ i j, i < K → j < K → ids i = ids j → i = j) (lv : Nat → Bool) {k : Nat} (hk : k < L) (hl : lv k = true) (ra rb : Int)
    (ea : ra = roleAt (says ids ls lv K L (ls k).a.toNat) (offs (ends ls lv L (ls k).a.toNat) (says ids ls lv K L)) (eA (ls k) (lv k)))
    (eb : rb = roleAt (says ids ls lv K L (ls k).b.toNat) (offs (ends ls lv L (ls k).b.toNat) (says ids ls lv K L)) (eB (ls k) (lv k))) :
    (ra = 2 ∧ (rb = 1 ∨ rb = 3)) ∨ (rb = 2 ∧ (ra = 1 ∨ ra = 3)) := by
  have G := good R hK ids lv
  obtain ⟨o1, o2, o3, o4, o5, o6⟩ := R.ok k hk
  have hlink := says_link R hK ids lv hk hl
  rw [role_eq (fun p q hp hq h => ends_one R lv hp hq h) (eA_mem R lv hk) hl] at ea
  rw [role_eq (fun p q hp hq h => ends_one R lv hp hq h) (eB_mem R lv hk) hl] at eb
  have na : (ls k).a.toNat < K := by omega
  have nb : (ls k).b.toNat < K := by omega
  have hne : ids (ls k).a.toNat ≠ ids (ls k).b.toNat := fun e => by have := hids _ _ na nb e; omega
  have ba := (fin_bridge (ids := ids) (E := fun i => ends ls lv L i) (K := K) (ls k).a.toNat).1
  have bb := (fin_bridge (ids := ids) (E := fun i => ends ls lv L i) (K := K) (ls k).b.toNat).1
  have pa := fin_port G na
  have pb := fin_port G nb
  change (says ids ls lv K L _).v.bridge = _ at ba bb
  have ca : (ls k).pa = (says ids ls lv K L (ls k).a.toNat).rp → (says ids ls lv K L (ls k).a.toNat).v.cost = (says ids ls lv K L (ls k).b.toNat).v.cost + (ls k).cost := by
    intro e
    rcases pa with ⟨h, _⟩ | ⟨_, _, q, q1, q2, q3, q4, q5, _⟩
    · exfalso; change (says ids ls lv K L _).rp = -1 at h; omega
    · have := ends_one R lv q1 (eA_mem R lv hk) (by rw [q3]; exact e.symm)
      subst this
      exact q5
  have cb : (ls k).pb = (says ids ls lv K L (ls k).b.toNat).rp → (says ids ls lv K L (ls k).b.toNat).v.cost = (says ids ls lv K L (ls k).a.toNat).v.cost + (ls k).cost := by
    intro e
    rcases pb with ⟨h, _⟩ | ⟨_, _, q, q1, q2, q3, q4, q5, _⟩
    · exfalso; change (says ids ls lv K L _).rp = -1 at h; omega
    · have := ends_one R lv q1 (eB_mem R lv hk) (by rw [q3]; exact e.symm)
      subst this
      exact q5
  have fa := three_ways ea
  have fb := three_ways eb
  clear ea eb pa pb
  unfold eA Vc.lt at fa
  unfold eB Vc.lt at fb
  simp only at fa fb
  rcases fa with ⟨c1, fa⟩ | ⟨c1, d1, fa⟩ | ⟨c1, d1, fa⟩ <;> rcases fb with ⟨c2, fb⟩ | ⟨c2, d2, fb⟩ | ⟨c2, d2, fb⟩
  · have := ca c1; have := cb c2; omega
  · have := ca c1; omega
  · have := ca c1; omega
  · have := cb c2; omega
  · omega
  · omega
  · have := cb c2; omega
  · omega
  · omega
/-- PlanMore: with more that is live nothing is worse. -/
theorem Walk.more {ids : Nat → Int} {E E' : Nat → List En} (h : ∀ i, i < K → ∀ e, e ∈ E i → e.live = true → ∃ q, q ∈ E' i ∧ q.live = true ∧ q.other = e.other ∧ q.cost = e.cost) {i : Nat} {vs : List Nat} {ρ c : Int} (hw : Walk ids E K i vs ρ c) : Walk ids E' K i vs ρ c := by
  induction hw with
  | here i hi => exact Walk.here i hi
  | over i e vs ρ c hi he hl _ ih =>
    obtain ⟨q, q1, q2, q3, q4⟩ := h i hi e he hl
    rw [← q4]
    exact Walk.over i q vs ρ c hi q1 q2 (by rw [q3]; exact ih)
theorem says_more {ls' : Nat → Lk} (R : RightL K L ls) (R' : RightL K L ls') (hK : K ≤ 12) (ids : Nat → Int) (lv lv' : Nat → Bool) (hls : ∀ k, k < L → (ls' k).a = (ls k).a ∧ (ls' k).b = (ls k).b ∧ (ls' k).pa = (ls k).pa ∧ (ls' k).pb = (ls k).pb ∧ (ls' k).cost = (ls k).cost ∧ (lv k = true → lv' k = true)) {i : Nat} (hi : i < K) :
    le2 (says ids ls' lv' K L i).v (says ids ls lv K L i).v.root (says ids ls lv K L i).v.cost := by
  obtain ⟨vs, hw⟩ := fin_real (good R hK ids lv) i hi
  refine fin_up (good R' hK ids lv') hi (Walk.more (fun j hj e he hl => ?_) hw)
  obtain ⟨k, hk, h⟩ := ends_mem.1 he
  obtain ⟨a1, a2, a3, a4, a5, a6⟩ := hls k hk
  rcases h with ⟨h1, rfl⟩ | ⟨h1, rfl⟩
  · exact ⟨_, ends_mem.2 ⟨k, hk, Or.inl ⟨by rw [a1]; exact h1, rfl⟩⟩, a6 hl, a2, a5⟩
  · exact ⟨_, ends_mem.2 ⟨k, hk, Or.inr ⟨by rw [a2]; exact h1, rfl⟩⟩, a6 hl, a1, a5⟩
end
end Pl
end Go.Proofs.YtaakjhdbelefiaeDoor

namespace Go.Proofs.YtaakjhdbelefiaeDoor
open Go.RowKit Go.Maps
open Pl (Br Net Pc Lk En St)

/-- The ends, one behind the other. -/
def endSeq (ls : Nat → Lk) (j : Nat) : Int × Int := if j % 2 = 0 then ((ls (j / 2)).a, (ls (j / 2)).pa) else ((ls (j / 2)).b, (ls (j / 2)).pb)
theorem endSeq_even (ls : Nat → Lk) (k : Nat) : endSeq ls (2 * k) = ((ls k).a, (ls k).pa) := by
  unfold endSeq
  rw [if_pos (by omega), show 2 * k / 2 = k by omega]
theorem endSeq_odd (ls : Nat → Lk) (k : Nat) : endSeq ls (2 * k + 1) = ((ls k).b, (ls k).pb) := by
  unfold endSeq
  rw [if_neg (by omega), show (2 * k + 1) / 2 = k by omega]
/-- What the closure says of a link. -/
def lSay (K : Nat) (l : Lk) (c d : Int) : Int := if Pl.lkErr K l ≠ 0 then Pl.lkErr K l else if 0 < c then 7 else if 0 < d then 7 else 0
theorem lk_free {w : World} {g : Nat} {A : Array Value} {ty : TypeId} (h : w.heap[g]? = some (.cells A ty (0, 0))) (j : Nat) : w.frozen? ⟨g, j, none⟩ = false := frozen_of_row _ _ _ _ _ h
set_option maxRecDepth 100000 in
set_option maxHeartbeats 4000000 in
theorem plClosure_any (K : Nat) (hK : K ≤ 12) (l : Lk) (N Q P B m : Nat) (f : Nat → Int × Int) (w : World) (hN : w.cell? ⟨N, 0, none⟩ = some (.int .i64 K)) (hQ : w.cell? ⟨Q, 0, none⟩ = some (.func (.func 48) #[] #[.pointer (some ⟨P, 0, none⟩)])) (hP : w.cell? ⟨P, 0, none⟩ = some (.map (some B))) (hPB : P ≠ B) (hQB : Q ≠ B) (hc : PCnt w B f m) (hm : m ≤ 900) (hf : f m = (l.a, l.pa)) (hf1 : f (m + 1) = (l.b, l.pb))
    (wa : (Lit.int .i64 l.a).wf = true) (wpa : (Lit.int .i64 l.pa).wf = true) (wb : (Lit.int .i64 l.b).wf = true) (wpb : (Lit.int .i64 l.pb).wf = true) :
    Calls Tryd.prog 35 #[.agg (lkA l), .pointer (some ⟨N, 0, none⟩), .pointer (some ⟨Q, 0, none⟩)] w fun e w' => e = .returned (.int .i64 (lSay K l (cntI f (l.a, l.pa) m) (cntI f (l.b, l.pb) (m + 1)))) ∧ (Pl.lkErr K l = 0 → PCnt w' B f (m + 2)) ∧ w.grownBy w' (some B) := by
  obtain ⟨X, HX⟩ : ∃ X, Hid (X = w.alloc (.cells (lkA l) 35)) := ⟨_, rfl⟩
  have hXB : Below w.heap.size w X := by rw [HX.out]; exact below_alloc1 _ _
  have hXb : X.heap[w.heap.size]? = some (.cells (lkA l) 35 (0, 0)) := by rw [HX.out]; exact heap_alloc_last _ _
  have hlt := hc.lt
  have hQl := block_lt_of_cell hQ
  have hPl := block_lt_of_cell hP
  have hNl := block_lt_of_cell hN
  simp only at hQl hPl hNl
  have HL : Hid (∀ W, X.grownBy W (some B) → (W.cell? ⟨w.heap.size, 0, none⟩ = some (.int .i64 l.a) ∧ W.cell? ⟨w.heap.size, 1, none⟩ = some (.int .i64 l.pa) ∧ W.cell? ⟨w.heap.size, 2, none⟩ = some (.int .i64 l.b) ∧ W.cell? ⟨w.heap.size, 3, none⟩ = some (.int .i64 l.pb)) ∧ W.cell? ⟨Q, 0, none⟩ = some (.func (.func 48) #[] #[.pointer (some ⟨P, 0, none⟩)])) := by
    intro W hW
    obtain ⟨x0, x1, x2, x3, _⟩ := lk_cells (grown_block hXb hW (by omega))
    exact ⟨⟨x0, x1, x2, x3⟩, grown_cell ((hXB.cell (by exact hQl)).trans hQ) hW hQB⟩
  have HGG : Hid (∀ W, X.grownBy W (some B) → w.grownBy W (some B)) := fun W hW => (grown_of_below hXB).trans hW
  have HC : Hid (Calls Tryd.prog 36 #[.agg (lkA l), .int .i64 K] X fun e w' => e = .returned (.int .i64 (Pl.lkErr K l)) ∧ Hid (X.grownBy w' (some B) ∧ PCnt w' B f m)) := by
    refine (pwrongLink_any K l X hK).mono ?_
    rintro e w' ⟨rfl, h2⟩
    exact ⟨rfl, grown_of_below h2, (hc.same (hXB.block B hlt)).same (h2.block B (Nat.lt_of_lt_of_le hlt hXB.size))⟩
  have HT1 : Hid (∀ W, Hid (X.grownBy W (some B) ∧ PCnt W B f m) → Calls Tryd.prog 48 #[.agg #[.int .i64 l.a, .int .i64 l.pa], .pointer (some ⟨P, 0, none⟩)] W fun e w' => e = .returned (.int .i64 (if 0 < cntI f (l.a, l.pa) m then 7 else 0)) ∧ Hid (X.grownBy w' (some B) ∧ PCnt w' B f (m + 1))) := by
    intro W hW
    refine (ptake_any P B m f (l.a, l.pa) W (grown_cell ((hXB.cell (by exact hPl)).trans hP) hW.out.1 hPB) hPB hW.out.2 (by omega) hf wa wpa).mono ?_
    rintro e w' ⟨rfl, k1, k2⟩
    exact ⟨rfl, hW.out.1.trans k2, k1⟩
  have HT2 : Hid (∀ W, Hid (X.grownBy W (some B) ∧ PCnt W B f (m + 1)) → Calls Tryd.prog 48 #[.agg #[.int .i64 l.b, .int .i64 l.pb], .pointer (some ⟨P, 0, none⟩)] W fun e w' => e = .returned (.int .i64 (if 0 < cntI f (l.b, l.pb) (m + 1) then 7 else 0)) ∧ Hid (X.grownBy w' (some B) ∧ PCnt w' B f (m + 2))) := by
    intro W hW
    refine (ptake_any P B (m + 1) f (l.b, l.pb) W (grown_cell ((hXB.cell (by exact hPl)).trans hP) hW.out.1 hPB) hPB hW.out.2 (by omega) hf1 wb wpb).mono ?_
    rintro e w' ⟨rfl, k1, k2⟩
    exact ⟨rfl, hW.out.1.trans k2, k1⟩
  obtain ⟨q0, q1, q2, q3, q4, q5⟩ := lk_cells hXb
  have n0 : X.cell? ⟨N, 0, none⟩ = some (.int .i64 K) := (hXB.cell (by exact hNl)).trans hN
  have HFIN : Hid (∀ W (o : Obj), Hid (X.grownBy W (some B) ∧ PCnt W B f (m + 2)) → PCnt (W.alloc o) B f (m + 2) ∧ w.grownBy (W.alloc o) (some B)) := fun W o hW => by
    have h1 := hW.out.2.lt
    exact ⟨hW.out.2.same ((below_alloc1 W o).block B h1), (HGG.out W hW.out.1).trans (grown_of_below (below_alloc1 W o))⟩
  have HAD : Hid (∀ W, Hid (X.grownBy W (some B) ∧ PCnt W B f m) → Hid (X.grownBy W.drew (some B) ∧ PCnt W.drew B f m)) := fun W hW => ⟨⟨hW.out.1.os, hW.out.1.tape, hW.out.1.output, hW.out.1.size, hW.out.1.block⟩, hW.out.2⟩
  have HSAY : Hid (Pl.lkErr K l = 0 → lSay K l (cntI f (l.a, l.pa) m) (cntI f (l.b, l.pb) (m + 1)) = if (if 0 < cntI f (l.a, l.pa) m then (7 : Int) else 0) = 0 then (if 0 < cntI f (l.b, l.pb) (m + 1) then 7 else 0) else (if 0 < cntI f (l.a, l.pa) m then 7 else 0)) := fun h => by
    unfold lSay
    rw [if_neg (fun q => q h)]
    by_cases c : 0 < cntI f (l.a, l.pa) m
    · rw [if_pos c, if_pos c]; rfl
    · rw [if_neg c, if_neg c]; rfl
  have HSAY2 : Hid (Pl.lkErr K l ≠ 0 → lSay K l (cntI f (l.a, l.pa) m) (cntI f (l.b, l.pb) (m + 1)) = Pl.lkErr K l) := fun h => if_pos h
  generalize lSay K l (cntI f (l.a, l.pa) m) (cntI f (l.b, l.pb) (m + 1)) = S at *
  generalize (if 0 < cntI f (l.a, l.pa) m then (7 : Int) else 0) = R1 at *
  generalize (if 0 < cntI f (l.b, l.pb) (m + 1) then (7 : Int) else 0) = R2 at *
  generalize Pl.lkErr K l = E at *
  clear hQ hP hc hf hf1 hXb hXB hN wa wpa wb wpb
  obtain ⟨a, pa, b, pb, c, up⟩ := l
  simp only [lkA] at *
  rw [HX.out] at n0
  by_cases e0 : E = 0
  · subst e0
    have HS : Hid (S = if R1 = 0 then R2 else R1) := HSAY.out (by first | exact rfl | trivial)
    have HOR : Hid (∀ (g : Nat) (ty : TypeId) (W : World), W.heap[g]? = some (.cells #[.int .i64 R1, .int .i64 R2] ty (0, 0)) → Calls Tryd.prog 37 #[.slice (some ⟨g, 0, none⟩) 2 2] W fun e w' => e = .returned (.int .i64 S) ∧ w' = W) := fun g ty W h => by rw [HS.out]; exact core2 R1 R2 g ty W h
    clear HSAY HSAY2 HS
    go_enter Tryd.func35, Tryd.ntmps35
    go_wp2_with fail
    rw [← HX.out]
    refine HC.out.mono ?_
    rintro e w1 ⟨rfl, hA⟩
    obtain ⟨⟨x0, x1, x2, x3⟩, x4⟩ := HL.out w1 hA.out.1
    have HA0 : Hid _ := HAD.out w1 hA
    have HAd : Hid (X.grownBy w1.drew (some B)) := HA0.out.1
    clear q0 q1 q2 q3 q4 q5 n0 hA HAD HC
    go_wp2_with fail
    go_region_held3 (fun W => (W.cell? ⟨w.heap.size, 0, none⟩ = some (.int .i64 a) ∧ W.cell? ⟨w.heap.size, 1, none⟩ = some (.int .i64 pa) ∧ W.cell? ⟨w.heap.size, 2, none⟩ = some (.int .i64 b) ∧ W.cell? ⟨w.heap.size, 3, none⟩ = some (.int .i64 pb)) ∧ W.cell? ⟨Q, 0, none⟩ = some (.func (.func 48) #[] #[.pointer (some ⟨P, 0, none⟩)]))
      (first | (exact HL.out _ HAd.out) | (exact HL.out _ HA1.out.1) | (exact HL.out _ HA2.out.1) | (exact HL.out _ (HA2.out.1.trans (grown_of_below (below_alloc1 _ _)))))
      (first | (go_at_call 48; first | ((with_reducible refine (HT1.out _ HA0).mono ?_); rintro e wa ⟨rfl, HA1⟩) | ((with_reducible refine (HT2.out _ HA1).mono ?_); rintro e wb ⟨rfl, HA2⟩)) | (go_at_call 37; refine (HOR.out _ _ _ (heap_alloc_last _ _)).mono ?_; rintro e wc ⟨rfl, rfl⟩))
    all_goals go_wp2_with fail
    all_goals go_ret
    all_goals first | exact ⟨rfl, fun _ => (HFIN.out _ _ HA2).1, (HFIN.out _ _ HA2).2⟩ | exact ⟨rfl, (HFIN.out _ _ HA2).1, (HFIN.out _ _ HA2).2⟩
  · have e1 : (E == 0) = false := by simp [e0]
    have HS : Hid (S = E) := HSAY2.out e0
    clear HSAY HSAY2
    go_enter Tryd.func35, Tryd.ntmps35
    go_wp2_with fail
    rw [← HX.out]
    refine HC.out.mono ?_
    rintro e w1 ⟨rfl, hA⟩
    go_wp2_with fail
    go_ret
    exact ⟨by rw [HS.out]; rfl, fun h => absurd h e0, HGG.out _ hA.out.1⟩
end Go.Proofs.YtaakjhdbelefiaeDoor

namespace Go.Proofs.YtaakjhdbelefiaeDoor
open Go.RowKit Go.Maps
open Pl (Br Net Pc Lk En St)

theorem seq_isEnd (ls : Nat → Lk) (x p : Int) (k : Nat) : Vc.someTo (fun j => decide (endSeq ls j = (x, p))) (2 * k) = true ↔ ∃ i, i < k ∧ Pl.isEnd (ls i) x p = true := by
  rw [Pl.someTo_iff]
  constructor
  · rintro ⟨j, hj, h⟩
    have h := of_decide_eq_true h
    refine ⟨j / 2, by omega, ?_⟩
    unfold endSeq at h
    unfold Pl.isEnd
    by_cases e : j % 2 = 0
    · rw [if_pos e] at h
      injection h with h1 h2
      simp [h1, h2]
    · rw [if_neg e] at h
      injection h with h1 h2
      simp [h1, h2]
  · rintro ⟨i, hi, h⟩
    unfold Pl.isEnd at h
    simp only [Bool.or_eq_true, decide_eq_true_eq] at h
    rcases h with ⟨h1, h2⟩ | ⟨h1, h2⟩
    · exact ⟨2 * i, by omega, decide_eq_true (by rw [endSeq_even, h1, h2])⟩
    · exact ⟨2 * i + 1, by omega, decide_eq_true (by rw [endSeq_odd, h1, h2])⟩
theorem lSay_err (K : Nat) (ls : Nat → Lk) (k : Nat) : lSay K (ls k) (cntI (endSeq ls) ((ls k).a, (ls k).pa) (2 * k)) (cntI (endSeq ls) ((ls k).b, (ls k).pb) (2 * k + 1)) = Pl.lErr K ls k := by
  unfold lSay Pl.lErr
  by_cases h : Pl.lkErr K (ls k) = 0
  · have hn : ¬ Pl.lkErr K (ls k) ≠ 0 := fun q => q h
    rw [if_neg hn, if_neg hn]
    have hab := (Pl.lkErr_ok h).2.2.1
    have c1 := (cntI_pos (endSeq ls) ((ls k).a, (ls k).pa) (2 * k)).trans (seq_isEnd ls _ _ k)
    have c2 : 0 < cntI (endSeq ls) ((ls k).b, (ls k).pb) (2 * k + 1) ↔ ∃ i, i < k ∧ Pl.isEnd (ls i) (ls k).b (ls k).pb = true := by
      have e : cntI (endSeq ls) ((ls k).b, (ls k).pb) (2 * k + 1) = cntI (endSeq ls) ((ls k).b, (ls k).pb) (2 * k) := by
        show _ + (if endSeq ls (2 * k) = _ then (1 : Int) else 0) = _
        rw [if_neg (by rw [endSeq_even]; intro q; injection q with q1 _; exact hab q1), Int.add_zero]
      rw [e]
      exact (cntI_pos (endSeq ls) ((ls k).b, (ls k).pb) (2 * k)).trans (seq_isEnd ls _ _ k)
    have c3 : Vc.someTo (fun j => Pl.isEnd (ls j) (ls k).a (ls k).pa || Pl.isEnd (ls j) (ls k).b (ls k).pb) k = true ↔ (0 < cntI (endSeq ls) ((ls k).a, (ls k).pa) (2 * k) ∨ 0 < cntI (endSeq ls) ((ls k).b, (ls k).pb) (2 * k + 1)) := by
      rw [Pl.someTo_iff, c1, c2]
      constructor
      · rintro ⟨i, hi, q⟩
        simp only [Bool.or_eq_true] at q
        rcases q with q | q
        · exact Or.inl ⟨i, hi, q⟩
        · exact Or.inr ⟨i, hi, q⟩
      · rintro (⟨i, hi, q⟩ | ⟨i, hi, q⟩)
        · exact ⟨i, hi, by simp [q]⟩
        · exact ⟨i, hi, by simp [q]⟩
    by_cases q1 : 0 < cntI (endSeq ls) ((ls k).a, (ls k).pa) (2 * k)
    · rw [if_pos q1, if_pos (c3.2 (Or.inl q1))]
    · rw [if_neg q1]
      by_cases q2 : 0 < cntI (endSeq ls) ((ls k).b, (ls k).pb) (2 * k + 1)
      · rw [if_pos q2, if_pos (c3.2 (Or.inr q2))]
      · rw [if_neg q2, if_neg (fun q => by rcases c3.1 q with q | q; exact q1 q; exact q2 q)]
  · rw [if_pos h, if_pos h]
theorem lErr_zero {K : Nat} {ls : Nat → Lk} {k : Nat} (h : Pl.lErr K ls k = 0) : Pl.lkErr K (ls k) = 0 := (Pl.lErr_ok h).1
set_option maxRecDepth 100000 in
set_option maxHeartbeats 2000000 in
theorem plFirst_any (ao : Option Addr) (n cap : Nat) (ls : Nat → Lk) (K : Nat) (hK : K ≤ 12) (N Q P B : Nat) (W0 w : World) (hn : n ≤ 40) (hr : LRow W0 ao n cap ls) (hwf : ∀ i, i < n → (Lit.int .i64 (ls i).a).wf = true ∧ (Lit.int .i64 (ls i).pa).wf = true ∧ (Lit.int .i64 (ls i).b).wf = true ∧ (Lit.int .i64 (ls i).pb).wf = true)
    (hN : w.cell? ⟨N, 0, none⟩ = some (.int .i64 K)) (hNB : N ≠ B)
    (hQ : w.cell? ⟨Q, 0, none⟩ = some (.func (.func 48) #[] #[.pointer (some ⟨P, 0, none⟩)])) (hP : w.cell? ⟨P, 0, none⟩ = some (.map (some B))) (hPB : P ≠ B) (hQB : Q ≠ B) (hc : PCnt w B (endSeq ls) 0)
    (hM : W0.heap.size ≤ B) (hW0 : Below W0.heap.size W0 w) :
    Calls Tryd.prog 34 #[.slice ao n cap, .func (.func 35) #[] #[.pointer (some ⟨N, 0, none⟩), .pointer (some ⟨Q, 0, none⟩)]] w fun e w' => e = .returned (.agg (ftA (Pl.firstTo (Pl.lErr K ls) n))) ∧ Below W0.heap.size W0 w' := by
  have HRW : Hid (∀ W, Below W0.heap.size W0 W → LRow W ao n cap ls) := fun W hW => CRow.other hr (fun q _ _ hq => hW.block q hq) hW.size
  have HWF : Hid (∀ i, i < n → (Lit.int .i64 (ls i).a).wf = true ∧ (Lit.int .i64 (ls i).pa).wf = true ∧ (Lit.int .i64 (ls i).b).wf = true ∧ (Lit.int .i64 (ls i).pb).wf = true) := hwf
  have hcap := hr.1
  have hBl := hc.lt
  obtain ⟨G, HG⟩ : ∃ G, Hid (G = w.heap.size) := ⟨_, rfl⟩
  have hGB : G ≠ B := by rw [HG.out]; omega
  have hGM : W0.heap.size ≤ G := by rw [HG.out]; exact hW0.size
  have HI : Hid (∀ W, W = w.alloc (.cells #[.int .i64 0, .int .i64 0] 39) → Below W0.heap.size W0 W ∧ PCnt W B (endSeq ls) 0 ∧ W.heap[G]? = some (.cells #[.int .i64 0, .int .i64 0] 39 (0, 0)) ∧ W.cell? ⟨Q, 0, none⟩ = some (.func (.func 48) #[] #[.pointer (some ⟨P, 0, none⟩)]) ∧ W.cell? ⟨P, 0, none⟩ = some (.map (some B)) ∧ W.cell? ⟨N, 0, none⟩ = some (.int .i64 K)) := by
    intro W hW
    have h1 : Below w.heap.size w W := by rw [hW]; exact below_alloc1 _ _
    have hQl := block_lt_of_cell hQ
    have hPl := block_lt_of_cell hP
    have hNl := block_lt_of_cell hN
    exact ⟨hW0.trans (h1.mono hW0.size), hc.same (h1.block B hBl), by rw [hW, HG.out]; exact heap_alloc_last _ _, (h1.cell (by exact hQl)).trans hQ, (h1.cell (by exact hPl)).trans hP, (h1.cell (by exact hNl)).trans hN⟩
  clear hr hwf hQ hP hN hc hW0 hBl
  go_enter Tryd.func34, Tryd.ntmps34
  go_wp2_with fail
  rw [← HG.out]
  go_loopw [10] (fun i wr => ∃ k : Nat, k ≤ n ∧ i = .int .i64 k ∧ Hid (∀ j, j < k → Pl.lErr K ls j = 0) ∧ Hid (Below W0.heap.size W0 wr ∧ PCnt wr B (endSeq ls) (2 * k) ∧ wr.heap[G]? = some (.cells #[.int .i64 0, .int .i64 0] 39 (0, 0)) ∧ wr.cell? ⟨Q, 0, none⟩ = some (.func (.func 48) #[] #[.pointer (some ⟨P, 0, none⟩)]) ∧ wr.cell? ⟨P, 0, none⟩ = some (.map (some B)) ∧ wr.cell? ⟨N, 0, none⟩ = some (.int .i64 K))) (fun i _ => n - (intOf i).toNat)
  case atStart => exact ⟨0, by omega, rfl, (fun j hj => absurd hj (by omega)), HI.out _ rfl⟩
  case round =>
    obtain ⟨k, hk, rfl, hS, hX⟩ := hrel
    clear HI
    by_cases hlt : k < n
    · obtain ⟨b, off, rfl, _⟩ := CRow.some (HRW.out wr hX.out.1) (by omega)
      obtain ⟨c0, c1, c2, c3, c4, c5⟩ := LRow.cells (HRW.out wr hX.out.1) hlt
      obtain ⟨X, HX⟩ : ∃ X, Hid (X = wr.alloc (.cells (lkA (ls k)) 35)) := ⟨_, rfl⟩
      have HXB : Hid (Below wr.heap.size wr X) := by rw [HX.out]; exact below_alloc1 _ _
      have HX5 : Hid (X.heap[wr.heap.size]? = some (.cells (lkA (ls k)) 35 (0, 0))) := by rw [HX.out]; exact heap_alloc_last _ _
      have HCL : Hid (Calls Tryd.prog 35 #[.agg (lkA (ls k)), .pointer (some ⟨N, 0, none⟩), .pointer (some ⟨Q, 0, none⟩)] X fun e w' => e = .returned (.int .i64 (Pl.lErr K ls k)) ∧ Hid (Below W0.heap.size W0 w' ∧ (Pl.lErr K ls k = 0 → PCnt w' B (endSeq ls) (2 * (k + 1))) ∧ w'.heap[G]? = some (.cells #[.int .i64 0, .int .i64 0] 39 (0, 0)) ∧ w'.cell? ⟨Q, 0, none⟩ = some (.func (.func 48) #[] #[.pointer (some ⟨P, 0, none⟩)]) ∧ w'.cell? ⟨P, 0, none⟩ = some (.map (some B)) ∧ w'.cell? ⟨N, 0, none⟩ = some (.int .i64 K))) := by
        obtain ⟨x1, x2, x3, x4, x5, x6⟩ := hX.out
        have l1 := block_lt_of_cell x4
        have l2 := block_lt_of_cell x5
        have l3 := block_lt_of_cell x6
        have y6 := (HXB.out.cell (by exact l3)).trans x6
        obtain ⟨v1, v2, v3, v4⟩ := HWF.out k hlt
        have y1 : Below W0.heap.size W0 X := x1.trans (HXB.out.mono x1.size)
        have y4 := (HXB.out.cell (by exact l1)).trans x4
        have y5 := (HXB.out.cell (by exact l2)).trans x5
        have y3 := keep x3 HXB.out
        refine (plClosure_any K hK (ls k) N Q P B (2 * k) (endSeq ls) X y6 y4 y5 hPB hQB (x2.same (HXB.out.block B x2.lt)) (by omega) (endSeq_even ls k) (endSeq_odd ls k) v1 v2 v3 v4).mono ?_
        rintro e w' ⟨rfl, z1, z2⟩
        rw [lSay_err]
        exact ⟨rfl, y1.trans (below_of_grown z2 y1.size hM), fun h => z1 (lErr_zero h), grown_block y3 z2 hGB, grown_cell y4 z2 hQB, grown_cell y5 z2 hPB, grown_cell y6 z2 hNB⟩
      have HF1 : Hid (Pl.lErr K ls k ≠ 0 → ftA (Pl.firstTo (Pl.lErr K ls) n) = #[.int .i64 (Pl.lErr K ls k), .int .i64 (k : Int)]) := fun h => by rw [Pl.firstTo_here (Pl.lErr K ls) k hS.out h n hlt]; rfl
      have HS1 : Hid (Pl.lErr K ls k = 0 → ∀ j, j < k + 1 → Pl.lErr K ls j = 0) := fun h j hj => by
        by_cases e : j = k
        · subst e; exact h
        · exact hS.out j (by omega)
      obtain ⟨d0, d1, d2, d3, d4, d5⟩ := lk_cells HX5.out
      clear hX hS HX5 HXB HWF HRW
      generalize Pl.lErr K ls k = E at *
      by_cases e0 : E = 0
      · subst e0
        have HS2 : Hid (∀ j, j < k + 1 → Pl.lErr K ls j = 0) := HS1.out rfl
        clear HS1 HF1
        simp only [lkA] at *
        go_wp2_with fail
        rw [← HX.out]
        refine HCL.out.mono ?_
        rintro e w1 ⟨rfl, hY⟩
        clear d0 d1 d2 d3 d4 d5 c0 c1 c2 c3 c4 c5
        go_wp2_with fail
        exact ⟨⟨k + 1, by omega, by go_num, HS2, ⟨hY.out.1, hY.out.2.1 (by first | exact rfl | trivial), hY.out.2.2⟩⟩, by simp [intOf]; omega⟩
      · have e1 : (E == 0) = false := by simp [e0]
        have HF2 : Hid _ := HF1.out e0
        clear HS1 HF1
        simp only [lkA] at *
        go_wp2_with fail
        rw [← HX.out]
        refine HCL.out.mono ?_
        rintro e w1 ⟨rfl, hY⟩
        clear d0 d1 d2 d3 d4 d5 c0 c1 c2 c3 c4 c5
        obtain ⟨f0, f1⟩ := two_cells2 hY.out.2.2.1
        obtain ⟨g0, g1, _, _⟩ := vc_free hY.out.2.2.1
        go_wp2_with fail
        exact bodyPost_ret (v := .agg #[.int .i64 E, .int .i64 (k : Int)]) (results_row (p := 4) (ty := 39) Tryd.results34 _ _ G 39 #[.int .i64 E, .int .i64 (k : Int)] (0, 0) _ rfl (set2_same hY.out.2.2.1) Tryd.underlying39 rfl (by rw [sizeFt]; rfl)) rfl ⟨by rw [HF2.out], (hY.out.1.setCell hGM _).setCell hGM _⟩
    · obtain rfl : k = n := by omega
      have HF2 : Hid (ftA (Pl.firstTo (Pl.lErr K ls) k) = #[.int .i64 0, .int .i64 0]) := by rw [Pl.firstTo_all _ _ hS.out]; rfl
      obtain ⟨f0, f1⟩ := two_cells2 hX.out.2.2.1
      obtain ⟨g0, g1, _, _⟩ := vc_free hX.out.2.2.1
      go_wp2_with fail
      exact bodyPost_ret (v := .agg #[.int .i64 0, .int .i64 0]) (results_row (p := 4) (ty := 39) Tryd.results34 _ _ G 39 #[.int .i64 0, .int .i64 0] (0, 0) _ rfl (set2_same hX.out.2.2.1) Tryd.underlying39 rfl (by rw [sizeFt]; rfl)) rfl ⟨by rw [HF2.out], (hX.out.1.setCell hGM _).setCell hGM _⟩
theorem ftA_cells {w : World} {g : Nat} {x : Int × Int} {ty : TypeId} (h : w.heap[g]? = some (.cells (ftA x) ty (0, 0))) : w.cell? ⟨g, 0, none⟩ = some (.int .i64 x.1) ∧ w.cell? ⟨g, 1, none⟩ = some (.int .i64 x.2) := two_cells2 h
set_option maxRecDepth 100000 in
set_option maxHeartbeats 2000000 in
theorem pwrongBridges_any (ao : Option Addr) (n cap : Nat) (bs : Nat → Br) (w : World) (hn : n ≤ 12) (hr : BRow w ao n cap bs) (hb : ∀ i, i < n → (bs i).at' w) (hwf : ∀ i, i < n → (Lit.int .u64 (bs i).addr).wf = true) :
    Calls Tryd.prog 19 #[.slice ao n cap] w fun e w' => e = .returned (.agg (ftA (Pl.firstTo (Pl.bErr bs) n))) ∧ Below w.heap.size w w' := by
  obtain ⟨X, HX⟩ : ∃ X, Hid (X = w.alloc (.cells #[.int .i64 0, .int .i64 0] 39)) := ⟨_, rfl⟩
  have hXB : Below w.heap.size w X := by rw [HX.out]; exact below_alloc1 _ _
  have hXb : X.heap[w.heap.size]? = some (.cells #[.int .i64 0, .int .i64 0] 39 (0, 0)) := by rw [HX.out]; exact heap_alloc_last _ _
  have hXs : X.heap.size = w.heap.size + 1 := by rw [HX.out]; simp
  have HT : Hid (Calls Tryd.prog 29 #[] X fun e w' => e = .returned (.func (.func 44) #[] #[.pointer (some ⟨X.heap.size + 1, 0, none⟩)]) ∧ Hid (w'.cell? ⟨X.heap.size + 1, 0, none⟩ = some (.map (some X.heap.size)) ∧ UCnt w' X.heap.size (fun j => (bs j).addr) 0 ∧ Below X.heap.size X w')) := utaker_any _ X
  have HF : Hid (∀ w1, Hid (w1.cell? ⟨X.heap.size + 1, 0, none⟩ = some (.map (some X.heap.size)) ∧ UCnt w1 X.heap.size (fun j => (bs j).addr) 0 ∧ Below X.heap.size X w1) → ∀ Y, Y = w1.alloc (.cells #[.func (.func 44) #[] #[.pointer (some ⟨X.heap.size + 1, 0, none⟩)]] 82) →
      Calls Tryd.prog 30 #[.slice ao n cap, .func (.func 31) #[] #[.pointer (some ⟨w1.heap.size, 0, none⟩)]] Y fun e w' => e = .returned (.agg (ftA (Pl.firstTo (Pl.bErr bs) n))) ∧ Below X.heap.size X w') := by
    intro w1 h Y hY
    obtain ⟨h1, h2, h3⟩ := h.out
    have hYB : Below w1.heap.size w1 Y := by rw [hY]; exact below_alloc1 _ _
    have l1 := block_lt_of_cell h1
    have h2' := h2.lt
    have hYX : Below X.heap.size X Y := h3.trans (hYB.mono h3.size)
    have hYQ : Y.heap[w1.heap.size]? = some (.cells #[.func (.func 44) #[] #[.pointer (some ⟨X.heap.size + 1, 0, none⟩)]] 82 (0, 0)) := by rw [hY]; exact heap_alloc_last _ _
    refine (pbFirst_any ao n cap bs w1.heap.size (X.heap.size + 1) X.heap.size X Y hn (CRow.below hr hXB) (fun i hi => (hb i hi).below hXB) hwf (cell_of_row _ _ 0 _ _ _ hYQ) ((hYB.cell (by exact l1)).trans h1) (by omega) (by omega) (h2.same (hYB.block _ h2')) (Nat.le_refl _) hYX).mono ?_
    rintro e w' ⟨rfl, z⟩
    exact ⟨rfl, z⟩
  have HEND : Hid (∀ W, Below X.heap.size X W → W.heap[w.heap.size]? = some (.cells #[.int .i64 0, .int .i64 0] 39 (0, 0)) ∧ Below w.heap.size w W) := fun W hW => ⟨keep hXb hW, hXB.trans (hW.mono hXB.size)⟩
  clear hr hb hwf hXb hXB hXs
  generalize Pl.firstTo (Pl.bErr bs) n = R at *
  obtain ⟨r1, r2⟩ := R
  simp only [ftA] at *
  go_enter Tryd.func19, Tryd.ntmps19
  go_wp2_with fail
  rw [← HX.out]
  refine HT.out.mono ?_
  rintro e w1 ⟨rfl, h1⟩
  have hf := HF.out w1 h1 _ rfl
  clear HT HF h1
  go_wp2_with fail
  refine hf.mono ?_
  rintro e w2 ⟨rfl, h2⟩
  obtain ⟨k1, k2⟩ := HEND.out w2 h2
  obtain ⟨f0, f1⟩ := two_cells2 k1
  obtain ⟨g0, g1, _, _⟩ := vc_free k1
  have HK1 : Hid (w2.heap[w.heap.size]? = some (.cells #[.int .i64 0, .int .i64 0] 39 (0, 0))) := k1
  have HK2 : Hid (Below w.heap.size w w2) := k2
  clear hf k1 k2 h2 HEND
  go_wp2_with fail
  exact bodyPost_ret (v := .agg #[.int .i64 r1, .int .i64 r2]) (results_row (p := 2) (ty := 39) Tryd.results19 _ _ w.heap.size 39 #[.int .i64 r1, .int .i64 r2] (0, 0) _ rfl (set2_same HK1.out) Tryd.underlying39 rfl (by rw [sizeFt]; rfl)) rfl ⟨rfl, (HK2.out.setCell (Nat.le_refl _) _).setCell (Nat.le_refl _) _⟩
set_option maxRecDepth 100000 in
set_option maxHeartbeats 2000000 in
theorem pwrongLinks_any (ao : Option Addr) (n cap : Nat) (ls : Nat → Lk) (K : Nat) (hK : K ≤ 12) (w : World) (hn : n ≤ 40) (hr : LRow w ao n cap ls) (hwf : ∀ i, i < n → (Lit.int .i64 (ls i).a).wf = true ∧ (Lit.int .i64 (ls i).pa).wf = true ∧ (Lit.int .i64 (ls i).b).wf = true ∧ (Lit.int .i64 (ls i).pb).wf = true) :
    Calls Tryd.prog 20 #[.slice ao n cap, .int .i64 K] w fun e w' => e = .returned (.agg (ftA (Pl.firstTo (Pl.lErr K ls) n))) ∧ Below w.heap.size w w' := by
  obtain ⟨X, HX⟩ : ∃ X, Hid (X = (w.alloc (.cells #[.int .i64 K] 3)).alloc (.cells #[.int .i64 0, .int .i64 0] 39)) := ⟨_, rfl⟩
  have hXB : Below w.heap.size w X := by rw [HX.out]; exact below_alloc2 _ _ _
  have hXn : X.heap[w.heap.size]? = some (.cells #[.int .i64 K] 3 (0, 0)) := by rw [HX.out]; exact heap_alloc2_old w _ _
  have hXb : X.heap[w.heap.size + 1]? = some (.cells #[.int .i64 0, .int .i64 0] 39 (0, 0)) := by rw [HX.out]; exact heap_alloc2_new w _ _
  have hXs : X.heap.size = w.heap.size + 2 := by rw [HX.out]; simp
  have HT : Hid (Calls Tryd.prog 33 #[] X fun e w' => e = .returned (.func (.func 48) #[] #[.pointer (some ⟨X.heap.size + 1, 0, none⟩)]) ∧ Hid (w'.cell? ⟨X.heap.size + 1, 0, none⟩ = some (.map (some X.heap.size)) ∧ PCnt w' X.heap.size (endSeq ls) 0 ∧ Below X.heap.size X w')) := ptaker_any _ X
  have HF : Hid (∀ w1, Hid (w1.cell? ⟨X.heap.size + 1, 0, none⟩ = some (.map (some X.heap.size)) ∧ PCnt w1 X.heap.size (endSeq ls) 0 ∧ Below X.heap.size X w1) → ∀ Y, Y = w1.alloc (.cells #[.func (.func 48) #[] #[.pointer (some ⟨X.heap.size + 1, 0, none⟩)]] 86) →
      Calls Tryd.prog 34 #[.slice ao n cap, .func (.func 35) #[] #[.pointer (some ⟨w.heap.size, 0, none⟩), .pointer (some ⟨w1.heap.size, 0, none⟩)]] Y fun e w' => e = .returned (.agg (ftA (Pl.firstTo (Pl.lErr K ls) n))) ∧ Below X.heap.size X w') := by
    intro w1 h Y hY
    obtain ⟨h1, h2, h3⟩ := h.out
    have hYB : Below w1.heap.size w1 Y := by rw [hY]; exact below_alloc1 _ _
    have l1 := block_lt_of_cell h1
    have h2' := h2.lt
    have hYX : Below X.heap.size X Y := h3.trans (hYB.mono h3.size)
    have hYQ : Y.heap[w1.heap.size]? = some (.cells #[.func (.func 48) #[] #[.pointer (some ⟨X.heap.size + 1, 0, none⟩)]] 86 (0, 0)) := by rw [hY]; exact heap_alloc_last _ _
    refine (plFirst_any ao n cap ls K hK w.heap.size w1.heap.size (X.heap.size + 1) X.heap.size X Y hn (CRow.below hr hXB) hwf (cell_of_row _ _ 0 _ _ _ (keep hXn hYX)) (by omega) (cell_of_row _ _ 0 _ _ _ hYQ) ((hYB.cell (by exact l1)).trans h1) (by omega) (by omega) (h2.same (hYB.block _ h2')) (Nat.le_refl _) hYX).mono ?_
    rintro e w' ⟨rfl, z⟩
    exact ⟨rfl, z⟩
  have HEND : Hid (∀ W, Below X.heap.size X W → W.heap[w.heap.size + 1]? = some (.cells #[.int .i64 0, .int .i64 0] 39 (0, 0)) ∧ Below w.heap.size w W) := fun W hW => ⟨keep hXb hW, hXB.trans (hW.mono hXB.size)⟩
  clear hr hwf hXb hXn hXB hXs
  generalize Pl.firstTo (Pl.lErr K ls) n = R at *
  obtain ⟨r1, r2⟩ := R
  simp only [ftA] at *
  go_enter Tryd.func20, Tryd.ntmps20
  go_wp2_with fail
  rw [← HX.out]
  refine HT.out.mono ?_
  rintro e w1 ⟨rfl, h1⟩
  have hf := HF.out w1 h1 _ rfl
  clear HT HF h1
  go_wp2_with fail
  refine hf.mono ?_
  rintro e w2 ⟨rfl, h2⟩
  obtain ⟨k1, k2⟩ := HEND.out w2 h2
  obtain ⟨f0, f1⟩ := two_cells2 k1
  obtain ⟨g0, g1, _, _⟩ := vc_free k1
  have HK1 : Hid (w2.heap[w.heap.size + 1]? = some (.cells #[.int .i64 0, .int .i64 0] 39 (0, 0))) := k1
  have HK2 : Hid (Below w.heap.size w w2) := k2
  clear hf k1 k2 h2 HEND
  go_wp2_with fail
  exact bodyPost_ret (v := .agg #[.int .i64 r1, .int .i64 r2]) (results_row (p := 4) (ty := 39) Tryd.results20 _ _ (w.heap.size + 1) 39 #[.int .i64 r1, .int .i64 r2] (0, 0) _ rfl (set2_same HK1.out) Tryd.underlying39 rfl (by rw [sizeFt]; rfl)) rfl ⟨rfl, (HK2.out.setCell (Nat.le_add_right _ _) _).setCell (Nat.le_add_right _ _) _⟩
end Go.Proofs.YtaakjhdbelefiaeDoor

namespace Go.Proofs.YtaakjhdbelefiaeDoor
open Go.RowKit Go.Maps
open Pl (Br Net Pc Lk En St)

theorem ft_neq (a b c d : Int) (W : World) : (binOp .neq 39 (.agg #[.int .i64 a, .int .i64 b]) (.agg #[.int .i64 c, .int .i64 d])).run Tryd.prog W = .ok (.bool (!decide (a = c ∧ b = d))) W := by
  by_cases h : a = c ∧ b = d
  · rw [decide_eq_true h]
    obtain ⟨rfl, rfl⟩ := h
    go_simp
  · rw [decide_eq_false h]
    go_simp
    exact fun p q => h ⟨p, q⟩
theorem ft4_cells {w : World} {g : Nat} {a0 a1 a2 a3 : Value} {ty : TypeId} (h : w.heap[g]? = some (.cells #[a0, a1, a2, a3] ty (0, 0))) : w.cell? ⟨g, 0, none⟩ = some a0 ∧ w.cell? ⟨g, 1, none⟩ = some a1 ∧ w.cell? ⟨g, 2, none⟩ = some a2 ∧ w.cell? ⟨g, 3, none⟩ = some a3 := vc_cells h
set_option maxRecDepth 100000 in
set_option maxHeartbeats 2000000 in
theorem corf2 (x1 x2 y1 y2 : Int) (g : Nat) (ty : TypeId) (w : World) (h : w.heap[g]? = some (.cells #[.int .i64 x1, .int .i64 x2, .int .i64 y1, .int .i64 y2] ty (0, 0))) (R1 R2 : Int) (hR : (R1, R2) = if x1 = 0 ∧ x2 = 0 then (y1, y2) else (x1, x2)) :
    Calls Tryd.prog 18 #[.slice (some ⟨g, 0, none⟩) 2 2] w fun e w' => e = .returned (.agg #[.int .i64 R1, .int .i64 R2]) ∧ Below w.heap.size w w' := by
  have hgl := (Array.getElem?_eq_some_iff.1 h).1
  obtain ⟨W0, HW0⟩ : ∃ W0, Hid (W0 = (w.alloc (.cells #[.int .i64 0, .int .i64 0] 39)).alloc (.cells #[.int .i64 0, .int .i64 0] 39)) := ⟨_, rfl⟩
  have hB0 : Below w.heap.size w W0 := by rw [HW0.out]; exact below_alloc2 _ _ _
  have h20 : W0.heap[w.heap.size]? = some (.cells #[.int .i64 0, .int .i64 0] 39 (0, 0)) := by rw [HW0.out]; exact heap_alloc2_old w _ _
  have h30 : W0.heap[w.heap.size + 1]? = some (.cells #[.int .i64 0, .int .i64 0] 39 (0, 0)) := by rw [HW0.out]; exact heap_alloc2_new w _ _
  have HC : Hid (∀ W, Below W0.heap.size W0 W → W.heap[g]? = some (.cells #[.int .i64 x1, .int .i64 x2, .int .i64 y1, .int .i64 y2] ty (0, 0)) ∧ W.heap[w.heap.size]? = some (.cells #[.int .i64 0, .int .i64 0] 39 (0, 0)) ∧ W.heap[w.heap.size + 1]? = some (.cells #[.int .i64 0, .int .i64 0] 39 (0, 0)) ∧ Below w.heap.size w W) := fun W hW =>
    ⟨keep (keep h hB0) hW, keep h20 hW, keep h30 hW, hB0.trans (hW.mono hB0.size)⟩
  have HNE : Hid (∀ a b W, (binOp .neq 39 (.agg #[.int .i64 a, .int .i64 b]) (.agg #[.int .i64 0, .int .i64 0])).run Tryd.prog W = .ok (.bool (!decide (a = 0 ∧ b = 0))) W) := fun a b W => ft_neq a b 0 0 W
  have HR : Hid ((R1, R2) = if x1 = 0 ∧ x2 = 0 then (y1, y2) else (x1, x2)) := hR
  clear h hB0 h20 h30 hR
  go_enter Tryd.func18, Tryd.ntmps18
  go_wp2_with fail
  rw [← HW0.out]
  go_loopw [8] (fun i wr => ∃ k : Nat, k ≤ 2 ∧ i = .int .i64 k ∧ Hid ((0 < k → x1 = 0 ∧ x2 = 0) ∧ (1 < k → y1 = 0 ∧ y2 = 0)) ∧ Hid (Below W0.heap.size W0 wr)) (fun i _ => 2 - (intOf i).toNat)
  case atStart => exact ⟨0, by omega, rfl, ⟨fun h => absurd h (by omega), fun h => absurd h (by omega)⟩, Below.refl _ _⟩
  case round =>
    obtain ⟨k, hk, rfl, hS, hX⟩ := hrel
    obtain ⟨j1, j2, j3, j4⟩ := HC.out wr hX.out
    by_cases hlt : k < 2
    · have pick : ∃ a b : Int, wr.cell? ⟨g, k * 2, none⟩ = some (.int .i64 a) ∧ wr.cell? ⟨g, k * 2 + 1, none⟩ = some (.int .i64 b) ∧ Hid ((a = 0 ∧ b = 0) → (0 < k + 1 → x1 = 0 ∧ x2 = 0) ∧ (1 < k + 1 → y1 = 0 ∧ y2 = 0)) ∧ Hid (¬ (a = 0 ∧ b = 0) → (R1, R2) = (a, b)) := by
        obtain ⟨c0, c1, c2, c3⟩ := ft4_cells j1
        rcases (by omega : k = 0 ∨ k = 1) with e | e <;> subst e
        · exact ⟨x1, x2, c0, c1, fun q => ⟨fun _ => q, fun h => absurd h (by omega)⟩, fun q => by rw [HR.out, if_neg q]⟩
        · exact ⟨y1, y2, c2, c3, fun q => ⟨fun _ => hS.out.1 (by omega), fun _ => q⟩, fun q => by rw [HR.out, if_pos (hS.out.1 (by omega))]⟩
      obtain ⟨a, b, c0, c1, HZ, HNZ⟩ := pick
      obtain ⟨X, HX⟩ : ∃ X, Hid (X = wr.alloc (.cells #[.int .i64 a, .int .i64 b] 39)) := ⟨_, rfl⟩
      have HXB : Hid (Below W0.heap.size W0 X) := by rw [HX.out]; exact hX.out.alloc hX.out.size _
      obtain ⟨i1, i2, i3, i4⟩ := HC.out X HXB.out
      obtain ⟨z0, z1⟩ := two_cells2 i3
      obtain ⟨r0, r1⟩ := two_cells2 i2
      obtain ⟨f0, f1, _, _⟩ := vc_free i2
      have HI2 : Hid (X.heap[w.heap.size]? = some (.cells #[.int .i64 0, .int .i64 0] 39 (0, 0))) := i2
      have HI4 : Hid (Below w.heap.size w X) := i4
      have b5 : X.heap[wr.heap.size]? = some (.cells #[.int .i64 a, .int .i64 b] 39 (0, 0)) := by rw [HX.out]; exact heap_alloc_last _ _
      obtain ⟨u0, u1⟩ := two_cells2 b5
      have hq := HNE.out a b X
      clear j1 j2 j3 j4 i1 i2 i3 i4 b5 hS hX HC HR
      by_cases h0 : a = 0 ∧ b = 0
      · have HZ1 : Hid _ := HZ.out h0
        obtain ⟨rfl, rfl⟩ := h0
        clear HZ HNZ hq
        rw [HX.out] at z0 z1 u0 u1
        go_wp2_with fail
        rw [← HX.out]
        exact ⟨⟨k + 1, by omega, by go_num, HZ1, HXB⟩, by simp [intOf]; omega⟩
      · have HZ1 : Hid ((R1, R2) = (a, b)) := HNZ.out h0
        clear HZ HNZ hq
        rw [HX.out] at z0 z1 u0 u1 r0 r1 f0 f1
        by_cases ha : a = 0
        · subst ha
          have hb : ¬ b = 0 := fun q => h0 ⟨rfl, q⟩
          clear h0
          go_wp2_with fail
          rw [← HX.out]
          exact bodyPost_ret (v := .agg #[.int .i64 0, .int .i64 b]) (results_row (p := 2) (ty := 39) Tryd.results18 _ _ w.heap.size 39 #[.int .i64 0, .int .i64 b] (0, 0) _ rfl (set2_same HI2.out) Tryd.underlying39 rfl (by rw [sizeFt]; rfl)) rfl ⟨by have := HZ1.out; injection this with t1 t2; rw [t1, t2], (HI4.out.setCell (Nat.le_refl _) _).setCell (Nat.le_refl _) _⟩
        · clear h0
          go_wp2_with fail
          rw [← HX.out]
          exact bodyPost_ret (v := .agg #[.int .i64 a, .int .i64 b]) (results_row (p := 2) (ty := 39) Tryd.results18 _ _ w.heap.size 39 #[.int .i64 a, .int .i64 b] (0, 0) _ rfl (set2_same HI2.out) Tryd.underlying39 rfl (by rw [sizeFt]; rfl)) rfl ⟨by have := HZ1.out; injection this with t1 t2; rw [t1, t2], (HI4.out.setCell (Nat.le_refl _) _).setCell (Nat.le_refl _) _⟩
    · obtain rfl : k = 2 := by omega
      have HZ1 : Hid ((R1, R2) = ((0 : Int), (0 : Int))) := by
        rw [HR.out, if_pos (hS.out.1 (by omega))]
        obtain ⟨e1, e2⟩ := hS.out.2 (by omega)
        rw [e1, e2]; rfl
      obtain ⟨r0, r1⟩ := two_cells2 j2
      obtain ⟨z0, z1⟩ := two_cells2 j3
      obtain ⟨f0, f1, _, _⟩ := vc_free j2
      have HI2 : Hid (wr.heap[w.heap.size]? = some (.cells #[.int .i64 0, .int .i64 0] 39 (0, 0))) := j2
      have HI4 : Hid (Below w.heap.size w wr) := j4
      clear j1 j2 j3 j4 hS hX HC HR
      go_wp2_with fail
      exact bodyPost_ret (v := .agg #[.int .i64 0, .int .i64 0]) (results_row (p := 2) (ty := 39) Tryd.results18 _ _ w.heap.size 39 #[.int .i64 0, .int .i64 0] (0, 0) _ rfl (set2_same HI2.out) Tryd.underlying39 rfl (by rw [sizeFt]; rfl)) rfl ⟨by have := HZ1.out; injection this with t1 t2; rw [t1, t2], (HI4.out.setCell (Nat.le_refl _) _).setCell (Nat.le_refl _) _⟩
namespace Pl
/-- Its numbers are numbers of their types. -/
structure Net.Wf (n : Net) : Prop where
  addr : ∀ i, i < n.K → (Lit.int .u64 (n.bs i).addr).wf = true
  link : ∀ i, i < n.L → (Lit.int .i64 (n.ls i).a).wf = true ∧ (Lit.int .i64 (n.ls i).pa).wf = true ∧ (Lit.int .i64 (n.ls i).b).wf = true ∧ (Lit.int .i64 (n.ls i).pb).wf = true
end Pl
set_option maxRecDepth 100000 in
set_option maxHeartbeats 4000000 in
theorem pwrong_any (n : Net) (w : World) (hat : n.at' w) (hwf : n.Wf) :
    Calls Tryd.prog 11 #[n.val] w fun e w' => e = .returned (.agg (ftA n.wrong)) ∧ Below w.heap.size w w' := by
  obtain ⟨bao, K, bcap, bs, lao, L, lcap, ls⟩ := n
  obtain ⟨hbr, heach, hlk, hmB, hmL⟩ := hat
  obtain ⟨hwa, hwl⟩ := hwf
  simp only at hbr heach hlk hmB hmL hwa hwl
  simp only [Pl.Net.val]
  have HE : Hid (Pl.Net.wrong ⟨bao, K, bcap, bs, lao, L, lcap, ls⟩ = if 12 < K ∨ 40 < L then (5, 0) else if (Pl.firstTo (Pl.bErr bs) K).1 ≠ 0 then Pl.firstTo (Pl.bErr bs) K else Pl.firstTo (Pl.lErr K ls) L) := rfl
  rw [HE.out]
  clear HE
  obtain ⟨X, HX⟩ : ∃ X, Hid (X = (w.alloc (.cells #[.slice bao K bcap, .slice lao L lcap] 25)).alloc (.cells #[.int .i64 0, .int .i64 0] 39)) := ⟨_, rfl⟩
  have hXB : Below w.heap.size w X := by rw [HX.out]; exact below_alloc2 _ _ _
  have hXn : X.heap[w.heap.size]? = some (.cells #[.slice bao K bcap, .slice lao L lcap] 25 (0, 0)) := by rw [HX.out]; exact heap_alloc2_old w _ _
  have hXf : X.heap[w.heap.size + 1]? = some (.cells #[.int .i64 0, .int .i64 0] 39 (0, 0)) := by rw [HX.out]; exact heap_alloc2_new w _ _
  have HC : Hid (∀ W, Below X.heap.size X W → (W.cell? ⟨w.heap.size, 0, none⟩ = some (.slice bao K bcap) ∧ W.cell? ⟨w.heap.size, 1, none⟩ = some (.slice lao L lcap)) ∧ (W.cell? ⟨w.heap.size + 1, 0, none⟩ = some (.int .i64 0) ∧ W.cell? ⟨w.heap.size + 1, 1, none⟩ = some (.int .i64 0)) ∧ W.frozen? ⟨w.heap.size + 1, 0, none⟩ = false ∧ W.frozen? ⟨w.heap.size + 1, 1, none⟩ = false) := fun W hW =>
    ⟨two_cells2 (keep hXn hW), two_cells2 (keep hXf hW), (vc_free (keep hXf hW)).1, (vc_free (keep hXf hW)).2.1⟩
  have HF : Hid (∀ W, Below X.heap.size X W → W.heap[w.heap.size + 1]? = some (.cells #[.int .i64 0, .int .i64 0] 39 (0, 0)) ∧ Below w.heap.size w W) := fun W hW => ⟨keep hXf hW, hXB.trans (hW.mono hXB.size)⟩
  obtain ⟨⟨c0, c1⟩, ⟨d0, d1⟩, e0, e1⟩ := HC.out X (Below.refl _ _)
  by_cases h12 : 12 < K
  · rw [if_pos (Or.inl h12)]
    have h12z : (12 : Int) < (K : Int) := by omega
    clear hbr heach hlk hwa hwl hXn hXf HC HF hXB
    rw [HX.out] at c0 c1 d0 d1 e0 e1
    go_enter Tryd.func11, Tryd.ntmps11
    go_wp2_with fail
    exact bodyPost_ret (v := .agg #[.int .i64 5, .int .i64 0]) (results_row (p := 2) (ty := 39) Tryd.results11 _ _ (w.heap.size + 1) 39 #[.int .i64 5, .int .i64 0] (0, 0) _ rfl (heap_alloc2_new w _ _) Tryd.underlying39 rfl (by rw [sizeFt]; rfl)) rfl ⟨rfl, below_alloc2 _ _ _⟩
  · have h12z : ¬ (12 : Int) < (K : Int) := by omega
    by_cases h40 : 40 < L
    · rw [if_pos (Or.inr h40)]
      have h40z : (40 : Int) < (L : Int) := by omega
      clear hbr heach hlk hwa hwl hXn hXf HC HF hXB
      rw [HX.out] at c0 c1 d0 d1 e0 e1
      go_enter Tryd.func11, Tryd.ntmps11
      go_wp2_with fail
      exact bodyPost_ret (v := .agg #[.int .i64 5, .int .i64 0]) (results_row (p := 2) (ty := 39) Tryd.results11 _ _ (w.heap.size + 1) 39 #[.int .i64 5, .int .i64 0] (0, 0) _ rfl (heap_alloc2_new w _ _) Tryd.underlying39 rfl (by rw [sizeFt]; rfl)) rfl ⟨rfl, below_alloc2 _ _ _⟩
    · rw [if_neg (fun q => by rcases q with q | q; exact h12 q; exact h40 q)]
      have h40z : ¬ (40 : Int) < (L : Int) := by omega
      have HWB : Hid (∀ W, Below X.heap.size X W → Calls Tryd.prog 19 #[.slice bao K bcap] W fun e w' => e = .returned (.agg (ftA (Pl.firstTo (Pl.bErr bs) K))) ∧ Hid (Below X.heap.size X w')) := fun W hW => by
        have hW2 : Below w.heap.size w W := hXB.trans (hW.mono hXB.size)
        refine (pwrongBridges_any bao K bcap bs W (by omega) (CRow.below hbr hW2) (fun i hi => (heach i hi).below hW2) hwa).mono ?_
        rintro e w' ⟨rfl, z⟩
        exact ⟨rfl, hW.trans (z.mono hW.size)⟩
      have HWL : Hid (∀ W, Below X.heap.size X W → Calls Tryd.prog 20 #[.slice lao L lcap, .int .i64 K] W fun e w' => e = .returned (.agg (ftA (Pl.firstTo (Pl.lErr K ls) L))) ∧ Hid (Below X.heap.size X w')) := fun W hW => by
        have hW2 : Below w.heap.size w W := hXB.trans (hW.mono hXB.size)
        refine (pwrongLinks_any lao L lcap ls K (by omega) W (by omega) (CRow.below hlk hW2) hwl).mono ?_
        rintro e w' ⟨rfl, z⟩
        exact ⟨rfl, hW.trans (z.mono hW.size)⟩
      have HEQ : Hid ((if (Pl.firstTo (Pl.bErr bs) K).1 ≠ 0 then Pl.firstTo (Pl.bErr bs) K else Pl.firstTo (Pl.lErr K ls) L) = if (Pl.firstTo (Pl.bErr bs) K).1 = 0 ∧ (Pl.firstTo (Pl.bErr bs) K).2 = 0 then ((Pl.firstTo (Pl.lErr K ls) L).1, (Pl.firstTo (Pl.lErr K ls) L).2) else ((Pl.firstTo (Pl.bErr bs) K).1, (Pl.firstTo (Pl.bErr bs) K).2)) := by
        show (if _ then _ else _) = _
        by_cases q : (Pl.firstTo (Pl.bErr bs) K).1 = 0
        · rw [if_neg (fun p => p q), if_pos ⟨q, by rw [(Pl.firstTo_zero _ _ q).1]⟩]
        · rw [if_pos q, if_neg (fun p => q p.1)]
      clear hbr heach hlk hwa hwl hXn hXf hXB
      generalize Pl.firstTo (Pl.bErr bs) K = x at *
      generalize Pl.firstTo (Pl.lErr K ls) L = y at *
      obtain ⟨x1, x2⟩ := x
      obtain ⟨y1, y2⟩ := y
      generalize (if (x1, x2).1 ≠ 0 then (x1, x2) else (y1, y2)) = R at *
      obtain ⟨R1, R2⟩ := R
      simp only [ftA] at *
      have HOR : Hid (∀ (g : Nat) (ty : TypeId) (W : World), Below X.heap.size X W → W.heap[g]? = some (.cells #[.int .i64 x1, .int .i64 x2, .int .i64 y1, .int .i64 y2] ty (0, 0)) → Calls Tryd.prog 18 #[.slice (some ⟨g, 0, none⟩) 2 2] W fun e w' => e = .returned (.agg #[.int .i64 R1, .int .i64 R2]) ∧ Hid (Below X.heap.size X w')) := fun g ty W hW h => by
        refine (corf2 x1 x2 y1 y2 g ty W h R1 R2 HEQ.out).mono ?_
        rintro e w' ⟨rfl, z⟩
        exact ⟨rfl, hW.trans (z.mono hW.size)⟩
      have HXX : Hid (Below X.heap.size X X.drew) := Below.drew (Below.refl _ _)
      clear HEQ
      rw [HX.out] at c0 c1
      go_enter Tryd.func11, Tryd.ntmps11
      go_wp2_with fail
      rw [← HX.out] at c0 c1 ⊢
      go_region_with (first | (go_at_call 19; (with_reducible refine (HWB.out _ (by first | exact (Below.refl _ _).drew | exact below_drewN (Below.refl _ _) _ | exact Below.refl _ _)).mono ?_); rintro e w1 ⟨rfl, Hw1⟩; obtain ⟨⟨k0, k1⟩, ⟨m0, m1⟩, n0, n1⟩ := HC.out w1 Hw1.out) | (go_at_call 20; (with_reducible refine (HWL.out _ (by first | exact Hw1.out | exact Hw1.out.drew | exact below_drewN Hw1.out _)).mono ?_); rintro e w2 ⟨rfl, Hw2⟩; obtain ⟨⟨k0, k1⟩, ⟨m0, m1⟩, n0, n1⟩ := HC.out w2 Hw2.out) | (go_at_call 18; refine (HOR.out _ _ _ (Hw2.out.alloc Hw2.out.size _) (heap_alloc_last _ _)).mono ?_; rintro e w3 ⟨rfl, Hw3⟩; obtain ⟨⟨k0, k1⟩, ⟨m0, m1⟩, n0, n1⟩ := HC.out w3 Hw3.out))
      all_goals go_wp2_with fail
      all_goals exact bodyPost_ret (v := .agg #[.int .i64 R1, .int .i64 R2]) (results_row (p := 2) (ty := 39) Tryd.results11 _ _ (w.heap.size + 1) 39 #[.int .i64 R1, .int .i64 R2] (0, 0) _ rfl (set2_same (HF.out _ Hw3.out).1) Tryd.underlying39 rfl (by rw [sizeFt]; rfl)) rfl ⟨rfl, ((HF.out _ Hw3.out).2.setCell (Nat.le_add_right _ _) _).setCell (Nat.le_add_right _ _) _⟩
end Go.Proofs.YtaakjhdbelefiaeDoor
