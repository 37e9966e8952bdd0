/- walks: package talk's firstMind; two and three results in boxes -/
import Derived.Test.YtaneiffnhphkhaaGreatDoorQ31
import Derived.Test.YtaneiffnhphkhaaGreatDoorQ30
import Derived.Test.YtaneiffnhphkhaaGreatDoorQ13
import Derived.Test.YtaneiffnhphkhaaGreatDoorQ20
import Derived.Test.YtaneiffnhphkhaaGreatDoorQ29
import Derived.Test.YtaneiffnhphkhaaGreatDoorQ12
namespace Go.Proofs.YtaneiffnhphkhaaGreatDoor
namespace Tk
open Vc (V Of)
open Pl (Lk En St fin offs RightL ends)
def calmTo (l : Nat → Dn) : Nat → Int
 | 0 => 40
 | k + 1 => if (l k).kind = 1 then (if calmTo l k + (l k).n < 40 then calmTo l k + (l k).n else 40) else 0
def Apart (l : Nat → Dn) (n : Nat) : Prop := ∀ k, k < n → (l k).kind ≠ 1 → calmTo l k < 40 → k = 0 ∨ (l (k - 1)).kind ≠ 1
theorem Sc.one_tick {s : Sc} {c : Cn} {d : Dn} (h : d.kind = 1) : s.one c d = s.ticks c d.n.toNat := by unfold Sc.one; rw [if_pos h]
theorem Sc.one_ms {s : Sc} {c : Cn} {d : Dn} (h : d.kind ≠ 1) : (s.one c d).ms = s.ms := by
 unfold Sc.one
 rw [if_neg h]
 split
 ·rfl
 ·split
  ·rfl
  ·split <;> rfl
theorem err_tick {c : Cn} {d : Dn} (h : d.kind = 1) (he : errOf c d = 0) : 0 ≤ d.n ∧ d.n ≤ 200 := by
 unfold errOf at he
 rw [if_pos h] at he
 by_cases q : 0 ≤ d.n ∧ d.n ≤ 200
 ·exact q
 ·rw [if_neg q] at he; omega
theorem hist {c : Cn} {s : Sc} {T : Nat} (h : Ok c s T) (h0 : ∀ k, k < T → ∀ i, i < c.K → ∀ j, (s.ms k i).calm.getD j 0 = 0) (l : Nat → Dn) (l0 : (l 0).kind = 1 ∧ 40 ≤ (l 0).n) (n : Nat) (ha : Apart l n) (he : ∀ k, k < n → errOf c (l k) = 0) :
  ∀ m, m ≤ n → ∃ b t, Before c b T ∧ Fine c b ∧ s.all c l m = b.ticks c t ∧ (1 ≤ m → calmTo l m ≤ t) ∧ (1 ≤ m → (l (m - 1)).kind ≠ 1 → t = 0)
 | 0, _ => ⟨s, 0, ⟨s, h, fun _ _ => ⟨rfl, rfl, rfl, rfl⟩, rfl, Or.inr h0⟩, h.fine, rfl, fun q => by omega, fun q => by omega⟩
 | m + 1, hm => by
  obtain ⟨b, t, hB, hF, hs, hc, hz⟩ := hist h h0 l l0 n ha he m (by omega)
  have hOk := Ok.all h l m (fun k hk => he k (by omega))
  by_cases k1 : (l m).kind = 1
  ·have hn := err_tick k1 (he m (by omega))
   refine ⟨b, t + (l m).n.toNat, hB, hF, ?_, fun _ => ?_, fun _ q => absurd k1 q⟩
   ·show (s.all c l m).one c (l m) = _
    rw [Sc.one_tick k1, hs, Sc.ticks_add]
   ·show calmTo l (m + 1) ≤ _
    simp only [calmTo]
    rw [if_pos k1]
    by_cases e : m = 0
    ·subst e
     have := l0.2
     split <;> omega
    ·have := hc (by omega)
     split <;> omega
  ·have hm1 : 1 ≤ m := by
    rcases Nat.eq_zero_or_pos m with e | e
    ·subst e; exact absurd l0.1 k1
    ·exact e
   obtain ⟨f1, f2⟩ := hOk.fine.one (l m) (he m (by omega))
   refine ⟨(s.all c l m).one c (l m), 0, ?_, f1, rfl, fun _ => ?_, fun _ _ => rfl⟩
   ·by_cases hcal : calmTo l m < 40
    ·have := ha m (by omega) k1 hcal
     have t0 : t = 0 := hz hm1 (by omega)
     subst t0
     have e : s.all c l m = b := hs
     rw [e] at f2 ⊢
     obtain ⟨a, a1, a2, a3, a4⟩ := hB
     refine ⟨a, a1, fun k hk => ?_, by rw [Sc.one_ms k1]; exact a3, a4⟩
     obtain ⟨x1, x2, x3, x4⟩ := a2 k hk
     obtain ⟨y1, y2, y3, y4⟩ := f2 k hk
     exact ⟨y1.trans x1, y2.trans x2, y3.trans x3, y4.trans x4⟩
    ·have ht := hc hm1
     refine ⟨s.all c l m, hOk, f2, Sc.one_ms k1, Or.inl (fun k _ => ?_)⟩
     rw [hs]
     exact hF.settles (by omega) k
   ·simp only [calmTo]
    rw [if_neg k1]
    exact Int.le_refl _
theorem never {c : Cn} {s : Sc} {T : Nat} (h : Ok c s T) (h0 : ∀ k, k < T → ∀ i, i < c.K → ∀ j, (s.ms k i).calm.getD j 0 = 0) (l : Nat → Dn) (l0 : (l 0).kind = 1 ∧ 40 ≤ (l 0).n) (n : Nat) (ha : Apart l n) (he : ∀ k, k < n → errOf c (l k) = 0) (q : Nat) {k : Nat} (hk : k < T) : NoRing c ((s.all c l n).ticks c q) k := by
 obtain ⟨b, t, hB, hF, hs, _⟩ := hist h h0 l l0 n ha he n (Nat.le_refl _)
 rw [hs, Sc.ticks_add]
 exact hB.rings hF _ hk
theorem all_add (s : Sc) (c : Cn) (l m : Nat → Dn) (a : Nat) : ∀ b, (s.all c l a).all c m b = s.all c (fun k => if k < a then l k else m (k - a)) (a + b)
 | 0 => by
  show s.all c l a = _
  have : ∀ n, n ≤ a → s.all c l n = s.all c (fun k => if k < a then l k else m (k - a)) n := by
   intro n
   induction n with
   | zero => intro _; rfl
   | succ n ih => intro hn; simp only [Sc.all]; rw [ih (by omega), if_pos (by omega)]
  exact this a (Nat.le_refl _)
 | b + 1 => by
  show ((s.all c l a).all c m b).one c (m b) = (s.all c _ (a + b)).one c ((fun k => if k < a then l k else m (k - a)) (a + b))
  rw [all_add s c l m a b]
  simp only
  rw [if_neg (by omega), show a + b - a = b by omega]
theorem all_congr (s : Sc) (c : Cn) {l m : Nat → Dn} : ∀ n, (∀ k, k < n → l k = m k) → s.all c l n = s.all c m n
 | 0, _ => rfl
 | n + 1, h => by simp only [Sc.all]; rw [all_congr s c n (fun k hk => h k (by omega)), h n (by omega)]
theorem all_last (s : Sc) (c : Cn) (l : Nat → Dn) (n : Nat) (d : Dn) : s.all c (fun k => if k < n then l k else d) (n + 1) = (s.all c l n).one c d := by
 show (s.all c _ n).one c _ = _
 rw [all_congr s c n (m := l) (fun k hk => if_pos hk)]
 simp only
 rw [if_neg (by omega)]
theorem one_trees {s t : Sc} (c : Cn) {T : Nat} (hp : t.pr = s.pr) (hl : t.ls = s.ls) (hm : ∀ k, k < T → t.ms k = s.ms k) (d : Dn) : (t.one c d).pr = (s.one c d).pr ∧ (t.one c d).ls = (s.one c d).ls ∧ ∀ k, k < T → (t.one c d).ms k = (s.one c d).ms k := by
 obtain ⟨p, ls, ms⟩ := t
 obtain ⟨p', ls', ms'⟩ := s
 simp only at hp hl hm
 subst hp
 subst hl
 by_cases k1 : d.kind = 1
 ·rw [Sc.one_tick k1, Sc.one_tick k1]
  refine ⟨rfl, rfl, fun k hk => ?_⟩
  show ticksF _ _ (ms k) _ = ticksF _ _ (ms' k) _
  rw [hm k hk]
  rfl
 ·rw [Sc.one_ms k1, Sc.one_ms k1]
  unfold Sc.one
  rw [if_neg k1, if_neg k1]
  refine ⟨?_, ?_, hm⟩
  ·split
   ·rfl
   ·split
    ·rfl
    ·split <;> rfl
  ·split
   ·rfl
   ·split
    ·rfl
    ·split <;> rfl
theorem all_trees {s t : Sc} (c : Cn) {T : Nat} (hp : t.pr = s.pr) (hl : t.ls = s.ls) (hm : ∀ k, k < T → t.ms k = s.ms k) (l : Nat → Dn) : ∀ n, (t.all c l n).pr = (s.all c l n).pr ∧ (t.all c l n).ls = (s.all c l n).ls ∧ ∀ k, k < T → (t.all c l n).ms k = (s.all c l n).ms k
 | 0 => ⟨hp, hl, hm⟩
 | n + 1 => by
  obtain ⟨h1, h2, h3⟩ := all_trees c hp hl hm l n
  exact one_trees c h1 h2 h3 (l n)
def Aged (x : Nat → Mnd) (K : Nat) : Prop := ∀ i, i < K → (0 ≤ (x i).md.age ∧ (x i).md.age ≤ 20) ∧ ((x i).md.age = 0 ↔ (x i).md.rp < 0) ∧ ((x i).md.v.root = (x i).md.v.bridge ↔ (x i).md.rp < 0)
theorem ticksF_aged {ids : Nat → Int} {E : Nat → List En} {K : Nat} {x : Nat → Mnd} (h : Aged x K) : ∀ t, Aged (ticksF ids E x t) K
 | 0 => h
 | t + 1 => fun i _ => by
  have := chM_own (ids i) (heard (E i) (fun j => (ticksF ids E x t j).md))
  simp only [ticksF, tickF]
  exact ⟨this.2.2.1, this.2.2.2.1, by rw [this.1]; exact this.2.2.2.2.1⟩
theorem all_aged {s : Sc} (c : Cn) {T : Nat} (h : ∀ k, k < T → Aged (s.ms k) c.K) (l : Nat → Dn) : ∀ n, ∀ k, k < T → Aged ((s.all c l n).ms k) c.K
 | 0 => h
 | n + 1 => fun k hk => by
  show Aged (((s.all c l n).one c (l n)).ms k) c.K
  by_cases k1 : (l n).kind = 1
  ·rw [Sc.one_tick k1]; exact ticksF_aged (all_aged c h l n k hk) _
  ·rw [Sc.one_ms k1]; exact all_aged c h l n k hk
end Tk
end Go.Proofs.YtaneiffnhphkhaaGreatDoor
namespace Go.Proofs.YtaneiffnhphkhaaGreatDoor
open Go.RowKit
open Tk (Dn)
def calmW (l : Nat → Dn) : Nat → Int
 | 0 => 40
 | k + 1 => if (l k).kind = 1 then min (wrap64 (calmW l k + (l k).n)) 40 else 0
def soonW (l : Nat → Dn) (k : Nat) : Bool := decide ((l k).kind ≠ 1) && (decide (calmW l k < 40) && (decide (0 < k) && decide ((l (k - 1)).kind = 1)))
def apW (l : Nat → Dn) : Nat → Bool
 | 0 => true
 | k + 1 => apW l k && !soonW l k
theorem apW_at {l : Nat → Dn} : ∀ {n : Nat}, apW l n = true → ∀ k, k < n → soonW l k = false
 | 0, _, k, hk => by omega
 | n + 1, h, k, hk => by
  have h : (apW l n && !soonW l n) = true := h
  rw [Bool.and_eq_true, Bool.not_eq_true'] at h
  by_cases e : k = n
  ·rw [e]; exact h.2
  ·exact apW_at h.1 k (by omega)
theorem apW_no {l : Nat → Dn} {k n : Nat} (hk : k < n) (h : soonW l k = true) : apW l n = false := by
 cases e : apW l n with
 | false => rfl
 | true => rw [apW_at e k hk] at h; cases h
theorem calmW_eq {l : Nat → Dn} {n : Nat} (h : ∀ k, k < n → (l k).kind = 1 → 0 ≤ (l k).n ∧ (l k).n ≤ 200) : ∀ k, k ≤ n → calmW l k = Tk.calmTo l k ∧ 0 ≤ calmW l k ∧ calmW l k ≤ 40
 | 0, _ => ⟨rfl, by show (0 : Int) ≤ 40; omega, Int.le_refl _⟩
 | k + 1, hk => by
  obtain ⟨h1, h2, h3⟩ := calmW_eq h k (by omega)
  show (if (l k).kind = 1 then min (wrap64 (calmW l k + (l k).n)) 40 else 0) = (if (l k).kind = 1 then (if Tk.calmTo l k + (l k).n < 40 then Tk.calmTo l k + (l k).n else 40) else 0) ∧ 0 ≤ (if (l k).kind = 1 then min (wrap64 (calmW l k + (l k).n)) 40 else 0) ∧ (if (l k).kind = 1 then min (wrap64 (calmW l k + (l k).n)) 40 else 0) ≤ 40
  by_cases e : (l k).kind = 1
  ·obtain ⟨h4, h5⟩ := h k (by omega) e
   have ew : wrap64 (calmW l k + (l k).n) = calmW l k + (l k).n := by unfold wrap64; omega
   rw [if_pos e, if_pos e, ew, ← h1]
   by_cases q : calmW l k + (l k).n < 40
   ·rw [if_pos q]; omega
   ·rw [if_neg q]; omega
  ·rw [if_neg e, if_neg e]
   omega
theorem apart_of {l : Nat → Dn} {n m : Nat} (h : apW l n = true) (hm : m ≤ n) (hv : ∀ k, k < m → (l k).kind = 1 → 0 ≤ (l k).n ∧ (l k).n ≤ 200) : Tk.Apart l m := by
 intro k hk h1 h2
 have hs := apW_at h k (by omega)
 rw [← (calmW_eq hv k (by omega)).1] at h2
 unfold soonW at hs
 rw [decide_eq_true h1, decide_eq_true h2, Bool.true_and, Bool.true_and] at hs
 by_cases e : k = 0
 ·exact Or.inl e
 ·rw [decide_eq_true (show 0 < k by omega), Bool.true_and] at hs
  exact Or.inr (of_decide_eq_false hs)
set_option maxRecDepth 100000 in
set_option maxHeartbeats 4000000 in
theorem tapart_any (dao : Option Addr) (dn dcap : Nat) (ds : Nat → Dn) (w : World) (hdn : dn ≤ 9223372036854775807) (hds : DRow w dao dn dcap ds) :
  Calls Tryz.prog 25 #[.slice dao dn dcap] w fun e w' => e = .returned (.bool (apW ds dn)) ∧ Below w.heap.size w w' := by
 have HR : Hid (∀ V, Below w.heap.size w V → DRow V dao dn dcap ds) := fun V hV => CRow.below hds hV
 have hcap := hds.1
 clear hds
 go_enter Tryz.func25, Tryz.ntmps25
 go_wp2_with fail
 go_loopw [3, 8] (fun s3 s8 wr => ∃ j : Nat, j ≤ dn ∧ s8 = .int .i64 j ∧ s3 = .int .i64 (calmW ds j) ∧ Hid (apW ds j = true ∧ Below w.heap.size w wr)) (fun _ s8 _ => dn - (intOf s8).toNat)
 case atStart => exact ⟨0, by omega, rfl, rfl, rfl, Below.refl _ _⟩
 case round =>
  obtain ⟨j, hj, rfl, rfl, hB⟩ := hrel
  by_cases hlt : j < dn
  ·have hi : (j : Int) < (dn : Int) := by omega
   have hi0 : (0 : Int) ≤ (j : Int) := by omega
   have hrow := HR.out wr hB.out.2
   obtain ⟨b, off, ea, _⟩ := CRow.some hrow (by omega)
   subst ea
   obtain ⟨c0, c1, c2, c3⟩ := DRow.cells hrow hlt
   have wj : IntKind.i64.wrap ((j : Int) + 1) = ((j + 1 : Nat) : Int) := by rw [IntKind.wrap_i64]; omega
   have HCW : Hid (calmW ds (j + 1) = if (ds j).kind = 1 then min (wrap64 (calmW ds j + (ds j).n)) 40 else 0) := rfl
   have HAP : Hid (apW ds (j + 1) = (apW ds j && !soonW ds j)) := rfl
   have HY : Hid (∀ o, Below w.heap.size w (wr.alloc o)) := fun o => hB.out.2.trans ((below_alloc1 wr o).mono hB.out.2.size)
   by_cases hk : (ds j).kind = 1
   ·have hs : soonW ds j = false := by unfold soonW; rw [decide_eq_false (fun z => z hk)]; rfl
    have HA : Hid (apW ds (j + 1) = true) := by show _ = _; rw [HAP.out, hB.out.1, hs]; rfl
    have HC : Hid (calmW ds (j + 1) = min (wrap64 (calmW ds j + (ds j).n)) 40) := by show _ = _; rw [HCW.out, if_pos hk]
    rw [hk] at c0
    clear HCW HAP hB hs hk
    go_wp2_with fail
    exact ⟨⟨j + 1, by omega, by go_num, by rw [HC.out], HA.out, HY.out _⟩, by simp [intOf]; omega⟩
   ·have HC : Hid (calmW ds (j + 1) = 0) := by show _ = _; rw [HCW.out, if_neg hk]
    by_cases h1 : calmW ds j < 40
    ·by_cases h2 : 0 < j
     ·obtain ⟨p, hp⟩ : ∃ p, j = p + 1 := ⟨j - 1, by omega⟩
      obtain ⟨k0, _⟩ := DRow.cells hrow (show p < dn by omega)
      have k1 : ∀ o, (wr.alloc o).cell? ⟨b, off + p * 4, none⟩ = some (.int .i64 (ds p).kind) := fun o => (DRow.cells (HR.out _ (HY.out o)) (show p < dn by omega)).1
      have wp : IntKind.i64.wrap ((j : Int) - 1) = (p : Int) := by rw [IntKind.wrap_i64]; omega
      have hp1 : (p : Int) < (dn : Int) := by omega
      have h2i : (0 : Int) < (j : Int) := by omega
      by_cases h3 : (ds p).kind = 1
      ·have hs : soonW ds j = true := by
        unfold soonW
        rw [decide_eq_true hk, decide_eq_true h1, decide_eq_true h2, hp]
        exact decide_eq_true h3
       have HF : Hid (apW ds dn = false) := apW_no hlt hs
       rw [h3] at k1
       clear HCW HAP hB hp hs
       go_wp2_with fail
       go_ret
       exact ⟨by rw [HF.out]; rfl, HY.out _⟩
      ·have hs : soonW ds j = false := by
        unfold soonW
        rw [decide_eq_true hk, decide_eq_true h1, decide_eq_true h2, hp]
        exact decide_eq_false h3
       have HA : Hid (apW ds (j + 1) = true) := by show _ = _; rw [HAP.out, hB.out.1, hs]; rfl
       clear HCW HAP hB hp hs
       go_wp2_with fail
       exact ⟨⟨j + 1, by omega, by go_num, by rw [HC.out], HA.out, HY.out _⟩, by simp [intOf]; omega⟩
     ·have hs : soonW ds j = false := by unfold soonW; rw [decide_eq_false h2]; simp
      have HA : Hid (apW ds (j + 1) = true) := by show _ = _; rw [HAP.out, hB.out.1, hs]; rfl
      have h2i : ¬ (0 : Int) < (j : Int) := by omega
      clear HCW HAP hB hs h2
      go_wp2_with fail
      exact ⟨⟨j + 1, by omega, by go_num, by rw [HC.out], HA.out, HY.out _⟩, by simp [intOf]; omega⟩
    ·have hs : soonW ds j = false := by unfold soonW; rw [decide_eq_false h1]; simp
     have HA : Hid (apW ds (j + 1) = true) := by show _ = _; rw [HAP.out, hB.out.1, hs]; rfl
     clear HCW HAP hB hs
     go_wp2_with fail
     exact ⟨⟨j + 1, by omega, by go_num, by rw [HC.out], HA.out, HY.out _⟩, by simp [intOf]; omega⟩
  ·obtain rfl : j = dn := by omega
   have HA : Hid (apW ds j = true ∧ Below w.heap.size w wr) := hB
   have hi : ¬ (j : Int) < (j : Int) := by omega
   clear hB HR
   go_wp2_with fail
   go_ret
   exact ⟨by rw [HA.out.1]; rfl, HA.out.2⟩
end Go.Proofs.YtaneiffnhphkhaaGreatDoor
namespace Go.Proofs.YtaneiffnhphkhaaGreatDoor
open Go.RowKit
open Tk (lab7 ring7)
def prC (es : Nat → Nat × Nat) (q j : Nat) : Value := if j = 0 then .int .i64 ((es q).1 : Int) else .int .i64 ((es q).2 : Int)
theorem ring7_up {es : Nat → Nat × Nat} {k : Nat} (h : ring7 es k = true) : ∀ n, k ≤ n → ring7 es n = true := by
 intro n hn
 induction n with
 | zero =>
  obtain rfl : k = 0 := by omega
  exact h
 | succ n ih =>
  by_cases e : k = n + 1
  ·rw [← e]; exact h
  ·show (ring7 es n || decide (lab7 es n (es n).1 = lab7 es n (es n).2)) = true
   rw [ih (by omega)]
   rfl
theorem lab7_lt {es : Nat → Nat × Nat} {K n : Nat} (he : ∀ q, q < n → (es q).1 < K ∧ (es q).2 < K) : ∀ k, k ≤ n → ∀ i, i < K → lab7 es k i < K
 | 0, _, _, hi => hi
 | k + 1, hk, i, hi => by
  show (if lab7 es k i = lab7 es k (es k).1 then lab7 es k (es k).2 else lab7 es k i) < K
  split
  ·exact lab7_lt he k (by omega) _ (he k (by omega)).2
  ·exact lab7_lt he k (by omega) _ hi
theorem rl_below {W W' : World} {g n : Nat} {f : Nat → Int} (h : RlAt W g n f) (hb : Below W.heap.size W W') : RlAt W' g n f := keep h hb
set_option maxRecDepth 100000 in
set_option maxHeartbeats 4000000 in
theorem tring_any (K m cap : Nat) (ao : Option Addr) (es : Nat → Nat × Nat) (w : World) (hK : K ≤ 1000) (hm : m ≤ 1000) (hr : CRow w ao m cap 2 (prC es)) (he : ∀ q, q < m → (es q).1 < K ∧ (es q).2 < K) :
  Calls Tryz.prog 26 #[.int .i64 (K : Int), .slice ao m cap] w fun e w' => e = .returned (.bool (ring7 es m)) ∧ Below w.heap.size w w' := by
 have HR : Hid (∀ V, Below w.heap.size w V → CRow V ao m cap 2 (prC es)) := fun V hV => CRow.below hr hV
 have hcap := hr.1
 have HE : Hid (∀ q, q < m → (es q).1 < K ∧ (es q).2 < K) := he
 clear hr he
 obtain ⟨G, HG⟩ : ∃ G, Hid (G = w.heap.size) := ⟨_, rfl⟩
 have hmk : (Instr.makeSlice 59 (.int .i64 (K : Int)) (.int .i64 (K : Int))).run Tryz.prog w = .ok (.slice (some ⟨w.heap.size, 0, none⟩) K K) (w.alloc (.cells (rowC K 1 (fun _ _ => .int .i64 0)) 3)) := make_rowD w 59 3 (.int .i64 0) 1 8 K Tryz.underlying59 (show (Tryz.prog.info? 3).map (fun i => (i.zero, i.size, i.bytes)) = some (some (.int .i64 0), 1, 8) by kernel_rfl) (by omega) rfl hK (by omega) _ (fun _ j hj => by rw [show j = 0 by omega]; rfl)
 obtain ⟨X, HX⟩ : ∃ X, Hid (X = w.alloc (.cells (rowC K 1 (fun _ _ => .int .i64 0)) 3)) := ⟨_, rfl⟩
 have H0 : Hid (RlAt X G K (fun q => if q < 0 then (q : Int) else 0) ∧ Below w.heap.size w X) := by
  rw [HX.out, HG.out]
  exact ⟨by unfold RlAt; rw [heap_alloc_last]; rfl, below_alloc1 _ _⟩
 go_enter Tryz.func26, Tryz.ntmps26
 go_wp2_with fail
 rw [← HX.out]
 rw [← HG.out]
 go_loopw [16] (fun i wr => ∃ j : Nat, j ≤ K ∧ i = .int .i64 j ∧ Hid (RlAt wr G K (fun q => if q < j then (q : Int) else 0) ∧ Below w.heap.size w wr)) (fun i _ => K - (intOf i).toNat)
 case atStart => exact ⟨0, by omega, rfl, H0⟩
 case round =>
  obtain ⟨j, hj, rfl, hB⟩ := hrel
  clear H0 hmk
  by_cases hlt : j < K
  ·have hi : (j : Int) < (K : Int) := by omega
   have hi0 : (0 : Int) ≤ (j : Int) := by omega
   obtain ⟨c0, f0⟩ := hB.out.1.cell hlt
   have wj : IntKind.i64.wrap ((j : Int) + 1) = ((j + 1 : Nat) : Int) := by rw [IntKind.wrap_i64]; omega
   have HN : Hid (RlAt (wr.setCell ⟨G, j, none⟩ (.int .i64 (j : Int))) G K (fun q => if q < j + 1 then (q : Int) else 0) ∧ Below w.heap.size w (wr.setCell ⟨G, j, none⟩ (.int .i64 (j : Int)))) := by
    refine ⟨(hB.out.1.set hlt (j : Int)).congr (fun i hi => ?_), hB.out.2.setCell (by rw [HG.out]; exact Nat.le_refl _) _⟩
    by_cases e : i = j
    ·subst e
     rw [if_pos rfl, if_pos (by omega)]
    ·rw [if_neg e]
     by_cases e2 : i < j
     ·rw [if_pos e2, if_pos (by omega)]
     ·rw [if_neg e2, if_neg (by omega)]
   clear hB
   go_wp2_with fail
   exact ⟨⟨j + 1, by omega, by go_num, HN⟩, by simp [intOf]; omega⟩
  ·obtain rfl : j = K := by omega
   have hi : ¬ (j : Int) < (j : Int) := by omega
   have H1 : Hid (RlAt wr G j (fun q => ((lab7 es 0 q : Nat) : Int)) ∧ Below w.heap.size w wr) := ⟨hB.out.1.congr (fun i hi => by rw [if_pos hi]; rfl), hB.out.2⟩
   clear hB
   go_wp2_with fail
   go_loopw [26] (fun i wr => ∃ k : Nat, k ≤ m ∧ i = .int .i64 k ∧ Hid (ring7 es k = false ∧ RlAt wr G j (fun q => ((lab7 es k q : Nat) : Int)) ∧ Below w.heap.size w wr)) (fun i _ => m - (intOf i).toNat)
   case atStart => exact ⟨0, by omega, rfl, rfl, H1.out⟩
   case round =>
    obtain ⟨k, hk, rfl, hB⟩ := hrel
    clear H1
    by_cases hlk : k < m
    ·have hk1 : (k : Int) < (m : Int) := by omega
     have hk0 : (0 : Int) ≤ (k : Int) := by omega
     have hrow := HR.out wr hB.out.2.2
     obtain ⟨b, off, ea, _⟩ := CRow.some hrow (by omega)
     subst ea
     obtain ⟨b', off', ee, _, hc⟩ := hrow.2 (by omega)
     cases ee
     obtain ⟨a0, ha0⟩ : ∃ a0, a0 = (es k).1 := ⟨_, rfl⟩
     obtain ⟨b0, hb0⟩ : ∃ b0, b0 = (es k).2 := ⟨_, rfl⟩
     have c0 : wr.cell? ⟨b, off + k * 2, none⟩ = some (.int .i64 (a0 : Int)) := by rw [ha0]; exact hc k hlk 0 (by omega)
     have c1 : wr.cell? ⟨b, off + k * 2 + 1, none⟩ = some (.int .i64 (b0 : Int)) := by rw [hb0]; exact hc k hlk 1 (by omega)
     have hal : a0 < j := by rw [ha0]; exact (HE.out k hlk).1
     have hbl : b0 < j := by rw [hb0]; exact (HE.out k hlk).2
     obtain ⟨Y, HY⟩ : ∃ Y, Hid (Y = wr.alloc (.cells #[.int .i64 (a0 : Int), .int .i64 (b0 : Int)] 98)) := ⟨_, rfl⟩
     have hYB : Below wr.heap.size wr Y := by rw [HY.out]; exact below_alloc1 _ _
     have hYx : Y.heap[wr.heap.size]? = some (.cells #[.int .i64 (a0 : Int), .int .i64 (b0 : Int)] 98 (0, 0)) := by rw [HY.out]; exact heap_alloc_last _ _
     obtain ⟨q, HQ⟩ : ∃ q, Hid (q = wr.heap.size) := ⟨_, rfl⟩
     have y0 : Y.cell? ⟨q, 0, none⟩ = some (.int .i64 (a0 : Int)) := by rw [HQ.out]; exact cell_of_row _ _ 0 _ _ _ hYx
     have y1 : Y.cell? ⟨q, 1, none⟩ = some (.int .i64 (b0 : Int)) := by rw [HQ.out]; exact cell_of_row _ _ 1 _ _ _ hYx
     have hrl := rl_below hB.out.2.1 hYB
     obtain ⟨A, hA⟩ : ∃ A, A = lab7 es k a0 := ⟨_, rfl⟩
     obtain ⟨B, hBB⟩ : ∃ B, B = lab7 es k b0 := ⟨_, rfl⟩
     have g0 : Y.cell? ⟨G, a0, none⟩ = some (.int .i64 (A : Int)) := by rw [hA]; exact (hrl.cell hal).1
     have g1 : Y.cell? ⟨G, b0, none⟩ = some (.int .i64 (B : Int)) := by rw [hBB]; exact (hrl.cell hbl).1
     have ia : (a0 : Int) < (j : Int) := by omega
     have ib : (b0 : Int) < (j : Int) := by omega
     have HYB : Hid (Below w.heap.size w Y) := hB.out.2.2.trans (hYB.mono hB.out.2.2.size)
     have HLB : Hid (∀ i, lab7 es (k + 1) i = if lab7 es k i = A then B else lab7 es k i) := fun i => by
      show _ = _
      rw [hA, hBB, ha0, hb0]
      rfl
     have HRG : Hid (ring7 es (k + 1) = decide (A = B)) := by
      show _ = _
      have h := hB.out.1
      show (ring7 es k || decide (lab7 es k (es k).1 = lab7 es k (es k).2)) = _
      rw [h, Bool.false_or, hA, hBB, ha0, hb0]
     have HRL : Hid (RlAt Y G j (fun q => ((lab7 es k q : Nat) : Int))) := hrl
     have wk : IntKind.i64.wrap ((k : Int) + 1) = ((k + 1 : Nat) : Int) := by rw [IntKind.wrap_i64]; omega
     clear hB hrow hc ha0 hb0 hA hBB hYB hYx hrl
     go_wp2_with fail
     rw [← HY.out, ← HQ.out]
     clear c0 c1
     by_cases hAB : A = B
     ·have HT : Hid (ring7 es m = true) := ring7_up (show ring7 es (k + 1) = true by rw [HRG.out]; exact decide_eq_true hAB) m (by omega)
      have hABi : (A : Int) = (B : Int) := by omega
      have HYd : Hid (∀ n, Below w.heap.size w (Y.drewN n)) := fun n => below_drewN HYB.out n
      clear HRL HLB HRG
      go_region
      all_goals go_wp2_with fail
      all_goals go_ret
      all_goals exact ⟨by rw [HT.out]; rfl, by first | exact HYB.out.drew | exact HYd.out _⟩
     ·have hABi : ¬ (A : Int) = (B : Int) := by omega
      have HF : Hid (ring7 es (k + 1) = false) := by show _ = _; rw [HRG.out]; exact decide_eq_false hAB
      have HI : Hid (∀ n, RlAt (Y.drewN n) G j (fun q => if q < 0 then ((if lab7 es k q = A then B else lab7 es k q : Nat) : Int) else ((lab7 es k q : Nat) : Int)) ∧ Below w.heap.size w (Y.drewN n)) := fun n => ⟨(rl_below HRL.out (below_drewN (Below.refl _ _) n)).congr (fun i _ => by rw [if_neg (by omega)]), below_drewN HYB.out n⟩
      clear HRL HRG
      go_region
      all_goals go_wp2_with fail
      go_loopw [45] (fun i wr => ∃ p : Nat, p ≤ j ∧ i = .int .i64 p ∧ Hid (RlAt wr G j (fun q => if q < p then ((if lab7 es k q = A then B else lab7 es k q : Nat) : Int) else ((lab7 es k q : Nat) : Int)) ∧ Below w.heap.size w wr)) (fun i _ => j - (intOf i).toNat)
      case atStart => exact ⟨0, by omega, rfl, by first | exact HI.out _ | exact HI.out 1⟩
      case round =>
       obtain ⟨p, hp, rfl, hB⟩ := hrel
       clear HI
       by_cases hlp : p < j
       ·have hp1 : (p : Int) < (j : Int) := by omega
        have hp0 : (0 : Int) ≤ (p : Int) := by omega
        obtain ⟨c0, f0⟩ := hB.out.1.cell hlp
        simp only [Nat.lt_irrefl, if_false] at c0
        have wp : IntKind.i64.wrap ((p : Int) + 1) = ((p + 1 : Nat) : Int) := by rw [IntKind.wrap_i64]; omega
        obtain ⟨L, hL⟩ : ∃ L, L = lab7 es k p := ⟨_, rfl⟩
        rw [← hL] at c0
        by_cases hLA : L = A
        ·have hLi : (L : Int) = (A : Int) := by omega
         have HN : Hid (RlAt (wr.setCell ⟨G, p, none⟩ (.int .i64 (B : Int))) G j (fun q => if q < p + 1 then ((if lab7 es k q = A then B else lab7 es k q : Nat) : Int) else ((lab7 es k q : Nat) : Int)) ∧ Below w.heap.size w (wr.setCell ⟨G, p, none⟩ (.int .i64 (B : Int)))) := by
          refine ⟨(hB.out.1.set hlp (B : Int)).congr (fun i hi => ?_), hB.out.2.setCell (by rw [HG.out]; exact Nat.le_refl _) _⟩
          by_cases e : i = p
          ·subst e
           rw [if_pos rfl, if_pos (show i < i + 1 by omega), ← hL, if_pos hLA]
          ·rw [if_neg e]
           by_cases e2 : i < p
           ·rw [if_pos e2, if_pos (show i < p + 1 by omega)]
           ·rw [if_neg e2, if_neg (show ¬ i < p + 1 by omega)]
         clear hB hL hLA
         go_wp2_with fail
         exact ⟨⟨p + 1, by omega, by go_num, HN⟩, by simp [intOf]; omega⟩
        ·have hLi : ¬ (L : Int) = (A : Int) := by omega
         have HN : Hid (RlAt wr G j (fun q => if q < p + 1 then ((if lab7 es k q = A then B else lab7 es k q : Nat) : Int) else ((lab7 es k q : Nat) : Int)) ∧ Below w.heap.size w wr) := by
          refine ⟨hB.out.1.congr (fun i hi => ?_), hB.out.2⟩
          by_cases e : i = p
          ·subst e
           rw [if_neg (show ¬ i < i by omega), if_pos (show i < i + 1 by omega), ← hL, if_neg hLA]
          ·by_cases e2 : i < p
           ·rw [if_pos e2, if_pos (show i < p + 1 by omega)]
           ·rw [if_neg e2, if_neg (show ¬ i < p + 1 by omega)]
         clear hB hL
         go_wp2_with fail
         exact ⟨⟨p + 1, by omega, by go_num, HN⟩, by simp [intOf]; omega⟩
       ·obtain rfl : p = j := by omega
        have hp1 : ¬ (p : Int) < (p : Int) := by omega
        have HN : Hid (ring7 es (k + 1) = false ∧ RlAt wr G p (fun q => ((lab7 es (k + 1) q : Nat) : Int)) ∧ Below w.heap.size w wr) := ⟨HF.out, hB.out.1.congr (fun i hi => by rw [if_pos hi, HLB.out i]), hB.out.2⟩
        clear hB
        go_wp2_with fail
        exact ⟨⟨k + 1, by omega, by go_num, HN⟩, by simp [intOf]; omega⟩
    ·obtain rfl : k = m := by omega
     have hk1 : ¬ (k : Int) < (k : Int) := by omega
     go_wp2_with fail
     go_ret
     exact ⟨by rw [hB.out.1]; rfl, hB.out.2.2⟩
end Go.Proofs.YtaneiffnhphkhaaGreatDoor
namespace Go.Proofs.YtaneiffnhphkhaaGreatDoor
open Go.RowKit
open Vc (V Of)
open Pl (En Lk Br Net)
open Tk (Md Mnd Cn Sc Dn)
theorem sizeMd : (Tryz.prog.info? 66).map (·.size) = some 9 := by kernel_rfl
def fmA (id : Int) (p r c : Value) : Array Value := #[.int .u64 id, .int .i64 0, .int .u64 id, .int .i64 0, .int .i64 0, .int .i64 (-1), p, r, c]
abbrev ZeroAt (w : World) (g n : Nat) : Prop := RlAt w g n (fun _ => 0)
theorem choose_none (id : Int) : Vc.chV id (fun _ => ⟨0, 0, 0, ⟨0, 0, 0, 0⟩⟩) 0 = ⟨id, 0, id, 0⟩ ∧ Vc.chA id (fun _ => ⟨0, 0, 0, ⟨0, 0, 0, 0⟩⟩) 0 = 0 ∧ Vc.chP id (fun _ => ⟨0, 0, 0, ⟨0, 0, 0, 0⟩⟩) 0 = -1 := ⟨rfl, rfl, rfl⟩
def FmW (w : World) (id : Int) (ao : Option Addr) (n cap : Nat) (e : Ending) (w' : World) : Prop :=
 ∃ R C, e = .returned (.agg (fmA id (.slice ao n cap) (.slice (some ⟨R, 0, none⟩) n n) (.slice (some ⟨C, 0, none⟩) n n))) ∧ ZeroAt w' R n ∧ ZeroAt w' C n ∧ (w.heap.size ≤ R ∧ w.heap.size ≤ C) ∧ Below w.heap.size w w'
structure FmC (w wx : World) (RB mb R C n : Nat) (ao : Option Addr) (cap : Nat) : Prop where
 res : wx.heap[RB]? = some (.cells #[.int .u64 0, .int .i64 0, .int .u64 0, .int .i64 0, .int .i64 0, .int .i64 0, .slice none 0 0, .slice none 0 0, .slice none 0 0] 66 (0, 0))
 mnd : wx.heap[mb]? = some (.cells #[.int .u64 0, .int .i64 0, .int .u64 0, .int .i64 0, .int .i64 0, .int .i64 0, .slice ao n cap, .slice (some ⟨R, 0, none⟩) n n, .slice (some ⟨C, 0, none⟩) n n] 66 (0, 0))
 r : ZeroAt wx R n
 c : ZeroAt wx C n
 ne : mb ≠ RB ∧ R ≠ mb ∧ C ≠ mb ∧ R ≠ RB ∧ C ≠ RB
 le : w.heap.size ≤ RB ∧ w.heap.size ≤ mb ∧ w.heap.size ≤ R ∧ w.heap.size ≤ C
 low : Below w.heap.size w wx
theorem alloc4 (w : World) (c0 c1 c2 c3 : Array Value) (t0 t1 t2 t3 : TypeId) : ((((w.alloc (.cells c0 t0)).alloc (.cells c1 t1)).alloc (.cells c2 t2)).alloc (.cells c3 t3)).heap[w.heap.size]? = some (.cells c0 t0 (0, 0)) ∧ ((((w.alloc (.cells c0 t0)).alloc (.cells c1 t1)).alloc (.cells c2 t2)).alloc (.cells c3 t3)).heap[w.heap.size + 1]? = some (.cells c1 t1 (0, 0)) ∧ ((((w.alloc (.cells c0 t0)).alloc (.cells c1 t1)).alloc (.cells c2 t2)).alloc (.cells c3 t3)).heap[w.heap.size + 1 + 1]? = some (.cells c2 t2 (0, 0)) ∧ ((((w.alloc (.cells c0 t0)).alloc (.cells c1 t1)).alloc (.cells c2 t2)).alloc (.cells c3 t3)).heap[w.heap.size + 1 + 1 + 1]? = some (.cells c3 t3 (0, 0)) ∧ Below w.heap.size w ((((w.alloc (.cells c0 t0)).alloc (.cells c1 t1)).alloc (.cells c2 t2)).alloc (.cells c3 t3)) := by
 obtain ⟨X, hX⟩ : ∃ X, X = (w.alloc (.cells c0 t0)).alloc (.cells c1 t1) := ⟨_, rfl⟩
 have hb : Below w.heap.size w X := by rw [hX]; exact below_alloc2 _ _ _
 have hs : X.heap.size = w.heap.size + 1 + 1 := by rw [hX]; simp
 have h0 : X.heap[w.heap.size]? = some (.cells c0 t0 (0, 0)) := by rw [hX]; exact heap_alloc2_old _ _ _
 have h1 : X.heap[w.heap.size + 1]? = some (.cells c1 t1 (0, 0)) := by rw [hX]; exact heap_alloc2_new _ _ _
 have hb2 := below_alloc2 X (.cells c2 t2) (.cells c3 t3)
 rw [← hX, ← hs]
 exact ⟨keep h0 hb2, keep h1 hb2, heap_alloc2_old _ _ _, heap_alloc2_new _ _ _, hb.trans (hb2.mono hb.size)⟩
set_option maxRecDepth 100000 in
set_option maxHeartbeats 4000000 in
theorem tfirst_any (id : Int) (ao : Option Addr) (n cap : Nat) (w : World) (hn : n ≤ 1000) :
  Calls Tryz.prog 31 #[.int .u64 id, .slice ao n cap] w fun e w' => FmW w id ao n cap e w' := by
 have hmk : ∀ W : World, (Instr.makeSlice 59 (.int .i64 (n : Int)) (.int .i64 (n : Int))).run Tryz.prog W = .ok (.slice (some ⟨W.heap.size, 0, none⟩) n n) (W.alloc (.cells (rowC n 1 (fun _ _ => .int .i64 0)) 3)) := fun W => make_rowD W 59 3 _ 1 8 n Tryz.underlying59 infoI (by omega) rfl hn (by omega) _ (fun _ j hj => by rw [show j = 0 by omega]; rfl)
 have HCH : Hid (∀ W, Calls Tryz.prog 55 #[.int .u64 id, .slice none 0 0] W fun e w' => e = .returned (.tuple #[.agg #[.int .u64 id, .int .i64 0, .int .u64 id, .int .i64 0], .int .i64 0, .int .i64 (-1)]) ∧ Hid (Below W.heap.size W w')) := fun W => by
  refine (vchoose_any id none 0 0 (fun _ => ⟨0, 0, 0, ⟨0, 0, 0, 0⟩⟩) W (by omega) (CRow.none _ _ _ _ _)).mono ?_
  rintro e w' ⟨rfl, h⟩
  obtain ⟨e1, e2, e3⟩ := choose_none id
  rw [e1, e2, e3]
  exact ⟨rfl, h⟩
 go_enter Tryz.func31, Tryz.ntmps31
 obtain ⟨RB, HRB⟩ : ∃ RB, Hid (RB = w.heap.size) := ⟨_, rfl⟩
 go_wp2_with fail
 go_cut [5] (fun s5 wx => ∃ mb R C, s5 = .pointer (some ⟨mb, 0, none⟩) ∧ Hid (FmC w wx w.heap.size mb R C n ao cap))
 case first =>
  go_region
  all_goals go_wp2_with fail
  all_goals go_meet
  all_goals first | (exact ⟨_, _, _, rfl, FmC.mk (alloc4 w _ _ _ _ _ _ _ _).1 (alloc4 w _ _ _ _ _ _ _ _).2.1 (alloc4 w _ _ _ _ _ _ _ _).2.2.1 (alloc4 w _ _ _ _ _ _ _ _).2.2.2.1 (by omega) (by omega) (Below.drew (alloc4 w _ _ _ _ _ _ _ _).2.2.2.2)⟩) | (exact ⟨_, _, _, rfl, FmC.mk (alloc4 w _ _ _ _ _ _ _ _).1 (alloc4 w _ _ _ _ _ _ _ _).2.1 (alloc4 w _ _ _ _ _ _ _ _).2.2.2.1 (alloc4 w _ _ _ _ _ _ _ _).2.2.1 (by omega) (by omega) (Below.drew (alloc4 w _ _ _ _ _ _ _ _).2.2.2.2)⟩) | (exact ⟨_, _, _, rfl, FmC.mk (alloc4 w _ _ _ _ _ _ _ _).1 (alloc4 w _ _ _ _ _ _ _ _).2.2.1 (alloc4 w _ _ _ _ _ _ _ _).2.1 (alloc4 w _ _ _ _ _ _ _ _).2.2.2.1 (by omega) (by omega) (Below.drew (alloc4 w _ _ _ _ _ _ _ _).2.2.2.2)⟩) | (exact ⟨_, _, _, rfl, FmC.mk (alloc4 w _ _ _ _ _ _ _ _).1 (alloc4 w _ _ _ _ _ _ _ _).2.2.1 (alloc4 w _ _ _ _ _ _ _ _).2.2.2.1 (alloc4 w _ _ _ _ _ _ _ _).2.1 (by omega) (by omega) (Below.drew (alloc4 w _ _ _ _ _ _ _ _).2.2.2.2)⟩) | (exact ⟨_, _, _, rfl, FmC.mk (alloc4 w _ _ _ _ _ _ _ _).1 (alloc4 w _ _ _ _ _ _ _ _).2.2.2.1 (alloc4 w _ _ _ _ _ _ _ _).2.1 (alloc4 w _ _ _ _ _ _ _ _).2.2.1 (by omega) (by omega) (Below.drew (alloc4 w _ _ _ _ _ _ _ _).2.2.2.2)⟩) | (exact ⟨_, _, _, rfl, FmC.mk (alloc4 w _ _ _ _ _ _ _ _).1 (alloc4 w _ _ _ _ _ _ _ _).2.2.2.1 (alloc4 w _ _ _ _ _ _ _ _).2.2.1 (alloc4 w _ _ _ _ _ _ _ _).2.1 (by omega) (by omega) (Below.drew (alloc4 w _ _ _ _ _ _ _ _).2.2.2.2)⟩)
 case rest =>
 obtain ⟨mb, R, C, rfl, HF⟩ := hcut
 have HMN : Hid (∀ V, Below wc.heap.size wc V → FmC w V w.heap.size mb R C n ao cap) := fun V hV => ⟨keep HF.out.res hV, keep HF.out.mnd hV, keep HF.out.r hV, keep HF.out.c hV, HF.out.ne, HF.out.le, HF.out.low.trans (hV.mono HF.out.low.size)⟩
 clear hmk
 go_wp2_with fail
 refine (HCH.out _).mono ?_
 rintro e w2 ⟨rfl, H2⟩
 have HV2 : Hid (FmC w w2 w.heap.size mb R C n ao cap) := HMN.out w2 H2.out
 clear HCH HMN
 obtain ⟨W3, HW3⟩ : ∃ W3, Hid (W3 = (((((w2.setCell ⟨mb, 0, none⟩ (.int .u64 id)).setCell ⟨mb, 1, none⟩ (.int .i64 0)).setCell ⟨mb, 2, none⟩ (.int .u64 id)).setCell ⟨mb, 3, none⟩ (.int .i64 0)).setCell ⟨mb, 4, none⟩ (.int .i64 0)).setCell ⟨mb, 5, none⟩ (.int .i64 (-1))) := ⟨_, rfl⟩
 obtain ⟨m1, m2, m3, m4, ⟨n1, n2, n3, n4, n5⟩, ⟨l1, l2, l3, l4⟩, m5⟩ := HV2.out
 have k2 : W3.heap[mb]? = some (.cells #[.int .u64 id, .int .i64 0, .int .u64 id, .int .i64 0, .int .i64 0, .int .i64 (-1), .slice ao n cap, .slice (some ⟨R, 0, none⟩) n n, .slice (some ⟨C, 0, none⟩) n n] 66 (0, 0)) := by
  rw [HW3.out]
  exact set_at (set_at (set_at (set_at (set_at (set_at m2)))))
 have kk : ∀ {g : Nat} {o : Obj}, w2.heap[g]? = some o → g ≠ mb → W3.heap[g]? = some o := fun {g o} h hne => by
  rw [HW3.out]
  exact set_keep (set_keep (set_keep (set_keep (set_keep (set_keep h hne) hne) hne) hne) hne) hne
 have k1 := kk m1 n1.symm
 have HK1 : Hid (W3.heap[w.heap.size]? = some (.cells #[.int .u64 0, .int .i64 0, .int .u64 0, .int .i64 0, .int .i64 0, .int .i64 0, .slice none 0 0, .slice none 0 0, .slice none 0 0] 66 (0, 0))) := k1
 have HK3 : Hid (ZeroAt W3 R n ∧ ZeroAt W3 C n ∧ Below w.heap.size w W3) := ⟨kk m3 n2, kk m4 n3, by
  rw [HW3.out]
  exact (((((m5.setCell l2 _).setCell l2 _).setCell l2 _).setCell l2 _).setCell l2 _).setCell l2 _⟩
 have HNE : Hid (R ≠ w.heap.size ∧ C ≠ w.heap.size ∧ w.heap.size ≤ R ∧ w.heap.size ≤ C) := ⟨n4, n5, l3, l4⟩
 have a0 := cell_of_row w2 mb 0 _ _ _ m2
 have a1 := cell_of_row w2 mb 1 _ _ _ m2
 have a2 := cell_of_row w2 mb 2 _ _ _ m2
 have a3 := cell_of_row w2 mb 3 _ _ _ m2
 have a4 := cell_of_row w2 mb 4 _ _ _ m2
 have a5 := cell_of_row w2 mb 5 _ _ _ m2
 have fz : ∀ x, w2.frozen? ⟨mb, x, none⟩ = false := fun x => frozen_of_row _ _ _ _ _ m2
 have z0 := fz 0
 have z1 := fz 1
 have z2 := fz 2
 have z3 := fz 3
 have z4 := fz 4
 have z5 := fz 5
 clear fz m1 m2 m3 m4 m5 kk HV2 HF
 go_upto_region 3 with fail
 rw [← HW3.out]
 clear a0 a1 a2 a3 a4 a5 z0 z1 z2 z3 z4 z5
 have a0 := cell_of_row W3 mb 0 _ _ _ k2
 have a1 := cell_of_row W3 mb 1 _ _ _ k2
 have a2 := cell_of_row W3 mb 2 _ _ _ k2
 have a3 := cell_of_row W3 mb 3 _ _ _ k2
 have a4 := cell_of_row W3 mb 4 _ _ _ k2
 have a5 := cell_of_row W3 mb 5 _ _ _ k2
 have a6 := cell_of_row W3 mb 6 _ _ _ k2
 have a7 := cell_of_row W3 mb 7 _ _ _ k2
 have a8 := cell_of_row W3 mb 8 _ _ _ k2
 clear k2 HW3
 obtain ⟨RB, HRB⟩ : ∃ RB, Hid (RB = w.heap.size) := ⟨_, rfl⟩
 rw [← HRB.out] at k1 n1 HK1 HNE ⊢
 have fz : ∀ x, W3.frozen? ⟨RB, x, none⟩ = false := fun x => frozen_of_row _ _ _ _ _ k1
 have b0 := cell_of_row W3 RB 0 _ _ _ k1
 have b1 := cell_of_row W3 RB 1 _ _ _ k1
 have b2 := cell_of_row W3 RB 2 _ _ _ k1
 have b3 := cell_of_row W3 RB 3 _ _ _ k1
 have b4 := cell_of_row W3 RB 4 _ _ _ k1
 have b5 := cell_of_row W3 RB 5 _ _ _ k1
 have b6 := cell_of_row W3 RB 6 _ _ _ k1
 have b7 := cell_of_row W3 RB 7 _ _ _ k1
 have b8 := cell_of_row W3 RB 8 _ _ _ k1
 have z0 := fz 0
 have z1 := fz 1
 have z2 := fz 2
 have z3 := fz 3
 have z4 := fz 4
 have z5 := fz 5
 have z6 := fz 6
 have z7 := fz 7
 have z8 := fz 8
 clear fz k1 n1 n2 n3 n4 n5 l1 l2 l3 l4
 go_wp2_with fail
 refine bodyPost_ret (results_row (p := 4) (ty := 66) Tryz.results31 _ _ RB 66 _ (0, 0) _ rfl (set_at (set_at (set_at (set_at (set_at (set_at (set_at (set_at (set_at HK1.out))))))))) Tryz.underlying66 rfl (by rw [sizeMd]; rfl)) rfl ?_
 obtain ⟨h1, h2, h3⟩ := HK3.out
 obtain ⟨e1, e2, e3, e4⟩ := HNE.out
 have hle : w.heap.size ≤ RB := by rw [HRB.out]; exact Nat.le_refl _
 refine ⟨R, C, rfl, ?_, ?_, by rw [← HRB.out]; exact ⟨e3, e4⟩, ?_⟩
 ·exact set_keep (set_keep (set_keep (set_keep (set_keep (set_keep (set_keep (set_keep (set_keep h1 e1) e1) e1) e1) e1) e1) e1) e1) e1
 ·exact set_keep (set_keep (set_keep (set_keep (set_keep (set_keep (set_keep (set_keep (set_keep h2 e2) e2) e2) e2) e2) e2) e2) e2) e2
 ·exact ((((((((h3.setCell hle _).setCell hle _).setCell hle _).setCell hle _).setCell hle _).setCell hle _).setCell hle _).setCell hle _).setCell hle _
end Go.Proofs.YtaneiffnhphkhaaGreatDoor
