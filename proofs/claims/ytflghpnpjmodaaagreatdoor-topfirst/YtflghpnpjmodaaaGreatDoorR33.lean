/- walks: the document's own Sum: laws -/
import Derived.Test.YtflghpnpjmodaaaGreatDoorR32
import Derived.Test.YtflghpnpjmodaaaGreatDoorR18
import Derived.Test.YtflghpnpjmodaaaGreatDoorR05
import Derived.Test.YtflghpnpjmodaaaGreatDoorR04
import Derived.Test.YtflghpnpjmodaaaGreatDoorR03
namespace Go.Proofs.YtflghpnpjmodaaaGreatDoor
namespace Tk
open Vc (V Of)
open Pl (Lk En St RightL ends)
def m0 : Mnd := ⟨⟨⟨0, 0, 0, 0⟩, 0, 0⟩, [], []⟩
def mat (l : List Mnd) (j : Nat) : Mnd := l.getD j m0
section
variable {ids : Nat → Int} {E F : Nat → List En} {K : Nat}
end
end Tk
namespace Pl
open Vc (V Of)
theorem ends_by {K L : Nat} {ls : Nat → Lk} (R : RightL K L ls) (lv : Nat → Bool) (i : Nat) {l : List En} (hm : ∀ e, e ∈ l ↔ e ∈ ends ls lv L i) (hs : l.Pairwise (fun x y => x.port < y.port)) : ends ls lv L i = l := by
 have S := ends_sorted R lv i
 have nd : ∀ {m : List En}, m.Pairwise (fun x y => x.port < y.port) → m.Nodup := fun h => h.imp (fun {a b} q e => by rw [e] at q; omega)
 exact (sorted_unique ((List.perm_ext_iff_of_nodup (nd hs) (nd S)).2 hm) hs S).symm
def lnk (k : Nat) (cst : Nat → Int) (up : Nat → Bool) (j : Nat) : Lk := ⟨(j : Int), 2, ((if j + 1 = k then 0 else j + 1 : Nat) : Int), 1, cst j, up j⟩
theorem ring_right {k : Nat} (hk : 3 ≤ k) {cst : Nat → Int} (hc : ∀ j, j < k → 1 ≤ cst j ∧ cst j ≤ 200000) (up : Nat → Bool) : RightL k k (lnk k cst up) := by
 refine ⟨fun j hj => ?_, fun i j hij hj => ?_⟩
 ·have := hc j hj
  unfold lnk
  simp only
  by_cases e : j + 1 = k
  ·rw [if_pos e]; omega
  ·rw [if_neg e]; omega
 ·unfold isEnd lnk
  simp only [Bool.or_eq_false_iff, decide_eq_false_iff_not]
  by_cases e : j + 1 = k
  ·rw [if_pos e]
   by_cases e2 : i + 1 = k
   ·omega
   ·rw [if_neg e2]; omega
  ·rw [if_neg e]
   by_cases e2 : i + 1 = k
   ·omega
   ·rw [if_neg e2]; omega
theorem line_right {k : Nat} {cst : Nat → Int} (hc : ∀ j, j < k → 1 ≤ cst j ∧ cst j ≤ 200000) (up : Nat → Bool) : RightL k (k - 1) (lnk k cst up) := by
 refine ⟨fun j hj => ?_, fun i j hij hj => ?_⟩
 ·have := hc j (by omega)
  unfold lnk
  simp only
  rw [if_neg (by omega)]; omega
 ·unfold isEnd lnk
  simp only [Bool.or_eq_false_iff, decide_eq_false_iff_not]
  rw [if_neg (by omega), if_neg (by omega)]; omega
theorem ring_ends {k : Nat} (hk : 3 ≤ k) {cst : Nat → Int} (hc : ∀ j, j < k → 1 ≤ cst j ∧ cst j ≤ 200000) (up lv : Nat → Bool) {i : Nat} (hi : i < k) : ends (lnk k cst up) lv k i = ringE k cst lv i := by
 refine ends_by (ring_right hk hc up) lv i (fun e => ?_) (by simp [ringE])
 rw [ends_mem]
 unfold ringE lnk
 simp only [List.mem_cons, List.not_mem_nil, or_false]
 constructor
 ·rintro (rfl | rfl)
  ·by_cases e0 : i = 0
   ·refine ⟨k - 1, by omega, Or.inr ⟨by rw [if_pos (by omega)]; omega, ?_⟩⟩
    rw [if_pos e0]
   ·refine ⟨i - 1, by omega, Or.inr ⟨by rw [if_neg (by omega)]; omega, ?_⟩⟩
    rw [if_neg e0]
  ·exact ⟨i, hi, Or.inl ⟨rfl, rfl⟩⟩
 ·rintro ⟨j, hj, ⟨ha, rfl⟩ | ⟨hb, rfl⟩⟩
  ·obtain rfl : j = i := by omega
   exact Or.inr rfl
  ·left
   by_cases e : j + 1 = k
   ·rw [if_pos e] at hb
    have e0 : i = 0 := by omega
    rw [if_pos e0]
    obtain rfl : j = k - 1 := by omega
    rfl
   ·rw [if_neg e] at hb
    have e0 : i ≠ 0 := by omega
    rw [if_neg e0]
    obtain rfl : j = i - 1 := by omega
    rfl
def lineE (k : Nat) (cst : Nat → Int) (lv : Nat → Bool) (i : Nat) : List En :=
 (if i = 0 then [] else [⟨1, cst (i - 1), ((i - 1 : Nat) : Int), 2, lv (i - 1)⟩]) ++ (if i + 1 = k then [] else [⟨2, cst i, ((i + 1 : Nat) : Int), 1, lv i⟩])
theorem ringE_in {k : Nat} (hk : 3 ≤ k) (cst : Nat → Int) (lv : Nat → Bool) : ∀ i, i < k → ∀ e, e ∈ ringE k cst lv i → e.other.toNat < k := by
 intro i hi e he
 unfold ringE at he
 simp only [List.mem_cons, List.not_mem_nil, or_false] at he
 rcases he with rfl | rfl
 ·simp only [Int.toNat_natCast]
  by_cases q : i = 0
  ·rw [if_pos q]; omega
  ·rw [if_neg q]; omega
 ·simp only [Int.toNat_natCast]
  by_cases q : i + 1 = k
  ·rw [if_pos q]; omega
  ·rw [if_neg q]; omega
end Pl
namespace Tk
open Vc (V Of)
open Pl (Lk En St lineE ringE ringId)
def ten (_ : Nat) : Int := 10
def yes (_ : Nat) : Bool := true
def onR (k : Nat) (cst : Nat → Int) (lv : Nat → Bool) (l : List St) (i j : Nat) : Bool := let r := (Pl.rolesL k cst lv l i).getD j 0; decide (r = 1) || decide (r = 2)
def nxt (k i : Nat) : Nat := if i + 1 = k then 0 else i + 1
end Tk
end Go.Proofs.YtflghpnpjmodaaaGreatDoor
namespace Go.Proofs.YtflghpnpjmodaaaGreatDoor
open Go.RowKit
open Vc (V Of)
open Pl (Br Net Pc Lk En St ringE lineE ringId)
open Tk (Md Mnd Cn Sc Dn ten yes)
namespace Pl
section
variable {ids : Nat → Int} {E F : Nat → List En} {K : Nat}
theorem roundL_congr (h : ∀ i, i < K → E i = F i) (l : List St) : ∀ m, m ≤ K → roundL ids E l m = roundL ids F l m
 | 0, _ => rfl
 | m + 1, hm => by
  show stepL ids E (roundL ids E l m) m = stepL ids F (roundL ids F l m) m
  rw [roundL_congr h l m (by omega)]
  unfold stepL
  rw [h m (by omega)]
theorem roundsL_congr (h : ∀ i, i < K → E i = F i) : ∀ r, roundsL ids E K r = roundsL ids F K r
 | 0 => rfl
 | r + 1 => by
  show roundL ids E (roundsL ids E K r) K = roundL ids F (roundsL ids F K r) K
  rw [roundsL_congr h r, roundL_congr h _ K (Nat.le_refl _)]
theorem finL_by (h : ∀ i, i < K → E i = F i) (hF : ∀ i, i < K → ∀ e, e ∈ F i → e.other.toNat < K) {i : Nat} (hi : i < K) : sat (finL ids F K) i = rounds ids E K K i := by
 have := finL_eq (ids := ids) (E := E) (K := K) (fun i hi e he => hF i hi e (by rw [← h i hi]; exact he)) hi
 rw [show finL ids E K = finL ids F K from roundsL_congr h K] at this
 exact this
end
end Pl
def bsL (i : Nat) : Br := ⟨10 + (i : Int), none, 0, 0, fun _ => 0, regR⟩
def lnL (k : Nat) (ring : Bool) : Nat := if ring = true ∧ 2 < k then k else k - 1
theorem lnL_ring {k : Nat} (hk : 3 ≤ k) : lnL k true = k := by unfold lnL; rw [if_pos ⟨rfl, by omega⟩]
def netL (k : Nat) (ring : Bool) (cst : Nat → Int) (a5 : Option Addr) (c5 : Nat) (a6 : Option Addr) (c6 : Nat) : Net := ⟨a5, k, c5, bsL, a6, lnL k ring, c6, Pl.lnk k cst yes⟩
section
variable {k : Nat} {ring : Bool} {cst : Nat → Int} {a5 : Option Addr} {c5 : Nat} {a6 : Option Addr} {c6 : Nat}
theorem netL_wf (hk : k ≤ 12) : (netL k ring cst a5 c5 a6 c6).Wf := by
 refine ⟨fun i hi => ?_, fun i hi => ?_⟩
 ·have hi : i < k := hi
  exact u64_wf (show 0 ≤ 10 + (i : Int) ∧ 10 + (i : Int) ≤ 18446744073709551615 by omega)
 ·have hi : i < lnL k ring := hi
  have hi2 : i < k ∨ k = 0 := by
   unfold lnL at hi
   split at hi <;> omega
  show (Lit.int .i64 (i : Int)).wf = true ∧ (Lit.int .i64 2).wf = true ∧ (Lit.int .i64 ((if i + 1 = k then 0 else i + 1 : Nat) : Int)).wf = true ∧ (Lit.int .i64 1).wf = true
  have h3 : lnL k ring ≤ 12 := by unfold lnL; split <;> omega
  exact ⟨i64_wf (by omega), i64_wf (by omega), i64_wf (by split <;> omega), i64_wf (by omega)⟩
theorem bErrL : ∀ i, i < 12 → Pl.bErr bsL i = 0 := by
 intro i hi
 rcases (by omega : i = 0 ∨ i = 1 ∨ i = 2 ∨ i = 3 ∨ i = 4 ∨ i = 5 ∨ i = 6 ∨ i = 7 ∨ i = 8 ∨ i = 9 ∨ i = 10 ∨ i = 11) with e | e | e | e | e | e | e | e | e | e | e | e <;> subst e <;> kernel_rfl
theorem lnL_right (hc : ∀ j, j < k → 1 ≤ cst j ∧ cst j ≤ 200000) : Pl.RightL k (lnL k ring) (Pl.lnk k cst yes) := by
 by_cases h : ring = true ∧ 2 < k
 ·have e : lnL k ring = k := by unfold lnL; rw [if_pos h]
  rw [e]
  exact Pl.ring_right (by omega) hc _
 ·have e : lnL k ring = k - 1 := by unfold lnL; rw [if_neg h]
  rw [e]
  exact Pl.line_right hc _
theorem netL_right (hk : k ≤ 12) (hc : ∀ j, j < k → 1 ≤ cst j ∧ cst j ≤ 200000) : (netL k ring cst a5 c5 a6 c6).wrong.1 = 0 := by
 have hl : lnL k ring ≤ 12 := by unfold lnL; split <;> omega
 have h1 : Pl.firstTo (Pl.bErr bsL) k = (0, 0) := Pl.firstTo_all _ _ (fun i hi => bErrL i (by omega))
 have h2 : Pl.firstTo (Pl.lErr k (Pl.lnk k cst yes)) (lnL k ring) = (0, 0) := Pl.firstTo_all _ _ (fun i hi => lErr_of (lnL_right hc) hi)
 show (if 12 < k ∨ 40 < lnL k ring then ((5 : Int), (0 : Int)) else if (Pl.firstTo (Pl.bErr bsL) k).1 ≠ 0 then Pl.firstTo (Pl.bErr bsL) k else Pl.firstTo (Pl.lErr k (Pl.lnk k cst yes)) (lnL k ring)).1 = 0
 rw [h1, h2, if_neg (by omega)]
 rfl
theorem netL_ids (t : Int) : (netL k ring cst a5 c5 a6 c6).ids t = ringId := by
 funext i
 show (if (0 : Int) ≤ t ∧ t ≤ ((0 : Nat) : Int) - 1 then (0 : Int) else 32768) * 281474976710656 + (10 + (i : Int)) = _
 rw [if_neg (by omega)]
 unfold ringId
 omega
theorem netL_live : (netL k ring cst a5 c5 a6 c6).live = yes := by
 funext j
 show (true && decide (strOf 50 regR.id = strOf 50 regR.id)) = true
 simp
theorem netL_ring (hk : 3 ≤ k) (hc : ∀ j, j < k → 1 ≤ cst j ∧ cst j ≤ 200000) {i : Nat} (hi : i < k) : (netL k true cst a5 c5 a6 c6).ends i = ringE k cst yes i := by
 unfold Pl.Net.ends
 rw [netL_live]
 show Pl.ends (Pl.lnk k cst yes) yes (lnL k true) i = _
 rw [lnL_ring hk]
 exact Pl.ring_ends hk hc yes yes hi
end
theorem ten_ok {k : Nat} : ∀ j, j < k → 1 ≤ ten j ∧ ten j ≤ 200000 := fun j _ => by unfold ten; omega
def tk1 (x : Int) : Nat → Dn := dsT 0 (fun _ => tickD x) x
theorem tk1_eq (x : Int) (i : Nat) : tk1 x i = tickD x := by unfold tk1 dsT; split <;> rfl
theorem tk1_all (s : Sc) (c : Cn) (x : Int) : s.all c (tk1 x) 1 = s.ticks c x.toNat := all_ticks s c (fun _ => tickD x) 0 x
theorem sn_links {W : World} {n : Net} {T : Nat} {s : Sc} {n' : Net} {oa : Option Addr} {oc : Nat} {t' : List Tr} (h : SnOut W n T s n' oa oc t') : n'.ls = s.ls := congrArg Sc.ls h.sc
section
variable {k : Nat} {cst : Nat → Int} {a5 : Option Addr} {c5 : Nat} {a6 : Option Addr} {c6 : Nat}
theorem ring_opens {W : World} {n' : Net} {oa : Option Addr} {oc : Nat} {t' : List Tr} {x : Int} (hx : 83 ≤ x) (h : SnOut W (netL k true cst a5 c5 a6 c6) 1 (((netL k true cst a5 c5 a6 c6).sc (startMs (netL k true cst a5 c5 a6 c6))).all (netL k true cst a5 c5 a6 c6).cn (tk1 x) 1) n' oa oc t') (hk : 3 ≤ k ∧ k ≤ 12) (hc : ∀ j, j < k → 1 ≤ cst j ∧ cst j ≤ 200000) {i j : Nat} (hi : i < k) (hj : j < 2) :
  opT t' 0 i ((j : Int) + 1) = Tk.onR k cst yes (Pl.ringAll k cst yes) i j := by
 have hO := fun hj => sn_opens (j := j) (k := 0) h (netL_wf hk.2) (netL_right hk.2 hc) (fun k hk => absurd hk (by omega)) (by omega) (by omega) (show i < (netL k true cst a5 c5 a6 c6).K from hi) hj
 obtain ⟨e1, _, e3, e4⟩ := sn_net h
 have e1 : n'.K = k := e1
 rw [tk1_all] at e3 e4
 have e3 : n'.ends = (netL k true cst a5 c5 a6 c6).ends := by
  rw [e3]
  show ((netL k true cst a5 c5 a6 c6).sc (startMs (netL k true cst a5 c5 a6 c6))).E _ = _
  rw [Pl.Net.sc_E]
 have e4 : n'.ids ((0 : Nat) : Int) = ringId := by
  rw [e4]
  funext q
  show ((netL k true cst a5 c5 a6 c6).sc (startMs (netL k true cst a5 c5 a6 c6))).ids _ _ q = _
  rw [net_ids, netL_ids]
 have hE : n'.ends i = ringE k cst yes i := by rw [e3]; exact netL_ring hk.1 hc hi
 have hlen : (ringE k cst yes i).length = 2 := rfl
 have hO := hO (by rw [hE, hlen]; exact hj)
 rw [e4, e1, hE] at hO
 have hf : ∀ q, q < k → Pl.rounds ringId n'.ends k k q = Pl.sat (Pl.ringAll k cst yes) q := fun q hq => by
  rw [e3]
  exact (Pl.finL_by (fun i hi => netL_ring hk.1 hc hi) (Pl.ringE_in hk.1 cst yes) hq).symm
 have hoffs : Pl.offs (ringE k cst yes i) (Pl.rounds ringId n'.ends k k) = Pl.offs (ringE k cst yes i) (Pl.sat (Pl.ringAll k cst yes)) := Pl.offs_congr (fun e he _ => by rw [hf _ (Pl.ringE_in hk.1 cst yes i hi e he)])
 rw [hf i hi, hoffs] at hO
 have hp : (EL (ringE k cst yes i) j).port = (j : Int) + 1 := by
  rcases (by omega : j = 0 ∨ j = 1) with e | e <;> subst e <;> rfl
 rw [hp] at hO
 have hO : opT t' 0 i ((j : Int) + 1) = _ := hO
 rw [hO]
 have hr : (Pl.rolesL k cst yes (Pl.ringAll k cst yes) i).getD j 0 = Pl.roleAt (Pl.sat (Pl.ringAll k cst yes) i) (Pl.offs (ringE k cst yes i) (Pl.sat (Pl.ringAll k cst yes))) (EL (ringE k cst yes i) j) := by
  unfold Pl.rolesL
  exact Tk.map_getD _ _ (EL_get (by rw [hlen]; exact hj))
 unfold Tk.onR
 simp only [hr]
 rw [Bool.decide_or]
theorem tick_links {W : World} {n : Net} {n' : Net} {oa : Option Addr} {oc : Nat} {t' : List Tr} {x : Int} {T : Nat} (h : SnOut W n T ((n.sc (startMs n)).all n.cn (tk1 x) 1) n' oa oc t') : n'.ls = n.ls ∧ n'.K = n.K ∧ n'.L = n.L := by
 obtain ⟨e1, e2, _, _⟩ := sn_net h
 have := sn_links h
 rw [tk1_all] at this
 exact ⟨this, e1, e2⟩
end
theorem three_at : (Tk.onR 3 ten yes (Pl.ringAll 3 ten yes) 0 1 && Tk.onR 3 ten yes (Pl.ringAll 3 ten yes) 1 0) = true ∧ (Tk.onR 3 ten yes (Pl.ringAll 3 ten yes) 1 1 && Tk.onR 3 ten yes (Pl.ringAll 3 ten yes) 2 0) = false ∧ (Tk.onR 3 ten yes (Pl.ringAll 3 ten yes) 2 1 && Tk.onR 3 ten yes (Pl.ringAll 3 ten yes) 0 0) = true := by decide +kernel
theorem pl_ok {n : Net} {ds : Nat → Dn} {dn : Nat} (hw : n.wrong.1 = 0) (hdn : dn ≤ 30) (he : ∀ q, q < dn → Tk.errOf n.cn (ds q) = 0) : (plErr n 1 ds dn).1 = 0 := by
 have e : stErr n 1 = (0, 0) := by
  unfold stErr
  rw [if_neg (fun z => z hw), if_neg (fun z => z (by omega))]
 unfold plErr
 rw [e, if_neg (fun z => z rfl), if_neg (by omega)]
 show (Pl.firstTo (fun q => Tk.errOf n.cn (ds q)) dn).1 = 0
 rw [Pl.firstTo_all _ _ he]
theorem errTick {c : Cn} {x : Int} (hx : 0 ≤ x ∧ x ≤ 200) : Tk.errOf c (tickD x) = 0 := by
 unfold Tk.errOf tickD
 simp only [if_pos]
 rw [if_pos hx]
def boxes5 (W : World) (g7 g8 g9 : Nat) (na : Option Addr) (nk nc : Nat) (la : Option Addr) (lk lc : Nat) (oa : Option Addr) (ol oc : Nat) (f1 f2 : Int) : World := (((((W.setCell ⟨g7, 0, none⟩ (.slice na nk nc)).setCell ⟨g7, 1, none⟩ (.slice la lk lc)).setCell ⟨g8, 0, none⟩ (.slice oa ol oc)).setCell ⟨g9, 0, none⟩ (.int .i64 f1)).setCell ⟨g9, 1, none⟩ (.int .i64 f2))
end Go.Proofs.YtflghpnpjmodaaaGreatDoor
namespace Go.Proofs.YtflghpnpjmodaaaGreatDoor
open Go.RowKit
open Vc (V Of)
open Pl (Br Net Pc Lk En St)
open Tk (Md Mnd Cn Sc Dn)
def pr4 (j : Nat) : Int := 4096 * ((j : Int) + 1)
def pbr (n : Net) (f : Nat → Nat) (i : Nat) : Br := ⟨(n.bs i).addr, some ⟨f i, 0, none⟩, 4, 4, pr4, (n.bs i).reg⟩
def mNet (n : Net) (g cap : Nat) (f : Nat → Nat) : Net := ⟨some ⟨g, 0, none⟩, n.K, cap, pbr n f, n.lao, n.L, n.lcap, n.ls⟩
theorem mNet_wf {n : Net} {g cap : Nat} {f : Nat → Nat} (h : n.Wf) : (mNet n g cap f).Wf := ⟨fun i hi => h.addr i hi, fun i hi => h.link i hi⟩
def fst3 (b t : Nat) (i : Nat) : Dn := if i = 0 then tickD 40 else if i = 1 then ⟨5, b, t, 0⟩ else tickD 40
theorem pr4_ls : lsF pr4 4 = [4096, 8192, 12288, 16384] := by decide
theorem prio_b {t : Nat} (ht : t < 4) : Tk.prioOf (Tk.setPr [4096, 8192, 12288, 16384] t 0) (t : Int) = 0 := by
 rcases (by omega : t = 0 ∨ t = 1 ∨ t = 2 ∨ t = 3) with e | e | e | e <;> subst e <;> decide
theorem prio_o {t : Nat} (ht : t < 4) : 4096 ≤ Tk.prioOf [4096, 8192, 12288, 16384] (t : Int) := by
 rcases (by omega : t = 0 ∨ t = 1 ∨ t = 2 ∨ t = 3) with e | e | e | e <;> subst e <;> decide
theorem fst3_all (s : Sc) (c : Cn) (b t : Nat) : s.all c (fst3 b t) 3 = ((s.ticks c 40).setPrio b t 0).ticks c 40 := by
 show ((s.one c (tickD 40)).one c ⟨5, (b : Int), (t : Int), 0⟩).one c (tickD 40) = _
 rw [Tk.Sc.one_tick (d := tickD 40) rfl, Tk.Sc.one_tick (d := tickD 40) rfl]
 rfl
theorem fst3_two (s : Sc) (c : Cn) (b t : Nat) : s.all c (fst3 b t) 2 = (s.ticks c 40).setPrio b t 0 := by
 show (s.one c (tickD 40)).one c ⟨5, (b : Int), (t : Int), 0⟩ = _
 rw [Tk.Sc.one_tick (d := tickD 40) rfl]
 rfl
theorem ticks_E (s : Sc) (c : Cn) (x : Nat) : (s.ticks c x).E c = s.E c := rfl
theorem ticks_ids (s : Sc) (c : Cn) (x : Nat) (k : Int) : (s.ticks c x).ids c k = s.ids c k := rfl
theorem settles_at {c : Cn} {s : Sc} (h : Tk.Fine c s) {x : Nat} (hx : 33 ≤ x) {k i : Nat} (hi : i < c.K) : ((s.ticks c x).ms k i).md.v = (Pl.fin (s.ids c (k : Int)) (s.E c) c.K i).v := (h.settles hx k i hi).1
theorem says_fin (n' : Net) (ids : Nat → Int) : Pl.says ids n'.ls n'.live n'.K n'.L = Pl.fin ids n'.ends n'.K := rfl
section
variable {W : World} {n : Net} {T : Nat} {b t : Nat} {n' : Net} {oa : Option Addr} {oc : Nat} {t' : List Tr}
theorem first_says (h : SnOut W n T ((n.sc (startMs n)).all n.cn (fst3 b t) 3) n' oa oc t') (hw : n.Wf) (h0 : n.wrong.1 = 0) (he : ∀ q, q < 3 → Tk.errOf n.cn (fst3 b t q) = 0) (ht : t < T) {i : Nat} (hi : i < n.K) :
  (mat (tat t' t).l i).md.v.root = (Pl.says (n'.ids (t : Int)) n'.ls n'.live n'.K n'.L i).v.root := by
 obtain ⟨e1, _, e3, e4⟩ := sn_net h
 obtain ⟨_, hm⟩ := h.each t ht
 have hmd : (mat (tat t' t).l i).md = (((n.sc (startMs n)).all n.cn (fst3 b t) 3).ms t i).md := congrArg Mnd.md (hm i hi).1
 have hF := ((net_fine hw h0 (startMs n)).all (fst3 b t) 2 (fun q hq => he q (by omega))).1
 rw [fst3_two] at hF
 have hA := settles_at hF (x := 40) (by omega) (k := t) (i := i) hi
 rw [fst3_all] at e3 e4 hmd
 rw [ticks_E] at e3
 have hI : n'.ids (t : Int) = (((n.sc (startMs n)).ticks n.cn 40).setPrio b t 0).ids n.cn (t : Int) := (e4 t).trans (ticks_ids _ _ _ _)
 rw [hmd, hA, ← hI, ← e3, says_fin, e1]
 rfl
theorem first_least (h : SnOut W n T ((n.sc (startMs n)).all n.cn (fst3 b t) 3) n' oa oc t') (hp : ∀ i, i < n.K → lsF (n.bs i).pv (n.bs i).pn = [4096, 8192, 12288, 16384]) (hb : b < n.K) (h4 : t < 4) {j : Nat} (hj : j < n'.K) (hne : j ≠ b) : n'.ids (t : Int) b < n'.ids (t : Int) j := by
 obtain ⟨e1, _, _, e4⟩ := sn_net h
 have hR := right_of h.wf h.right
 have ha : ∀ i, n'.cn.addr i = n.cn.addr i := fun i => by rw [h.cn]
 have hI : ∀ i, n'.ids (t : Int) i = Tk.prioOf ((((n.sc (startMs n)).ticks n.cn 40).setPrio b t 0).pr i) (t : Int) * 281474976710656 + n.cn.addr i := fun i => by
  rw [e4, fst3_all, ticks_ids]
  rfl
 have a1 := (hR.fine b (by omega)).addr
 have a2 := (hR.fine j hj).addr
 have b1 : n.cn.addr b = (n'.bs b).addr := (ha b).symm
 have b2 : n.cn.addr j = (n'.bs j).addr := (ha j).symm
 have p1 : (((n.sc (startMs n)).ticks n.cn 40).setPrio b t 0).pr b = Tk.setPr [4096, 8192, 12288, 16384] t 0 := by
  show (if b = b then Tk.setPr (lsF (n.bs b).pv (n.bs b).pn) t 0 else lsF (n.bs b).pv (n.bs b).pn) = _
  rw [if_pos rfl, hp b hb]
 have p2 : (((n.sc (startMs n)).ticks n.cn 40).setPrio b t 0).pr j = [4096, 8192, 12288, 16384] := by
  show (if j = b then Tk.setPr (lsF (n.bs b).pv (n.bs b).pn) t 0 else lsF (n.bs j).pv (n.bs j).pn) = _
  rw [if_neg hne, hp j (by omega)]
 rw [hI, hI, p1, p2, prio_b h4, b1, b2]
 have := prio_o h4
 omega
theorem first_marks (h : SnOut W n T ((n.sc (startMs n)).all n.cn (fst3 b t) 3) n' oa oc t') (hw : n.Wf) (h0 : n.wrong.1 = 0) (he : ∀ q, q < 3 → Tk.errOf n.cn (fst3 b t q) = 0) (ht : t < T) (hp : ∀ i, i < n.K → lsF (n.bs i).pv (n.bs i).pn = [4096, 8192, 12288, 16384]) (hb : b < n.K) (h4 : t < 4) {i : Nat} (hi : i < n.K) :
  Pl.tRounds (fun j => n'.ls (Pl.LN n'.lvs j)) n'.lvs.length b n'.K i = decide ((mat (tat t' t).l i).md.v.root = n'.ids (t : Int) b) := by
 obtain ⟨e1, _⟩ := sn_net h
 have hR := right_of h.wf h.right
 rw [Pl.marked_root (ids := n'.ids (t : Int)) hR.links hR.few n'.lives (by omega) (fun j hj hne => first_least h hp hb h4 hj hne) (by omega), first_says h hw h0 he ht hi]
end
end Go.Proofs.YtflghpnpjmodaaaGreatDoor
namespace Go.Proofs.YtflghpnpjmodaaaGreatDoor
open Go.RowKit
set_option maxRecDepth 100000 in
set_option maxHeartbeats 1000000 in
theorem rtable_any (s : ByteArray) (rev : Int) (ao : Option Addr) (n cap : Nat) (vs ts : Nat → Int) (w : World) (hR : Rg.Right vs ts n) (hr : WayRow w ao n cap vs ts) :
  Calls Tryz.prog 127 #[.agg #[.string s, .int .i64 rev, .slice ao n cap]] w fun e w' => ∃ g, e = .returned (.slice (some ⟨g, 0, none⟩) 4096 4096) ∧ w'.heap[g]? = some (.cells (rowF 4096 (fun i => Rg.tree vs ts (i : Int) n)) 5 (0, 0)) ∧ Below w.heap.size w w' := by
 have hn := hR.many
 have HRt : Hid (Rg.Right vs ts n) := hR
 have HW : Hid (∀ W, Below w.heap.size w W → WayRow W ao n cap vs ts) := fun W hW => hr.below hW
 clear hr hR
 have hmk : ∀ W : World, (Instr.makeSlice 60 (.int .i64 4096) (.int .i64 4096)).run Tryz.prog W = .ok (.slice (some ⟨W.heap.size, 0, none⟩) 4096 4096) (W.alloc (.cells (rowF 4096 (fun _ => 0)) 5)) := fun W => make_room W 4096 4096 (by omega) (by omega)
 go_enter Tryz.func127, Tryz.ntmps127
 go_wp2_with fail
 go_loopw [10] (fun i wr => ∃ k : Nat, k ≤ n ∧ i = .int .i64 k ∧ Hid (wr.heap[w.heap.size + 1]? = some (.cells (rowF 4096 (fun i => Rg.tree vs ts (i : Int) k)) 5 (0, 0))) ∧ Hid (Below w.heap.size w wr)) (fun i _ => n - (intOf i).toNat)
 case atStart => exact ⟨0, by omega, rfl, heap_alloc2_new w _ _, below_alloc2 _ _ _⟩
 case round =>
  clear hmk
  obtain ⟨k, hk, rfl, hX, hB⟩ := hrel
  by_cases hlt : k < n
  ·obtain ⟨b, off, rfl, hb, hc⟩ := (HW.out _ hB.out).2 (by omega)
   have hcap := (HW.out _ hB.out).1
   have c0 : wr.cell? ⟨b, off + k * 2, none⟩ = some (.int .i64 (vs k)) := (hc k hlt).1
   have c1 : wr.cell? ⟨b, off + k * 2 + 1, none⟩ = some (.int .i64 (ts k)) := (hc k hlt).2
   have hv := HRt.out.vid k hlt
   have ht := HRt.out.tree k hlt
   obtain ⟨m, hm⟩ := Int.eq_ofNat_of_zero_le (show 0 ≤ vs k by omega)
   have hz : w.heap.size + 1 < wr.heap.size := block_lt_of_cell ((cell_of_row wr _ 0 _ _ _ hX.out).trans (rowF_get _ _ _ (by omega)))
   have c4 : wr.cell? ⟨w.heap.size + 1, m, none⟩ = some (.int .u8 (Rg.tree vs ts (m : Int) k)) := (cell_of_row _ _ _ _ _ _ hX.out).trans (rowF_get _ _ _ (by omega))
   have f4 : wr.frozen? ⟨w.heap.size + 1, m, none⟩ = false := frozen_of_row _ _ _ _ _ hX.out
   have HX : Hid (∀ o, ((wr.setCell ⟨w.heap.size + 1, m, none⟩ (.int .u8 (ts k))).alloc o).heap[w.heap.size + 1]? = some (.cells (rowF 4096 (fun i => Rg.tree vs ts (i : Int) (k + 1))) 5 (0, 0))) := by
    intro o
    rw [Below.heap_alloc _ _ _ (by simpa [World.setCell] using hz), heap_setCell_same _ _ _ _ _ _ hX.out, rowF_set _ _ _ _ (by omega)]
    congr 2
    apply rowF_congr
    intro i _
    simp only [Rg.tree, hm]
    by_cases e : i = m
    ·rw [if_pos e, if_pos (by omega)]
    ·rw [if_neg e, if_neg (by omega)]
   have HB : Hid (∀ o, Below w.heap.size w ((wr.setCell ⟨w.heap.size + 1, m, none⟩ (.int .u8 (ts k))).alloc o)) := fun o => (hB.out.setCell (Nat.le_succ _) _).alloc (by have := hB.out.size; simpa [World.setCell] using this) _
   have hm1 : (m : Int) < 4096 := by omega
   have HM : Hid (vs k = (m : Int)) := hm
   rw [hm] at c0 hv
   clear hm hc HW HRt hX hB
   generalize ts k = t at *
   go_wp2
   exact ⟨⟨k + 1, by omega, by go_num, HX.out _, HB.out _⟩, by simp [intOf]; omega⟩
  ·obtain rfl : k = n := by omega
   go_wp2
   go_ret
   exact ⟨_, rfl, hX.out, hB.out⟩
end Go.Proofs.YtflghpnpjmodaaaGreatDoor
namespace Go.Proofs.YtflghpnpjmodaaaGreatDoor
namespace Md
def padM (n : Nat) : Nat := n / 64 + lastN (n % 64)
def pad (n : Nat) (bs : Nat → Int) (i : Nat) : Int :=
 if i < n then bs i else if i = n then 128 else if i + 8 < 64 * padM n then 0 else (8 * (n : Int)) / 2 ^ (8 * (i + 8 - 64 * padM n)) % 256
theorem padM_ge (n : Nat) : n + 9 ≤ 64 * padM n ∧ 64 * padM n < n + 9 + 64 := by
 unfold padM lastN
 split <;> omega
theorem wd_congr (f g : Nat → Int) (i : Nat) (h : ∀ j, j < 64 → f j = g j) (hi : i < 16) : wd f i = wd g i := by
 unfold wd
 rw [h (4 * i) (by omega), h (4 * i + 1) (by omega), h (4 * i + 2) (by omega), h (4 * i + 3) (by omega)]
theorem runTo_congr (f g : Nat → Int) (h : ∀ j, j < 64 → f j = g j) (s : St) : ∀ k, runTo f k s = runTo g k s
 | 0 => rfl
 | k + 1 => by
  show stp f k (runTo f k s) = stp g k (runTo g k s)
  rw [runTo_congr f g h s k]
  unfold stp
  rw [wd_congr f g _ h (ksel_lt k)]
theorem mixS_congr (f g : Nat → Int) (h : ∀ j, j < 64 → f j = g j) (s : St) : mixS s f = mixS s g := by
 unfold mixS
 rw [runTo_congr f g h s 64]
theorem mixN_congr (f g : Nat → Int) (s : St) : ∀ m, (∀ j, j < 64 * m → f j = g j) → mixN s f m = mixN s g m
 | 0, _ => rfl
 | m + 1, h => by
  show mixS (mixN s f m) _ = mixS (mixN s g m) _
  rw [mixN_congr f g s m (fun j hj => h j (by omega))]
  exact mixS_congr _ _ (fun j hj => h (64 * m + j) (by omega)) _
theorem mixN_add (f : Nat → Int) (s : St) (a : Nat) : ∀ b, mixN s f (a + b) = mixN (mixN s f a) (fun i => f (64 * a + i)) b
 | 0 => rfl
 | b + 1 => by
  show mixS (mixN s f (a + b)) (fun i => f (64 * (a + b) + i)) = mixS (mixN (mixN s f a) (fun i => f (64 * a + i)) b) (fun i => f (64 * a + (64 * b + i)))
  rw [mixN_add f s a b]
  exact mixS_congr _ _ (fun j _ => by rw [show 64 * (a + b) + j = 64 * a + (64 * b + j) by omega]) _
theorem last_pad (n : Nat) (bs : Nat → Int) (i : Nat) (h : i < 64 * lastN (n % 64)) : pad n bs (64 * (n / 64) + i) = lastB (n % 64) (fun i => bs (64 * (n / 64) + i)) (((0 : Nat) : Int) + (n : Int) * 1 * 8) i := by
 unfold pad lastB lastTo
 have e : 64 * padM n = 64 * (n / 64) + 64 * lastN (n % 64) := by unfold padM; omega
 have h9 := (padM_ge n).1
 rw [e] at h9 ⊢
 by_cases h1 : i < n % 64
 ·rw [if_pos (by omega), if_pos h1]
 ·rw [if_neg (by omega), if_neg h1]
  by_cases h2 : i = n % 64
  ·rw [if_pos (by omega), if_pos h2]
  ·rw [if_neg (by omega), if_neg h2]
   by_cases h3 : i + 8 < 64 * lastN (n % 64)
   ·rw [if_pos (by omega), if_neg (by omega)]
   ·rw [if_neg (by omega), if_pos (by omega)]
    have e2 : 64 * (n / 64) + i + 8 - (64 * (n / 64) + 64 * lastN (n % 64)) = i + 8 - 64 * lastN (n % 64) := by omega
    rw [e2]
    congr 2
    omega
theorem sum_same (n : Nat) (bs : Nat → Int) : mixN st0 (pad n bs) (padM n) = fin st0 0 n bs := by
 unfold padM fin
 rw [mixN_add, mixN_congr (pad n bs) bs st0 (n / 64) (fun j hj => by unfold pad; rw [if_pos (by omega)])]
 apply mixN_congr
 intro j hj
 have h := last_pad n bs j hj
 simp only [Int.mul_one] at h
 rw [h]
 congr 1
 simp
end Md
end Go.Proofs.YtflghpnpjmodaaaGreatDoor
namespace Go.Proofs.YtflghpnpjmodaaaGreatDoor
open Go.RowKit
set_option maxHeartbeats 1000000 in
theorem turn_any (x k : Int) (w : World) (h0 : 0 ≤ k) (h1 : k < 32) :
  Calls Tryz.prog 209 #[.int .u32 x, .int .i64 k] w fun e w' => e = .returned (.int .u32 (Md.rotl x k)) ∧ ∃ n, w' = w.drewN n := by
 have hw : IntKind.i64.wrap (32 - k) = 32 - k := by simp [IntKind.wrap, IntKind.bits, IntKind.signed]; omega
 have h2 : 0 ≤ 32 - k := by omega
 go_enter Tryz.func209, Tryz.ntmps209
 go_wp2_with fail
 go_quiet (fail)
 go_wp2
 go_ret
 exact ⟨rfl, nq, rfl⟩
set_option maxHeartbeats 1000000 in
theorem table_any (w : World) :
  Calls Tryz.prog 207 #[] w fun e w' => e = .returned (.slice (some ⟨w.heap.size, 0, none⟩) 64 64) ∧ (∀ i, i < 64 → w'.cell? ⟨w.heap.size, i, none⟩ = some (.int .u32 (Md.tabAt i))) ∧ w.heap.size < w'.heap.size ∧ Below w.heap.size w w' := by
 go_enter Tryz.func207, Tryz.ntmps207
 go_wp2
 go_ret
 refine ⟨rfl, fun i hi => ?_, by simp, (Below.refl _ _).alloc (Nat.le_refl _) _⟩
 rw [World.cell?_alloc_at _ _ _ _ rfl]
 have h : ∀ i, i < 64 → Md.tab[i]? = some (Md.tabAt i) := by decide
 have e := h i hi
 show ((Md.tab.map (Value.int .u32)).toArray)[i]? = _
 simp [e]
set_option maxHeartbeats 1000000 in
theorem round0 (k : Nat) (b c d : Int) (w : World) (hk : k < 16) :
  Calls Tryz.prog 208 #[.int .i64 0, .int .i64 k, .int .u32 b, .int .u32 c, .int .u32 d] w fun e w' => e = .returned (.tuple #[.int .u32 (Md.fsel (16 * 0 + k) b c d), .int .i64 (Md.ksel (16 * 0 + k)), .int .i64 (Md.trnAt ((16 * 0 + k) / 16 * 4 + (16 * 0 + k) % 4))]) ∧ Below w.heap.size w w' := by
 obtain ⟨j, hj⟩ : ∃ j, j = k % 4 := ⟨_, rfl⟩
 have k2 : Int.tmod (k : Int) 4 = (j : Int) := by rw [Int.tmod_eq_emod_of_nonneg (by omega)]; omega
 have k3 : (k : Int) % 4 = (j : Int) := by omega
 have k4 : (j : Int) < 4 := by omega
 have k5 : j < 4 := by omega
 have HF : Hid (Md.fsel (16 * 0 + k) b c d = bits BinOp.or IntKind.u32 (bits BinOp.and IntKind.u32 b c) (bits BinOp.and IntKind.u32 (bits BinOp.xor IntKind.u32 IntKind.u32.max b) d)) := by
  show _ = _
  simp [Md.fsel, hk]
 have HT : Hid (Value.int .i64 (Md.trnAt ((16 * 0 + k) / 16 * 4 + (16 * 0 + k) % 4)) = [Value.int .i64 7, .int .i64 12, .int .i64 17, .int .i64 22][j]'(by simpa using k5)) := by
  show _ = _
  have e : (16 * 0 + k) / 16 * 4 + (16 * 0 + k) % 4 = 0 + j := by omega
  rw [e]
  rcases (show j = 0 ∨ j = 1 ∨ j = 2 ∨ j = 3 by omega) with rfl | rfl | rfl | rfl <;> rfl
 have HK : Hid (((Md.ksel (16 * 0 + k) : Nat) : Int) = (k : Int)) := by
  show _ = _
  simp [Md.ksel, hk]
 clear hj
 rw [HF.out, HK.out, HT.out]
 clear HF HK HT
 go_enter Tryz.func208, Tryz.ntmps208
 go_wp2_with fail
 go_region
 all_goals go_wp2
 all_goals go_ret3
 all_goals exact ⟨rfl, ((Below.refl _ _).alloc (Nat.le_refl _) _).drew⟩
set_option maxHeartbeats 1000000 in
theorem round1 (k : Nat) (b c d : Int) (w : World) (hk : k < 16) :
  Calls Tryz.prog 208 #[.int .i64 1, .int .i64 k, .int .u32 b, .int .u32 c, .int .u32 d] w fun e w' => e = .returned (.tuple #[.int .u32 (Md.fsel (16 * 1 + k) b c d), .int .i64 (Md.ksel (16 * 1 + k)), .int .i64 (Md.trnAt ((16 * 1 + k) / 16 * 4 + (16 * 1 + k) % 4))]) ∧ Below w.heap.size w w' := by
 obtain ⟨j, hj⟩ : ∃ j, j = k % 4 := ⟨_, rfl⟩
 have k2 : Int.tmod (k : Int) 4 = (j : Int) := by rw [Int.tmod_eq_emod_of_nonneg (by omega)]; omega
 have k3 : (k : Int) % 4 = (j : Int) := by omega
 have k4 : (j : Int) < 4 := by omega
 have k5 : j < 4 := by omega
 have HF : Hid (Md.fsel (16 * 1 + k) b c d = bits BinOp.or IntKind.u32 (bits BinOp.and IntKind.u32 b d) (bits BinOp.andNot IntKind.u32 c d)) := by
  show _ = _
  simp [Md.fsel, show 16 + k < 32 by omega, show ¬ 16 + k < 16 by omega]
 have HT : Hid (Value.int .i64 (Md.trnAt ((16 * 1 + k) / 16 * 4 + (16 * 1 + k) % 4)) = [Value.int .i64 5, .int .i64 9, .int .i64 14, .int .i64 20][j]'(by simpa using k5)) := by
  show _ = _
  have e : (16 * 1 + k) / 16 * 4 + (16 * 1 + k) % 4 = 4 + j := by omega
  rw [e]
  rcases (show j = 0 ∨ j = 1 ∨ j = 2 ∨ j = 3 by omega) with rfl | rfl | rfl | rfl <;> rfl
 obtain ⟨q, hq⟩ : ∃ q, q = (1 + 5 * k) % 16 := ⟨_, rfl⟩
 have m1 : IntKind.i64.wrap (5 * (k : Int)) = 5 * (k : Int) := by simp [IntKind.wrap, IntKind.bits, IntKind.signed]; omega
 have m2 : IntKind.i64.wrap (1 + 5 * (k : Int)) = 1 + 5 * (k : Int) := by simp [IntKind.wrap, IntKind.bits, IntKind.signed]; omega
 have m3 : Int.tmod (1 + 5 * (k : Int)) 16 = (q : Int) := by rw [Int.tmod_eq_emod_of_nonneg (by omega)]; omega
 have m4 : (1 + 5 * (k : Int)) % 16 = (q : Int) := by omega
 have HK : Hid (((Md.ksel (16 * 1 + k) : Nat) : Int) = (q : Int)) := by
  show _ = _
  have e : Md.ksel (16 * 1 + k) = q := by
   simp [Md.ksel, show 16 + k < 32 by omega, show ¬ 16 + k < 16 by omega]
   omega
  rw [e]
 clear hj hq
 go_enter Tryz.func208, Tryz.ntmps208
 go_wp2_with fail
 go_region
 all_goals go_wp2
 all_goals go_ret3
 all_goals exact ⟨by rw [HF.out, HK.out, HT.out]; rfl, ((Below.refl _ _).alloc (Nat.le_refl _) _).drew⟩
set_option maxHeartbeats 1000000 in
theorem round2 (k : Nat) (b c d : Int) (w : World) (hk : k < 16) :
  Calls Tryz.prog 208 #[.int .i64 2, .int .i64 k, .int .u32 b, .int .u32 c, .int .u32 d] w fun e w' => e = .returned (.tuple #[.int .u32 (Md.fsel (16 * 2 + k) b c d), .int .i64 (Md.ksel (16 * 2 + k)), .int .i64 (Md.trnAt ((16 * 2 + k) / 16 * 4 + (16 * 2 + k) % 4))]) ∧ Below w.heap.size w w' := by
 obtain ⟨j, hj⟩ : ∃ j, j = k % 4 := ⟨_, rfl⟩
 have k2 : Int.tmod (k : Int) 4 = (j : Int) := by rw [Int.tmod_eq_emod_of_nonneg (by omega)]; omega
 have k3 : (k : Int) % 4 = (j : Int) := by omega
 have k4 : (j : Int) < 4 := by omega
 have k5 : j < 4 := by omega
 have HF : Hid (Md.fsel (16 * 2 + k) b c d = bits BinOp.xor IntKind.u32 (bits BinOp.xor IntKind.u32 b c) d) := by
  show _ = _
  simp [Md.fsel, show 32 + k < 48 by omega, show ¬ 32 + k < 16 by omega, show ¬ 32 + k < 32 by omega]
 have HT : Hid (Value.int .i64 (Md.trnAt ((16 * 2 + k) / 16 * 4 + (16 * 2 + k) % 4)) = [Value.int .i64 4, .int .i64 11, .int .i64 16, .int .i64 23][j]'(by simpa using k5)) := by
  show _ = _
  have e : (16 * 2 + k) / 16 * 4 + (16 * 2 + k) % 4 = 8 + j := by omega
  rw [e]
  rcases (show j = 0 ∨ j = 1 ∨ j = 2 ∨ j = 3 by omega) with rfl | rfl | rfl | rfl <;> rfl
 obtain ⟨q, hq⟩ : ∃ q, q = (5 + 3 * k) % 16 := ⟨_, rfl⟩
 have m1 : IntKind.i64.wrap (3 * (k : Int)) = 3 * (k : Int) := by simp [IntKind.wrap, IntKind.bits, IntKind.signed]; omega
 have m2 : IntKind.i64.wrap (5 + 3 * (k : Int)) = 5 + 3 * (k : Int) := by simp [IntKind.wrap, IntKind.bits, IntKind.signed]; omega
 have m3 : Int.tmod (5 + 3 * (k : Int)) 16 = (q : Int) := by rw [Int.tmod_eq_emod_of_nonneg (by omega)]; omega
 have m4 : (5 + 3 * (k : Int)) % 16 = (q : Int) := by omega
 have HK : Hid (((Md.ksel (16 * 2 + k) : Nat) : Int) = (q : Int)) := by
  show _ = _
  have e : Md.ksel (16 * 2 + k) = q := by
   simp [Md.ksel, show 32 + k < 48 by omega, show ¬ 32 + k < 16 by omega, show ¬ 32 + k < 32 by omega]
   omega
  rw [e]
 clear hj hq
 go_enter Tryz.func208, Tryz.ntmps208
 go_wp2_with fail
 go_region
 all_goals go_wp2
 all_goals go_ret3
 all_goals exact ⟨by rw [HF.out, HK.out, HT.out]; rfl, ((Below.refl _ _).alloc (Nat.le_refl _) _).drew⟩
set_option maxHeartbeats 1000000 in
theorem round3 (k : Nat) (b c d : Int) (w : World) (hk : k < 16) :
  Calls Tryz.prog 208 #[.int .i64 3, .int .i64 k, .int .u32 b, .int .u32 c, .int .u32 d] w fun e w' => e = .returned (.tuple #[.int .u32 (Md.fsel (16 * 3 + k) b c d), .int .i64 (Md.ksel (16 * 3 + k)), .int .i64 (Md.trnAt ((16 * 3 + k) / 16 * 4 + (16 * 3 + k) % 4))]) ∧ Below w.heap.size w w' := by
 obtain ⟨j, hj⟩ : ∃ j, j = k % 4 := ⟨_, rfl⟩
 have k2 : Int.tmod (k : Int) 4 = (j : Int) := by rw [Int.tmod_eq_emod_of_nonneg (by omega)]; omega
 have k3 : (k : Int) % 4 = (j : Int) := by omega
 have k4 : (j : Int) < 4 := by omega
 have k5 : j < 4 := by omega
 have HF : Hid (Md.fsel (16 * 3 + k) b c d = bits BinOp.xor IntKind.u32 c (bits BinOp.or IntKind.u32 b (bits BinOp.xor IntKind.u32 IntKind.u32.max d))) := by
  show _ = _
  simp [Md.fsel, show ¬ 48 + k < 16 by omega, show ¬ 48 + k < 32 by omega, show ¬ 48 + k < 48 by omega]
 have HT : Hid (Value.int .i64 (Md.trnAt ((16 * 3 + k) / 16 * 4 + (16 * 3 + k) % 4)) = [Value.int .i64 6, .int .i64 10, .int .i64 15, .int .i64 21][j]'(by simpa using k5)) := by
  show _ = _
  have e : (16 * 3 + k) / 16 * 4 + (16 * 3 + k) % 4 = 12 + j := by omega
  rw [e]
  rcases (show j = 0 ∨ j = 1 ∨ j = 2 ∨ j = 3 by omega) with rfl | rfl | rfl | rfl <;> rfl
 obtain ⟨q, hq⟩ : ∃ q, q = (7 * k) % 16 := ⟨_, rfl⟩
 have m1 : IntKind.i64.wrap (7 * (k : Int)) = 7 * (k : Int) := by simp [IntKind.wrap, IntKind.bits, IntKind.signed]; omega
 have m3 : Int.tmod (7 * (k : Int)) 16 = (q : Int) := by rw [Int.tmod_eq_emod_of_nonneg (by omega)]; omega
 have m4 : (7 * (k : Int)) % 16 = (q : Int) := by omega
 have HK : Hid (((Md.ksel (16 * 3 + k) : Nat) : Int) = (q : Int)) := by
  show _ = _
  have e : Md.ksel (16 * 3 + k) = q := by
   simp [Md.ksel, show ¬ 48 + k < 16 by omega, show ¬ 48 + k < 32 by omega, show ¬ 48 + k < 48 by omega]
   omega
  rw [e]
 clear hj hq
 go_enter Tryz.func208, Tryz.ntmps208
 go_wp2_with fail
 go_region
 all_goals go_wp2
 all_goals go_ret3
 all_goals exact ⟨by rw [HF.out, HK.out, HT.out]; rfl, ((Below.refl _ _).alloc (Nat.le_refl _) _).drew⟩
theorem round_any (r k : Nat) (b c d : Int) (w : World) (hr : r < 4) (hk : k < 16) :
  Calls Tryz.prog 208 #[.int .i64 r, .int .i64 k, .int .u32 b, .int .u32 c, .int .u32 d] w fun e w' => e = .returned (.tuple #[.int .u32 (Md.fsel (16 * r + k) b c d), .int .i64 (Md.ksel (16 * r + k)), .int .i64 (Md.trnAt ((16 * r + k) / 16 * 4 + (16 * r + k) % 4))]) ∧ Below w.heap.size w w' := by
 rcases (show r = 0 ∨ r = 1 ∨ r = 2 ∨ r = 3 by omega) with rfl | rfl | rfl | rfl
 ·exact round0 k b c d w hk
 ·exact round1 k b c d w hk
 ·exact round2 k b c d w hk
 ·exact round3 k b c d w hk
theorem grown_empty {w w' : World} (h : (w.alloc (.cells #[] 5)).grownBy w' (Value.ownBlock (.slice (some ⟨w.heap.size, 0, none⟩) 0 0))) : Below w.heap.size w w' :=
 ((Below.refl _ w).alloc (Nat.le_refl _) _).grown h (by simp) (fun k hk => by simp [Value.ownBlock] at hk; omega)
theorem ByteRow.cast {w : World} {ao : Option Addr} {n n' cap : Nat} {f : Nat → Int} (h : ByteRow w ao n cap f) (e : n = n') : ByteRow w ao n' cap f := e ▸ h
theorem owns_cast {w : World} {base n : Nat} {v : Value} {xs : List Value} (h : w.ownsRow base 5 1 v (0 + n) ([] ++ xs)) : w.ownsRow base 5 1 v n xs := by
 rw [Nat.zero_add, List.nil_append] at h
 exact h
theorem wpList_append_byte {w : World} {ops : Array Oper} {rest : List Oper} {o : Oper} {a : Act} {Q : Exit → Act → World → Prop} (hgd : o.guard = none) (s x : Operand)
  (ho : o.op = .call { callee := .builtin .append, args := #[s, x], argTypes := #[60, 60] }) (base : Nat)
  (v : Value) (n : Nat) (P : Nat → Int) (hs : a.eval s = v) (y : Int) (hown : w.ownsRow base 5 1 v n (bytesL n P)) (hbase : base ≤ w.heap.size)
  (hx : a.eval x = .slice (some ⟨w.heap.size, 0, none⟩) 1 1) (hy : y = P n) (hb : n + 1 ≤ 140737488355328)
  (h : ∀ v' w', w'.ownsRow base 5 1 v' (n + 1) (bytesL (n + 1) P) → Below base w w' → wpList Tryz.prog ops Q rest (a.put o.dst v') w') : wpList Tryz.prog ops Q (o :: rest) a (w.alloc (.cells #[.int .u8 y] 5)) := by
 obtain ⟨i0, hi, hz0, hz1, hz2⟩ := info_parts info5
 refine wpList_append_own _ hgd s x 60 ho base 5 i0 (.int .u8 0) 1 1 Tryz.underlying60 hi hz0 hz1 hz2 rfl (by decide) v n _ hs (hown.alloc _) ⟨w.heap.size, 0, none⟩ 1 1 [.int .u8 y] hx rfl (cell_one_new _ _ _) (by simp [Value.oneCell']) (by unfold maxLen; omega) (by omega) (by simp; omega) ?_
 intro v' w' h1 h2 _
 refine h v' w' ?_ (((Below.refl _ w).alloc hbase _).grown h2 (by simp; omega) (owns_block hown))
 rw [show bytesL (n + 1) P = bytesL n P ++ [.int .u8 y] by rw [hy]; simp [bytesL, List.range_succ]]
 exact h1
end Go.Proofs.YtflghpnpjmodaaaGreatDoor
