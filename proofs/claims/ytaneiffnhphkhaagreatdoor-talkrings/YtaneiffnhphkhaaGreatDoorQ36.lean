/- walks: the document's own Sum: laws -/
import Derived.Test.YtaneiffnhphkhaaGreatDoorQ28
import Derived.Test.YtaneiffnhphkhaaGreatDoorQ07
import Derived.Test.YtaneiffnhphkhaaGreatDoorQ35
import Derived.Test.YtaneiffnhphkhaaGreatDoorQ31
import Derived.Test.YtaneiffnhphkhaaGreatDoorQ05
import Derived.Test.YtaneiffnhphkhaaGreatDoorQ04
namespace Go.Proofs.YtaneiffnhphkhaaGreatDoor
open Go.RowKit
open Tk (Md)
def opM (m : Mi) (port : Int) : Bool := if 0 ≤ Bk.idx m.ports port m.ports.length ∧ Bk.idx m.ports port m.ports.length ≤ (m.calm.length : Int) - 1 then decide (50 ≤ m.calm.getD (Bk.idx m.ports port m.ports.length).toNat 0) else false
def opT (t : List Tr) (tree bridge port : Int) : Bool := if (0 ≤ tree ∧ tree ≤ (t.length : Int) - 1) ∧ (0 ≤ bridge ∧ bridge ≤ ((tat t tree.toNat).l.length : Int) - 1) then opM (mat (tat t tree.toNat).l bridge.toNat) port else false
set_option maxRecDepth 100000 in
set_option maxHeartbeats 4000000 in
theorem topens_any (oao : Option Addr) (ocap : Nat) (t : List Tr) (tree bridge port : Int) (w : World) (ht : TrRow w oao ocap t) :
  Calls Tryz.prog 18 #[.agg #[.slice oao t.length ocap], .int .i64 tree, .int .i64 bridge, .int .i64 port] w fun e w' => e = .returned (.bool (opT t tree bridge port)) ∧ Below w.heap.size w w' := by
 obtain ⟨X, HX⟩ : ∃ X, Hid (X = w.alloc (.cells #[.slice oao t.length ocap] 29)) := ⟨_, rfl⟩
 have hXB : Below w.heap.size w X := by rw [HX.out]; exact below_alloc1 _ _
 have hX0 : X.heap[w.heap.size]? = some (.cells #[.slice oao t.length ocap] 29 (0, 0)) := by rw [HX.out]; exact heap_alloc_last _ _
 have c0 : X.cell? ⟨w.heap.size, 0, none⟩ = some (.slice oao t.length ocap) := cell_of_row X _ 0 _ _ _ hX0
 have hmany := ht.many
 have hcap := ht.row.1
 by_cases h1 : 0 ≤ tree ∧ tree ≤ (t.length : Int) - 1
 ·obtain ⟨k, rfl⟩ : ∃ k : Nat, tree = (k : Int) := ⟨tree.toNat, by omega⟩
  have hk : k < t.length := by omega
  have hrow := ht.below hXB
  obtain ⟨b, off, rfl, _⟩ := hrow.place (by omega)
  have c1 := hrow.cell hk
  have hm := hrow.each k hk
  have ik : (0 : Int) ≤ (k : Int) := by omega
  have nk : (k : Int) < (t.length : Int) := by omega
  have hmm := hm.many
  have hmc := hm.row.1
  have HOP : Hid (opT t k bridge port = if 0 ≤ bridge ∧ bridge ≤ ((tat t k).l.length : Int) - 1 then opM (mat (tat t k).l bridge.toNat) port else false) := by
   show (if (0 ≤ (k : Int) ∧ (k : Int) ≤ (t.length : Int) - 1) ∧ (0 ≤ bridge ∧ bridge ≤ ((tat t ((k : Int)).toNat).l.length : Int) - 1) then opM (mat (tat t ((k : Int)).toNat).l bridge.toNat) port else false) = _
   rw [Int.toNat_natCast]
   by_cases z : 0 ≤ bridge ∧ bridge ≤ ((tat t k).l.length : Int) - 1
   ·rw [if_pos ⟨h1, z⟩, if_pos z]
   ·rw [if_neg (fun q => z q.2), if_neg z]
  generalize tat t k = x at *
  by_cases h2 : 0 ≤ bridge ∧ bridge ≤ (x.l.length : Int) - 1
  ·obtain ⟨i, rfl⟩ : ∃ i : Nat, bridge = (i : Int) := ⟨bridge.toNat, by omega⟩
   have hi : i < x.l.length := by omega
   obtain ⟨xa, xc, xl⟩ := x
   simp only at *
   obtain ⟨b2, off2, rfl, _⟩ := hm.place (by omega)
   obtain ⟨d0, d1, d2, d3, d4, d5, d6, d7, d8⟩ := hm.cells hi
   have hmi := hm.each i hi
   have ii : (0 : Int) ≤ (i : Int) := by omega
   have ni : (i : Int) < (xl.length : Int) := by omega
   rw [Int.toNat_natCast, if_pos h2] at HOP
   generalize mat xl i = m at *
   obtain ⟨Y, HY⟩ : ∃ Y, Hid (Y = X.alloc (.cells #[.int .u64 m.md.v.root, .int .i64 m.md.v.cost, .int .u64 m.md.v.bridge, .int .i64 m.md.v.port, .int .i64 m.md.age, .int .i64 m.md.rp, .slice m.po m.ports.length m.pc, .slice m.ro m.roles.length m.rc, .slice m.co m.calm.length m.cc] 66)) := ⟨_, rfl⟩
   have hYB : Below X.heap.size X Y := by rw [HY.out]; exact below_alloc1 _ _
   have hY0 : Y.heap[X.heap.size]? = some (.cells #[.int .u64 m.md.v.root, .int .i64 m.md.v.cost, .int .u64 m.md.v.bridge, .int .i64 m.md.v.port, .int .i64 m.md.age, .int .i64 m.md.rp, .slice m.po m.ports.length m.pc, .slice m.ro m.roles.length m.rc, .slice m.co m.calm.length m.cc] 66 (0, 0)) := by rw [HY.out]; exact heap_alloc_last _ _
   have y6 : Y.cell? ⟨X.heap.size, 6, none⟩ = some (.slice m.po m.ports.length m.pc) := cell_of_row Y _ 6 _ _ _ hY0
   have y8 : Y.cell? ⟨X.heap.size, 8, none⟩ = some (.slice m.co m.calm.length m.cc) := cell_of_row Y _ 8 _ _ _ hY0
   have hXs : X.heap.size = w.heap.size + 1 := by rw [HX.out]; simp
   rw [hXs] at y8
   have HIX : Hid (Calls Tryz.prog 38 #[.slice m.po m.ports.length m.pc, .int .i64 port] Y fun e w' => e = .returned (.int .i64 (Bk.idx m.ports port m.ports.length)) ∧ w' = Y) := bindex_any m.po m.pc m.ports port Y hmi.pn (hmi.ports.below hYB)
   have HWY : Hid (Below w.heap.size w Y) := hXB.trans (hYB.mono hXB.size)
   have hcn := hmi.cn
   have hco := hmi.calm.below hYB
   have hcc := hco.1
   have HM : Hid (opM m port = if 0 ≤ Bk.idx m.ports port m.ports.length ∧ Bk.idx m.ports port m.ports.length ≤ (m.calm.length : Int) - 1 then decide (50 ≤ m.calm.getD (Bk.idx m.ports port m.ports.length).toNat 0) else false) := rfl
   generalize Bk.idx m.ports port m.ports.length = ix at *
   rw [HX.out] at c0 c1 d0 d1 d2 d3 d4 d5 d6 d7 d8
   have z6 := y6
   rw [HY.out, HX.out] at z6
   clear hrow hm hmi hXB hX0 hYB hY0 ht
   go_enter Tryz.func18, Tryz.ntmps18
   go_wp2_with fail
   refine (vwithin_any _ _ _ _).mono ?_
   rintro e w1 ⟨rfl, rfl⟩
   rw [decide_eq_true h1]
   go_wp2_with fail
   refine (vwithin_any _ _ _ _).mono ?_
   rintro e w1 ⟨rfl, rfl⟩
   rw [decide_eq_true h2]
   go_wp2_with fail
   rw [← HX.out, ← HY.out]
   refine HIX.out.mono ?_
   rintro e w1 ⟨rfl, rfl⟩
   clear c0 c1 d0 d1 d2 d3 d4 d5 d6 d7 d8 HIX z6
   by_cases h3 : 0 ≤ ix ∧ ix ≤ (m.calm.length : Int) - 1
   ·obtain ⟨j, rfl⟩ : ∃ j : Nat, ix = (j : Int) := ⟨ix.toNat, by omega⟩
    have hj : j < m.calm.length := by omega
    obtain ⟨b3, off3, e3, _⟩ := hco.place (by omega)
    rw [e3] at hco y8
    have d9 := hco.cell hj
    have jj : (0 : Int) ≤ (j : Int) := by omega
    have nj : (j : Int) < (m.calm.length : Int) := by omega
    rw [Int.toNat_natCast, if_pos h3] at HM
    clear hco
    go_wp2_with fail
    refine (vwithin_any _ _ _ _).mono ?_
    rintro e w1 ⟨rfl, rfl⟩
    rw [decide_eq_true h3]
    go_wp2_with fail
    go_ret
    exact ⟨by rw [HOP.out, HM.out]; first | rfl | simp [hj], HWY.out⟩
   ·rw [if_neg h3] at HM
    clear hco
    go_wp2_with fail
    refine (vwithin_any _ _ _ _).mono ?_
    rintro e w1 ⟨rfl, rfl⟩
    rw [decide_eq_false h3]
    go_wp2_with fail
    go_ret
    exact ⟨by rw [HOP.out, HM.out]; rfl, HWY.out⟩
  ·rw [if_neg h2] at HOP
   have HWX : Hid (Below w.heap.size w X) := hXB
   rw [HX.out] at c0 c1
   clear hrow hm hXB hX0 ht
   go_enter Tryz.func18, Tryz.ntmps18
   go_wp2_with fail
   refine (vwithin_any _ _ _ _).mono ?_
   rintro e w1 ⟨rfl, rfl⟩
   rw [decide_eq_true h1]
   go_wp2_with fail
   refine (vwithin_any _ _ _ _).mono ?_
   rintro e w1 ⟨rfl, rfl⟩
   rw [decide_eq_false h2]
   go_wp2_with fail
   rw [← HX.out]
   go_ret
   exact ⟨by rw [HOP.out]; rfl, HWX.out⟩
 ·have HOP : Hid (opT t tree bridge port = false) := if_neg (fun q => h1 q.1)
  have HWX : Hid (Below w.heap.size w X) := hXB
  rw [HX.out] at c0
  clear hXB hX0 ht
  go_enter Tryz.func18, Tryz.ntmps18
  go_wp2_with fail
  refine (vwithin_any _ _ _ _).mono ?_
  rintro e w1 ⟨rfl, rfl⟩
  rw [decide_eq_false h1]
  go_wp2_with fail
  rw [← HX.out]
  go_ret
  exact ⟨by rw [HOP.out]; rfl, HWX.out⟩
end Go.Proofs.YtaneiffnhphkhaaGreatDoor
namespace Go.Proofs.YtaneiffnhphkhaaGreatDoor
open Go.RowKit
open Vc (V Of)
open Pl (Br Net Pc Lk En St)
open Tk (Md Mnd Cn Sc Dn)
theorem start_ok {n : Net} (hw : n.Wf) (h : n.wrong.1 = 0) (T : Nat) : Tk.Ok n.cn (n.sc (startMs n)) T := by
 refine ⟨net_fine hw h _, fun k hk i hi => ?_, fun k hk i hi j => ?_⟩
 ·rw [Pl.Net.sc_E]
  have e : (n.pts i).length = (n.ends i).length := by unfold Pl.Net.pts; simp
  show (zer (n.pts i).length).length = _ ∧ (zer (n.pts i).length).length = _
  rw [zer_len]
  exact ⟨e, e⟩
 ·show 0 ≤ (zer (n.pts i).length).getD j 0 ∧ (0 < (zer (n.pts i).length).getD j 0 → _)
  rw [zer_get]
  exact ⟨Int.le_refl _, fun h => absurd h (Int.lt_irrefl _)⟩
theorem all_ticks (s : Sc) (c : Cn) (ds : Nat → Dn) (dn : Nat) (tk : Int) : s.all c (dsT dn ds tk) (dn + 1) = (s.all c ds dn).ticks c tk.toNat := by
 have e : dsT dn ds tk = fun k => if k < dn then ds k else tickD tk := rfl
 rw [e, Tk.all_last, Tk.Sc.one_tick rfl]
 rfl
theorem dsT_err {c : Cn} {ds : Nat → Dn} {dn : Nat} {tk : Int} (h : ∀ k, k < dn + 1 → Tk.errOf c (dsT dn ds tk k) = 0) : ∀ k, k < dn → Tk.errOf c (ds k) = 0 := fun k hk => by
 have := h k (by omega)
 unfold dsT at this
 rw [if_pos hk] at this
 exact this
theorem sn_net {W : World} {n : Net} {T : Nat} {s : Sc} {n' : Net} {oa : Option Addr} {oc : Nat} {t' : List Tr} (h : SnOut W n T s n' oa oc t') : n'.K = n.K ∧ n'.L = n.L ∧ n'.ends = s.E n.cn ∧ ∀ k : Int, n'.ids k = s.ids n.cn k := by
 have e1 : n'.K = n.K := congrArg Cn.K h.cn
 have e2 : n'.L = n.L := congrArg Cn.L h.cn
 refine ⟨e1, e2, ?_, fun k => ?_⟩
 ·have := Pl.Net.sc_E n' s.ms
  rw [h.sc, h.cn] at this
  exact this.symm
 ·funext i
  have := net_ids (n := n') s.ms k i
  rw [h.sc, h.cn] at this
  exact this.symm
theorem idx_at {l : List Int} {j : Nat} (hj : j < l.length) (h : ∀ a, a < j → l.getD a 0 ≠ l.getD j 0) : Bk.idx l (l.getD j 0) l.length = (j : Int) := by
 have H : ∀ k, k ≤ l.length → Bk.idx l (l.getD j 0) k = if j < k then (j : Int) else -1 := by
  intro k
  induction k with
  | zero => intro _; rfl
  | succ k ih =>
   intro hk
   have ih := ih (by omega)
   show (if 0 ≤ Bk.idx l (l.getD j 0) k then Bk.idx l (l.getD j 0) k else if l.getD j 0 = l.getD k 0 then (k : Int) else -1) = _
   rw [ih]
   by_cases q : j < k
   ·rw [if_pos q, if_pos (by omega), if_pos (by omega)]
   ·rw [if_neg q, if_neg (by omega)]
    by_cases q2 : j = k
    ·subst q2
     rw [if_pos rfl, if_pos (by omega)]
    ·rw [if_neg (fun e => h k (by omega) e.symm), if_neg (by omega)]
 rw [H _ (Nat.le_refl _), if_pos hj]
theorem EL_get {es : List En} {j : Nat} (hj : j < es.length) : es[j]? = some (EL es j) := by
 simp [EL, hj]
theorem pts_get {es : List En} {j : Nat} (hj : j < es.length) : (es.map (fun e : En => e.port)).getD j 0 = (EL es j).port := by
 simp [EL, hj]
theorem sn_opens {W : World} {n : Net} {T : Nat} {ds : Nat → Dn} {dn : Nat} {tk : Int} {n' : Net} {oa : Option Addr} {oc : Nat} {t' : List Tr} (h : SnOut W n T ((n.sc (startMs n)).all n.cn (dsT dn ds tk) (dn + 1)) n' oa oc t') (hw : n.Wf) (h0 : n.wrong.1 = 0) (he : ∀ k, k < dn → Tk.errOf n.cn (ds k) = 0) (ht : 83 ≤ tk.toNat)
  {k i j : Nat} (hk : k < T) (hi : i < n.K) (hj : j < (n'.ends i).length) :
  opT t' k i (EL (n'.ends i) j).port = decide (Pl.roleAt (Pl.rounds (n'.ids k) n'.ends n'.K n'.K i) (Pl.offs (n'.ends i) (Pl.rounds (n'.ids k) n'.ends n'.K n'.K)) (EL (n'.ends i) j) = 1 ∨ Pl.roleAt (Pl.rounds (n'.ids k) n'.ends n'.K n'.K i) (Pl.offs (n'.ends i) (Pl.rounds (n'.ids k) n'.ends n'.K n'.K)) (EL (n'.ends i) j) = 2) := by
 obtain ⟨e1, _, e3, e4⟩ := sn_net h
 have hE := h.each k hk
 have hlen := h.len
 rw [all_ticks] at hE e3 e4
 obtain ⟨s0, hs0⟩ : ∃ s0, s0 = (n.sc (startMs n)).all n.cn ds dn := ⟨_, rfl⟩
 rw [← hs0] at hE e3 e4
 have e3 : n'.ends = s0.E n.cn := e3
 have e4 : n'.ids k = s0.ids n.cn k := e4 k
 have hok : Tk.Ok n.cn s0 T := by rw [hs0]; exact (start_ok hw h0 T).all ds dn he
 have hsame := ((net_fine hw h0 (startMs n)).all ds dn he)
 rw [← hs0] at hsame
 have hpts : n.pts i = (n'.ends i).map (fun e : En => e.port) := by
  have := (hsame.2.len (net_fine hw h0 (startMs n)) hsame.1 i).1
  rw [Pl.Net.sc_E] at this
  rw [e3]
  exact this.symm
 obtain ⟨hl, hm⟩ := hE
 obtain ⟨hm1, hm2⟩ := hm i hi
 have hcalm : (mat (tat t' k).l i).calm = ((s0.ticks n.cn tk.toNat).ms k i).calm := congrArg Mnd.calm hm1
 have hfit := ((ok_ticks hok tk.toNat).fit k hk i hi).2
 have hfit : ((s0.ticks n.cn tk.toNat).ms k i).calm.length = (n'.ends i).length := by rw [e3]; exact hfit
 rw [e3] at hj hpts hfit ⊢
 have hop := hok.opens ht hk hi (EL_get hj)
 have hrole : (s0.roles n.cn k i).getD j 0 = Pl.roleAt (s0.says n.cn k i) (Pl.offs (s0.E n.cn i) (s0.says n.cn k)) (EL (s0.E n.cn i) j) := by
  unfold Tk.Sc.roles
  exact Tk.map_getD _ _ (EL_get hj)
 have hsays : Pl.rounds (n'.ids k) (s0.E n.cn) n'.K n'.K = s0.says n.cn k := by
  rw [e4, e1]
  rfl
 rw [hsays, ← hrole]
 have hidx : Bk.idx (mat (tat t' k).l i).ports (EL (s0.E n.cn i) j).port (mat (tat t' k).l i).ports.length = (j : Int) := by
  rw [hm2, hpts, ← pts_get hj]
  refine idx_at (by simpa using hj) (fun a ha => ?_)
  rw [pts_get (by omega), pts_get hj]
  have hs := Pl.ends_sorted hok.fine.links (s0.lv n.cn) i
  have := List.pairwise_iff_getElem.1 hs a j (by have := hj; unfold Tk.Sc.E at this; omega) (by have := hj; unfold Tk.Sc.E at this; exact this) ha
  have g1 : EL (s0.E n.cn i) a = (s0.E n.cn i)[a]'(by omega) := by simp [EL, show a < (s0.E n.cn i).length by omega]
  have g2 : EL (s0.E n.cn i) j = (s0.E n.cn i)[j] := by simp [EL, hj]
  rw [g1, g2]
  exact Int.ne_of_lt this
 unfold opT
 rw [Int.toNat_natCast, Int.toNat_natCast, if_pos ⟨⟨by omega, by omega⟩, ⟨by omega, by omega⟩⟩]
 unfold opM
 rw [hidx, hcalm, if_pos ⟨by omega, by omega⟩, Int.toNat_natCast]
 exact decide_eq_decide.2 hop
theorem boxes_kept {V W0 W U : World} {b g7 g8 g9 : Nat} {v0 v1 v2 v3 v4 : Value} {P : World → Prop} (hK : Kept W0 b P) (hVb : V.heap.size ≤ b) (hb : Below W0.heap.size W0 W) (z7 : g7 < V.heap.size ∨ W0.heap.size ≤ g7) (z8 : g8 < V.heap.size ∨ W0.heap.size ≤ g8) (z9 : g9 < V.heap.size ∨ W0.heap.size ≤ g9)
  (hU : Below W.heap.size (((((W.setCell ⟨g7, 0, none⟩ v0).setCell ⟨g7, 1, none⟩ v1).setCell ⟨g8, 0, none⟩ v2).setCell ⟨g9, 0, none⟩ v3).setCell ⟨g9, 1, none⟩ v4) U) : P U := hK U (fun q h1 h2 => by
 have hs := hb.size
 rw [hU.block q (by omega), heap_setCell_other _ _ _ _ (by show q ≠ g9; omega), heap_setCell_other _ _ _ _ (by show q ≠ g9; omega), heap_setCell_other _ _ _ _ (by show q ≠ g8; omega), heap_setCell_other _ _ _ _ (by show q ≠ g7; omega), heap_setCell_other _ _ _ _ (by show q ≠ g7; omega)]
 exact hb.block q h2)
theorem sn_pts {W : World} {n : Net} {T : Nat} {ds : Nat → Dn} {dn : Nat} {n' : Net} {oa : Option Addr} {oc : Nat} {t' : List Tr} (h : SnOut W n T ((n.sc (startMs n)).all n.cn ds dn) n' oa oc t') (hw : n.Wf) (h0 : n.wrong.1 = 0) (he : ∀ k, k < dn → Tk.errOf n.cn (ds k) = 0) (i : Nat) : n.pts i = n'.pts i := by
 obtain ⟨_, _, e3, _⟩ := sn_net h
 have hsame := ((net_fine hw h0 (startMs n)).all ds dn he)
 have := (hsame.2.len (net_fine hw h0 (startMs n)) hsame.1 i).1
 rw [Pl.Net.sc_E, ← e3] at this
 exact this.symm
end Go.Proofs.YtaneiffnhphkhaaGreatDoor
namespace Go.Proofs.YtaneiffnhphkhaaGreatDoor
open Go.RowKit
open Vc (V Of)
open Pl (Br Net Pc Lk En St)
namespace Pl
def LN (l : List Nat) (j : Nat) : Nat := l.getD j 0
def Net.lvsTo (n : Net) (k : Nat) : List Nat := (List.range k).filter n.live
def Net.lvs (n : Net) : List Nat := n.lvsTo n.L
theorem Net.lvsTo_next (n : Net) (k : Nat) : n.lvsTo (k + 1) = n.lvsTo k ++ if n.live k = true then [k] else [] := by
 unfold Net.lvsTo
 rw [List.range_succ, List.filter_append]
 congr 1
 cases h : n.live k <;> simp [h]
theorem Net.lvsTo_few (n : Net) (k : Nat) : (n.lvsTo k).length ≤ k := by
 have := List.length_filter_le n.live (List.range k)
 rw [List.length_range] at this
 exact this
theorem LN_get {l : List Nat} {j : Nat} (h : j < l.length) : LN l j = l[j] := by
 unfold LN
 rw [List.getD_eq_getElem?_getD, List.getElem?_eq_getElem h]
 rfl
theorem Net.lvs_mem {n : Net} {j : Nat} (h : j < n.lvs.length) : LN n.lvs j < n.L ∧ n.live (LN n.lvs j) = true := by
 have hm : LN n.lvs j ∈ n.lvs := by rw [LN_get h]; exact List.getElem_mem h
 unfold Net.lvs Net.lvsTo at hm
 obtain ⟨h1, h2⟩ := List.mem_filter.1 hm
 exact ⟨List.mem_range.1 h1, h2⟩
theorem Net.lvs_rise {n : Net} {i j : Nat} (hij : i < j) (h : j < n.lvs.length) : LN n.lvs i < LN n.lvs j := by
 have hp : n.lvs.Pairwise (· < ·) := by
  unfold Net.lvs Net.lvsTo
  exact List.Pairwise.filter _ List.pairwise_lt_range
 rw [LN_get (by omega), LN_get h]
 exact List.pairwise_iff_getElem.1 hp i j (by omega) h hij
theorem Net.lvs_all {n : Net} {k : Nat} (hk : k < n.L) (h : n.live k = true) : ∃ j, j < n.lvs.length ∧ LN n.lvs j = k := by
 have hm : k ∈ n.lvs := List.mem_filter.2 ⟨List.mem_range.2 hk, h⟩
 obtain ⟨j, hj, e⟩ := List.getElem_of_mem hm
 exact ⟨j, hj, by rw [LN_get hj]; exact e⟩
end Pl
open Pl (LN)
abbrev lkCells (ls : Nat → Lk) (l : List Nat) : List Value := cellsL l.length 6 (fun j => lkC (ls (LN l j)))
theorem ln_snoc (ls : Nat → Lk) (l : List Nat) (k : Nat) : cellsL (l.length + 1) 6 (catC l.length (fun j => lkC (ls (LN l j))) (fun _ => lkC (ls k))) = lkCells ls (l ++ [k]) := by
 unfold lkCells
 rw [List.length_append]
 apply cellsL_congr
 intro i hi
 simp only [catC]
 by_cases q : i < l.length
 ·rw [if_pos q]
  simp [LN, List.getD, List.getElem?_append_left q]
 ·rw [if_neg q]
  obtain rfl : i = l.length := by omega
  simp [LN, List.getD]
theorem one_lk_row {w : World} {g : Nat} {l : Lk} {ty : TypeId} (h : w.heap[g]? = some (.cells (lkA l) ty (0, 0))) : LRow w (some ⟨g, 0, none⟩) 1 1 (fun _ => l) := by
 refine ⟨Nat.le_refl _, fun _ => ⟨g, 0, rfl, (Array.getElem?_eq_some_iff.1 h).1, fun i hi j hj => ?_⟩⟩
 obtain rfl : i = 0 := by omega
 rcases (by omega : j = 0 ∨ j = 1 ∨ j = 2 ∨ j = 3 ∨ j = 4 ∨ j = 5) with e | e | e | e | e | e <;> subst e <;> exact cell_of_row w g _ _ _ _ h
theorem ids_range {n : Net} (R : n.Right) (tree : Int) {i : Nat} (hi : i < n.K) : 0 ≤ n.ids tree i ∧ n.ids tree i < 18446744073709551616 := by
 obtain ⟨h1, h2, h3, _⟩ := R.fine i hi
 have hp : 0 ≤ (n.bs i).prio tree ∧ (n.bs i).prio tree ≤ 61440 := by
  unfold Pl.Br.prio
  by_cases h : 0 ≤ tree ∧ tree ≤ ((n.bs i).pn : Int) - 1
  ·rw [if_pos h]; exact h3 _ (by omega)
  ·rw [if_neg h]; exact ⟨by decide, by decide⟩
 unfold Pl.Net.ids Pl.Br.id
 generalize (n.bs i).prio tree = p at *
 omega
theorem ids_apart {n : Net} (R : n.Right) (tree : Int) : ∀ i j, i < n.K → j < n.K → n.ids tree i = n.ids tree j → i = j := by
 intro i j hi hj e
 have h1 := (R.fine i hi).addr
 have h2 := (R.fine j hj).addr
 refine R.apart i j hi hj ?_
 unfold Pl.Net.ids Pl.Br.id at e
 generalize (n.bs i).prio tree = p at *
 generalize (n.bs j).prio tree = q at *
 omega
end Go.Proofs.YtaneiffnhphkhaaGreatDoor
namespace Go.Proofs.YtaneiffnhphkhaaGreatDoor
open Go.RowKit
set_option maxRecDepth 100000 in
set_option maxHeartbeats 1000000 in
theorem rtable_any (s : ByteArray) (rev : Int) (ao : Option Addr) (n cap : Nat) (vs ts : Nat → Int) (w : World) (hR : Rg.Right vs ts n) (hr : WayRow w ao n cap vs ts) :
  Calls Tryz.prog 136 #[.agg #[.string s, .int .i64 rev, .slice ao n cap]] w fun e w' => ∃ g, e = .returned (.slice (some ⟨g, 0, none⟩) 4096 4096) ∧ w'.heap[g]? = some (.cells (rowF 4096 (fun i => Rg.tree vs ts (i : Int) n)) 5 (0, 0)) ∧ Below w.heap.size w w' := by
 have hn := hR.many
 have HRt : Hid (Rg.Right vs ts n) := hR
 have HW : Hid (∀ W, Below w.heap.size w W → WayRow W ao n cap vs ts) := fun W hW => hr.below hW
 clear hr hR
 have hmk : ∀ W : World, (Instr.makeSlice 126 (.int .i64 4096) (.int .i64 4096)).run Tryz.prog W = .ok (.slice (some ⟨W.heap.size, 0, none⟩) 4096 4096) (W.alloc (.cells (rowF 4096 (fun _ => 0)) 5)) := fun W => make_room W 4096 4096 (by omega) (by omega)
 go_enter Tryz.func136, Tryz.ntmps136
 go_wp2_with fail
 go_loopw [10] (fun i wr => ∃ k : Nat, k ≤ n ∧ i = .int .i64 k ∧ Hid (wr.heap[w.heap.size + 1]? = some (.cells (rowF 4096 (fun i => Rg.tree vs ts (i : Int) k)) 5 (0, 0))) ∧ Hid (Below w.heap.size w wr)) (fun i _ => n - (intOf i).toNat)
 case atStart => exact ⟨0, by omega, rfl, heap_alloc2_new w _ _, below_alloc2 _ _ _⟩
 case round =>
  clear hmk
  obtain ⟨k, hk, rfl, hX, hB⟩ := hrel
  by_cases hlt : k < n
  ·obtain ⟨b, off, rfl, hb, hc⟩ := (HW.out _ hB.out).2 (by omega)
   have hcap := (HW.out _ hB.out).1
   have c0 : wr.cell? ⟨b, off + k * 2, none⟩ = some (.int .i64 (vs k)) := (hc k hlt).1
   have c1 : wr.cell? ⟨b, off + k * 2 + 1, none⟩ = some (.int .i64 (ts k)) := (hc k hlt).2
   have hv := HRt.out.vid k hlt
   have ht := HRt.out.tree k hlt
   obtain ⟨m, hm⟩ := Int.eq_ofNat_of_zero_le (show 0 ≤ vs k by omega)
   have hz : w.heap.size + 1 < wr.heap.size := block_lt_of_cell ((cell_of_row wr _ 0 _ _ _ hX.out).trans (rowF_get _ _ _ (by omega)))
   have c4 : wr.cell? ⟨w.heap.size + 1, m, none⟩ = some (.int .u8 (Rg.tree vs ts (m : Int) k)) := (cell_of_row _ _ _ _ _ _ hX.out).trans (rowF_get _ _ _ (by omega))
   have f4 : wr.frozen? ⟨w.heap.size + 1, m, none⟩ = false := frozen_of_row _ _ _ _ _ hX.out
   have HX : Hid (∀ o, ((wr.setCell ⟨w.heap.size + 1, m, none⟩ (.int .u8 (ts k))).alloc o).heap[w.heap.size + 1]? = some (.cells (rowF 4096 (fun i => Rg.tree vs ts (i : Int) (k + 1))) 5 (0, 0))) := by
    intro o
    rw [Below.heap_alloc _ _ _ (by simpa [World.setCell] using hz), heap_setCell_same _ _ _ _ _ _ hX.out, rowF_set _ _ _ _ (by omega)]
    congr 2
    apply rowF_congr
    intro i _
    simp only [Rg.tree, hm]
    by_cases e : i = m
    ·rw [if_pos e, if_pos (by omega)]
    ·rw [if_neg e, if_neg (by omega)]
   have HB : Hid (∀ o, Below w.heap.size w ((wr.setCell ⟨w.heap.size + 1, m, none⟩ (.int .u8 (ts k))).alloc o)) := fun o => (hB.out.setCell (Nat.le_succ _) _).alloc (by have := hB.out.size; simpa [World.setCell] using this) _
   have hm1 : (m : Int) < 4096 := by omega
   have HM : Hid (vs k = (m : Int)) := hm
   rw [hm] at c0 hv
   clear hm hc HW HRt hX hB
   generalize ts k = t at *
   go_wp2
   exact ⟨⟨k + 1, by omega, by go_num, HX.out _, HB.out _⟩, by simp [intOf]; omega⟩
  ·obtain rfl : k = n := by omega
   go_wp2
   go_ret
   exact ⟨_, rfl, hX.out, hB.out⟩
end Go.Proofs.YtaneiffnhphkhaaGreatDoor
namespace Go.Proofs.YtaneiffnhphkhaaGreatDoor
namespace Md
def padM (n : Nat) : Nat := n / 64 + lastN (n % 64)
def pad (n : Nat) (bs : Nat → Int) (i : Nat) : Int :=
 if i < n then bs i else if i = n then 128 else if i + 8 < 64 * padM n then 0 else (8 * (n : Int)) / 2 ^ (8 * (i + 8 - 64 * padM n)) % 256
theorem padM_ge (n : Nat) : n + 9 ≤ 64 * padM n ∧ 64 * padM n < n + 9 + 64 := by
 unfold padM lastN
 split <;> omega
theorem wd_congr (f g : Nat → Int) (i : Nat) (h : ∀ j, j < 64 → f j = g j) (hi : i < 16) : wd f i = wd g i := by
 unfold wd
 rw [h (4 * i) (by omega), h (4 * i + 1) (by omega), h (4 * i + 2) (by omega), h (4 * i + 3) (by omega)]
theorem runTo_congr (f g : Nat → Int) (h : ∀ j, j < 64 → f j = g j) (s : St) : ∀ k, runTo f k s = runTo g k s
 | 0 => rfl
 | k + 1 => by
  show stp f k (runTo f k s) = stp g k (runTo g k s)
  rw [runTo_congr f g h s k]
  unfold stp
  rw [wd_congr f g _ h (ksel_lt k)]
theorem mixS_congr (f g : Nat → Int) (h : ∀ j, j < 64 → f j = g j) (s : St) : mixS s f = mixS s g := by
 unfold mixS
 rw [runTo_congr f g h s 64]
theorem mixN_congr (f g : Nat → Int) (s : St) : ∀ m, (∀ j, j < 64 * m → f j = g j) → mixN s f m = mixN s g m
 | 0, _ => rfl
 | m + 1, h => by
  show mixS (mixN s f m) _ = mixS (mixN s g m) _
  rw [mixN_congr f g s m (fun j hj => h j (by omega))]
  exact mixS_congr _ _ (fun j hj => h (64 * m + j) (by omega)) _
theorem mixN_add (f : Nat → Int) (s : St) (a : Nat) : ∀ b, mixN s f (a + b) = mixN (mixN s f a) (fun i => f (64 * a + i)) b
 | 0 => rfl
 | b + 1 => by
  show mixS (mixN s f (a + b)) (fun i => f (64 * (a + b) + i)) = mixS (mixN (mixN s f a) (fun i => f (64 * a + i)) b) (fun i => f (64 * a + (64 * b + i)))
  rw [mixN_add f s a b]
  exact mixS_congr _ _ (fun j _ => by rw [show 64 * (a + b) + j = 64 * a + (64 * b + j) by omega]) _
theorem last_pad (n : Nat) (bs : Nat → Int) (i : Nat) (h : i < 64 * lastN (n % 64)) : pad n bs (64 * (n / 64) + i) = lastB (n % 64) (fun i => bs (64 * (n / 64) + i)) (((0 : Nat) : Int) + (n : Int) * 1 * 8) i := by
 unfold pad lastB lastTo
 have e : 64 * padM n = 64 * (n / 64) + 64 * lastN (n % 64) := by unfold padM; omega
 have h9 := (padM_ge n).1
 rw [e] at h9 ⊢
 by_cases h1 : i < n % 64
 ·rw [if_pos (by omega), if_pos h1]
 ·rw [if_neg (by omega), if_neg h1]
  by_cases h2 : i = n % 64
  ·rw [if_pos (by omega), if_pos h2]
  ·rw [if_neg (by omega), if_neg h2]
   by_cases h3 : i + 8 < 64 * lastN (n % 64)
   ·rw [if_pos (by omega), if_neg (by omega)]
   ·rw [if_neg (by omega), if_pos (by omega)]
    have e2 : 64 * (n / 64) + i + 8 - (64 * (n / 64) + 64 * lastN (n % 64)) = i + 8 - 64 * lastN (n % 64) := by omega
    rw [e2]
    congr 2
    omega
theorem sum_same (n : Nat) (bs : Nat → Int) : mixN st0 (pad n bs) (padM n) = fin st0 0 n bs := by
 unfold padM fin
 rw [mixN_add, mixN_congr (pad n bs) bs st0 (n / 64) (fun j hj => by unfold pad; rw [if_pos (by omega)])]
 apply mixN_congr
 intro j hj
 have h := last_pad n bs j hj
 simp only [Int.mul_one] at h
 rw [h]
 congr 1
 simp
end Md
end Go.Proofs.YtaneiffnhphkhaaGreatDoor
namespace Go.Proofs.YtaneiffnhphkhaaGreatDoor
open Go.RowKit
set_option maxHeartbeats 1000000 in
theorem turn_any (x k : Int) (w : World) (h0 : 0 ≤ k) (h1 : k < 32) :
  Calls Tryz.prog 164 #[.int .u32 x, .int .i64 k] w fun e w' => e = .returned (.int .u32 (Md.rotl x k)) ∧ ∃ n, w' = w.drewN n := by
 have hw : IntKind.i64.wrap (32 - k) = 32 - k := by simp [IntKind.wrap, IntKind.bits, IntKind.signed]; omega
 have h2 : 0 ≤ 32 - k := by omega
 go_enter Tryz.func164, Tryz.ntmps164
 go_wp2_with fail
 go_quiet (fail)
 go_wp2
 go_ret
 exact ⟨rfl, nq, rfl⟩
set_option maxHeartbeats 1000000 in
theorem table_any (w : World) :
  Calls Tryz.prog 162 #[] w fun e w' => e = .returned (.slice (some ⟨w.heap.size, 0, none⟩) 64 64) ∧ (∀ i, i < 64 → w'.cell? ⟨w.heap.size, i, none⟩ = some (.int .u32 (Md.tabAt i))) ∧ w.heap.size < w'.heap.size ∧ Below w.heap.size w w' := by
 go_enter Tryz.func162, Tryz.ntmps162
 go_wp2
 go_ret
 refine ⟨rfl, fun i hi => ?_, by simp, (Below.refl _ _).alloc (Nat.le_refl _) _⟩
 rw [World.cell?_alloc_at _ _ _ _ rfl]
 have h : ∀ i, i < 64 → Md.tab[i]? = some (Md.tabAt i) := by decide
 have e := h i hi
 show ((Md.tab.map (Value.int .u32)).toArray)[i]? = _
 simp [e]
set_option maxHeartbeats 1000000 in
theorem round0 (k : Nat) (b c d : Int) (w : World) (hk : k < 16) :
  Calls Tryz.prog 163 #[.int .i64 0, .int .i64 k, .int .u32 b, .int .u32 c, .int .u32 d] w fun e w' => e = .returned (.tuple #[.int .u32 (Md.fsel (16 * 0 + k) b c d), .int .i64 (Md.ksel (16 * 0 + k)), .int .i64 (Md.trnAt ((16 * 0 + k) / 16 * 4 + (16 * 0 + k) % 4))]) ∧ Below w.heap.size w w' := by
 obtain ⟨j, hj⟩ : ∃ j, j = k % 4 := ⟨_, rfl⟩
 have k2 : Int.tmod (k : Int) 4 = (j : Int) := by rw [Int.tmod_eq_emod_of_nonneg (by omega)]; omega
 have k3 : (k : Int) % 4 = (j : Int) := by omega
 have k4 : (j : Int) < 4 := by omega
 have k5 : j < 4 := by omega
 have HF : Hid (Md.fsel (16 * 0 + k) b c d = bits BinOp.or IntKind.u32 (bits BinOp.and IntKind.u32 b c) (bits BinOp.and IntKind.u32 (bits BinOp.xor IntKind.u32 IntKind.u32.max b) d)) := by
  show _ = _
  simp [Md.fsel, hk]
 have HT : Hid (Value.int .i64 (Md.trnAt ((16 * 0 + k) / 16 * 4 + (16 * 0 + k) % 4)) = [Value.int .i64 7, .int .i64 12, .int .i64 17, .int .i64 22][j]'(by simpa using k5)) := by
  show _ = _
  have e : (16 * 0 + k) / 16 * 4 + (16 * 0 + k) % 4 = 0 + j := by omega
  rw [e]
  rcases (show j = 0 ∨ j = 1 ∨ j = 2 ∨ j = 3 by omega) with rfl | rfl | rfl | rfl <;> rfl
 have HK : Hid (((Md.ksel (16 * 0 + k) : Nat) : Int) = (k : Int)) := by
  show _ = _
  simp [Md.ksel, hk]
 clear hj
 rw [HF.out, HK.out, HT.out]
 clear HF HK HT
 go_enter Tryz.func163, Tryz.ntmps163
 go_wp2_with fail
 go_region
 all_goals go_wp2
 all_goals go_ret3
 all_goals exact ⟨rfl, ((Below.refl _ _).alloc (Nat.le_refl _) _).drew⟩
set_option maxHeartbeats 1000000 in
theorem round1 (k : Nat) (b c d : Int) (w : World) (hk : k < 16) :
  Calls Tryz.prog 163 #[.int .i64 1, .int .i64 k, .int .u32 b, .int .u32 c, .int .u32 d] w fun e w' => e = .returned (.tuple #[.int .u32 (Md.fsel (16 * 1 + k) b c d), .int .i64 (Md.ksel (16 * 1 + k)), .int .i64 (Md.trnAt ((16 * 1 + k) / 16 * 4 + (16 * 1 + k) % 4))]) ∧ Below w.heap.size w w' := by
 obtain ⟨j, hj⟩ : ∃ j, j = k % 4 := ⟨_, rfl⟩
 have k2 : Int.tmod (k : Int) 4 = (j : Int) := by rw [Int.tmod_eq_emod_of_nonneg (by omega)]; omega
 have k3 : (k : Int) % 4 = (j : Int) := by omega
 have k4 : (j : Int) < 4 := by omega
 have k5 : j < 4 := by omega
 have HF : Hid (Md.fsel (16 * 1 + k) b c d = bits BinOp.or IntKind.u32 (bits BinOp.and IntKind.u32 b d) (bits BinOp.andNot IntKind.u32 c d)) := by
  show _ = _
  simp [Md.fsel, show 16 + k < 32 by omega, show ¬ 16 + k < 16 by omega]
 have HT : Hid (Value.int .i64 (Md.trnAt ((16 * 1 + k) / 16 * 4 + (16 * 1 + k) % 4)) = [Value.int .i64 5, .int .i64 9, .int .i64 14, .int .i64 20][j]'(by simpa using k5)) := by
  show _ = _
  have e : (16 * 1 + k) / 16 * 4 + (16 * 1 + k) % 4 = 4 + j := by omega
  rw [e]
  rcases (show j = 0 ∨ j = 1 ∨ j = 2 ∨ j = 3 by omega) with rfl | rfl | rfl | rfl <;> rfl
 obtain ⟨q, hq⟩ : ∃ q, q = (1 + 5 * k) % 16 := ⟨_, rfl⟩
 have m1 : IntKind.i64.wrap (5 * (k : Int)) = 5 * (k : Int) := by simp [IntKind.wrap, IntKind.bits, IntKind.signed]; omega
 have m2 : IntKind.i64.wrap (1 + 5 * (k : Int)) = 1 + 5 * (k : Int) := by simp [IntKind.wrap, IntKind.bits, IntKind.signed]; omega
 have m3 : Int.tmod (1 + 5 * (k : Int)) 16 = (q : Int) := by rw [Int.tmod_eq_emod_of_nonneg (by omega)]; omega
 have m4 : (1 + 5 * (k : Int)) % 16 = (q : Int) := by omega
 have HK : Hid (((Md.ksel (16 * 1 + k) : Nat) : Int) = (q : Int)) := by
  show _ = _
  have e : Md.ksel (16 * 1 + k) = q := by
   simp [Md.ksel, show 16 + k < 32 by omega, show ¬ 16 + k < 16 by omega]
   omega
  rw [e]
 clear hj hq
 go_enter Tryz.func163, Tryz.ntmps163
 go_wp2_with fail
 go_region
 all_goals go_wp2
 all_goals go_ret3
 all_goals exact ⟨by rw [HF.out, HK.out, HT.out]; rfl, ((Below.refl _ _).alloc (Nat.le_refl _) _).drew⟩
set_option maxHeartbeats 1000000 in
theorem round2 (k : Nat) (b c d : Int) (w : World) (hk : k < 16) :
  Calls Tryz.prog 163 #[.int .i64 2, .int .i64 k, .int .u32 b, .int .u32 c, .int .u32 d] w fun e w' => e = .returned (.tuple #[.int .u32 (Md.fsel (16 * 2 + k) b c d), .int .i64 (Md.ksel (16 * 2 + k)), .int .i64 (Md.trnAt ((16 * 2 + k) / 16 * 4 + (16 * 2 + k) % 4))]) ∧ Below w.heap.size w w' := by
 obtain ⟨j, hj⟩ : ∃ j, j = k % 4 := ⟨_, rfl⟩
 have k2 : Int.tmod (k : Int) 4 = (j : Int) := by rw [Int.tmod_eq_emod_of_nonneg (by omega)]; omega
 have k3 : (k : Int) % 4 = (j : Int) := by omega
 have k4 : (j : Int) < 4 := by omega
 have k5 : j < 4 := by omega
 have HF : Hid (Md.fsel (16 * 2 + k) b c d = bits BinOp.xor IntKind.u32 (bits BinOp.xor IntKind.u32 b c) d) := by
  show _ = _
  simp [Md.fsel, show 32 + k < 48 by omega, show ¬ 32 + k < 16 by omega, show ¬ 32 + k < 32 by omega]
 have HT : Hid (Value.int .i64 (Md.trnAt ((16 * 2 + k) / 16 * 4 + (16 * 2 + k) % 4)) = [Value.int .i64 4, .int .i64 11, .int .i64 16, .int .i64 23][j]'(by simpa using k5)) := by
  show _ = _
  have e : (16 * 2 + k) / 16 * 4 + (16 * 2 + k) % 4 = 8 + j := by omega
  rw [e]
  rcases (show j = 0 ∨ j = 1 ∨ j = 2 ∨ j = 3 by omega) with rfl | rfl | rfl | rfl <;> rfl
 obtain ⟨q, hq⟩ : ∃ q, q = (5 + 3 * k) % 16 := ⟨_, rfl⟩
 have m1 : IntKind.i64.wrap (3 * (k : Int)) = 3 * (k : Int) := by simp [IntKind.wrap, IntKind.bits, IntKind.signed]; omega
 have m2 : IntKind.i64.wrap (5 + 3 * (k : Int)) = 5 + 3 * (k : Int) := by simp [IntKind.wrap, IntKind.bits, IntKind.signed]; omega
 have m3 : Int.tmod (5 + 3 * (k : Int)) 16 = (q : Int) := by rw [Int.tmod_eq_emod_of_nonneg (by omega)]; omega
 have m4 : (5 + 3 * (k : Int)) % 16 = (q : Int) := by omega
 have HK : Hid (((Md.ksel (16 * 2 + k) : Nat) : Int) = (q : Int)) := by
  show _ = _
  have e : Md.ksel (16 * 2 + k) = q := by
   simp [Md.ksel, show 32 + k < 48 by omega, show ¬ 32 + k < 16 by omega, show ¬ 32 + k < 32 by omega]
   omega
  rw [e]
 clear hj hq
 go_enter Tryz.func163, Tryz.ntmps163
 go_wp2_with fail
 go_region
 all_goals go_wp2
 all_goals go_ret3
 all_goals exact ⟨by rw [HF.out, HK.out, HT.out]; rfl, ((Below.refl _ _).alloc (Nat.le_refl _) _).drew⟩
set_option maxHeartbeats 1000000 in
theorem round3 (k : Nat) (b c d : Int) (w : World) (hk : k < 16) :
  Calls Tryz.prog 163 #[.int .i64 3, .int .i64 k, .int .u32 b, .int .u32 c, .int .u32 d] w fun e w' => e = .returned (.tuple #[.int .u32 (Md.fsel (16 * 3 + k) b c d), .int .i64 (Md.ksel (16 * 3 + k)), .int .i64 (Md.trnAt ((16 * 3 + k) / 16 * 4 + (16 * 3 + k) % 4))]) ∧ Below w.heap.size w w' := by
 obtain ⟨j, hj⟩ : ∃ j, j = k % 4 := ⟨_, rfl⟩
 have k2 : Int.tmod (k : Int) 4 = (j : Int) := by rw [Int.tmod_eq_emod_of_nonneg (by omega)]; omega
 have k3 : (k : Int) % 4 = (j : Int) := by omega
 have k4 : (j : Int) < 4 := by omega
 have k5 : j < 4 := by omega
 have HF : Hid (Md.fsel (16 * 3 + k) b c d = bits BinOp.xor IntKind.u32 c (bits BinOp.or IntKind.u32 b (bits BinOp.xor IntKind.u32 IntKind.u32.max d))) := by
  show _ = _
  simp [Md.fsel, show ¬ 48 + k < 16 by omega, show ¬ 48 + k < 32 by omega, show ¬ 48 + k < 48 by omega]
 have HT : Hid (Value.int .i64 (Md.trnAt ((16 * 3 + k) / 16 * 4 + (16 * 3 + k) % 4)) = [Value.int .i64 6, .int .i64 10, .int .i64 15, .int .i64 21][j]'(by simpa using k5)) := by
  show _ = _
  have e : (16 * 3 + k) / 16 * 4 + (16 * 3 + k) % 4 = 12 + j := by omega
  rw [e]
  rcases (show j = 0 ∨ j = 1 ∨ j = 2 ∨ j = 3 by omega) with rfl | rfl | rfl | rfl <;> rfl
 obtain ⟨q, hq⟩ : ∃ q, q = (7 * k) % 16 := ⟨_, rfl⟩
 have m1 : IntKind.i64.wrap (7 * (k : Int)) = 7 * (k : Int) := by simp [IntKind.wrap, IntKind.bits, IntKind.signed]; omega
 have m3 : Int.tmod (7 * (k : Int)) 16 = (q : Int) := by rw [Int.tmod_eq_emod_of_nonneg (by omega)]; omega
 have m4 : (7 * (k : Int)) % 16 = (q : Int) := by omega
 have HK : Hid (((Md.ksel (16 * 3 + k) : Nat) : Int) = (q : Int)) := by
  show _ = _
  have e : Md.ksel (16 * 3 + k) = q := by
   simp [Md.ksel, show ¬ 48 + k < 16 by omega, show ¬ 48 + k < 32 by omega, show ¬ 48 + k < 48 by omega]
   omega
  rw [e]
 clear hj hq
 go_enter Tryz.func163, Tryz.ntmps163
 go_wp2_with fail
 go_region
 all_goals go_wp2
 all_goals go_ret3
 all_goals exact ⟨by rw [HF.out, HK.out, HT.out]; rfl, ((Below.refl _ _).alloc (Nat.le_refl _) _).drew⟩
theorem round_any (r k : Nat) (b c d : Int) (w : World) (hr : r < 4) (hk : k < 16) :
  Calls Tryz.prog 163 #[.int .i64 r, .int .i64 k, .int .u32 b, .int .u32 c, .int .u32 d] w fun e w' => e = .returned (.tuple #[.int .u32 (Md.fsel (16 * r + k) b c d), .int .i64 (Md.ksel (16 * r + k)), .int .i64 (Md.trnAt ((16 * r + k) / 16 * 4 + (16 * r + k) % 4))]) ∧ Below w.heap.size w w' := by
 rcases (show r = 0 ∨ r = 1 ∨ r = 2 ∨ r = 3 by omega) with rfl | rfl | rfl | rfl
 ·exact round0 k b c d w hk
 ·exact round1 k b c d w hk
 ·exact round2 k b c d w hk
 ·exact round3 k b c d w hk
theorem grown_empty {w w' : World} (h : (w.alloc (.cells #[] 5)).grownBy w' (Value.ownBlock (.slice (some ⟨w.heap.size, 0, none⟩) 0 0))) : Below w.heap.size w w' :=
 ((Below.refl _ w).alloc (Nat.le_refl _) _).grown h (by simp) (fun k hk => by simp [Value.ownBlock] at hk; omega)
theorem ByteRow.cast {w : World} {ao : Option Addr} {n n' cap : Nat} {f : Nat → Int} (h : ByteRow w ao n cap f) (e : n = n') : ByteRow w ao n' cap f := e ▸ h
theorem owns_cast {w : World} {base n : Nat} {v : Value} {xs : List Value} (h : w.ownsRow base 5 1 v (0 + n) ([] ++ xs)) : w.ownsRow base 5 1 v n xs := by
 rw [Nat.zero_add, List.nil_append] at h
 exact h
theorem wpList_append_byte {w : World} {ops : Array Oper} {rest : List Oper} {o : Oper} {a : Act} {Q : Exit → Act → World → Prop} (hgd : o.guard = none) (s x : Operand)
  (ho : o.op = .call { callee := .builtin .append, args := #[s, x], argTypes := #[126, 126] }) (base : Nat)
  (v : Value) (n : Nat) (P : Nat → Int) (hs : a.eval s = v) (y : Int) (hown : w.ownsRow base 5 1 v n (bytesL n P)) (hbase : base ≤ w.heap.size)
  (hx : a.eval x = .slice (some ⟨w.heap.size, 0, none⟩) 1 1) (hy : y = P n) (hb : n + 1 ≤ 140737488355328)
  (h : ∀ v' w', w'.ownsRow base 5 1 v' (n + 1) (bytesL (n + 1) P) → Below base w w' → wpList Tryz.prog ops Q rest (a.put o.dst v') w') : wpList Tryz.prog ops Q (o :: rest) a (w.alloc (.cells #[.int .u8 y] 5)) := by
 obtain ⟨i0, hi, hz0, hz1, hz2⟩ := info_parts info5
 refine wpList_append_own _ hgd s x 126 ho base 5 i0 (.int .u8 0) 1 1 Tryz.underlying126 hi hz0 hz1 hz2 rfl (by decide) v n _ hs (hown.alloc _) ⟨w.heap.size, 0, none⟩ 1 1 [.int .u8 y] hx rfl (cell_one_new _ _ _) (by simp [Value.oneCell']) (by unfold maxLen; omega) (by omega) (by simp; omega) ?_
 intro v' w' h1 h2 _
 refine h v' w' ?_ (((Below.refl _ w).alloc hbase _).grown h2 (by simp; omega) (owns_block hown))
 rw [show bytesL (n + 1) P = bytesL n P ++ [.int .u8 y] by rw [hy]; simp [bytesL, List.range_succ]]
 exact h1
end Go.Proofs.YtaneiffnhphkhaaGreatDoor
