/- walks: package plan's Plan -/
import Derived.Test.YtcbpafpaimpfnaaGreatDoorP11
import Derived.Test.YtcbpafpaimpfnaaGreatDoorP24
import Derived.Test.YtcbpafpaimpfnaaGreatDoorP25
import Derived.Test.YtcbpafpaimpfnaaGreatDoorP26
namespace Go.Proofs.YtcbpafpaimpfnaaGreatDoor
section
open Go.RowKit
open Vc (V Of)
open Pl (Br Net Pc Lk En St)
theorem infoPl : (Tryz.prog.info? 50).map (fun i => (i.zero, i.size, i.bytes)) = some (some (.agg #[.int .u64 0, .int .i64 0, .int .u64 0, .int .i64 0, .int .i64 0, .slice none 0 0, .slice none 0 0]), 7, 88) := by kernel_rfl
theorem row_but {w W : World} {P : Nat} {ao : Option Addr} {n cap k : Nat} {c : Nat → Nat → Value} (h : CRow w ao n cap k c) (hW : w.grownBy W (some P)) (hne : 0 < n → ∀ b off, ao = some ⟨b, off, none⟩ → b ≠ P) : CRow W ao n cap k c := by
 rcases Nat.eq_zero_or_pos n with e | e
 ·subst e; exact ⟨h.1, fun q => absurd q (by omega)⟩
 ·exact CRow.other h (fun b off e1 hlt => hW.block b hlt (fun q => hne e b off e1 (by injection q))) hW.size
def plS (s : St) (j : Nat) : Value := if j < 4 then vC s.v j else if j = 4 then .int .i64 s.rp else .slice none 0 0
def PortsAt (w : World) (P : Nat) (x : St) (es : List En) (os : List Of) (v5 v6 : Value) : Prop :=
 ∃ (pao rao : Option Addr) (pcap rcap : Nat), v5 = .slice pao es.length pcap ∧ v6 = .slice rao es.length rcap ∧ IRow w pao es.length pcap (fun j => (EL es j).port) ∧ IRow w rao es.length rcap (fun j => Pl.roleAt x os (EL es j)) ∧ (∀ b off, pao = some ⟨b, off, none⟩ → b ≠ P) ∧ (∀ b off, rao = some ⟨b, off, none⟩ → b ≠ P)
theorem PortsAt.grown {w W : World} {P : Nat} {x : St} {es : List En} {os : List Of} {v5 v6 : Value} (h : PortsAt w P x es os v5 v6) (hW : w.grownBy W (some P)) : PortsAt W P x es os v5 v6 := by
 obtain ⟨pao, rao, pcap, rcap, e5, e6, h1, h2, h3, h4⟩ := h
 exact ⟨pao, rao, pcap, rcap, e5, e6, row_but h1 hW (fun _ => h3), row_but h2 hW (fun _ => h4), h3, h4⟩
def PlacesAt (w : World) (P K : Nat) (x : Nat → St) (E : Nat → List En) (k : Nat) : Prop :=
 ∃ c, w.heap[P]? = some (.cells (rowC K 7 c) 50 (0, 0)) ∧ (∀ i, i < K → ∀ j, j < 5 → c i j = plS (x i) j) ∧ (∀ i, i < K → k ≤ i → c i 5 = .slice none 0 0 ∧ c i 6 = .slice none 0 0) ∧ ∀ i, i < k → PortsAt w P (x i) (E i) (Pl.offs (E i) x) (c i 5) (c i 6)
theorem PlacesAt.below {w w' : World} {P K : Nat} {x : Nat → St} {E : Nat → List En} {k : Nat} (h : PlacesAt w P K x E k) (hb : Below w.heap.size w w') : PlacesAt w' P K x E k := by
 obtain ⟨c, h1, h2, h3, h4⟩ := h
 exact ⟨c, keep h1 hb, h2, h3, fun i hi => (h4 i hi).grown ⟨hb.os, hb.tape, hb.output, hb.size, fun j hj _ => hb.block j hj⟩⟩
def PlacW (w : World) (P K : Nat) (x : Nat → St) (E : Nat → List En) (k : Nat) : Prop :=
 ∃ c, w.heap[P]? = some (.cells (rowC K 7 c) 50 (0, 0)) ∧ (∀ i, i < k → ∀ j, j < 5 → c i j = plS (x i) j) ∧ ∀ i, i < k → PortsAt w P (x i) (E i) (Pl.offs (E i) x) (c i 5) (c i 6)
theorem PlacW.all {w : World} {P K : Nat} {x : Nat → St} {E : Nat → List En} (h : PlacW w P K x E K) : PlacesAt w P K x E K := by
 obtain ⟨c, h1, h2, h3⟩ := h
 exact ⟨c, h1, h2, fun i hi hk => absurd hi (by omega), h3⟩
def set7 (w : World) (P i : Nat) (a b c d e f g : Value) : World := ((((((w.setCell ⟨P, i * 7, none⟩ a).setCell ⟨P, i * 7 + 1, none⟩ b).setCell ⟨P, i * 7 + 2, none⟩ c).setCell ⟨P, i * 7 + 3, none⟩ d).setCell ⟨P, i * 7 + 4, none⟩ e).setCell ⟨P, i * 7 + 5, none⟩ f).setCell ⟨P, i * 7 + 6, none⟩ g
theorem set7_other (w : World) (P i : Nat) (a b c d e f g : Value) {q : Nat} (hq : q ≠ P) : (set7 w P i a b c d e f g).heap[q]? = w.heap[q]? := by
 unfold set7
 have o : ∀ (W : World) (k : Nat) (u : Value), (W.setCell ⟨P, k, none⟩ u).heap[q]? = W.heap[q]? := fun W k u => heap_setCell_other _ _ _ _ (by exact hq)
 rw [o, o, o, o, o, o, o]
theorem set7_grown (w : World) (P i : Nat) (a b c d e f g : Value) : w.grownBy (set7 w P i a b c d e f g) (some P) :=
 ((((((((Es.But.refl P w).setCell (i * 7) a).setCell (i * 7 + 1) b).setCell (i * 7 + 2) c).setCell (i * 7 + 3) d).setCell (i * 7 + 4) e).setCell (i * 7 + 5) f).setCell (i * 7 + 6) g)
theorem PlacW.next {w W : World} {P K : Nat} {x : Nat → St} {E : Nat → List En} {i : Nat} (h : PlacW w P K x E i) (hi : i < K) (hg : w.grownBy W (some P)) (hP : W.heap[P]? = w.heap[P]?) {v5 v6 : Value} (hp : PortsAt W P (x i) (E i) (Pl.offs (E i) x) v5 v6) :
  PlacW (set7 W P i (.int .u64 (x i).v.root) (.int .i64 (x i).v.cost) (.int .u64 (x i).v.bridge) (.int .i64 (x i).v.port) (.int .i64 (x i).rp) v5 v6) P K x E (i + 1) := by
 obtain ⟨c, h1, h2, h3⟩ := h
 have g := set7_grown W P i (.int .u64 (x i).v.root) (.int .i64 (x i).v.cost) (.int .u64 (x i).v.bridge) (.int .i64 (x i).v.port) (.int .i64 (x i).rp) v5 v6
 have a0 := rowC_set (hP.trans h1) hi (show 0 < 7 by omega) (.int .u64 (x i).v.root)
 rw [Nat.add_zero] at a0
 have a1 := rowC_set a0 hi (show 1 < 7 by omega) (.int .i64 (x i).v.cost)
 have a2 := rowC_set a1 hi (show 2 < 7 by omega) (.int .u64 (x i).v.bridge)
 have a3 := rowC_set a2 hi (show 3 < 7 by omega) (.int .i64 (x i).v.port)
 have a4 := rowC_set a3 hi (show 4 < 7 by omega) (.int .i64 (x i).rp)
 have a5 := rowC_set a4 hi (show 5 < 7 by omega) v5
 have a6 := rowC_set a5 hi (show 6 < 7 by omega) v6
 refine ⟨_, a6, fun q hq j hj => ?_, fun q hq => ?_⟩
 ·by_cases e : q = i
  ·subst e
   rcases (by omega : j = 0 ∨ j = 1 ∨ j = 2 ∨ j = 3 ∨ j = 4) with e | e | e | e | e <;> subst e <;> simp [updC, plS, vC]
  ·simp only [updC, e, false_and, if_false]
   exact h2 q (by omega) j hj
 ·by_cases e : q = i
  ·subst e
   have : PortsAt W P (x q) (E q) (Pl.offs (E q) x) v5 v6 := hp
   simpa [updC] using this.grown g
  ·simp only [updC, e, false_and, if_false]
   exact ((h3 q (by omega)).grown hg).grown g
theorem EndsOk.grown {w W : World} {G K P : Nat} {v : Nat → Value} {E : Nat → List En} (h : EndsOk w G K v E) (hW : w.grownBy W (some P)) (hP : w.heap.size ≤ P) : EndsOk W G K v E := by
 have hl := (Array.getElem?_eq_some_iff.1 h.blk).1
 refine ⟨(hW.block G hl (fun q => by injection q with q; omega)).trans h.blk, fun i hi => ?_, fun i hi q hq => ?_⟩
 rotate_left
 ·obtain ⟨cur, hc⟩ := h.ty i hi q hq
  have hq2 := (Array.getElem?_eq_some_iff.1 hc).1
  exact ⟨cur, (hW.block q hq2 (fun p => by injection p with p; omega)).trans hc⟩
 obtain ⟨ao, cap, e, h1⟩ := h.row i hi
 exact ⟨ao, cap, e, CRow.other h1 (fun b off _ hlt => hW.block b hlt (fun q => by injection q with q; omega)) hW.size⟩
theorem below_same {w : World} {T : Nat} (h : w.heap[T]? = some (.cells #[.int .i64 0, .int .i64 0] 28 (0, 0))) : Below w.heap.size w ((w.setCell ⟨T, 0, none⟩ (.int .i64 0)).setCell ⟨T, 1, none⟩ (.int .i64 0)) := by
 have b : Below 0 w ((w.setCell ⟨T, 0, none⟩ (.int .i64 0)).setCell ⟨T, 1, none⟩ (.int .i64 0)) := ((Below.refl 0 w).setCell (Nat.zero_le _) _).setCell (Nat.zero_le _) _
 refine ⟨b.os, b.tape, b.output, b.size, fun j _ => ?_⟩
 by_cases e : j = T
 ·subst e
  rw [set2_same h, h]
 ·exact (heap_setCell_other _ _ _ _ (by exact e)).trans (heap_setCell_other _ _ _ _ (by exact e))
theorem ends_few (n : Net) (i : Nat) (h : n.L ≤ 40) : (n.ends i).length ≤ 1000 := by
 have h1 := (Pl.ends_perm n.ls n.live n.L i).length_eq
 have h2 := endsTo_few n.ls n.live i n.L
 show (Pl.ends n.ls n.live n.L i).length ≤ 1000
 omega
structure Pl.Net.Right (n : Net) : Prop where
 few : n.K ≤ 12
 fewL : n.L ≤ 40
 fine : ∀ i, i < n.K → (n.bs i).Fine
 links : Pl.RightL n.K n.L n.ls
 apart : ∀ i j, i < n.K → j < n.K → (n.bs i).addr = (n.bs j).addr → i = j
theorem right_of {n : Net} (hw : n.Wf) (h : n.wrong.1 = 0) : n.Right := by
 unfold Pl.Net.wrong at h
 by_cases c1 : 12 < n.K ∨ 40 < n.L
 ·rw [if_pos c1] at h; cases h
 ·rw [if_neg c1] at h
  by_cases c2 : (Pl.firstTo (Pl.bErr n.bs) n.K).1 = 0
  ·rw [if_neg (fun q => q c2)] at h
   have hb := (Pl.firstTo_zero _ _ c2).2
   have hl := (Pl.firstTo_zero _ _ h).2
   refine ⟨by omega, by omega, fun i hi => ?_, Pl.rightL hl, fun i j hi hj e => ?_⟩
   ·have h0 := bErr_zero (hb i hi)
    have ha := wf_u64 (hw.addr i hi)
    unfold Pl.brErr at h0
    split at h0
    ·omega
    ·split at h0
     ·omega
     ·split at h0
      ·omega
      ·rename_i q1 q2 q3
       refine ⟨by omega, by omega, fun t ht => ?_, Rg.wrong_zero h0⟩
       have := Pl.someTo_false (by simpa using q3) t ht
       unfold Pl.oddP at this
       simp only [Bool.or_eq_false_iff, Bool.not_eq_false', decide_eq_true_eq] at this
       exact this.1
   ·have key : ∀ a b, a < b → b < n.K → (n.bs a).addr ≠ (n.bs b).addr := fun a b hab hb' e2 => by
     have h7 := hb b hb'
     unfold Pl.bErr at h7
     rw [if_neg (fun q => q (bErr_zero (hb b hb'))), if_pos (Pl.someTo_iff.2 ⟨a, hab, decide_eq_true e2⟩)] at h7
     cases h7
    rcases Nat.lt_trichotomy i j with q | q | q
    ·exact absurd e (key i j q hj)
    ·exact q
    ·exact absurd e.symm (key j i q hi)
  ·rw [if_pos c2] at h; exact absurd h c2
set_option maxRecDepth 100000 in
set_option maxHeartbeats 4000000 in
theorem pplan_any (n : Net) (tree : Int) (w : World) (hat : n.at' w) (hwf : n.Wf) (ht : Tabs w) (hbt : 2 ≤ w.heap.size) :
  Calls Tryz.prog 12 #[n.val, .int .i64 tree] w fun e w' => Below w.heap.size w w' ∧
   ((n.wrong.1 ≠ 0 ∧ e = .returned (.tuple #[.slice none 0 0, .agg (ftA n.wrong)])) ∨ (n.wrong.1 = 0 ∧ ¬ (0 ≤ tree ∧ tree ≤ 15) ∧ e = .returned (.tuple #[.slice none 0 0, .agg #[.int .i64 3, .int .i64 0]])) ∨
    (n.wrong.1 = 0 ∧ (0 ≤ tree ∧ tree ≤ 15) ∧ ∃ P, e = .returned (.tuple #[.slice (some ⟨P, 0, none⟩) n.K n.K, .agg #[.int .i64 0, .int .i64 0]]) ∧ PlacesAt w' P n.K (Pl.rounds (n.ids tree) n.ends n.K n.K) n.ends n.K ∧ w.heap.size ≤ P)) := by
 have hright : n.wrong.1 = 0 → n.Right := right_of hwf
 have hplc : Hid (∀ i, Pl.ends n.ls (lvF n.bs n.ls) n.L i = n.ends i) := fun i => rfl
 obtain ⟨X, HX⟩ : ∃ X, Hid (X = (w.alloc (.cells #[.slice n.bao n.K n.bcap, .slice n.lao n.L n.lcap] 25)).alloc (.cells #[.int .i64 0, .int .i64 0] 28)) := ⟨_, rfl⟩
 have hXB : Below w.heap.size w X := by rw [HX.out]; exact below_alloc2 _ _ _
 have hXn : X.heap[w.heap.size]? = some (.cells #[.slice n.bao n.K n.bcap, .slice n.lao n.L n.lcap] 25 (0, 0)) := by rw [HX.out]; exact heap_alloc2_old w _ _
 have hXf : X.heap[w.heap.size + 1]? = some (.cells #[.int .i64 0, .int .i64 0] 28 (0, 0)) := by rw [HX.out]; exact heap_alloc2_new w _ _
 have hXs : X.heap.size = w.heap.size + 2 := by rw [HX.out]; simp
 have HC : Hid (∀ W, Below X.heap.size X W → (W.cell? ⟨w.heap.size, 0, none⟩ = some (.slice n.bao n.K n.bcap) ∧ W.cell? ⟨w.heap.size, 1, none⟩ = some (.slice n.lao n.L n.lcap)) ∧ W.heap[w.heap.size + 1]? = some (.cells #[.int .i64 0, .int .i64 0] 28 (0, 0)) ∧ Below w.heap.size w W) := fun W hW => ⟨two_cells2 (keep hXn hW), keep hXf hW, hXB.trans (hW.mono hXB.size)⟩
 have HWR : Hid (Calls Tryz.prog 10 #[n.val] X fun e w' => e = .returned (.agg (ftA n.wrong)) ∧ Hid (Below X.heap.size X w')) := pwrong_any n X (hat.below hXB) hwf
 obtain ⟨⟨n0, n1⟩, _, _⟩ := HC.out X (Below.refl _ _)
 rw [HX.out] at n0 n1
 have HAT : Hid (n.at' w) := hat
 have HT : Hid (Tabs w) := ht
 have HRI : Hid (n.wrong.1 = 0 → n.Right) := hright
 have HXN : Hid (X.heap[w.heap.size]? = some (.cells #[.slice n.bao n.K n.bcap, .slice n.lao n.L n.lcap] 25 (0, 0))) := hXn
 have HXS : Hid (X.heap.size = w.heap.size + 2) := hXs
 clear hat ht hright hXn hXf hwf
 obtain ⟨⟨E1, E2⟩, hE⟩ : ∃ E, E = n.wrong := ⟨_, rfl⟩
 rw [← hE] at HWR HRI ⊢
 have HEE : Hid ((E1, E2) = n.wrong) := hE
 clear hE
 simp only [ftA, Pl.Net.val] at *
 go_enter Tryz.func12, Tryz.ntmps12
 go_wp2_with fail
 rw [← HX.out]
 refine HWR.out.mono ?_
 rintro e w1 ⟨rfl, HB1⟩
 clear HWR n0 n1
 obtain ⟨Y, HY⟩ : ∃ Y, Hid (Y = w1.alloc (.cells #[.int .i64 E1, .int .i64 E2] 28)) := ⟨_, rfl⟩
 have HBY : Hid (Below X.heap.size X Y) := by rw [HY.out]; exact HB1.out.alloc HB1.out.size _
 have hYf : Y.heap[w1.heap.size]? = some (.cells #[.int .i64 E1, .int .i64 E2] 28 (0, 0)) := by rw [HY.out]; exact heap_alloc_last _ _
 obtain ⟨y0, y1⟩ := two_cells2 hYf
 obtain ⟨⟨m0, m1⟩, m2, m3⟩ := HC.out Y HBY.out
 obtain ⟨z0, z1⟩ := two_cells2 m2
 obtain ⟨f0, f1, _, _⟩ := vc_free m2
 have HM2 : Hid (Y.heap[w.heap.size + 1]? = some (.cells #[.int .i64 0, .int .i64 0] 28 (0, 0))) := m2
 have HM3 : Hid (Below w.heap.size w Y) := m3
 clear hYf m2 m3
 by_cases e0 : E1 = 0
 ·subst e0
  have HR : Hid n.Right := HRI.out (by first | exact rfl | trivial)
  have HWI : Hid (∀ W, Calls Tryz.prog 28 #[.int .i64 tree, .int .i64 0, .int .i64 15] W fun e w' => e = .returned (.bool (decide (0 ≤ tree ∧ tree ≤ 15))) ∧ w' = W) := fun W => gwithin_any _ _ _ W
  rw [HY.out] at y0 y1
  by_cases htr : 0 ≤ tree ∧ tree ≤ 15
  ·rw [decide_eq_true htr] at HWI
   have HEA : Hid (∀ W, Below Y.heap.size Y W → Calls Tryz.prog 29 #[.slice n.bao n.K n.bcap] W fun e w' => ∃ B1 B2, e = .returned (.func (.func 53) #[] #[.pointer (some ⟨B1, 0, none⟩), .pointer (some ⟨B2, 0, none⟩)]) ∧ Hid (AmongAt w' n.K n.bs B1 B2 ∧ Below Y.heap.size Y w')) := fun W hW => by
    have hB := HM3.out.trans (hW.mono HM3.out.size)
    have hn := HAT.out.below hB
    refine (pamong_any n.bao n.K n.bcap n.bs W HR.out.few hn.brs hn.each HR.out.fine (HT.out.below hB (by omega)) (by have := hB.size; omega)).mono ?_
    rintro e w' ⟨B1, B2, rfl, z1, z2⟩
    exact ⟨B1, B2, rfl, z1, hW.trans (z2.mono hW.size)⟩
   have HEN : Hid (∀ (W : World) (B1 B2 : Nat), Hid (AmongAt W n.K n.bs B1 B2 ∧ Below Y.heap.size Y W) → Calls Tryz.prog 53 #[.slice n.lao n.L n.lcap, .pointer (some ⟨B1, 0, none⟩), .pointer (some ⟨B2, 0, none⟩)] W fun e w' => ∃ G v, e = .returned (.slice (some ⟨G, 0, none⟩) n.K n.K) ∧ Hid (EndsOk w' G n.K v n.ends ∧ Y.heap.size ≤ G ∧ Below Y.heap.size Y w')) := fun W B1 B2 hh => by
    obtain ⟨h1, h2⟩ := hh.out
    have hn := HAT.out.below (HM3.out.trans (h2.mono HM3.out.size))
    refine (pends_any n.K n.bs B1 B2 n.lao n.L n.lcap n.ls W HR.out.few HR.out.fewL h1 hn.lks HR.out.links).mono ?_
    rintro e w' ⟨G, v, rfl, z1, z2, z3⟩
    exact ⟨G, v, rfl, z1, Nat.le_trans h2.size z2, h2.trans (z3.mono h2.size)⟩
   have HSN : Hid (∀ W, Below Y.heap.size Y W → W.cell? ⟨w.heap.size, 0, none⟩ = some (.slice n.bao n.K n.bcap) ∧ W.cell? ⟨w.heap.size, 1, none⟩ = some (.slice n.lao n.L n.lcap)) := fun W hW => (HC.out W (HBY.out.trans (hW.mono HBY.out.size))).1
   have HB0 : Hid (Below Y.heap.size Y Y.drew) := Below.drew (Below.refl _ _)
   rw [HY.out] at m0 m1
   go_wp2_with fail
   rw [← HY.out]
   refine (HWI.out _).mono ?_
   rintro e w' ⟨rfl, rfl⟩
   rw [← HY.out] at m0 m1
   go_wp2_with fail
   go_region_held3 (fun W => W.cell? ⟨w.heap.size, 0, none⟩ = some (.slice n.bao n.K n.bcap) ∧ W.cell? ⟨w.heap.size, 1, none⟩ = some (.slice n.lao n.L n.lcap))
    (first | (with_reducible exact HSN.out _ HB0.out) | (with_reducible exact HSN.out _ HA1.out.2) | (with_reducible exact HSN.out _ HA2.out.2.2))
    (first | (go_at_call 29; (with_reducible refine (HEA.out _ HB0.out).mono ?_); rintro e wa ⟨B1, B2, rfl, HA1⟩) | (go_at_call 53; (with_reducible refine (HEN.out _ _ _ HA1).mono ?_); rintro e w2 ⟨G, v, rfl, HA2⟩))
   obtain ⟨hEn, _, hb2⟩ := HA2.out
   have HB2 : Hid (Below X.heap.size X w2) := HBY.out.trans (hb2.mono HBY.out.size)
   obtain ⟨⟨k0, k1⟩, k2, k3⟩ := HC.out w2 HB2.out
   have HIN : Hid (SetIn w2 n.bao n.K n.bcap n.bs G v n.ends) := by
    have hn := HAT.out.below k3
    exact ⟨HR.out.few, hn.brs, hn.each, HR.out.fine, hEn, fun i _ => ends_few n i HR.out.fewL, fun i hi e he hl => ((Pl.good HR.out.links HR.out.few (n.ids tree) n.live).lt i hi e he hl).1⟩
   have HSE : Hid (Calls Tryz.prog 30 #[.slice n.bao n.K n.bcap, .int .i64 tree, .slice (some ⟨G, 0, none⟩) n.K n.K] w2 fun e w' => e = .returned (.tuple #[.slice (some ⟨w2.heap.size, 0, none⟩) n.K n.K, .slice (some ⟨w2.heap.size + 1, 0, none⟩) n.K n.K]) ∧ PlAt w' w2.heap.size n.K (Pl.rounds (fun i => (n.bs i).id tree) n.ends n.K n.K) ∧ Below w2.heap.size w2 w') := psettled_any n.bao n.K n.bcap n.bs G v n.ends tree w2 HIN.out
   clear HEA HEN HSN HB0 HA1 HA2 HWI y0 y1 m0 m1 hEn hb2 k2 k3
   go_wp2_with fail
   refine HSE.out.mono ?_
   rintro e w3 ⟨rfl, hPl, hb3⟩
   obtain ⟨Q, HQ⟩ : ∃ Q, Hid (Q = w2.heap.size) := ⟨_, rfl⟩
   rw [← HQ.out] at hPl ⊢
   obtain ⟨x, HXX⟩ : ∃ x, Hid (x = Pl.rounds (n.ids tree) n.ends n.K n.K) := ⟨_, rfl⟩
   have hPx : PlAt w3 Q n.K x := by rw [HXX.out]; exact hPl
   have hfK := HR.out.few
   have hmk : ∀ W : World, (Instr.makeSlice 30 (.int .i64 (n.K : Int)) (.int .i64 (n.K : Int))).run Tryz.prog W = .ok (.slice (some ⟨W.heap.size, 0, none⟩) n.K n.K) (W.alloc (.cells (rowC n.K 7 (fun _ => plS ⟨Vc.v0, 0⟩)) 50)) := fun W => make_rowD W 30 50 _ 7 88 n.K Tryz.underlying30 infoPl (by omega) rfl (by omega) (by omega) _ (fun _ j hj => by
    rcases (by omega : j = 0 ∨ j = 1 ∨ j = 2 ∨ j = 3 ∨ j = 4 ∨ j = 5 ∨ j = 6) with e | e | e | e | e | e | e <;> subst e <;> rfl)
   obtain ⟨P, HP⟩ : ∃ P, Hid (P = w3.heap.size) := ⟨_, rfl⟩
   have hB3 : Below X.heap.size X w3 := HB2.out.trans (hb3.mono HB2.out.size)
   have H0 : Hid (PlacW (w3.alloc (.cells (rowC n.K 7 (fun _ => plS ⟨Vc.v0, 0⟩)) 50)) P n.K x n.ends 0 ∧ w3.grownBy (w3.alloc (.cells (rowC n.K 7 (fun _ => plS ⟨Vc.v0, 0⟩)) 50)) (some P)) := by
    rw [HP.out]
    exact ⟨⟨_, heap_alloc_last _ _, fun i hi => absurd hi (by omega), fun i hi => absurd hi (by omega)⟩, grown_of_below (below_alloc1 _ _)⟩
   have HST : Hid (∀ W, w3.grownBy W (some P) → PlAt W Q n.K x ∧ EndsOk W G n.K v n.ends ∧ LRow W n.lao n.L n.lcap n.ls ∧ W.heap[w.heap.size]? = some (.cells #[.slice n.bao n.K n.bcap, .slice n.lao n.L n.lcap] 25 (0, 0)) ∧ W.heap[w.heap.size + 1]? = some (.cells #[.int .i64 0, .int .i64 0] 28 (0, 0)) ∧ Below w.heap.size w W) := fun W hW => by
    have hlow : Below w3.heap.size w3 W := below_of_grown hW (Nat.le_refl _) (by rw [HP.out]; exact Nat.le_refl _)
    have hBW := hB3.trans (hlow.mono hB3.size)
    obtain ⟨_, q2, q3⟩ := HC.out W hBW
    refine ⟨hPx.below hlow, (HIN.out.ends.below hb3).below hlow, (HAT.out.below q3).lks, ?_, q2, q3⟩
    exact keep HXN.out hBW
   have HLT : Hid (w.heap.size + 1 < P ∧ Q + 1 < P ∧ G < P) := by
    have h1 := hB3.size
    have h2 := (Array.getElem?_eq_some_iff.1 hPx.2).1
    have h3 := (Array.getElem?_eq_some_iff.1 (HIN.out.ends.below hb3).blk).1
    have h4 := HXS.out
    show _ ∧ _ ∧ _
    rw [HP.out]
    omega
   have HRT : Hid n.Right := HR.out
   have HLN : Hid (∀ i, i < n.K → (n.ends i).length ≤ 1000 ∧ ∀ e, e ∈ n.ends i → e.live = true → 0 ≤ e.other ∧ e.other < n.K) := fun i hi => ⟨HIN.out.len i hi, HIN.out.oth i hi⟩
   clear HSE hPl hb3 HIN HC HB2 k0 k1 HR HAT HT HRI HBY HM2 HM3 HY HX hplc hPx hB3 HXN HXS
   go_wp2_with fail
   rw [← HP.out]
   go_loopw [42] (fun q wr => ∃ k : Nat, k ≤ n.K ∧ q = .int .i64 k ∧ Hid (PlacW wr P n.K x n.ends k ∧ w3.grownBy wr (some P))) (fun q _ => n.K - (intOf q).toNat)
   case atStart => exact ⟨0, by omega, rfl, H0⟩
   case round =>
    obtain ⟨k, hk, rfl, hZ⟩ := hrel
    clear H0
    by_cases hlt : k < n.K
    ·obtain ⟨hPW, hg⟩ := hZ.out
     obtain ⟨s1, s2, s3, s4, s5, s6⟩ := HST.out wr hg
     obtain ⟨eao, ecap, ev, hrow⟩ := s2.row k hlt
     obtain ⟨hlen, hoth⟩ := HLN.out k hlt
     have hPl : P < wr.heap.size := by
      obtain ⟨c, h1, _⟩ := hPW
      exact (Array.getElem?_eq_some_iff.1 h1).1
     obtain ⟨tl0, tl5⟩ := s1.1.head hlt
     obtain ⟨⟨t1, t2, t3, t4, _⟩, _⟩ := s1.cells hlt
     obtain ⟨B, HB⟩ : ∃ B, Hid (B = wr.heap.size) := ⟨_, rfl⟩
     obtain ⟨Z, HZ⟩ : ∃ Z, Hid (Z = wr.alloc (.cells #[.int .i64 0, .int .u64 (x k).v.root, .int .i64 (x k).v.cost, .int .u64 (x k).v.bridge, .int .i64 (x k).v.port, .int .i64 0] 76)) := ⟨_, rfl⟩
     have hZB : Below wr.heap.size wr Z := by rw [HZ.out]; exact below_alloc1 _ _
     have hZb : Z.heap[B]? = some (.cells #[.int .i64 0, .int .u64 (x k).v.root, .int .i64 (x k).v.cost, .int .u64 (x k).v.bridge, .int .i64 (x k).v.port, .int .i64 0] 76 (0, 0)) := by rw [HZ.out, HB.out]; exact heap_alloc_last _ _
     have eA : (⟨G, k, none⟩ : Addr) = ⟨G, k * 1 + 0, none⟩ := by simp
     have HS : Hid (∀ W, Below Z.heap.size Z W → ((W.cell? ⟨B, 1, none⟩ = some (.int .u64 (x k).v.root) ∧ W.cell? ⟨B, 2, none⟩ = some (.int .i64 (x k).v.cost) ∧ W.cell? ⟨B, 3, none⟩ = some (.int .u64 (x k).v.bridge) ∧ W.cell? ⟨B, 4, none⟩ = some (.int .i64 (x k).v.port)) ∧ W.cell? ⟨Q + 1, k, none⟩ = some (.int .i64 (x k).rp) ∧ W.cell? ⟨w.heap.size, 1, none⟩ = some (.slice n.lao n.L n.lcap) ∧ W.cell? ⟨G, k, none⟩ = some (.slice eao (n.ends k).length ecap))) := fun W hW => by
      have hW2 := hZB.trans (hW.mono hZB.size)
      have q1 := keep hZb hW
      have q2 := ((s1.below hW2).cells hlt).1.2.2.2.2
      have q3 := rowC_cell (s2.below hW2).blk hlt (show 0 < 1 by omega)
      rw [← eA, ev] at q3
      exact ⟨⟨cell_of_row W B 1 _ _ _ q1, cell_of_row W B 2 _ _ _ q1, cell_of_row W B 3 _ _ _ q1, cell_of_row W B 4 _ _ _ q1⟩, q2, cell_of_row W _ 1 _ _ _ (keep s4 hW2), q3⟩
     have hne : B ≠ P ∧ Q + 1 ≠ P ∧ w.heap.size ≠ P ∧ G ≠ P := by
      have := HLT.out
      rw [HB.out]
      omega
     have HS7 : Hid (∀ W (v5 v6 : Value), Below Z.heap.size Z W → (((set7 W P k (.int .u64 (x k).v.root) (.int .i64 (x k).v.cost) (.int .u64 (x k).v.bridge) (.int .i64 (x k).v.port) (.int .i64 (x k).rp) v5 v6).cell? ⟨B, 1, none⟩ = some (.int .u64 (x k).v.root) ∧ (set7 W P k (.int .u64 (x k).v.root) (.int .i64 (x k).v.cost) (.int .u64 (x k).v.bridge) (.int .i64 (x k).v.port) (.int .i64 (x k).rp) v5 v6).cell? ⟨B, 2, none⟩ = some (.int .i64 (x k).v.cost) ∧ (set7 W P k (.int .u64 (x k).v.root) (.int .i64 (x k).v.cost) (.int .u64 (x k).v.bridge) (.int .i64 (x k).v.port) (.int .i64 (x k).rp) v5 v6).cell? ⟨B, 3, none⟩ = some (.int .u64 (x k).v.bridge) ∧ (set7 W P k (.int .u64 (x k).v.root) (.int .i64 (x k).v.cost) (.int .u64 (x k).v.bridge) (.int .i64 (x k).v.port) (.int .i64 (x k).rp) v5 v6).cell? ⟨B, 4, none⟩ = some (.int .i64 (x k).v.port)) ∧ (set7 W P k (.int .u64 (x k).v.root) (.int .i64 (x k).v.cost) (.int .u64 (x k).v.bridge) (.int .i64 (x k).v.port) (.int .i64 (x k).rp) v5 v6).cell? ⟨Q + 1, k, none⟩ = some (.int .i64 (x k).rp) ∧ (set7 W P k (.int .u64 (x k).v.root) (.int .i64 (x k).v.cost) (.int .u64 (x k).v.bridge) (.int .i64 (x k).v.port) (.int .i64 (x k).rp) v5 v6).cell? ⟨w.heap.size, 1, none⟩ = some (.slice n.lao n.L n.lcap) ∧ (set7 W P k (.int .u64 (x k).v.root) (.int .i64 (x k).v.cost) (.int .u64 (x k).v.bridge) (.int .i64 (x k).v.port) (.int .i64 (x k).rp) v5 v6).cell? ⟨G, k, none⟩ = some (.slice eao (n.ends k).length ecap))) := fun W v5 v6 hW => by
      obtain ⟨⟨a1, a2, a3, a4⟩, a5, a6, a7⟩ := HS.out W hW
      have o := fun (q : Nat) (j : Nat) (hq : q ≠ P) => World.cell?_of_block (a := ⟨q, j, none⟩) (set7_other W P k (.int .u64 (x k).v.root) (.int .i64 (x k).v.cost) (.int .u64 (x k).v.bridge) (.int .i64 (x k).v.port) (.int .i64 (x k).rp) v5 v6 hq)
      exact ⟨⟨(o B 1 hne.1).trans a1, (o B 2 hne.1).trans a2, (o B 3 hne.1).trans a3, (o B 4 hne.1).trans a4⟩, (o (Q + 1) k hne.2.1).trans a5, (o _ 1 hne.2.2.1).trans a6, (o G k hne.2.2.2).trans a7⟩
     have HPO : Hid (∀ W, Below Z.heap.size Z W → Calls Tryz.prog 31 #[.slice n.lao n.L n.lcap, .int .i64 k] W fun e w' => ∃ ao cap, e = .returned (.slice ao (n.ends k).length cap) ∧ Hid (IRow w' ao (n.ends k).length cap (fun j => (EL (n.ends k) j).port) ∧ (∀ ad, ao = some ad → Z.heap.size ≤ ad.block) ∧ Below Z.heap.size Z w')) := fun W hW => by
      have hW2 := hZB.trans (hW.mono hZB.size)
      refine (pports_any n.lao n.K n.L n.lcap n.ls n.live k W HRT.out.fewL (CRow.below s3 hW2) HRT.out.links).mono ?_
      rintro e w' ⟨ao, cap, rfl, z1, z2, z3⟩
      have el : ((Pl.ends n.ls n.live n.L k).map (·.port)).length = (n.ends k).length := List.length_map _
      rw [el] at z1 ⊢
      refine ⟨ao, cap, rfl, CRow.congr z1 (fun i hi => ?_), fun ad e => Nat.le_trans hW.size (z3 ad e), hW.trans (z2.mono hW.size)⟩
      funext _
      have hi' : i < (Pl.ends n.ls n.live n.L k).length := hi
      simp only [IL, EL, List.getD_eq_getElem?_getD, List.getElem?_map, Pl.Net.ends, List.getElem?_eq_getElem hi']
      rfl
     have HHE : Hid (∀ W, Below Z.heap.size Z W → Calls Tryz.prog 33 #[.slice eao (n.ends k).length ecap, .slice (some ⟨Q, 0, none⟩) n.K n.K] W fun e w' => ∃ ao cap, e = .returned (.slice ao (Pl.offs (n.ends k) x).length cap) ∧ Hid (ORow w' ao (Pl.offs (n.ends k) x).length cap (Pl.lf (Pl.offs (n.ends k) x)) ∧ Below W.heap.size W w' ∧ Below Z.heap.size Z w')) := fun W hW => by
      have hW2 := hZB.trans (hW.mono hZB.size)
      refine (pheard_any (n.ends k) eao ecap Q n.K (mdS x) W (by omega) hlen (CRow.below hrow hW2) ((s1.below hW2).told) hoth).mono ?_
      rintro e w' ⟨ao, cap, rfl, z1, z2, _⟩
      exact ⟨ao, cap, rfl, z1, z2, hW.trans (z2.mono hW.size)⟩
     have hfew : (Pl.offs (n.ends k) x).length ≤ 1000 := Nat.le_trans (heard_few (n.ends k) (mdS x)) hlen
     have HRO : Hid (∀ (W1 W : World) (oao : Option Addr) (ocap : Nat), Hid (ORow W oao (Pl.offs (n.ends k) x).length ocap (Pl.lf (Pl.offs (n.ends k) x)) ∧ Below W1.heap.size W1 W ∧ Below Z.heap.size Z W) → Calls Tryz.prog 32 #[.slice eao (n.ends k).length ecap, .agg #[.int .u64 (x k).v.root, .int .i64 (x k).v.cost, .int .u64 (x k).v.bridge, .int .i64 (x k).v.port], .int .i64 (x k).rp, .slice oao (Pl.offs (n.ends k) x).length ocap] W fun e w' => ∃ R, e = .returned (.slice (some ⟨R, 0, none⟩) (n.ends k).length (n.ends k).length) ∧ Hid (RlAt w' R (n.ends k).length (fun j => Pl.roleAt (x k) (Pl.offs (n.ends k) x) (EL (n.ends k) j)) ∧ Z.heap.size ≤ R ∧ Below W1.heap.size W1 w' ∧ Below Z.heap.size Z w')) := fun W1 W oao ocap hh => by
      obtain ⟨z1, z2, z3⟩ := hh.out
      have hW2 := hZB.trans (z3.mono hZB.size)
      refine (proles_any (mdS x k) (n.ends k) eao ecap (Pl.offs (n.ends k) x) oao ocap W hlen hfew (CRow.below hrow hW2) z1).mono ?_
      rintro e w' ⟨R, rfl, y1, y2, y3⟩
      exact ⟨R, rfl, y1, Nat.le_trans z3.size y3, z2.trans (y2.mono z2.size), z3.trans (y2.mono z3.size)⟩
     have HNX : Hid (∀ (W4 W6 : World) (pao : Option Addr) (pcap R : Nat), Hid (IRow W4 pao (n.ends k).length pcap (fun j => (EL (n.ends k) j).port) ∧ (∀ ad, pao = some ad → Z.heap.size ≤ ad.block) ∧ Below Z.heap.size Z W4) → Hid (RlAt W6 R (n.ends k).length (fun j => Pl.roleAt (x k) (Pl.offs (n.ends k) x) (EL (n.ends k) j)) ∧ Z.heap.size ≤ R ∧ Below W4.heap.size W4 W6 ∧ Below Z.heap.size Z W6) →
       PlacW (set7 W6 P k (.int .u64 (x k).v.root) (.int .i64 (x k).v.cost) (.int .u64 (x k).v.bridge) (.int .i64 (x k).v.port) (.int .i64 (x k).rp) (.slice pao (n.ends k).length pcap) (.slice (some ⟨R, 0, none⟩) (n.ends k).length (n.ends k).length)) P n.K x n.ends (k + 1) ∧ w3.grownBy (set7 W6 P k (.int .u64 (x k).v.root) (.int .i64 (x k).v.cost) (.int .u64 (x k).v.bridge) (.int .i64 (x k).v.port) (.int .i64 (x k).rp) (.slice pao (n.ends k).length pcap) (.slice (some ⟨R, 0, none⟩) (n.ends k).length (n.ends k).length)) (some P)) := fun W4 W6 pao pcap R h4 h6 => by
      obtain ⟨a1, a2, a3⟩ := h4.out
      obtain ⟨b1, b2, b3, b4⟩ := h6.out
      have hW2 : Below wr.heap.size wr W6 := hZB.trans (b4.mono hZB.size)
      have zs := hZB.size
      refine ⟨hPW.next hlt (grown_of_below hW2) (hW2.block P hPl) ⟨pao, some ⟨R, 0, none⟩, pcap, (n.ends k).length, rfl, rfl, CRow.below a1 b3, rowC_crow b1, fun b off e => ?_, fun b off e => ?_⟩, (hg.trans (grown_of_below hW2)).trans (set7_grown _ _ _ _ _ _ _ _ _ _)⟩
      ·have := a2 _ e; simp only at this; omega
      ·cases e; omega
     obtain ⟨cc, hcc, _⟩ := id hPW
     obtain ⟨u0, hu0⟩ : ∃ u, cc k 0 = u := ⟨_, rfl⟩
     obtain ⟨u1, hu1⟩ : ∃ u, cc k 1 = u := ⟨_, rfl⟩
     obtain ⟨u2, hu2⟩ : ∃ u, cc k 2 = u := ⟨_, rfl⟩
     obtain ⟨u3, hu3⟩ : ∃ u, cc k 3 = u := ⟨_, rfl⟩
     obtain ⟨u4, hu4⟩ : ∃ u, cc k 4 = u := ⟨_, rfl⟩
     obtain ⟨u5, hu5⟩ : ∃ u, cc k 5 = u := ⟨_, rfl⟩
     obtain ⟨u6, hu6⟩ : ∃ u, cc k 6 = u := ⟨_, rfl⟩
     have HPC : Hid (∀ W, Below Z.heap.size Z W → (W.cell? ⟨P, k * 7, none⟩ = some u0 ∧ W.cell? ⟨P, k * 7 + 1, none⟩ = some u1 ∧ W.cell? ⟨P, k * 7 + 2, none⟩ = some u2 ∧ W.cell? ⟨P, k * 7 + 3, none⟩ = some u3 ∧ W.cell? ⟨P, k * 7 + 4, none⟩ = some u4 ∧ W.cell? ⟨P, k * 7 + 5, none⟩ = some u5 ∧ W.cell? ⟨P, k * 7 + 6, none⟩ = some u6) ∧ (W.frozen? ⟨P, k * 7, none⟩ = false ∧ W.frozen? ⟨P, k * 7 + 1, none⟩ = false ∧ W.frozen? ⟨P, k * 7 + 2, none⟩ = false ∧ W.frozen? ⟨P, k * 7 + 3, none⟩ = false ∧ W.frozen? ⟨P, k * 7 + 4, none⟩ = false ∧ W.frozen? ⟨P, k * 7 + 5, none⟩ = false ∧ W.frozen? ⟨P, k * 7 + 6, none⟩ = false)) := fun W hW => by
      have h2 := keep hcc (hZB.trans (hW.mono hZB.size))
      rw [← hu0, ← hu1, ← hu2, ← hu3, ← hu4, ← hu5, ← hu6]
      exact ⟨⟨rowC_cell h2 hlt (show 0 < 7 by omega), rowC_cell h2 hlt (show 1 < 7 by omega), rowC_cell h2 hlt (show 2 < 7 by omega), rowC_cell h2 hlt (show 3 < 7 by omega), rowC_cell h2 hlt (show 4 < 7 by omega), rowC_cell h2 hlt (show 5 < 7 by omega), rowC_cell h2 hlt (show 6 < 7 by omega)⟩, frozen_of_row _ _ _ _ _ h2, frozen_of_row _ _ _ _ _ h2, frozen_of_row _ _ _ _ _ h2, frozen_of_row _ _ _ _ _ h2, frozen_of_row _ _ _ _ _ h2, frozen_of_row _ _ _ _ _ h2, frozen_of_row _ _ _ _ _ h2⟩
     have HB0 : Hid (Below Z.heap.size Z Z.drew) := Below.drew (Below.refl _ _)
     obtain ⟨⟨b1, b2, b3, b4⟩, b5, b6, b7⟩ := HS.out Z (Below.refl _ _)
     have i0 : (0 : Int) ≤ (k : Int) := by omega
     have i1 : (k : Int) < (n.K : Int) := by omega
     generalize (Pl.offs (n.ends k) x).length = m at *
     generalize (n.ends k).length = en at *
     clear hcc hu0 hu1 hu2 hu3 hu4 hu5 hu6 hZ hPW hg s1 s2 s3 s4 s5 s6 ev hrow hlen hoth hPl hZB hZb eA hne hfew HST HLN HRT
     generalize (x k).rp = rp at *
     generalize (x k).v = vk at *
     obtain ⟨vr, vc, vb, vp⟩ := vk
     simp only at t1 t2 t3 t4 HZ HS HS7 HRO HNX b1 b2 b3 b4
     go_wp2_with fail
     rw [← HZ.out, ← HB.out]
     go_region_held3 (fun W => (W.cell? ⟨B, 1, none⟩ = some (.int .u64 vr) ∧ W.cell? ⟨B, 2, none⟩ = some (.int .i64 vc) ∧ W.cell? ⟨B, 3, none⟩ = some (.int .u64 vb) ∧ W.cell? ⟨B, 4, none⟩ = some (.int .i64 vp)) ∧ W.cell? ⟨Q + 1, k, none⟩ = some (.int .i64 rp) ∧ W.cell? ⟨w.heap.size, 1, none⟩ = some (.slice n.lao n.L n.lcap) ∧ W.cell? ⟨G, k, none⟩ = some (.slice eao en ecap))
      (first | (with_reducible exact HS.out _ HB0.out) | (with_reducible exact HS.out _ HP1.out.2.2) | (with_reducible exact HS.out _ HO1.out.2.2) | (with_reducible exact HS.out _ HR1.out.2.2.2) | (exact HS7.out _ _ _ HR1.out.2.2.2))
      (first | (go_at_call 31; (with_reducible refine (HPO.out _ HB0.out).mono ?_); rintro e w4 ⟨pao, pcap, rfl, HP1⟩) | (go_at_call 33; (with_reducible refine (HHE.out _ HP1.out.2.2).mono ?_); rintro e w5 ⟨oao, ocap, rfl, HO1⟩) | (go_at_call 32; (with_reducible refine (HRO.out w4 _ _ _ HO1).mono ?_); rintro e w6 ⟨R, rfl, HR1⟩; obtain ⟨⟨g0, g1, g2, g3, g4, g5, g6⟩, f0, f1, f2, f3, f4, f5, f6⟩ := HPC.out w6 HR1.out.2.2.2))
     all_goals go_wp2_with fail
     all_goals exact ⟨⟨k + 1, by omega, by go_num, HNX.out _ _ _ _ _ HP1 HR1⟩, by simp [intOf]; omega⟩
    ·obtain hkK : k = n.K := by omega
     obtain ⟨hPA, hg⟩ := hZ.out
     obtain ⟨_, _, _, _, q2, q3⟩ := HST.out wr hg
     obtain ⟨z0, z1⟩ := two_cells2 q2
     obtain ⟨f0, f1, _, _⟩ := vc_free q2
     have HQ2 : Hid (wr.heap[w.heap.size + 1]? = some (.cells #[.int .i64 0, .int .i64 0] 28 (0, 0))) := q2
     have HQ3 : Hid (Below w.heap.size w wr) := q3
     have HPA : Hid (PlacesAt ((wr.setCell ⟨w.heap.size + 1, 0, none⟩ (.int .i64 0)).setCell ⟨w.heap.size + 1, 1, none⟩ (.int .i64 0)) P n.K (Pl.rounds (n.ids tree) n.ends n.K n.K) n.ends n.K) := by
      rw [hkK, HXX.out] at hPA
      exact hPA.all.below (below_same q2)
     have hnk : ¬ (k : Int) < (n.K : Int) := by omega
     have hPw : w.heap.size + 1 < P := HLT.out.1
     clear hZ hPA hg q2 q3 HST HLN HRT HLT
     go_wp2_with fail
     exact bodyPost_ret (v := .tuple #[.slice (some ⟨P, 0, none⟩) n.K n.K, .agg #[.int .i64 0, .int .i64 0]]) (results_tmp_row (u := 4) (p := 5) (ty := 28) Tryz.results12 _ _ (w.heap.size + 1) 28 #[.int .i64 0, .int .i64 0] (0, 0) _ rfl (set2_same HQ2.out) Tryz.underlying28 rfl (by rw [sizeFt]; rfl)) rfl ⟨(HQ3.out.setCell (Nat.le_add_right _ _) _).setCell (Nat.le_add_right _ _) _, by first | exact ⟨P, rfl, HPA.out, by omega⟩ | exact Or.inr (Or.inr ⟨rfl, htr, P, rfl, HPA.out, by omega⟩)⟩
  ·rw [decide_eq_false htr] at HWI
   rw [HY.out] at z0 z1 f0 f1
   go_wp2_with fail
   rw [← HY.out]
   refine (HWI.out _).mono ?_
   rintro e w' ⟨rfl, rfl⟩
   rw [← HY.out] at z0 z1 f0 f1
   go_wp2_with fail
   exact bodyPost_ret (v := .tuple #[.slice none 0 0, .agg #[.int .i64 3, .int .i64 0]]) (results_tmp_row (u := 4) (p := 5) (ty := 28) Tryz.results12 _ _ (w.heap.size + 1) 28 #[.int .i64 3, .int .i64 0] (0, 0) _ rfl (set2_same HM2.out) Tryz.underlying28 rfl (by rw [sizeFt]; rfl)) rfl ⟨(HM3.out.setCell (Nat.le_add_right _ _) _).setCell (Nat.le_add_right _ _) _, by first | exact rfl | exact Or.inr (Or.inl ⟨rfl, htr, rfl⟩)⟩
 ·have e1 : (E1 == 0) = false := by simp [e0]
  rw [HY.out] at y0 y1 z0 z1 f0 f1
  go_wp2_with fail
  rw [← HY.out] at y0 y1 z0 z1 f0 f1 ⊢
  go_region
  all_goals go_wp2_with fail
  all_goals exact bodyPost_ret (v := .tuple #[.slice none 0 0, .agg #[.int .i64 E1, .int .i64 E2]]) (results_tmp_row (u := 4) (p := 5) (ty := 28) Tryz.results12 _ _ (w.heap.size + 1) 28 #[.int .i64 E1, .int .i64 E2] (0, 0) _ rfl (set2_same HM2.out) Tryz.underlying28 rfl (by rw [sizeFt]; rfl)) rfl ⟨(Below.setCell (by first | exact HM3.out.drew | exact HM3.out) (Nat.le_add_right _ _) _).setCell (Nat.le_add_right _ _) _, by first | exact Or.inl ⟨e0, rfl⟩ | exact rfl⟩
end
end Go.Proofs.YtcbpafpaimpfnaaGreatDoor
