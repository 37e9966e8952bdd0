/- walks: hedgetop's alive; Play at lines and rings -/
import Derived.Test.YtflghpnpjmodaaaGreatDoorR36
import Derived.Test.YtflghpnpjmodaaaGreatDoorR33
namespace Go.Proofs.YtflghpnpjmodaaaGreatDoor
open Go.RowKit
open Vc (V Of)
open Pl (Br Net Pc Lk En St ringE lineE ringId)
open Tk (Md Mnd Cn Sc Dn ten yes)
theorem LineW.at {base : Nat} {W : World} {cst : Nat → Int} {k L : Nat} {ring : Bool} {a5 : Option Addr} {c5 : Nat} {a6 : Option Addr} {c6 : Nat} (h : LineW base W (Pl.lnk k cst yes) k L (.slice a5 k c5) (.slice a6 L c6)) (hL : L = lnL k ring) (hk : k ≤ 1000) : (netL k ring cst a5 c5 a6 c6).at' W := by
 subst hL
 have h1 := (owns_cs (by omega) h.brs).2
 have h2 := (owns_cs (by omega) h.lks).2
 have hl : lnL k ring ≤ 1000 := by unfold lnL; split <;> omega
 exact ⟨h1, fun i _ => ⟨CRow.none _ _ _ _ _, ⟨Nat.le_refl _, fun q => absurd q (Nat.lt_irrefl 0)⟩, Nat.zero_le _, Nat.zero_le _⟩, h2, show k ≤ 9223372036854775807 by omega, show lnL k ring ≤ 9223372036854775807 by omega⟩
section
variable {k : Nat} {ring : Bool} {cst : Nat → Int} {a5 : Option Addr} {c5 : Nat} {a6 : Option Addr} {c6 : Nat}
theorem uplay_any (hk : k ≤ 12) (hc : ∀ j, j < k → 1 ≤ cst j ∧ cst j ≤ 200000) (dao : Option Addr) (dn dcap : Nat) (ds : Nat → Dn) (X : World) (hat : (netL k ring cst a5 c5 a6 c6).at' X) (hds : DRow X dao dn dcap ds) (hdn : dn ≤ 30) (he : ∀ q, q < dn → Tk.errOf (netL k ring cst a5 c5 a6 c6).cn (ds q) = 0) (ht : Tabs X) (hbt : 2 ≤ X.heap.size) :
  Calls Tryz.prog 15 #[.agg #[.slice a5 k c5, .slice a6 (lnL k ring) c6], .int .i64 1, .slice dao dn dcap] X fun e w' => ∃ (n' : Net) (ob off oc : Nat) (t' : List Tr), e = .returned (.tuple #[.agg #[.slice n'.bao k n'.bcap, .slice n'.lao (lnL k ring) n'.lcap], .agg #[.slice (some ⟨ob, off, none⟩) 1 oc], .agg #[.int .i64 0, .int .i64 0]]) ∧ 1 ≤ oc ∧ Hid (Below X.heap.size X w' ∧ SnOut w' (netL k ring cst a5 c5 a6 c6) 1 (((netL k ring cst a5 c5 a6 c6).sc (startMs (netL k ring cst a5 c5 a6 c6))).all (netL k ring cst a5 c5 a6 c6).cn ds dn) n' (some ⟨ob, off, none⟩) oc t') := by
 have hw := netL_right (ring := ring) (a5 := a5) (c5 := c5) (a6 := a6) (c6 := c6) hk hc
 have h0 := pl_ok (ds := ds) (dn := dn) hw hdn he
 refine (tplay_any (netL k ring cst a5 c5 a6 c6) 1 dao dn dcap ds X (netL_wf hk) hat (by omega) hds ht hbt).mono ?_
 rintro e w' ⟨z1, ⟨z2, _⟩ | ⟨_, n', oao, ocap, t', rfl, bb, _, z3⟩⟩
 ·exact absurd h0 z2
 ·have hS := z3.here
  have tl : t'.length = 1 := hS.len
  obtain ⟨ob, off, rfl, _⟩ := hS.row.place (by omega)
  have oc1 := hS.row.row.1
  obtain ⟨eK, eL, _⟩ := sn_net hS
  have eK : n'.K = k := eK
  have eL : n'.L = lnL k ring := eL
  refine ⟨n', ob, off, ocap, t', ?_, by omega, z1, hS⟩
  unfold Pl.Net.val
  rw [eK, eL, tl]
end
theorem z3_1 (w : World) (o1 o2 o3 : Obj) : (((w.alloc o1).alloc o2).alloc o3).heap[w.heap.size + 1]? = some o2 := keep (heap_alloc2_new w o1 o2) (below_alloc1 _ _)
theorem z3_2 (w : World) (o1 o2 o3 : Obj) : (((w.alloc o1).alloc o2).alloc o3).heap[w.heap.size + 1 + 1]? = some o3 := by
 have h := heap_alloc_last ((w.alloc o1).alloc o2) o3
 have e : ((w.alloc o1).alloc o2).heap.size = w.heap.size + 1 + 1 := by simp
 rw [e] at h
 exact h
def linkOn (k : Nat) (cst : Nat → Int) (j : Nat) : Bool := Tk.onR k cst yes (Pl.ringAll k cst yes) j 1 && Tk.onR k cst yes (Pl.ringAll k cst yes) (Tk.nxt k j) 0
def cntOn (k : Nat) (cst : Nat → Int) : Nat → Nat
 | 0 => 0
 | j + 1 => cntOn k cst j + (if linkOn k cst j = true then 1 else 0)
theorem cntOn_le (k : Nat) (cst : Nat → Int) : ∀ j, cntOn k cst j ≤ j
 | 0 => Nat.le_refl _
 | j + 1 => by
  have := cntOn_le k cst j
  show cntOn k cst j + (if linkOn k cst j = true then 1 else 0) ≤ j + 1
  split <;> omega
theorem three_cnt : cntOn 3 ten 3 = 2 := by
 obtain ⟨h0, h1, h2⟩ := three_at
 have e0 : linkOn 3 ten 0 = true := h0
 have e1 : linkOn 3 ten 1 = false := h1
 have e2 : linkOn 3 ten 2 = true := h2
 show 0 + (if linkOn 3 ten 0 = true then 1 else 0) + (if linkOn 3 ten 1 = true then 1 else 0) + (if linkOn 3 ten 2 = true then 1 else 0) = 2
 rw [e0, e1, e2]
 rfl
set_option maxRecDepth 100000 in
set_option maxHeartbeats 4000000 in
theorem ualive_any (w : World) (ht : Tabs w) (hbt : 2 ≤ w.heap.size) : Calls Tryz.prog 12 #[] w fun e w' => e = .returned (.bool true) ∧ Below w.heap.size w w' := by
 have HT : Hid (∀ V, Below w.heap.size w V → Tabs V ∧ 2 ≤ V.heap.size) := fun V hV => ⟨ht.below hV hbt, Nat.le_trans hbt hV.size⟩
 clear ht hbt
 have HLN : Hid (Calls Tryz.prog 14 #[.int .i64 3, .bool true] w fun e w' => ∃ a5 c5 a6 c6, e = .returned (.agg #[.slice a5 3 c5, .slice a6 3 c6]) ∧ Hid (LineW (w.heap.size + 2) w' (Pl.lnk 3 ten yes) 3 3 (.slice a5 3 c5) (.slice a6 3 c6) ∧ Below w.heap.size w w')) := uline_any 3 true w (by omega)
 go_enter Tryz.func12, Tryz.ntmps12
 go_wp2_with fail
 refine HLN.out.mono ?_
 rintro e w1 ⟨a5, c5, a6, c6, rfl, H1⟩
 clear HLN
 go_wp2_with fail
 refine (uticks_any 90 _).mono ?_
 rintro e w2 ⟨rfl, hb2⟩
 obtain ⟨X, HX⟩ : ∃ X, Hid (X = w2.alloc (.cells #[.int .i64 1, .int .i64 90, .int .i64 0, .int .i64 0] 47)) := ⟨_, rfl⟩
 have hX2 : Below w2.heap.size w2 X := by rw [HX.out]; exact below_alloc1 _ _
 have hXd : DRow X (some ⟨w2.heap.size, 0, none⟩) 1 1 (tk1 90) := by
  have := one_do (w := X) (g := w2.heap.size) (d := tickD 90) (ty := 47) (by rw [HX.out]; exact heap_alloc_last _ _)
  rw [show tk1 90 = fun _ => tickD 90 from funext (tk1_eq 90)]
  exact this
 have h12 := hb2.trans (hX2.mono hb2.size)
 have h0X := H1.out.2.trans (h12.mono H1.out.2.size)
 have HP : Hid (Calls Tryz.prog 15 #[.agg #[.slice a5 3 c5, .slice a6 3 c6], .int .i64 1, .slice (some ⟨w2.heap.size, 0, none⟩) 1 1] X fun e w' => ∃ (n' : Net) (ob off oc : Nat) (t' : List Tr), e = .returned (.tuple #[.agg #[.slice n'.bao 3 n'.bcap, .slice n'.lao 3 n'.lcap], .agg #[.slice (some ⟨ob, off, none⟩) 1 oc], .agg #[.int .i64 0, .int .i64 0]]) ∧ 1 ≤ oc ∧ Hid (Below X.heap.size X w' ∧ SnOut w' (netL 3 true ten a5 c5 a6 c6) 1 (((netL 3 true ten a5 c5 a6 c6).sc (startMs (netL 3 true ten a5 c5 a6 c6))).all (netL 3 true ten a5 c5 a6 c6).cn (tk1 90) 1) n' (some ⟨ob, off, none⟩) oc t')) :=
  uplay_any (k := 3) (ring := true) (cst := ten) (by omega) ten_ok _ 1 1 (tk1 90) X ((H1.out.1.at (ring := true) rfl (by omega)).below h12) hXd (by omega) (fun q hq => by rw [tk1_eq]; exact errTick (by omega)) (HT.out X h0X).1 (HT.out X h0X).2
 have H0X : Hid (Below w.heap.size w X) := h0X
 clear H1 hb2 hX2 hXd h12 h0X HT
 go_wp2_with fail
 rw [← HX.out]
 refine HP.out.mono ?_
 rintro e w3 ⟨n', ob, off, oc, t', rfl, hoc, H3⟩
 clear HP
 obtain ⟨Z, HZ⟩ : ∃ Z, Hid (Z = ((w3.alloc (.cells #[.slice n'.bao 3 n'.bcap, .slice n'.lao 3 n'.lcap] 32)).alloc (.cells #[.slice (some ⟨ob, off, none⟩) 1 oc] 43)).alloc (.cells #[.int .i64 0, .int .i64 0] 26)) := ⟨_, rfl⟩
 have hZ3 : Below w3.heap.size w3 Z := by rw [HZ.out]; exact (below_alloc2 _ _ _).alloc (by simp; omega) _
 have HB : Hid (Below w.heap.size w Z) := by
  have := H0X.out.trans (H3.out.1.mono H0X.out.size)
  exact this.trans (hZ3.mono this.size)
 obtain ⟨G, HG⟩ : ∃ G, Hid (G = w3.heap.size) := ⟨_, rfl⟩
 have hZt : Z.heap[G + 1]? = some (.cells #[.slice (some ⟨ob, off, none⟩) 1 oc] 43 (0, 0)) := by rw [HZ.out, HG.out]; exact z3_1 _ _ _ _
 have hZf : Z.heap[G + 1 + 1]? = some (.cells #[.int .i64 0, .int .i64 0] 26 (0, 0)) := by rw [HZ.out, HG.out]; exact z3_2 _ _ _ _
 have HS : Hid (∀ W, Below Z.heap.size Z W → LRow W n'.lao 3 n'.lcap (Pl.lnk 3 ten yes) ∧ TrRow W (some ⟨ob, off, none⟩) oc t' ∧ t'.length = 1 ∧ W.heap[G + 1]? = some (.cells #[.slice (some ⟨ob, off, none⟩) 1 oc] 43 (0, 0)) ∧ W.heap[G + 1 + 1]? = some (.cells #[.int .i64 0, .int .i64 0] 26 (0, 0)) ∧ (∀ i j : Nat, i < 3 → j < 2 → opT t' 0 i ((j : Int) + 1) = Tk.onR 3 ten yes (Pl.ringAll 3 ten yes) i j) ∧ Below w.heap.size w W) := fun W hW => by
  have hS := H3.out.2.below (hZ3.trans (hW.mono hZ3.size))
  obtain ⟨e1, e2, e3⟩ := tick_links H3.out.2
  have r := hS.net.lks
  rw [e1, e3] at r
  exact ⟨r, hS.row, hS.len, keep hZt hW, keep hZf hW, fun i j hi hj => ring_opens (by omega) H3.out.2 (by omega) ten_ok hi hj, HB.out.trans (hW.mono HB.out.size)⟩
 have hlc : 3 ≤ n'.lcap := (HS.out Z (Below.refl _ _)).1.1
 obtain ⟨lb, loff, elao, _⟩ := CRow.some (HS.out Z (Below.refl _ _)).1 (by omega)
 rw [elao] at HZ ⊢
 rw [elao] at HS
 clear hZ3 H3 hZt hZf HB H0X elao
 go_wp2_with fail
 rw [← HZ.out]
 rw [← HG.out]
 go_loopw [4, 18] (fun s4 s18 wr => ∃ j : Nat, j ≤ 3 ∧ s18 = .int .i64 j ∧ s4 = .int .i64 (cntOn 3 ten j) ∧ Hid (Below Z.heap.size Z wr)) (fun _ s18 _ => 3 - (intOf s18).toNat)
 case atStart => exact ⟨0, by omega, rfl, rfl, Below.refl _ _⟩
 case round =>
  obtain ⟨j, hj, rfl, rfl, hB⟩ := hrel
  by_cases hlt : j < 3
  ·have hi : (j : Int) < 3 := by omega
   have hi0 : (0 : Int) ≤ (j : Int) := by omega
   obtain ⟨r0, r1, r2, r3, r4, r5, r6⟩ := HS.out wr hB.out
   obtain ⟨q0, q1, q2, q3, q4, q5⟩ := LRow.cells r0 hlt
   have c0 : wr.cell? ⟨lb, loff + j * 6, none⟩ = some (.int .i64 (j : Int)) := q0
   have c1 : wr.cell? ⟨lb, loff + j * 6 + 1, none⟩ = some (.int .i64 2) := q1
   have c2 : wr.cell? ⟨lb, loff + j * 6 + 2, none⟩ = some (.int .i64 ((Tk.nxt 3 j : Nat) : Int)) := q2
   have c3 : wr.cell? ⟨lb, loff + j * 6 + 3, none⟩ = some (.int .i64 1) := q3
   have c4 : wr.cell? ⟨lb, loff + j * 6 + 4, none⟩ = some (.int .i64 10) := q4
   have c5 : wr.cell? ⟨lb, loff + j * 6 + 5, none⟩ = some (.bool true) := q5
   obtain ⟨Y, HY⟩ : ∃ Y, Hid (Y = wr.alloc (.cells #[.int .i64 (j : Int), .int .i64 2, .int .i64 ((Tk.nxt 3 j : Nat) : Int), .int .i64 1, .int .i64 10, .bool true] 83)) := ⟨_, rfl⟩
   have hYB : Below wr.heap.size wr Y := by rw [HY.out]; exact below_alloc1 _ _
   have hYx : Y.heap[wr.heap.size]? = some (.cells #[.int .i64 (j : Int), .int .i64 2, .int .i64 ((Tk.nxt 3 j : Nat) : Int), .int .i64 1, .int .i64 10, .bool true] 83 (0, 0)) := by rw [HY.out]; exact heap_alloc_last _ _
   have hZY : Below Z.heap.size Z Y := hB.out.trans (hYB.mono hB.out.size)
   have d0 := one_cell (HS.out Y hZY).2.2.2.1
   rw [HY.out] at d0
   have hnx : Tk.nxt 3 j < 3 := by unfold Tk.nxt; split <;> omega
   have HO1 : Hid (Calls Tryz.prog 27 #[.agg #[.slice (some ⟨ob, off, none⟩) 1 oc], .int .i64 0, .int .i64 (j : Int), .int .i64 2] Y fun e w' => e = .returned (.bool (Tk.onR 3 ten yes (Pl.ringAll 3 ten yes) j 1)) ∧ Below Y.heap.size Y w') := by
    obtain ⟨_, x1, x2, _⟩ := HS.out Y hZY
    have h := topens_any (some ⟨ob, off, none⟩) oc t' 0 (j : Int) 2 Y x1
    have e1 : opT t' 0 (j : Int) 2 = Tk.onR 3 ten yes (Pl.ringAll 3 ten yes) j 1 := r5 j 1 hlt (by omega)
    rw [x2, e1] at h
    exact h
   have HO2 : Hid (∀ V, Below Y.heap.size Y V → (V.cell? ⟨G + 1, 0, none⟩ = some (.slice (some ⟨ob, off, none⟩) 1 oc) ∧ V.cell? ⟨wr.heap.size, 2, none⟩ = some (.int .i64 ((Tk.nxt 3 j : Nat) : Int)) ∧ V.cell? ⟨wr.heap.size, 3, none⟩ = some (.int .i64 1)) ∧ Below Z.heap.size Z V ∧ Calls Tryz.prog 27 #[.agg #[.slice (some ⟨ob, off, none⟩) 1 oc], .int .i64 0, .int .i64 ((Tk.nxt 3 j : Nat) : Int), .int .i64 1] V fun e w' => e = .returned (.bool (Tk.onR 3 ten yes (Pl.ringAll 3 ten yes) (Tk.nxt 3 j) 0)) ∧ Below V.heap.size V w') := fun V hV => by
    have hZV := hZY.trans (hV.mono hZY.size)
    obtain ⟨_, x1, x2, x3, _⟩ := HS.out V hZV
    have h := topens_any (some ⟨ob, off, none⟩) oc t' 0 ((Tk.nxt 3 j : Nat) : Int) 1 V x1
    have e1 : opT t' 0 ((Tk.nxt 3 j : Nat) : Int) 1 = Tk.onR 3 ten yes (Pl.ringAll 3 ten yes) (Tk.nxt 3 j) 0 := r5 (Tk.nxt 3 j) 0 hnx (by omega)
    rw [x2, e1] at h
    obtain ⟨_, _, k2, k3, _⟩ := lk_cells (keep hYx hV)
    exact ⟨⟨one_cell x3, k2, k3⟩, hZV, h⟩
   have HCN : Hid (cntOn 3 ten (j + 1) = cntOn 3 ten j + (if (Tk.onR 3 ten yes (Pl.ringAll 3 ten yes) j 1 && Tk.onR 3 ten yes (Pl.ringAll 3 ten yes) (Tk.nxt 3 j) 0) = true then 1 else 0)) := rfl
   have hcl := cntOn_le 3 ten j
   have wc : IntKind.i64.wrap ((cntOn 3 ten j : Int) + 1) = ((cntOn 3 ten j + 1 : Nat) : Int) := by rw [IntKind.wrap_i64]; omega
   have wj : IntKind.i64.wrap ((j : Int) + 1) = ((j + 1 : Nat) : Int) := by rw [IntKind.wrap_i64]; omega
   clear r0 r1 r2 r3 r4 r5 r6 q0 q1 q2 q3 q4 q5 hYB hYx hZY hnx hB
   generalize Tk.onR 3 ten yes (Pl.ringAll 3 ten yes) j 1 = o1 at *
   generalize Tk.onR 3 ten yes (Pl.ringAll 3 ten yes) (Tk.nxt 3 j) 0 = o2 at *
   go_wp2_with fail
   rw [← HY.out]
   refine HO1.out.mono ?_
   rintro e w4 ⟨rfl, hb4⟩
   obtain ⟨⟨d1, d2, d3⟩, hZ4, hO⟩ := HO2.out w4 hb4
   have HZ4 : Hid (Below Z.heap.size Z w4) := hZ4
   have HO : Hid (Calls Tryz.prog 27 #[.agg #[.slice (some ⟨ob, off, none⟩) 1 oc], .int .i64 0, .int .i64 ((Tk.nxt 3 j : Nat) : Int), .int .i64 1] w4 fun e w' => e = .returned (.bool o2) ∧ Below w4.heap.size w4 w') := hO
   clear HO1 HO2 hZ4 hO hb4
   cases o1 with
   | false =>
    have e : cntOn 3 ten (j + 1) = cntOn 3 ten j := by rw [HCN.out]; simp
    go_wp2_with fail
    exact ⟨⟨j + 1, by omega, by go_num, by rw [e], HZ4⟩, by simp [intOf]; omega⟩
   | true =>
    go_wp2_with fail
    refine HO.out.mono ?_
    rintro e w5 ⟨rfl, hb5⟩
    have HZ5 : Hid (Below Z.heap.size Z w5) := HZ4.out.trans (hb5.mono HZ4.out.size)
    cases o2 with
    | false =>
     have e : cntOn 3 ten (j + 1) = cntOn 3 ten j := by rw [HCN.out]; simp
     go_wp2_with fail
     exact ⟨⟨j + 1, by omega, by go_num, by rw [e], HZ5⟩, by simp [intOf]; omega⟩
    | true =>
     have e : cntOn 3 ten (j + 1) = cntOn 3 ten j + 1 := by rw [HCN.out]; simp
     go_wp2_with fail
     exact ⟨⟨j + 1, by omega, by go_num, by rw [e]; simp, HZ5⟩, by simp [intOf]; omega⟩
  ·obtain rfl : j = 3 := by omega
   rw [three_cnt]
   obtain ⟨_, _, _, _, r4, _, r6⟩ := HS.out wr hB.out
   obtain ⟨c0, _⟩ := two_cells2 r4
   have HBW : Hid (Below w.heap.size w wr) := r6
   have hi : ¬ ((3 : Nat) : Int) < 3 := by omega
   clear HS r4 r6
   go_wp2_with fail
   go_ret
   exact ⟨rfl, HBW.out⟩
end Go.Proofs.YtflghpnpjmodaaaGreatDoor
