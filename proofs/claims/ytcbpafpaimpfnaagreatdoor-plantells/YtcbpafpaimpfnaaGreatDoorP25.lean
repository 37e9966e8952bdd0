/- walks: package plan's Roles -/
import Derived.Test.YtcbpafpaimpfnaaGreatDoorP09
import Derived.Test.YtcbpafpaimpfnaaGreatDoorP21
import Derived.Deep.RegionHeld3
namespace Go.Proofs.YtcbpafpaimpfnaaGreatDoor
section
open Go.RowKit
open Vc (V Of)
set_option maxHeartbeats 1000000 in
theorem vrole_any (s : V) (root port : Int) (ao : Option Addr) (n cap : Nat) (os : Nat → Of) (w : World) (hn : n ≤ 9223372036854775807) (hr : ORow w ao n cap os) :
  Calls Tryz.prog 60 #[.agg #[.int .u64 s.root, .int .i64 s.cost, .int .u64 s.bridge, .int .i64 s.port], .int .i64 root, .int .i64 port, .slice ao n cap] w fun e w' => e = .returned (.int .i64 (Vc.role s root port os n)) ∧ Below w.heap.size w w' := by
 have HR : Hid (ORow w ao n cap os) := hr
 clear hr
 unfold Vc.role
 by_cases h0 : port = root
 ·rw [if_pos h0]
  subst h0
  go_enter Tryz.func60, Tryz.ntmps60
  go_wp2_with fail
  go_ret
  exact ⟨rfl, below_alloc1 _ _⟩
 ·rw [if_neg h0]
  obtain ⟨R, hR⟩ : ∃ R : Int, (if Vc.someTo (fun i => decide (Vc.hears s port (os i))) n = true then (3 : Int) else 2) = R := ⟨_, rfl⟩
  rw [hR]
  have HR3 : Hid (Vc.someTo (fun i => decide (Vc.hears s port (os i))) n = true → R = 3) := fun h => by rw [← hR, if_pos h]
  have HR2 : Hid (Vc.someTo (fun i => decide (Vc.hears s port (os i))) n = false → R = 2) := fun h => by rw [← hR, h]; rfl
  clear hR
  have d0 : (port == root) = false := by simp [h0]
  have HBT : Hid (∀ (a b : V) (W : World), Calls Tryz.prog 76 #[.agg #[.int .u64 a.root, .int .i64 a.cost, .int .u64 a.bridge, .int .i64 a.port], .agg #[.int .u64 b.root, .int .i64 b.cost, .int .u64 b.bridge, .int .i64 b.port]] W fun e w' => e = .returned (.bool (decide (Vc.lt a b))) ∧ Below W.heap.size W w') := fun a b W => vbetter_any a b W
  have HH : Hid (∀ o, decide (Vc.hears s port o) = decide (o.port = port ∧ (0 ≤ o.age ∧ o.age ≤ 20) ∧ Vc.lt o.vec ⟨s.root, s.cost, s.bridge, port⟩)) := fun o => rfl
  go_enter Tryz.func60, Tryz.ntmps60
  go_wp2_with fail
  go_loopw [18] (fun i wr => ∃ k : Nat, k ≤ n ∧ i = .int .i64 k ∧ Hid (Vc.someTo (fun i => decide (Vc.hears s port (os i))) k = false) ∧ Hid (wr.heap[w.heap.size]? = some (.cells #[.int .u64 s.root, .int .i64 s.cost, .int .u64 s.bridge, .int .i64 port] 48 (0, 0)) ∧ Below w.heap.size w wr)) (fun i _ => n - (intOf i).toNat)
  case atStart => exact ⟨0, by omega, rfl, rfl, heap_alloc_last w _, below_alloc1 _ _⟩
  case round =>
   obtain ⟨k, hk, rfl, hS, hX⟩ := hrel
   by_cases hlt : k < n
   ·obtain ⟨b, off, rfl, hb⟩ := CRow.some HR.out (by omega)
    have hcap := HR.out.1
    obtain ⟨c0, c1, c2, c3, c4, c5, c6⟩ := ORow.cells (CRow.other HR.out (w' := wr) (fun q _ _ hq => hX.out.2.block q hq) hX.out.2.size) hlt
    obtain ⟨v0, v1, v2, v3⟩ := vc_cells hX.out.1
    have HNO : Hid (decide (Vc.hears s port (os k)) = false → Vc.someTo (fun i => decide (Vc.hears s port (os i))) (k + 1) = false) := fun h => by
     show (Vc.someTo _ k || decide (Vc.hears s port (os k))) = false
     rw [h, hS.out]; rfl
    have HYES : Hid (decide (Vc.hears s port (os k)) = true → Vc.someTo (fun i => decide (Vc.hears s port (os i))) n = true) := fun h => someTo_stay _ k h n hlt
    rw [HH.out] at HNO HYES
    have HX2 : Hid (∀ o, (wr.alloc o).heap[w.heap.size]? = some (.cells #[.int .u64 s.root, .int .i64 s.cost, .int .u64 s.bridge, .int .i64 port] 48 (0, 0)) ∧ Below w.heap.size w (wr.alloc o)) := fun o => ⟨keep hX.out.1 (below_alloc1 _ _), hX.out.2.alloc hX.out.2.size _⟩
    have u0 : ∀ o, (wr.alloc o).cell? ⟨w.heap.size, 0, none⟩ = some (.int .u64 s.root) := fun o => (vc_cells (HX2.out o).1).1
    have u1 : ∀ o, (wr.alloc o).cell? ⟨w.heap.size, 1, none⟩ = some (.int .i64 s.cost) := fun o => (vc_cells (HX2.out o).1).2.1
    have u2 : ∀ o, (wr.alloc o).cell? ⟨w.heap.size, 2, none⟩ = some (.int .u64 s.bridge) := fun o => (vc_cells (HX2.out o).1).2.2.1
    have u3 : ∀ o, (wr.alloc o).cell? ⟨w.heap.size, 3, none⟩ = some (.int .i64 port) := fun o => (vc_cells (HX2.out o).1).2.2.2
    clear hX hS hb HH HR
    generalize os k = o at *
    obtain ⟨op, oc, oa, ⟨vr, vc, vb, vp⟩⟩ := o
    simp only at c0 c1 c2 c3 c4 c5 c6 HNO HYES
    have HWI : Hid (∀ W, Calls Tryz.prog 28 #[.int .i64 oa, .int .i64 0, .int .i64 20] W fun e w' => e = .returned (.bool (decide (0 ≤ oa ∧ oa ≤ 20))) ∧ w' = W) := fun W => vwithin_any oa 0 20 W
    by_cases p1 : op = port
    ·have e1 : (op == port) = true := by simp [p1]
     by_cases p2 : 0 ≤ oa ∧ oa ≤ 20
     ·rw [decide_eq_true p2] at HWI
      have HB1 : Hid (∀ W, Calls Tryz.prog 76 #[.agg #[.int .u64 vr, .int .i64 vc, .int .u64 vb, .int .i64 vp], .agg #[.int .u64 s.root, .int .i64 s.cost, .int .u64 s.bridge, .int .i64 port]] W fun e w' => e = .returned (.bool (decide (Vc.lt ⟨vr, vc, vb, vp⟩ ⟨s.root, s.cost, s.bridge, port⟩))) ∧ Below W.heap.size W w') := fun W => HBT.out ⟨vr, vc, vb, vp⟩ ⟨s.root, s.cost, s.bridge, port⟩ W
      by_cases p4 : Vc.lt ⟨vr, vc, vb, vp⟩ ⟨s.root, s.cost, s.bridge, port⟩
      ·have HF : Hid (Vc.someTo (fun i => decide (Vc.hears s port (os i))) n = true) := HYES.out (decide_eq_true ⟨p1, p2, p4⟩)
       rw [decide_eq_true p4] at HB1
       clear p4 HNO HYES p1 p2
       go_wp2_with fail
       refine (HWI.out _).mono ?_
       rintro e w2 ⟨rfl, rfl⟩
       go_wp2_with fail
       refine (HB1.out _).mono ?_
       rintro e w2 ⟨rfl, hb2⟩
       have HB2 : Hid (Below w.heap.size w w2) := (HX2.out _).2.trans (hb2.mono (HX2.out _).2.size)
       clear hb2
       go_wp2_with fail
       go_ret
       exact ⟨by rw [HR3.out HF.out]; rfl, HB2.out⟩
      ·have HF : Hid (Vc.someTo (fun i => decide (Vc.hears s port (os i))) (k + 1) = false) := HNO.out (decide_eq_false (fun q => p4 q.2.2))
       rw [decide_eq_false p4] at HB1
       clear p4 HNO HYES p1 p2
       go_wp2_with fail
       refine (HWI.out _).mono ?_
       rintro e w2 ⟨rfl, rfl⟩
       go_wp2_with fail
       refine (HB1.out _).mono ?_
       rintro e w2 ⟨rfl, hb2⟩
       have HB2 : Hid (w2.heap[w.heap.size]? = some (.cells #[.int .u64 s.root, .int .i64 s.cost, .int .u64 s.bridge, .int .i64 port] 48 (0, 0)) ∧ Below w.heap.size w w2) := ⟨keep (HX2.out _).1 hb2, (HX2.out _).2.trans (hb2.mono (HX2.out _).2.size)⟩
       clear hb2
       go_wp2_with fail
       exact ⟨⟨k + 1, by omega, by go_num, HF, HB2⟩, by simp [intOf]; omega⟩
     ·have HF : Hid (Vc.someTo (fun i => decide (Vc.hears s port (os i))) (k + 1) = false) := HNO.out (decide_eq_false (fun q => p2 q.2.1))
      rw [decide_eq_false p2] at HWI
      clear HNO HYES p1 p2
      go_wp2_with fail
      refine (HWI.out _).mono ?_
      rintro e w2 ⟨rfl, rfl⟩
      go_wp2_with fail
      exact ⟨⟨k + 1, by omega, by go_num, HF, HX2.out _⟩, by simp [intOf]; omega⟩
    ·have e1 : (op == port) = false := by simp [p1]
     have HF : Hid (Vc.someTo (fun i => decide (Vc.hears s port (os i))) (k + 1) = false) := HNO.out (decide_eq_false (fun q => p1 q.1))
     clear HNO HYES p1
     go_wp2_with fail
     exact ⟨⟨k + 1, by omega, by go_num, HF, HX2.out _⟩, by simp [intOf]; omega⟩
   ·obtain rfl : k = n := by omega
    go_wp2_with fail
    go_ret
    exact ⟨by rw [HR2.out hS.out]; rfl, hX.out.2⟩
end
section
open Go.RowKit
open Vc (V Of)
open Pl (Br Net Pc Lk En St)
def enA (e : En) : Array Value := #[.int .i64 e.port, .int .i64 e.cost, .int .i64 e.other, .int .i64 e.oport, .bool e.live]
def rlF (m : Tk.Md) (os : List Of) (es : List En) (k j : Nat) : Int := if j < k then Tk.roleM m os (EL es j) else 0
def RlAt (W : World) (g n : Nat) (f : Nat → Int) : Prop := W.heap[g]? = some (.cells (rowC n 1 (fun j _ => .int .i64 (f j))) 3 (0, 0))
theorem RlAt.set {W : World} {g n : Nat} {f : Nat → Int} (h : RlAt W g n f) {i : Nat} (hi : i < n) (z : Int) : RlAt (W.setCell ⟨g, i, none⟩ (.int .i64 z)) g n (fun j => if j = i then z else f j) := by
 have h0 := rowC_set h hi (show 0 < 1 by omega) (.int .i64 z)
 rw [show i * 1 + 0 = i by omega] at h0
 unfold RlAt
 rw [h0, rowC_congr2 (d := fun j _ => .int .i64 (if j = i then z else f j)) (fun j _ m hm => ?_)]
 unfold updC
 by_cases q : j = i
 ·subst q; simp; omega
 ·simp [q]
theorem RlAt.congr {W : World} {g n : Nat} {f h : Nat → Int} (hr : RlAt W g n f) (e : ∀ i, i < n → f i = h i) : RlAt W g n h := by
 unfold RlAt at hr ⊢
 rw [hr, rowC_congr (d := fun j _ => .int .i64 (h j)) (fun i hi => by rw [e i hi])]
theorem RlAt.cell {W : World} {g n : Nat} {f : Nat → Int} (h : RlAt W g n f) {i : Nat} (hi : i < n) : W.cell? ⟨g, i, none⟩ = some (.int .i64 (f i)) ∧ W.frozen? ⟨g, i, none⟩ = false := by
 have e : (⟨g, i, none⟩ : Addr) = ⟨g, i * 1 + 0, none⟩ := by simp
 refine ⟨?_, frozen_of_row _ _ _ _ _ h⟩
 rw [e]
 exact rowC_cell h hi (show 0 < 1 by omega)
set_option maxRecDepth 100000 in
set_option maxHeartbeats 2000000 in
theorem proles_any (m : Tk.Md) (es : List En) (eao : Option Addr) (ecap : Nat) (os : List Of) (oao : Option Addr) (ocap : Nat) (w : World) (hlen : es.length ≤ 1000) (hol : os.length ≤ 1000) (hr : ERow w eao es.length ecap (EL es)) (ho : ORow w oao os.length ocap (Pl.lf os)) :
  Calls Tryz.prog 32 #[.slice eao es.length ecap, .agg #[.int .u64 m.v.root, .int .i64 m.v.cost, .int .u64 m.v.bridge, .int .i64 m.v.port], .int .i64 m.rp, .slice oao os.length ocap] w fun e w' => ∃ G, e = .returned (.slice (some ⟨G, 0, none⟩) es.length es.length) ∧ RlAt w' G es.length (fun j => Tk.roleM m os (EL es j)) ∧ Below w.heap.size w w' ∧ w.heap.size ≤ G := by
 obtain ⟨X, HX⟩ : ∃ X, Hid (X = w.alloc (.cells #[.int .u64 m.v.root, .int .i64 m.v.cost, .int .u64 m.v.bridge, .int .i64 m.v.port] 48)) := ⟨_, rfl⟩
 have hXB : Below w.heap.size w X := by rw [HX.out]; exact below_alloc1 _ _
 have hXv : X.heap[w.heap.size]? = some (.cells #[.int .u64 m.v.root, .int .i64 m.v.cost, .int .u64 m.v.bridge, .int .i64 m.v.port] 48 (0, 0)) := by rw [HX.out]; exact heap_alloc_last _ _
 have hXs : X.heap.size = w.heap.size + 1 := by rw [HX.out]; simp
 have hcap := hr.1
 have hmk : ∀ W : World, (Instr.makeSlice 35 (.int .i64 (es.length : Int)) (.int .i64 (es.length : Int))).run Tryz.prog W = .ok (.slice (some ⟨W.heap.size, 0, none⟩) es.length es.length) (W.alloc (.cells (rowC es.length 1 (fun j _ => .int .i64 (rlF m os es 0 j))) 3)) := fun W => make_rowD W 35 3 _ 1 8 es.length Tryz.underlying35 infoI (by omega) rfl (by omega) (by omega) _ (fun _ j hj => by rw [show j = 0 by omega]; rfl)
 have HRW : Hid (∀ W, Below X.heap.size X W → ERow W eao es.length ecap (EL es) ∧ ORow W oao os.length ocap (Pl.lf os) ∧ W.heap[w.heap.size]? = some (.cells #[.int .u64 m.v.root, .int .i64 m.v.cost, .int .u64 m.v.bridge, .int .i64 m.v.port] 48 (0, 0)) ∧ Below w.heap.size w W) := fun W hW => by
  have h1 := hXB.trans (hW.mono hXB.size)
  exact ⟨CRow.below hr h1, CRow.below ho h1, keep hXv hW, h1⟩
 obtain ⟨G, HG⟩ : ∃ G, Hid (G = X.heap.size) := ⟨_, rfl⟩
 have H0 : Hid (RlAt (X.alloc (.cells (rowC es.length 1 (fun j _ => .int .i64 (rlF m os es 0 j))) 3)) G es.length (rlF m os es 0) ∧ Below X.heap.size X (X.alloc (.cells (rowC es.length 1 (fun j _ => .int .i64 (rlF m os es 0 j))) 3))) := by
  rw [HG.out]
  exact ⟨heap_alloc_last _ _, below_alloc1 _ _⟩
 have HXS : Hid (w.heap.size + 1 = G) := by rw [HG.out]; exact hXs.symm
 have HGX : Hid (X.heap.size ≤ G) := by rw [HG.out]; exact Nat.le_refl _
 clear hr ho hXv hXB hXs
 go_enter Tryz.func32, Tryz.ntmps32
 go_wp2_with fail
 rw [← HX.out]
 rw [HXS.out]
 obtain ⟨S, HS⟩ : ∃ S, Hid (S = w.heap.size) := ⟨_, rfl⟩
 rw [← HS.out]
 go_loopw [17] (fun q wr => ∃ k : Nat, k ≤ es.length ∧ q = .int .i64 k ∧ Hid (RlAt wr G es.length (rlF m os es k) ∧ Below X.heap.size X wr)) (fun q _ => es.length - (intOf q).toNat)
 case atStart => exact ⟨0, by omega, rfl, H0⟩
 case round =>
  obtain ⟨k, hk, rfl, hX⟩ := hrel
  clear H0
  by_cases hlt : k < es.length
  ·obtain ⟨hR, hB⟩ := hX.out
   obtain ⟨f1, f2, f3, _⟩ := HRW.out wr hB
   obtain ⟨eb, eoff, rfl, _⟩ := CRow.some f1 (by omega)
   obtain ⟨c0, c1, c2, c3, c4⟩ := ERow.cells f1 hlt
   obtain ⟨Y, HY⟩ : ∃ Y, Hid (Y = wr.alloc (.cells (enA (EL es k)) 111)) := ⟨_, rfl⟩
   have hYB : Below wr.heap.size wr Y := by rw [HY.out]; exact below_alloc1 _ _
   have hYe : Y.heap[wr.heap.size]? = some (.cells (enA (EL es k)) 111 (0, 0)) := by rw [HY.out]; exact heap_alloc_last _ _
   have hRY : RlAt Y G es.length (rlF m os es k) := keep hR hYB
   have hBY : Below X.heap.size X Y := hB.trans (hYB.mono hB.size)
   have hGl : G < wr.heap.size := (Array.getElem?_eq_some_iff.1 hR).1
   have hSG : S ≠ G := by rw [HS.out, ← HXS.out]; omega
   obtain ⟨g0, g1⟩ := hRY.cell hlt
   have hk0 : rlF m os es k k = 0 := by unfold rlF; rw [if_neg (Nat.lt_irrefl _)]
   rw [hk0] at g0
   have hR0 : RlAt (Y.setCell ⟨G, k, none⟩ (.int .i64 0)) G es.length (rlF m os es k) := (hRY.set hlt 0).congr (fun j _ => by
    by_cases q : j = k
    ·rw [if_pos q, q, hk0]
    ·rw [if_neg q])
   have hBW : Below Y.heap.size Y (Y.setCell ⟨G, k, none⟩ (.int .i64 0)) ∨ True := Or.inr trivial
   have hB0 : Below X.heap.size X (Y.setCell ⟨G, k, none⟩ (.int .i64 0)) := hBY.setCell HGX.out _
   obtain ⟨Z, HZ⟩ : ∃ Z, Hid (Z = Y.setCell ⟨G, k, none⟩ (.int .i64 0)) := ⟨_, rfl⟩
   have hZe : Z.heap[wr.heap.size]? = some (.cells (enA (EL es k)) 111 (0, 0)) := by
    rw [HZ.out]
    exact (heap_setCell_other _ _ _ _ (by show wr.heap.size ≠ G; omega)).trans hYe
   rw [← HZ.out] at hR0 hB0
   have HNX : Hid (∀ (W : World) (z : Int), Below Z.heap.size Z W → z = Tk.roleM m os (EL es k) → RlAt (W.setCell ⟨G, k, none⟩ (.int .i64 z)) G es.length (rlF m os es (k + 1)) ∧ Below X.heap.size X (W.setCell ⟨G, k, none⟩ (.int .i64 z))) := fun W z hW hz => by
    have h1 : RlAt W G es.length (rlF m os es k) := keep hR0 hW
    refine ⟨(h1.set hlt z).congr (fun j _ => ?_), (hB0.trans (hW.mono hB0.size)).setCell HGX.out _⟩
    unfold rlF
    by_cases q : j = k
    ·rw [if_pos q, if_pos (by omega), q, hz]
    ·rw [if_neg q]
     by_cases q2 : j < k
     ·rw [if_pos q2, if_pos (by omega)]
     ·rw [if_neg q2, if_neg (by omega)]
   have HNS : Hid (Tk.roleM m os (EL es k) = 0 → RlAt Z G es.length (rlF m os es (k + 1)) ∧ Below X.heap.size X Z) := fun hz => by
    refine ⟨hR0.congr (fun j _ => ?_), hB0⟩
    unfold rlF
    by_cases q : j < k
    ·rw [if_pos q, if_pos (by omega)]
    ·rw [if_neg q]
     by_cases q2 : j = k
     ·rw [if_pos (by omega), q2, hz]
     ·rw [if_neg (by omega)]
   have i0 : (0 : Int) ≤ (k : Int) := by omega
   have i1 : (k : Int) < (es.length : Int) := by omega
   have hRV : Tk.roleM m os (EL es k) = if (EL es k).live = true then Vc.role m.v m.rp (EL es k).port (Pl.lf os) os.length else 0 := rfl
   have HRO : Hid (∀ W, Below X.heap.size X W → Calls Tryz.prog 60 #[.agg #[.int .u64 m.v.root, .int .i64 m.v.cost, .int .u64 m.v.bridge, .int .i64 m.v.port], .int .i64 m.rp, .int .i64 (EL es k).port, .slice oao os.length ocap] W fun e w' => e = .returned (.int .i64 (Vc.role m.v m.rp (EL es k).port (Pl.lf os) os.length)) ∧ Below W.heap.size W w') := fun W hW => vrole_any m.v m.rp (EL es k).port oao os.length ocap (Pl.lf os) W (by omega) (HRW.out W hW).2.1
   have HZV : Hid (∀ W, Below Z.heap.size Z W → W.heap[S]? = some (.cells #[.int .u64 m.v.root, .int .i64 m.v.cost, .int .u64 m.v.bridge, .int .i64 m.v.port] 48 (0, 0))) := fun W hW => by rw [HS.out]; exact (HRW.out W (hB0.trans (hW.mono hB0.size))).2.2.1
   obtain ⟨v0, v1, v2, v3⟩ := vc_cells (HZV.out Z (Below.refl _ _))
   obtain ⟨y0, y1, y2, y3, y4⟩ := br_cells hZe
   have HBZ : Hid (Below X.heap.size X Z) := hB0
   have HRC : Hid (∀ W, Below Z.heap.size Z W → W.cell? ⟨G, k, none⟩ = some (.int .i64 0) ∧ W.frozen? ⟨G, k, none⟩ = false) := fun W hW => by
    have h1 : RlAt W G es.length (rlF m os es k) := keep hR0 hW
    obtain ⟨z0, z1⟩ := h1.cell hlt
    rw [hk0] at z0
    exact ⟨z0, z1⟩
   clear hX hR hB f1 f2 f3 hYB hYe hRY hBY hGl hR0 hB0 hBW hZe hk0 HRW
   generalize EL es k = e at *
   obtain ⟨port, cost, other, oport, live⟩ := e
   simp only [enA] at *
   rw [HY.out] at g0 g1
   cases live with
   | false =>
    rw [if_neg (by decide)] at hRV
    have HN := HNS.out hRV
    have HN2 : Hid (RlAt Z G es.length (rlF m os es (k + 1)) ∧ Below X.heap.size X Z) := HN
    clear HN HNS HNX HRO HRC HZV
    rw [HZ.out, HY.out] at y4
    go_wp2_with fail
    rw [← HY.out, ← HZ.out]
    exact ⟨⟨k + 1, by omega, by go_num, HN2⟩, by simp [intOf]; omega⟩
   | true =>
    rw [if_pos rfl] at hRV
    have HRO2 : Hid (Calls Tryz.prog 60 #[.agg #[.int .u64 m.v.root, .int .i64 m.v.cost, .int .u64 m.v.bridge, .int .i64 m.v.port], .int .i64 m.rp, .int .i64 port, .slice oao os.length ocap] Z fun e w' => e = .returned (.int .i64 (Vc.role m.v m.rp port (Pl.lf os) os.length)) ∧ Hid (Below Z.heap.size Z w')) := HRO.out Z HBZ.out
    have HRV : Hid (Vc.role m.v m.rp port (Pl.lf os) os.length = Tk.roleM m os ⟨port, cost, other, oport, true⟩) := hRV.symm
    clear hRV HNS HRO
    rw [HZ.out, HY.out] at y0 y4 v0 v1 v2 v3
    go_wp2_with fail
    rw [← HY.out, ← HZ.out]
    refine HRO2.out.mono ?_
    rintro e w2 ⟨rfl, HB2⟩
    obtain ⟨z0, z1⟩ := HRC.out w2 HB2.out
    have HN2 : Hid _ := HNX.out w2 _ HB2.out HRV.out
    clear HRO2 HNX HRC HZV y0 y4 v0 v1 v2 v3
    go_wp2_with fail
    exact ⟨⟨k + 1, by omega, by go_num, HN2⟩, by simp [intOf]; omega⟩
  ·obtain rfl : k = es.length := by omega
   obtain ⟨hR, hB⟩ := hX.out
   have HF : Hid (RlAt wr G es.length (fun j => Tk.roleM m os (EL es j)) ∧ Below w.heap.size w wr ∧ w.heap.size ≤ G) := ⟨hR.congr (fun j hj => by unfold rlF; rw [if_pos hj]), (HRW.out wr hB).2.2.2, by rw [← HXS.out]; omega⟩
   clear hX hR hB HRW
   go_wp2_with fail
   go_ret
   exact ⟨G, rfl, HF.out.1, HF.out.2⟩
end
end Go.Proofs.YtcbpafpaimpfnaaGreatDoor
