/- walks: package plan's Ports -/
import Derived.Test.YtcbpafpaimpfnaaGreatDoorP20
import Derived.Test.YtcbpafpaimpfnaaGreatDoorP21
import Derived.Test.YtcbpafpaimpfnaaGreatDoorP09
namespace Go.Proofs.YtcbpafpaimpfnaaGreatDoor
section
open Go.RowKit
open Vc (V Of)
open Pl (Br Net Pc Lk En St)
structure SetIn (w : World) (bao : Option Addr) (K bcap : Nat) (bs : Nat → Br) (G : Nat) (v : Nat → Value) (E : Nat → List En) : Prop where
 few : K ≤ 12
 brs : BRow w bao K bcap bs
 each : ∀ i, i < K → (bs i).at' w
 fine : ∀ i, i < K → (bs i).Fine
 ends : EndsOk w G K v E
 len : ∀ i, i < K → (E i).length ≤ 1000
 oth : ∀ i, i < K → ∀ e, e ∈ E i → e.live = true → 0 ≤ e.other ∧ e.other < K
theorem SetIn.below {w w' : World} {bao : Option Addr} {K bcap : Nat} {bs : Nat → Br} {G : Nat} {v : Nat → Value} {E : Nat → List En} (h : SetIn w bao K bcap bs G v E) (hb : Below w.heap.size w w') : SetIn w' bao K bcap bs G v E :=
 ⟨h.few, CRow.below h.brs hb, fun i hi => (h.each i hi).below hb, h.fine, h.ends.below hb, h.len, h.oth⟩
theorem step_pl {w : World} {g K : Nat} {x : Nat → St} {ids : Nat → Int} {E : Nat → List En} (h : PlAt w g K x) {i : Nat} (hi : i < K) :
  PlAt (((((w.setCell ⟨g, i * 6 + 1, none⟩ (.int .u64 (Pl.chS (ids i) (Pl.offs (E i) x)).v.root)).setCell ⟨g, i * 6 + 2, none⟩ (.int .i64 (Pl.chS (ids i) (Pl.offs (E i) x)).v.cost)).setCell ⟨g, i * 6 + 3, none⟩ (.int .u64 (Pl.chS (ids i) (Pl.offs (E i) x)).v.bridge)).setCell ⟨g, i * 6 + 4, none⟩ (.int .i64 (Pl.chS (ids i) (Pl.offs (E i) x)).v.port)).setCell ⟨g + 1, i, none⟩ (.int .i64 (Pl.chS (ids i) (Pl.offs (E i) x)).rp)) g K (Pl.step ids E x i) := by
 refine (pl_set5 (pl_set4 h hi (Pl.chS (ids i) (Pl.offs (E i) x)).v) hi (Pl.chS (ids i) (Pl.offs (E i) x)).rp).congr (fun j hj => ?_)
 unfold Pl.step
 by_cases q : j = i
 ·rw [if_pos q, if_pos q, if_pos rfl]
 ·rw [if_neg q, if_neg q, if_neg q]
set_option maxRecDepth 100000 in
set_option maxHeartbeats 4000000 in
theorem psettled_any (bao : Option Addr) (K bcap : Nat) (bs : Nat → Br) (G : Nat) (v : Nat → Value) (E : Nat → List En) (tree : Int) (w : World) (hin : SetIn w bao K bcap bs G v E) :
  Calls Tryz.prog 30 #[.slice bao K bcap, .int .i64 tree, .slice (some ⟨G, 0, none⟩) K K] w fun e w' => e = .returned (.tuple #[.slice (some ⟨w.heap.size, 0, none⟩) K K, .slice (some ⟨w.heap.size + 1, 0, none⟩) K K]) ∧ PlAt w' w.heap.size K (Pl.rounds (fun i => (bs i).id tree) E K K) ∧ Below w.heap.size w w' := by
 have hK := hin.few
 have hcap := hin.brs.1
 have HRW : Hid (∀ W, Below w.heap.size w W → SetIn W bao K bcap bs G v E) := fun W hW => hin.below hW
 have hmk : ∀ W : World, (Instr.makeSlice 72 (.int .i64 (K : Int)) (.int .i64 (K : Int))).run Tryz.prog W = .ok (.slice (some ⟨W.heap.size, 0, none⟩) K K) (W.alloc (.cells (rowC K 6 (fun i => tlC (sInit (fun i => (bs i).id tree) 0 i).v 0)) 76)) := fun W => make_rowD W 72 76 _ 6 48 K Tryz.underlying72 infoTl (by omega) rfl (by omega) (by omega) _ (fun _ j hj => by
  rcases (by omega : j = 0 ∨ j = 1 ∨ j = 2 ∨ j = 3 ∨ j = 4 ∨ j = 5) with e | e | e | e | e | e <;> subst e <;> rfl)
 have hmk2 : ∀ W : World, (Instr.makeSlice 35 (.int .i64 (K : Int)) (.int .i64 (K : Int))).run Tryz.prog W = .ok (.slice (some ⟨W.heap.size, 0, none⟩) K K) (W.alloc (.cells (rowC K 1 (fun i _ => .int .i64 (sInit (fun i => (bs i).id tree) 0 i).rp)) 3)) := fun W => make_rowD W 35 3 _ 1 8 K Tryz.underlying35 infoI (by omega) rfl (by omega) (by omega) _ (fun _ j hj => by rw [show j = 0 by omega]; rfl)
 clear hin
 obtain ⟨ids, HIDS⟩ : ∃ ids : Nat → Int, Hid (∀ i, ids i = (bs i).id tree) := ⟨fun i => (bs i).id tree, fun _ => rfl⟩
 obtain ⟨P, HP⟩ : ∃ P, Hid (P = w.heap.size) := ⟨_, rfl⟩
 have HE : Hid (Pl.rounds (fun i => (bs i).id tree) E K K = Pl.rounds ids E K K) := by
  have : ids = fun i => (bs i).id tree := funext HIDS.out
  rw [this]; rfl
 rw [HE.out, ← HP.out]
 have H0 : Hid (∀ W, W = (w.alloc (.cells (rowC K 6 (fun i => tlC (sInit (fun i => (bs i).id tree) 0 i).v 0)) 76)).alloc (.cells (rowC K 1 (fun i _ => .int .i64 (sInit (fun i => (bs i).id tree) 0 i).rp)) 3) → PlAt W P K (sInit ids 0) ∧ Below w.heap.size w W) := fun W hW => by
  rw [hW, HP.out]
  refine ⟨⟨?_, ?_⟩, below_alloc2 _ _ _⟩
  ·unfold TlAt
   rw [heap_alloc2_old]
   rfl
  ·unfold RpAt
   rw [heap_alloc2_new]
   rfl
 have hP0 : w.heap.size ≤ P := by rw [HP.out]; exact Nat.le_refl _
 go_enter Tryz.func30, Tryz.ntmps30
 go_wp2_with fail
 rw [← HP.out]
 go_loopw [22] (fun i wr => ∃ k : Nat, k ≤ K ∧ i = .int .i64 k ∧ Hid (PlAt wr P K (sInit ids k) ∧ Below w.heap.size w wr)) (fun i _ => K - (intOf i).toNat)
 case atStart => exact ⟨0, by omega, rfl, H0.out _ rfl⟩
 case round =>
  obtain ⟨k, hk, rfl, hX⟩ := hrel
  clear H0
  by_cases hlt : k < K
  ·obtain ⟨hPl, hB⟩ := hX.out
   have hI := HRW.out wr hB
   obtain ⟨b, off, rfl, _⟩ := CRow.some hI.brs (by omega)
   obtain ⟨c0, c1, c2, c3, c4⟩ := BRow.cells hI.brs hlt
   obtain ⟨X, HX⟩ : ∃ X, Hid (X = wr.alloc (.cells (brA (bs k)) 40)) := ⟨_, rfl⟩
   have hXB : Below wr.heap.size wr X := by rw [HX.out]; exact below_alloc1 _ _
   have hX5 : X.heap[wr.heap.size]? = some (.cells (brA (bs k)) 40 (0, 0)) := by rw [HX.out]; exact heap_alloc_last _ _
   have HCL : Hid (Calls Tryz.prog 15 #[.agg (brA (bs k)), .int .i64 tree] X fun e w' => e = .returned (.int .u64 (ids k)) ∧ Hid (PlAt w' P K (sInit ids k) ∧ Below w.heap.size w w')) := by
    refine (pident_any (bs k) tree X ((hI.each k hlt).below hXB) (hI.fine k hlt)).mono ?_
    rintro e w' ⟨rfl, z⟩
    have z2 : Below wr.heap.size wr w' := hXB.trans (z.mono hXB.size)
    exact ⟨by rw [HIDS.out], hPl.below z2, hB.trans (z2.mono hB.size)⟩
   have HN : Hid (∀ W, PlAt W P K (sInit ids k) → Below w.heap.size w W → PlAt ((((W.setCell ⟨P, k * 6 + 1, none⟩ (.int .u64 (ids k))).setCell ⟨P, k * 6 + 2, none⟩ (.int .i64 0)).setCell ⟨P, k * 6 + 3, none⟩ (.int .u64 (ids k))).setCell ⟨P, k * 6 + 4, none⟩ (.int .i64 0)) P K (sInit ids (k + 1)) ∧ Below w.heap.size w ((((W.setCell ⟨P, k * 6 + 1, none⟩ (.int .u64 (ids k))).setCell ⟨P, k * 6 + 2, none⟩ (.int .i64 0)).setCell ⟨P, k * 6 + 3, none⟩ (.int .u64 (ids k))).setCell ⟨P, k * 6 + 4, none⟩ (.int .i64 0))) := fun W h1 h2 => by
    refine ⟨(pl_set4 h1 hlt ⟨ids k, 0, ids k, 0⟩).congr (fun j hj => ?_), (((h2.setCell hP0 _).setCell hP0 _).setCell hP0 _).setCell hP0 _⟩
    unfold sInit
    by_cases q : j = k
    ·subst q
     rw [if_pos rfl, if_neg (Nat.lt_irrefl _), if_pos (Nat.lt_succ_self _)]
    ·rw [if_neg q]
     by_cases q2 : j < k
     ·rw [if_pos q2, if_pos (by omega)]
     ·rw [if_neg q2, if_neg (by omega)]
   obtain ⟨d0, d1, d2, d3, d4⟩ := br_cells hX5
   have i0 : (0 : Int) ≤ (k : Int) := by omega
   have i1 : (k : Int) < (K : Int) := by omega
   clear hX hPl hB hI hXB hX5 HRW
   simp only [brA] at *
   go_wp2_with fail
   rw [← HX.out]
   refine HCL.out.mono ?_
   rintro e w1 ⟨rfl, HW1⟩
   obtain ⟨⟨q0, q1, q2, q3, _⟩, f0, f1, f2, f3, _⟩ := HW1.out.1.cells hlt
   clear d0 d1 d2 d3 d4 HCL
   go_wp2_with fail
   exact ⟨⟨k + 1, by omega, by go_num, HN.out _ HW1.out.1 HW1.out.2⟩, by simp [intOf]; omega⟩
  ·obtain rfl : k = K := by omega
   have H1 : Hid (PlAt wr P k (Pl.rounds ids E k 0) ∧ Below w.heap.size w wr) := ⟨hX.out.1.congr (fun i hi => by unfold sInit; rw [if_pos hi]; rfl), hX.out.2⟩
   clear hX
   go_wp2_with fail
   go_loopw [40] (fun i wr => ∃ r : Nat, r ≤ k ∧ i = .int .i64 r ∧ Hid (PlAt wr P k (Pl.rounds ids E k r) ∧ Below w.heap.size w wr)) (fun i _ => k - (intOf i).toNat)
   case atStart => exact ⟨0, by omega, rfl, H1⟩
   case round =>
    obtain ⟨r, hr, rfl, hY⟩ := hrel
    clear H1
    by_cases hlt2 : r < k
    ·have H2 : Hid (PlAt wr P k (Pl.roundTo ids E (Pl.rounds ids E k r) 0) ∧ Below w.heap.size w wr) := hY.out
     clear hY
     go_wp2_with fail
     go_loopw [44] (fun i wr => ∃ j : Nat, j ≤ k ∧ i = .int .i64 j ∧ Hid (PlAt wr P k (Pl.roundTo ids E (Pl.rounds ids E k r) j) ∧ Below w.heap.size w wr)) (fun i _ => k - (intOf i).toNat)
     case atStart => exact ⟨0, by omega, rfl, H2⟩
     case round =>
      obtain ⟨j, hj, rfl, hZ⟩ := hrel
      clear H2
      by_cases hlt3 : j < k
      ·obtain ⟨hPl, hB⟩ := hZ.out
       have hbr := (Pl.roundTo_bridge ids E _ (Pl.rounds_bridge ids E k r) j j).1
       have hstep : Pl.roundTo ids E (Pl.rounds ids E k r) (j + 1) = Pl.step ids E (Pl.roundTo ids E (Pl.rounds ids E k r) j) j := rfl
       have hI := HRW.out wr hB
       obtain ⟨eao, ecap, ev, hrow⟩ := hI.ends.row j hlt3
       have eA : (⟨G, j, none⟩ : Addr) = ⟨G, j * 1 + 0, none⟩ := by simp
       have hlen := hI.len j hlt3
       generalize Pl.roundTo ids E (Pl.rounds ids E k r) j = X at *
       obtain ⟨sS, hsS⟩ : ∃ sS, sS = Pl.chS (ids j) (Pl.offs (E j) X) := ⟨_, rfl⟩
       have hsb := Pl.chS_bridge (ids j) (Pl.offs (E j) X)
       have HOF : Hid (∀ W, Below wr.heap.size wr W → Calls Tryz.prog 33 #[.slice eao (E j).length ecap, .slice (some ⟨P, 0, none⟩) k k] W fun e w' => ∃ ao cap, e = .returned (.slice ao (Pl.offs (E j) X).length cap) ∧ Hid (ORow w' ao (Pl.offs (E j) X).length cap (Pl.lf (Pl.offs (E j) X))) ∧ Hid (Below wr.heap.size wr w')) := fun W hW => by
        refine (pheard_any (E j) eao ecap P k (mdS X) W (by omega) hlen (CRow.below hrow hW) ((hPl.below hW).told) (hI.oth j hlt3)).mono ?_
        rintro e w' ⟨ao, cap, rfl, z1, z2, _⟩
        exact ⟨ao, cap, rfl, z1, hW.trans (z2.mono hW.size)⟩
       have hfew : (Pl.offs (E j) X).length ≤ 1000 := by
        unfold Pl.offs
        rw [List.length_map]
        exact Nat.le_trans (List.length_filter_le _ _) hlen
       have HCH : Hid (∀ (W : World) (ao : Option Addr) (cap : Nat), ORow W ao (Pl.offs (E j) X).length cap (Pl.lf (Pl.offs (E j) X)) → Below wr.heap.size wr W → Calls Tryz.prog 58 #[.int .u64 (ids j), .slice ao (Pl.offs (E j) X).length cap] W fun e w' => ∃ ag : Int, e = .returned (.tuple #[.agg #[.int .u64 sS.v.root, .int .i64 sS.v.cost, .int .u64 (ids j), .int .i64 0], .int .i64 ag, .int .i64 sS.rp]) ∧ Hid (Below wr.heap.size wr w')) := fun W ao cap h1 h2 => by
        refine (vchoose_any (ids j) ao (Pl.offs (E j) X).length cap (Pl.lf (Pl.offs (E j) X)) W (by omega) h1).mono ?_
        rintro e w' ⟨rfl, z2⟩
        refine ⟨Vc.chA (ids j) (Pl.lf (Pl.offs (E j) X)) (Pl.offs (E j) X).length, ?_, h2.trans (z2.mono h2.size)⟩
        have e1 : sS.v = Vc.chV (ids j) (Pl.lf (Pl.offs (E j) X)) (Pl.offs (E j) X).length := by rw [hsS]; rfl
        have e2 : sS.rp = Vc.chP (ids j) (Pl.lf (Pl.offs (E j) X)) (Pl.offs (E j) X).length := by rw [hsS]; rfl
        rw [← hsS] at hsb
        rw [← e1, ← e2]
        unfold vA
        rw [hsb.1, hsb.2]
       have HS : Hid (∀ W, Below wr.heap.size wr W → W.cell? ⟨P, j * 6 + 3, none⟩ = some (.int .u64 (ids j)) ∧ W.cell? ⟨G, j, none⟩ = some (.slice eao (E j).length ecap)) := fun W hW => by
        have h1 := ((hPl.below hW).cells hlt3).1.2.2.1
        rw [hbr] at h1
        have h2 := rowC_cell (hI.ends.below hW).blk hlt3 (show 0 < 1 by omega)
        rw [← eA, ev] at h2
        exact ⟨h1, h2⟩
       have hPG : G ≠ P := fun e => by
        have h1 := hI.ends.blk
        rw [e, hPl.1] at h1
        injection h1 with h1
        injection h1 with _ h1
        revert h1
        decide
       have hPG2 : G ≠ P + 1 := fun e => by
        have h1 := hI.ends.blk
        rw [e, hPl.2] at h1
        injection h1 with h1
        injection h1 with _ h1
        revert h1
        decide
       have HS4 : Hid (∀ W, Below wr.heap.size wr W → ((((W.setCell ⟨P, j * 6 + 1, none⟩ (.int .u64 sS.v.root)).setCell ⟨P, j * 6 + 2, none⟩ (.int .i64 sS.v.cost)).setCell ⟨P, j * 6 + 3, none⟩ (.int .u64 (ids j))).setCell ⟨P, j * 6 + 4, none⟩ (.int .i64 0)).cell? ⟨P, j * 6 + 3, none⟩ = some (.int .u64 (ids j)) ∧ ((((W.setCell ⟨P, j * 6 + 1, none⟩ (.int .u64 sS.v.root)).setCell ⟨P, j * 6 + 2, none⟩ (.int .i64 sS.v.cost)).setCell ⟨P, j * 6 + 3, none⟩ (.int .u64 (ids j))).setCell ⟨P, j * 6 + 4, none⟩ (.int .i64 0)).cell? ⟨G, j, none⟩ = some (.slice eao (E j).length ecap)) := fun W hW => by
        have h1 := pl_set4 (hPl.below hW) hlt3 ⟨sS.v.root, sS.v.cost, ids j, 0⟩
        refine ⟨?_, ?_⟩
        ·have := (h1.cells hlt3).1.2.2.1
         simp only [if_true] at this
         exact this
        ·refine (World.cell?_of_block (w := W) ?_).trans (HS.out W hW).2
         exact (heap_setCell_other _ _ _ _ (by exact hPG)).trans ((heap_setCell_other _ _ _ _ (by exact hPG)).trans ((heap_setCell_other _ _ _ _ (by exact hPG)).trans (heap_setCell_other _ _ _ _ (by exact hPG))))
       have HN : Hid (∀ W, Below wr.heap.size wr W → PlAt (((((W.setCell ⟨P, j * 6 + 1, none⟩ (.int .u64 sS.v.root)).setCell ⟨P, j * 6 + 2, none⟩ (.int .i64 sS.v.cost)).setCell ⟨P, j * 6 + 3, none⟩ (.int .u64 (ids j))).setCell ⟨P, j * 6 + 4, none⟩ (.int .i64 0)).setCell ⟨P + 1, j, none⟩ (.int .i64 sS.rp)) P k (Pl.roundTo ids E (Pl.rounds ids E k r) (j + 1)) ∧ Below w.heap.size w (((((W.setCell ⟨P, j * 6 + 1, none⟩ (.int .u64 sS.v.root)).setCell ⟨P, j * 6 + 2, none⟩ (.int .i64 sS.v.cost)).setCell ⟨P, j * 6 + 3, none⟩ (.int .u64 (ids j))).setCell ⟨P, j * 6 + 4, none⟩ (.int .i64 0)).setCell ⟨P + 1, j, none⟩ (.int .i64 sS.rp))) := fun W hW => by
        rw [hstep]
        have h1 := step_pl (ids := ids) (E := E) (hPl.below hW) hlt3
        rw [hsb.1, hsb.2, ← hsS] at h1
        have h2 : Below w.heap.size w W := hB.trans (hW.mono hB.size)
        exact ⟨h1, ((((h2.setCell hP0 _).setCell hP0 _).setCell hP0 _).setCell hP0 _).setCell (Nat.le_succ_of_le hP0) _⟩
       have HS5 : Hid (∀ W, Below wr.heap.size wr W → (((((W.setCell ⟨P, j * 6 + 1, none⟩ (.int .u64 sS.v.root)).setCell ⟨P, j * 6 + 2, none⟩ (.int .i64 sS.v.cost)).setCell ⟨P, j * 6 + 3, none⟩ (.int .u64 (ids j))).setCell ⟨P, j * 6 + 4, none⟩ (.int .i64 0)).setCell ⟨P + 1, j, none⟩ (.int .i64 sS.rp)).cell? ⟨P, j * 6 + 3, none⟩ = some (.int .u64 (ids j)) ∧ (((((W.setCell ⟨P, j * 6 + 1, none⟩ (.int .u64 sS.v.root)).setCell ⟨P, j * 6 + 2, none⟩ (.int .i64 sS.v.cost)).setCell ⟨P, j * 6 + 3, none⟩ (.int .u64 (ids j))).setCell ⟨P, j * 6 + 4, none⟩ (.int .i64 0)).setCell ⟨P + 1, j, none⟩ (.int .i64 sS.rp)).cell? ⟨G, j, none⟩ = some (.slice eao (E j).length ecap)) := fun W hW => by
        have h1 := pl_set5 (pl_set4 (hPl.below hW) hlt3 ⟨sS.v.root, sS.v.cost, ids j, 0⟩) hlt3 sS.rp
        refine ⟨?_, ?_⟩
        ·have := (h1.cells hlt3).1.2.2.1
         simp only [if_true] at this
         exact this
        ·exact (World.cell?_of_block (heap_setCell_other _ _ _ _ (by exact hPG2))).trans (HS4.out W hW).2
       have HPC : Hid (∀ W, Below wr.heap.size wr W → _) := fun W hW => (hPl.below hW).cells hlt3
       have HB0 : Hid (Below wr.heap.size wr wr.drew) := Below.drew (Below.refl _ _)
       obtain ⟨k0, k1⟩ := HS.out wr (Below.refl _ _)
       have i0 : (0 : Int) ≤ (j : Int) := by omega
       have i1 : (j : Int) < (k : Int) := by omega
       generalize (Pl.offs (E j) X).length = m at *
       generalize (E j).length = en at *
       clear hZ hPl hB hI hrow hlen hsb hsS hbr hstep ev eA hPG hPG2 HRW hmk hmk2 hfew
       go_wp2_with fail
       go_region_held3 (fun W => W.cell? ⟨P, j * 6 + 3, none⟩ = some (.int .u64 (ids j)) ∧ W.cell? ⟨G, j, none⟩ = some (.slice eao en ecap))
        (first | (with_reducible exact HS.out _ HB0.out) | (with_reducible exact HS.out _ HB1.out) | (with_reducible exact HS.out _ HB2.out) | (with_reducible exact HS4.out _ HB2.out) | (with_reducible exact HS5.out _ HB2.out))
        (first | (go_at_call 33; (with_reducible refine (HOF.out _ HB0.out).mono ?_); rintro e w1 ⟨oao, ocap, rfl, HO1, HB1⟩) | (go_at_call 58; (with_reducible refine (HCH.out _ _ _ HO1.out HB1.out).mono ?_); rintro e w2 ⟨ag, rfl, HB2⟩; obtain ⟨⟨g0, g1, g2, g3, g4⟩, f0, f1, f2, f3, f4⟩ := HPC.out w2 HB2.out))
       all_goals go_wp2_with fail
       all_goals exact ⟨⟨j + 1, by omega, by go_num, HN.out _ HB2.out⟩, by simp [intOf]; omega⟩
      ·obtain rfl : j = k := by omega
       have H3 : Hid (PlAt wr P j (Pl.rounds ids E j (r + 1)) ∧ Below w.heap.size w wr) := hZ.out
       go_wp2_with fail
       exact ⟨⟨r + 1, by omega, by go_num, H3⟩, by simp [intOf]; omega⟩
    ·obtain rfl : r = k := by omega
     go_wp2_with fail
     go_ret2
     exact ⟨rfl, hY.out.1, by rw [HP.out]; exact hY.out.2⟩
def ptsRaw (ls : Nat → Lk) (i : Nat) : Nat → List Int
 | 0 => []
 | k + 1 => ptsRaw ls i k ++ ((if (ls k).a = (i : Int) then [(ls k).pa] else []) ++ if (ls k).b = (i : Int) then [(ls k).pb] else [])
theorem ptsRaw_ends (ls : Nat → Lk) (lv : Nat → Bool) (i : Nat) : ∀ k, ptsRaw ls i k = (Pl.endsTo ls lv i k).map (·.port)
 | 0 => rfl
 | k + 1 => by
  simp only [ptsRaw, Pl.endsTo, List.map_append]
  rw [ptsRaw_ends ls lv i k]
  congr 1
  unfold Pl.endsAt
  rw [List.map_append]
  congr 1
  ·split <;> rfl
  ·split <;> rfl
theorem ptsRaw_few (ls : Nat → Lk) (i : Nat) : ∀ k, (ptsRaw ls i k).length ≤ 2 * k
 | 0 => by simp [ptsRaw]
 | k + 1 => by
  have := ptsRaw_few ls i k
  simp only [ptsRaw, List.length_append]
  split <;> split <;> simp <;> omega
theorem ports_sorted {K L : Nat} {ls : Nat → Lk} (R : Pl.RightL K L ls) (lv : Nat → Bool) (i : Nat) : (ptsRaw ls i L).mergeSort (fun x y => decide (x ≤ y)) = (Pl.ends ls lv L i).map (·.port) := by
 have p1 : ((ptsRaw ls i L).mergeSort (fun x y => decide (x ≤ y))).Perm (ptsRaw ls i L) := List.mergeSort_perm _ _
 have p2 := (Pl.ends_perm ls lv L i).map (fun e : En => e.port)
 rw [← ptsRaw_ends ls lv i L] at p2
 refine (p1.trans p2.symm).eq_of_pairwise (le := fun a b : Int => a ≤ b) (fun a b _ _ h1 h2 => by omega) ?_ ?_
 ·have := List.pairwise_mergeSort (le := fun x y : Int => decide (x ≤ y)) (fun a b c h1 h2 => by simp at *; omega) (fun a b => by simp; omega) (ptsRaw ls i L)
  exact this.imp (fun {a b} h => by simpa using h)
 ·exact (List.pairwise_map.2 (Pl.ends_sorted R lv i)).imp (fun {a b} h => by omega)
set_option maxRecDepth 100000 in
set_option maxHeartbeats 2000000 in
theorem pports_own (lao : Option Addr) (K L lcap : Nat) (ls : Nat → Lk) (lv : Nat → Bool) (i : Nat) (w : World) (hL : L ≤ 40) (hlk : LRow w lao L lcap ls) (R : Pl.RightL K L ls) :
  Calls Tryz.prog 31 #[.slice lao L lcap, .int .i64 i] w fun e w' => ∃ ao cap, e = .returned (.slice ao ((Pl.ends ls lv L i).map (·.port)).length cap) ∧ IRow w' ao ((Pl.ends ls lv L i).map (·.port)).length cap (IL ((Pl.ends ls lv L i).map (·.port))) ∧ Below w.heap.size w w' ∧ (∀ ad, ao = some ad → w.heap.size ≤ ad.block) ∧ w'.ownsRow w.heap.size 3 1 (.slice ao ((Pl.ends ls lv L i).map (·.port)).length cap) ((Pl.ends ls lv L i).map (·.port)).length (intCells ((Pl.ends ls lv L i).map (·.port))) := by
 rw [← ports_sorted R lv i]
 have HRW : Hid (∀ W, Below w.heap.size w W → LRow W lao L lcap ls) := fun W hW => CRow.below hlk hW
 have hcap := hlk.1
 have HNE : Hid (∀ k, k < L → ¬ ((ls k).a = (i : Int) ∧ (ls k).b = (i : Int))) := fun k hk h => (R.ok k hk).2.2.1 (h.1.trans h.2.symm)
 clear hlk R
 have H0 : Hid (w.ownsRow w.heap.size 3 1 (.slice none (ptsRaw ls i 0).length 0) (ptsRaw ls i 0).length (intCells (ptsRaw ls i 0)) ∧ Below w.heap.size w w) := ⟨ownsC_nil _ _ _ _ _, Below.refl _ _⟩
 go_enter Tryz.func31, Tryz.ntmps31
 go_wp2_with fail
 go_loopw [5, 10] (fun s5 q wr => ∃ (k : Nat) (ao : Option Addr) (cap : Nat), k ≤ L ∧ q = .int .i64 k ∧ s5 = .slice ao (ptsRaw ls i k).length cap ∧ Hid (wr.ownsRow w.heap.size 3 1 (.slice ao (ptsRaw ls i k).length cap) (ptsRaw ls i k).length (intCells (ptsRaw ls i k)) ∧ Below w.heap.size w wr)) (fun _ q _ => L - (intOf q).toNat)
 case atStart => exact ⟨0, none, 0, by omega, rfl, rfl, H0⟩
 case round =>
  obtain ⟨k, ao, cap, hk, rfl, rfl, hX⟩ := hrel
  clear H0
  by_cases hlt : k < L
  ·obtain ⟨hO, hB⟩ := hX.out
   have f1 := HRW.out wr hB
   obtain ⟨lb, loff, rfl, _⟩ := CRow.some f1 (by omega)
   obtain ⟨c0, c1, c2, c3, c4, c5⟩ := LRow.cells f1 hlt
   have hfew := ptsRaw_few ls i k
   have hnext : ptsRaw ls i (k + 1) = ptsRaw ls i k ++ ((if (ls k).a = (i : Int) then [(ls k).pa] else []) ++ if (ls k).b = (i : Int) then [(ls k).pb] else []) := rfl
   have hne := HNE.out k hlt
   have i0 : (0 : Int) ≤ (k : Int) := by omega
   have i1 : (k : Int) < (L : Int) := by omega
   generalize ls k = l at *
   obtain ⟨a, pa, b, pb, c, up⟩ := l
   simp only at c0 c1 c2 c3 c4 c5 hnext hne
   obtain ⟨X, HX⟩ : ∃ X, Hid (X = wr.alloc (.cells #[.int .i64 a, .int .i64 pa, .int .i64 b, .int .i64 pb, .int .i64 c, .bool up] 46)) := ⟨_, rfl⟩
   have hXB : Below wr.heap.size wr X := by rw [HX.out]; exact below_alloc1 _ _
   have hXs2 : X.heap.size = wr.heap.size + 1 := by rw [HX.out]; simp
   have hXs : w.heap.size ≤ X.heap.size := Nat.le_trans hB.size hXB.size
   have HOX : Hid (X.ownsRow w.heap.size 3 1 (.slice ao (ptsRaw ls i k).length cap) (ptsRaw ls i k).length (intCells (ptsRaw ls i k))) := ownsC_below hO hXB
   have HBX : Hid (Below w.heap.size w X) := hB.trans (hXB.mono hB.size)
   have hXe : X.heap[wr.heap.size]? = some (.cells #[.int .i64 a, .int .i64 pa, .int .i64 b, .int .i64 pb, .int .i64 c, .bool up] 46 (0, 0)) := by rw [HX.out]; exact heap_alloc_last _ _
   obtain ⟨q0, q1, q2, q3, _, _⟩ := lk_cells hXe
   by_cases ha : a = (i : Int)
   ·have hb : ¬ b = (i : Int) := fun h => hne ⟨ha, h⟩
    rw [if_pos ha, if_neg hb, List.append_nil] at hnext
    obtain ⟨a1, c1', w2, r, ho2, hk2, _, hb2, _⟩ := int_more2 HOX.out hXs (by omega) pa (Below.refl _ _) rfl
    have hw2 : w2.heap[wr.heap.size]? = some (.cells #[.int .i64 a, .int .i64 pa, .int .i64 b, .int .i64 pb, .int .i64 c, .bool up] 46 (0, 0)) := (hk2 _ (by rw [hXs2]; omega) (fun p => by have := (ownsC_block hO _ p).2; omega)).trans hXe
    obtain ⟨_, _, p2, _, _, _⟩ := lk_cells hw2
    have HN : Hid (w2.ownsRow w.heap.size 3 1 (.slice a1 (ptsRaw ls i (k + 1)).length c1') (ptsRaw ls i (k + 1)).length (intCells (ptsRaw ls i (k + 1))) ∧ Below w.heap.size w w2) := by
     rw [hnext]
     exact ⟨ho2, HBX.out.trans hb2⟩
    have HR2 : Hid _ := r
    have HLE : Hid ((ptsRaw ls i (k + 1)).length = (ptsRaw ls i k ++ [pa]).length) := by show _ = _; rw [hnext]
    rw [hXs2] at HR2
    have e2 : (b == (i : Int)) = false := by simp [hb]
    clear hne
    subst ha
    clear r ho2 hk2 hb2 hw2 hO hB hX f1 hnext HRW HNE HOX HBX hXe hXB hXs q0 q1 q2 q3 hXs2
    go_wp2_with (at_builtin; (try rw [← HX.out]); refine wpList_append_run rfl (.tmp 18) (.tmp 21) 35 rfl _ _ _ rfl rfl HR2.out ?_)
    exact ⟨⟨k + 1, a1, c1', by omega, by go_num, by rw [HLE.out, List.length_append]; rfl, HN⟩, by simp [intOf]; omega⟩
   ·rw [if_neg ha, List.nil_append] at hnext
    have e1 : (a == (i : Int)) = false := by simp [ha]
    by_cases hb : b = (i : Int)
    ·rw [if_pos hb] at hnext
     obtain ⟨a1, c1', w2, r, ho2, hk2, _, hb2, _⟩ := int_more2 HOX.out hXs (by omega) pb (Below.refl _ _) rfl
     have HN : Hid (w2.ownsRow w.heap.size 3 1 (.slice a1 (ptsRaw ls i (k + 1)).length c1') (ptsRaw ls i (k + 1)).length (intCells (ptsRaw ls i (k + 1))) ∧ Below w.heap.size w w2) := by
      rw [hnext]
      exact ⟨ho2, HBX.out.trans hb2⟩
     have HR2 : Hid _ := r
     have HLE : Hid ((ptsRaw ls i (k + 1)).length = (ptsRaw ls i k ++ [pb]).length) := by show _ = _; rw [hnext]
     rw [hXs2] at HR2
     clear hne
     subst hb
     clear r ho2 hk2 hb2 hO hB hX f1 hnext HRW HNE HOX HBX hXe hXB hXs q0 q1 q2 q3 hXs2
     go_wp2_with (at_builtin; (try rw [← HX.out]); refine wpList_append_run rfl (.tmp 27) (.tmp 30) 35 rfl _ _ _ rfl rfl HR2.out ?_)
     exact ⟨⟨k + 1, a1, c1', by omega, by go_num, by rw [HLE.out, List.length_append]; rfl, HN⟩, by simp [intOf]; omega⟩
    ·rw [if_neg hb, List.append_nil] at hnext
     have e2 : (b == (i : Int)) = false := by simp [hb]
     have HN : Hid (X.ownsRow w.heap.size 3 1 (.slice ao (ptsRaw ls i (k + 1)).length cap) (ptsRaw ls i (k + 1)).length (intCells (ptsRaw ls i (k + 1))) ∧ Below w.heap.size w X) := by
      rw [hnext]
      exact ⟨HOX.out, HBX.out⟩
     have HLE : Hid ((ptsRaw ls i (k + 1)).length = (ptsRaw ls i k).length) := by show _ = _; rw [hnext]
     rw [HX.out] at HN
     clear hO hB hX f1 hnext hne HRW HNE HOX HBX hXe hXB hXs q0 q1 q2 q3 hXs2
     go_wp2_with fail
     exact ⟨⟨k + 1, ao, cap, by omega, by go_num, by rw [HLE.out], HN⟩, by simp [intOf]; omega⟩
  ·obtain rfl : k = L := by omega
   obtain ⟨hO, hB⟩ := hX.out
   have hfew := ptsRaw_few ls i k
   have HSO : Hid (Calls Tryz.prog 59 #[.slice ao (ptsRaw ls i k).length cap] wr fun e w' => e = .returned (.tuple #[]) ∧ Hid (w'.ownsRow w.heap.size 3 1 (.slice ao (ptsRaw ls i k).length cap) ((ptsRaw ls i k).mergeSort fun x y => decide (x ≤ y)).length (intCells ((ptsRaw ls i k).mergeSort fun x y => decide (x ≤ y))) ∧ Below w.heap.size w w')) := by
    refine (isort_any w.heap.size _ (ptsRaw ls i k) wr (by omega) hO).mono ?_
    rintro e w' ⟨rfl, z1, z2⟩
    exact ⟨rfl, z1, hB.grown z2 hB.size (fun q hq => (ownsC_block hO q hq).1)⟩
   clear hX hO hB HRW HNE
   go_wp2_with fail
   refine HSO.out.mono ?_
   rintro e w2 ⟨rfl, HN⟩
   clear HSO
   obtain ⟨ao', cap', ev, z1, z3⟩ := IL_row HN.out.1
   injection ev with ev1 ev2 ev3
   subst ev1
   subst ev3
   have HZ1 : Hid (IRow w2 ao ((ptsRaw ls i k).mergeSort fun x y => decide (x ≤ y)).length cap (IL ((ptsRaw ls i k).mergeSort fun x y => decide (x ≤ y)))) := z1
   have HZ3 : Hid (∀ ad, ao = some ad → w.heap.size ≤ ad.block) := z3
   have HOW : Hid (w2.ownsRow w.heap.size 3 1 (.slice ao ((ptsRaw ls i k).mergeSort fun x y => decide (x ≤ y)).length cap) ((ptsRaw ls i k).mergeSort fun x y => decide (x ≤ y)).length (intCells ((ptsRaw ls i k).mergeSort fun x y => decide (x ≤ y)))) := by
    have := HN.out.1
    rw [ev2] at this
    exact this
   have HEV : Hid ((ptsRaw ls i k).length = ((ptsRaw ls i k).mergeSort fun x y => decide (x ≤ y)).length) := ev2
   clear z1 z3 ev2
   go_wp2_with fail
   go_ret
   exact ⟨ao, cap, congrArg (fun n => Ending.returned (Value.slice ao n cap)) HEV.out, HZ1.out, HN.out.2, HZ3.out, HOW.out⟩
theorem pports_any (lao : Option Addr) (K L lcap : Nat) (ls : Nat → Lk) (lv : Nat → Bool) (i : Nat) (w : World) (hL : L ≤ 40) (hlk : LRow w lao L lcap ls) (R : Pl.RightL K L ls) :
  Calls Tryz.prog 31 #[.slice lao L lcap, .int .i64 i] w fun e w' => ∃ ao cap, e = .returned (.slice ao ((Pl.ends ls lv L i).map (·.port)).length cap) ∧ IRow w' ao ((Pl.ends ls lv L i).map (·.port)).length cap (IL ((Pl.ends ls lv L i).map (·.port))) ∧ Below w.heap.size w w' ∧ ∀ ad, ao = some ad → w.heap.size ≤ ad.block := by
 exact (pports_own lao K L lcap ls lv i w hL hlk R).mono (fun e w' ⟨ao, cap, h1, h2, h3, h4, _⟩ => ⟨ao, cap, h1, h2, h3, h4⟩)
end
end Go.Proofs.YtcbpafpaimpfnaaGreatDoor
