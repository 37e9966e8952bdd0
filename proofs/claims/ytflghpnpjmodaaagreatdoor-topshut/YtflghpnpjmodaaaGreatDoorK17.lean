/- Lists of ints in rows of the call's own: one more; sorted -/
import Derived.Test.YtflghpnpjmodaaaGreatDoorK16
import Derived.Test.YtflghpnpjmodaaaGreatDoorK01
import Derived.Shelf.Sort.Plain
import Derived.Shelf.Slices.In.SortNone
import Derived.Sort.OwnSortedInts
namespace Go.Proofs.YtflghpnpjmodaaaGreatDoor
open Go.RowKit
open Vc (V Of)
open Pl (Br Net Pc Lk En St)

/-- What settled is given. -/
structure SetIn (w : World) (bao : Option Addr) (K bcap : Nat) (bs : Nat → Br) (G : Nat) (v : Nat → Value) (E : Nat → List En) : Prop where
  few : K ≤ 12
  brs : BRow w bao K bcap bs
  each : ∀ i, i < K → (bs i).at' w
  fine : ∀ i, i < K → (bs i).Fine
  ends : EndsOk w G K v E
  len : ∀ i, i < K → (E i).length ≤ 1000
  oth : ∀ i, i < K → ∀ e, e ∈ E i → e.live = true → 0 ≤ e.other ∧ e.other < K
theorem SetIn.below {w w' : World} {bao : Option Addr} {K bcap : Nat} {bs : Nat → Br} {G : Nat} {v : Nat → Value} {E : Nat → List En} (h : SetIn w bao K bcap bs G v E) (hb : Below w.heap.size w w') : SetIn w' bao K bcap bs G v E :=
  ⟨h.few, CRow.below h.brs hb, fun i hi => (h.each i hi).below hb, h.fine, h.ends.below hb, h.len, h.oth⟩
/-- One bridge chooses. -/
theorem step_pl {w : World} {g K : Nat} {x : Nat → St} {ids : Nat → Int} {E : Nat → List En} (h : PlAt w g K x) {i : Nat} (hi : i < K) :
    PlAt (((((w.setCell ⟨g, i * 6 + 1, none⟩ (.int .u64 (Pl.chS (ids i) (Pl.offs (E i) x)).v.root)).setCell ⟨g, i * 6 + 2, none⟩ (.int .i64 (Pl.chS (ids i) (Pl.offs (E i) x)).v.cost)).setCell ⟨g, i * 6 + 3, none⟩ (.int .u64 (Pl.chS (ids i) (Pl.offs (E i) x)).v.bridge)).setCell ⟨g, i * 6 + 4, none⟩ (.int .i64 (Pl.chS (ids i) (Pl.offs (E i) x)).v.port)).setCell ⟨g + 1, i, none⟩ (.int .i64 (Pl.chS (ids i) (Pl.offs (E i) x)).rp)) g K (Pl.step ids E x i) := by
  refine (pl_set5 (pl_set4 h hi (Pl.chS (ids i) (Pl.offs (E i) x)).v) hi (Pl.chS (ids i) (Pl.offs (E i) x)).rp).congr (fun j hj => ?_)
  unfold Pl.step
  by_cases q : j = i
  · rw [if_pos q, if_pos q, if_pos rfl]
  · rw [if_neg q, if_neg q, if_neg q]
set_option maxRecDepth 100000 in
set_option maxHeartbeats 4000000 in
theorem psettled_any (bao : Option Addr) (K bcap : Nat) (bs : Nat → Br) (G : Nat) (v : Nat → Value) (E : Nat → List En) (tree : Int) (w : World) (hin : SetIn w bao K bcap bs G v E) :
    Calls Tryz.prog 34 #[.slice bao K bcap, .int .i64 tree, .slice (some ⟨G, 0, none⟩) K K] w fun e w' => e = .returned (.tuple #[.slice (some ⟨w.heap.size, 0, none⟩) K K, .slice (some ⟨w.heap.size + 1, 0, none⟩) K K]) ∧ PlAt w' w.heap.size K (Pl.rounds (fun i => (bs i).id tree) E K K) ∧ Below w.heap.size w w' := by
  have hK := hin.few
  have hcap := hin.brs.1
  have HRW : Hid (∀ W, Below w.heap.size w W → SetIn W bao K bcap bs G v E) := fun W hW => hin.below hW
  have hmk : ∀ W : World, (Instr.makeSlice 62 (.int .i64 (K : Int)) (.int .i64 (K : Int))).run Tryz.prog W = .ok (.slice (some ⟨W.heap.size, 0, none⟩) K K) (W.alloc (.cells (rowC K 6 (fun i => tlC (sInit (fun i => (bs i).id tree) 0 i).v 0)) 66)) := fun W => make_rowD W 62 66 _ 6 48 K Tryz.underlying62 infoTl (by omega) rfl (by omega) (by omega) _ (fun _ j hj => by
    rcases (by omega : j = 0 ∨ j = 1 ∨ j = 2 ∨ j = 3 ∨ j = 4 ∨ j = 5) with e | e | e | e | e | e <;> subst e <;> rfl)
  have hmk2 : ∀ W : World, (Instr.makeSlice 37 (.int .i64 (K : Int)) (.int .i64 (K : Int))).run Tryz.prog W = .ok (.slice (some ⟨W.heap.size, 0, none⟩) K K) (W.alloc (.cells (rowC K 1 (fun i _ => .int .i64 (sInit (fun i => (bs i).id tree) 0 i).rp)) 3)) := fun W => make_rowD W 37 3 _ 1 8 K Tryz.underlying37 infoI (by omega) rfl (by omega) (by omega) _ (fun _ j hj => by rw [show j = 0 by omega]; rfl)
  clear hin
  obtain ⟨ids, HIDS⟩ : ∃ ids : Nat → Int, Hid (∀ i, ids i = (bs i).id tree) := ⟨fun i => (bs i).id tree, fun _ => rfl⟩
  obtain ⟨P, HP⟩ : ∃ P, Hid (P = w.heap.size) := ⟨_, rfl⟩
  have HE : Hid (Pl.rounds (fun i => (bs i).id tree) E K K = Pl.rounds ids E K K) := by
    have : ids = fun i => (bs i).id tree := funext HIDS.out
    rw [this]; rfl
  rw [HE.out, ← HP.out]
  have H0 : Hid (∀ W, W = (w.alloc (.cells (rowC K 6 (fun i => tlC (sInit (fun i => (bs i).id tree) 0 i).v 0)) 66)).alloc (.cells (rowC K 1 (fun i _ => .int .i64 (sInit (fun i => (bs i).id tree) 0 i).rp)) 3) → PlAt W P K (sInit ids 0) ∧ Below w.heap.size w W) := fun W hW => by
    rw [hW, HP.out]
    refine ⟨⟨?_, ?_⟩, below_alloc2 _ _ _⟩
    · unfold TlAt
      rw [heap_alloc2_old]
      rfl
    · unfold RpAt
      rw [heap_alloc2_new]
      rfl
  have hP0 : w.heap.size ≤ P := by rw [HP.out]; exact Nat.le_refl _
  go_enter Tryz.func34, Tryz.ntmps34
  go_wp2_with fail
  rw [← HP.out]
  go_loopw [22] (fun i wr => ∃ k : Nat, k ≤ K ∧ i = .int .i64 k ∧ Hid (PlAt wr P K (sInit ids k) ∧ Below w.heap.size w wr)) (fun i _ => K - (intOf i).toNat)
  case atStart => exact ⟨0, by omega, rfl, H0.out _ rfl⟩
  case round =>
    obtain ⟨k, hk, rfl, hX⟩ := hrel
    clear H0
    by_cases hlt : k < K
    · obtain ⟨hPl, hB⟩ := hX.out
      have hI := HRW.out wr hB
      obtain ⟨b, off, rfl, _⟩ := CRow.some hI.brs (by omega)
      obtain ⟨c0, c1, c2, c3, c4⟩ := BRow.cells hI.brs hlt
      obtain ⟨X, HX⟩ : ∃ X, Hid (X = wr.alloc (.cells (brA (bs k)) 58)) := ⟨_, rfl⟩
      have hXB : Below wr.heap.size wr X := by rw [HX.out]; exact below_alloc1 _ _
      have hX5 : X.heap[wr.heap.size]? = some (.cells (brA (bs k)) 58 (0, 0)) := by rw [HX.out]; exact heap_alloc_last _ _
      have HCL : Hid (Calls Tryz.prog 17 #[.agg (brA (bs k)), .int .i64 tree] X fun e w' => e = .returned (.int .u64 (ids k)) ∧ Hid (PlAt w' P K (sInit ids k) ∧ Below w.heap.size w w')) := by
        refine (pident_any (bs k) tree X ((hI.each k hlt).below hXB) (hI.fine k hlt)).mono ?_
        rintro e w' ⟨rfl, z⟩
        have z2 : Below wr.heap.size wr w' := hXB.trans (z.mono hXB.size)
        exact ⟨by rw [HIDS.out], hPl.below z2, hB.trans (z2.mono hB.size)⟩
      have HN : Hid (∀ W, PlAt W P K (sInit ids k) → Below w.heap.size w W → PlAt ((((W.setCell ⟨P, k * 6 + 1, none⟩ (.int .u64 (ids k))).setCell ⟨P, k * 6 + 2, none⟩ (.int .i64 0)).setCell ⟨P, k * 6 + 3, none⟩ (.int .u64 (ids k))).setCell ⟨P, k * 6 + 4, none⟩ (.int .i64 0)) P K (sInit ids (k + 1)) ∧ Below w.heap.size w ((((W.setCell ⟨P, k * 6 + 1, none⟩ (.int .u64 (ids k))).setCell ⟨P, k * 6 + 2, none⟩ (.int .i64 0)).setCell ⟨P, k * 6 + 3, none⟩ (.int .u64 (ids k))).setCell ⟨P, k * 6 + 4, none⟩ (.int .i64 0))) := fun W h1 h2 => by
        refine ⟨(pl_set4 h1 hlt ⟨ids k, 0, ids k, 0⟩).congr (fun j hj => ?_), (((h2.setCell hP0 _).setCell hP0 _).setCell hP0 _).setCell hP0 _⟩
        unfold sInit
        by_cases q : j = k
        · subst q
          rw [if_pos rfl, if_neg (Nat.lt_irrefl _), if_pos (Nat.lt_succ_self _)]
        · rw [if_neg q]
          by_cases q2 : j < k
          · rw [if_pos q2, if_pos (by omega)]
          · rw [if_neg q2, if_neg (by omega)]
      obtain ⟨d0, d1, d2, d3, d4⟩ := br_cells hX5
      have i0 : (0 : Int) ≤ (k : Int) := by omega
      have i1 : (k : Int) < (K : Int) := by omega
      clear hX hPl hB hI hXB hX5 HRW
      simp only [brA] at *
      go_wp2_with fail
      rw [← HX.out]
      refine HCL.out.mono ?_
      rintro e w1 ⟨rfl, HW1⟩
      obtain ⟨⟨q0, q1, q2, q3, _⟩, f0, f1, f2, f3, _⟩ := HW1.out.1.cells hlt
      clear d0 d1 d2 d3 d4 HCL
      go_wp2_with fail
      exact ⟨⟨k + 1, by omega, by go_num, HN.out _ HW1.out.1 HW1.out.2⟩, by simp [intOf]; omega⟩
    · obtain rfl : k = K := by omega
      have H1 : Hid (PlAt wr P k (Pl.rounds ids E k 0) ∧ Below w.heap.size w wr) := ⟨hX.out.1.congr (fun i hi => by unfold sInit; rw [if_pos hi]; rfl), hX.out.2⟩
      clear hX
      go_wp2_with fail
      go_loopw [40] (fun i wr => ∃ r : Nat, r ≤ k ∧ i = .int .i64 r ∧ Hid (PlAt wr P k (Pl.rounds ids E k r) ∧ Below w.heap.size w wr)) (fun i _ => k - (intOf i).toNat)
      case atStart => exact ⟨0, by omega, rfl, H1⟩
      case round =>
        obtain ⟨r, hr, rfl, hY⟩ := hrel
        clear H1
        by_cases hlt2 : r < k
        · have H2 : Hid (PlAt wr P k (Pl.roundTo ids E (Pl.rounds ids E k r) 0) ∧ Below w.heap.size w wr) := hY.out
          clear hY
          go_wp2_with fail
          go_loopw [44] (fun i wr => ∃ j : Nat, j ≤ k ∧ i = .int .i64 j ∧ Hid (PlAt wr P k (Pl.roundTo ids E (Pl.rounds ids E k r) j) ∧ Below w.heap.size w wr)) (fun i _ => k - (intOf i).toNat)
          case atStart => exact ⟨0, by omega, rfl, H2⟩
          case round =>
            obtain ⟨j, hj, rfl, hZ⟩ := hrel
            clear H2
            by_cases hlt3 : j < k
            · obtain ⟨hPl, hB⟩ := hZ.out
              have hbr := (Pl.roundTo_bridge ids E _ (Pl.rounds_bridge ids E k r) j j).1
              have hstep : Pl.roundTo ids E (Pl.rounds ids E k r) (j + 1) = Pl.step ids E (Pl.roundTo ids E (Pl.rounds ids E k r) j) j := rfl
              have hI := HRW.out wr hB
              obtain ⟨eao, ecap, ev, hrow⟩ := hI.ends.row j hlt3
              have eA : (⟨G, j, none⟩ : Addr) = ⟨G, j * 1 + 0, none⟩ := by simp
              have hlen := hI.len j hlt3
              generalize Pl.roundTo ids E (Pl.rounds ids E k r) j = X at *
              obtain ⟨sS, hsS⟩ : ∃ sS, sS = Pl.chS (ids j) (Pl.offs (E j) X) := ⟨_, rfl⟩
              have hsb := Pl.chS_bridge (ids j) (Pl.offs (E j) X)
              have HOF : Hid (∀ W, Below wr.heap.size wr W → Calls Tryz.prog 37 #[.slice eao (E j).length ecap, .slice (some ⟨P, 0, none⟩) k k] W fun e w' => ∃ ao cap, e = .returned (.slice ao (Pl.offs (E j) X).length cap) ∧ Hid (ORow w' ao (Pl.offs (E j) X).length cap (Pl.lf (Pl.offs (E j) X))) ∧ Hid (Below wr.heap.size wr w')) := fun W hW => by
                refine (pheard_any (E j) eao ecap P k (mdS X) W (by omega) hlen (CRow.below hrow hW) ((hPl.below hW).told) (hI.oth j hlt3)).mono ?_
                rintro e w' ⟨ao, cap, rfl, z1, z2, _⟩
                exact ⟨ao, cap, rfl, z1, hW.trans (z2.mono hW.size)⟩
              have hfew : (Pl.offs (E j) X).length ≤ 1000 := by
                unfold Pl.offs
                rw [List.length_map]
                exact Nat.le_trans (List.length_filter_le _ _) hlen
              have HCH : Hid (∀ (W : World) (ao : Option Addr) (cap : Nat), ORow W ao (Pl.offs (E j) X).length cap (Pl.lf (Pl.offs (E j) X)) → Below wr.heap.size wr W → Calls Tryz.prog 74 #[.int .u64 (ids j), .slice ao (Pl.offs (E j) X).length cap] W fun e w' => ∃ ag : Int, e = .returned (.tuple #[.agg #[.int .u64 sS.v.root, .int .i64 sS.v.cost, .int .u64 (ids j), .int .i64 0], .int .i64 ag, .int .i64 sS.rp]) ∧ Hid (Below wr.heap.size wr w')) := fun W ao cap h1 h2 => by
                refine (vchoose_any (ids j) ao (Pl.offs (E j) X).length cap (Pl.lf (Pl.offs (E j) X)) W (by omega) h1).mono ?_
                rintro e w' ⟨rfl, z2⟩
                refine ⟨Vc.chA (ids j) (Pl.lf (Pl.offs (E j) X)) (Pl.offs (E j) X).length, ?_, h2.trans (z2.mono h2.size)⟩
                have e1 : sS.v = Vc.chV (ids j) (Pl.lf (Pl.offs (E j) X)) (Pl.offs (E j) X).length := by rw [hsS]; rfl
                have e2 : sS.rp = Vc.chP (ids j) (Pl.lf (Pl.offs (E j) X)) (Pl.offs (E j) X).length := by rw [hsS]; rfl
                rw [← hsS] at hsb
                rw [← e1, ← e2]
                unfold vA
                rw [hsb.1, hsb.2]
              have HS : Hid (∀ W, Below wr.heap.size wr W → W.cell? ⟨P, j * 6 + 3, none⟩ = some (.int .u64 (ids j)) ∧ W.cell? ⟨G, j, none⟩ = some (.slice eao (E j).length ecap)) := fun W hW => by
                have h1 := ((hPl.below hW).cells hlt3).1.2.2.1
                rw [hbr] at h1
                have h2 := rowC_cell (hI.ends.below hW).blk hlt3 (show 0 < 1 by omega)
                rw [← eA, ev] at h2
                exact ⟨h1, h2⟩
              have hPG : G ≠ P := fun e => by
                have h1 := hI.ends.blk
                rw [e, hPl.1] at h1
                injection h1 with h1
                injection h1 with _ h1
                revert h1
                decide
              have hPG2 : G ≠ P + 1 := fun e => by
                have h1 := hI.ends.blk
                rw [e, hPl.2] at h1
                injection h1 with h1
                injection h1 with _ h1
                revert h1
                decide
              have HS4 : Hid (∀ W, Below wr.heap.size wr W → ((((W.setCell ⟨P, j * 6 + 1, none⟩ (.int .u64 sS.v.root)).setCell ⟨P, j * 6 + 2, none⟩ (.int .i64 sS.v.cost)).setCell ⟨P, j * 6 + 3, none⟩ (.int .u64 (ids j))).setCell ⟨P, j * 6 + 4, none⟩ (.int .i64 0)).cell? ⟨P, j * 6 + 3, none⟩ = some (.int .u64 (ids j)) ∧ ((((W.setCell ⟨P, j * 6 + 1, none⟩ (.int .u64 sS.v.root)).setCell ⟨P, j * 6 + 2, none⟩ (.int .i64 sS.v.cost)).setCell ⟨P, j * 6 + 3, none⟩ (.int .u64 (ids j))).setCell ⟨P, j * 6 + 4, none⟩ (.int .i64 0)).cell? ⟨G, j, none⟩ = some (.slice eao (E j).length ecap)) := fun W hW => by
                have h1 := pl_set4 (hPl.below hW) hlt3 ⟨sS.v.root, sS.v.cost, ids j, 0⟩
                refine ⟨?_, ?_⟩
                · have := (h1.cells hlt3).1.2.2.1
                  simp only [if_true] at this
                  exact this
                · refine (World.cell?_of_block (w := W) ?_).trans (HS.out W hW).2
                  exact (heap_setCell_other _ _ _ _ (by exact hPG)).trans ((heap_setCell_other _ _ _ _ (by exact hPG)).trans ((heap_setCell_other _ _ _ _ (by exact hPG)).trans (heap_setCell_other _ _ _ _ (by exact hPG))))
              have HN : Hid (∀ W, Below wr.heap.size wr W → PlAt (((((W.setCell ⟨P, j * 6 + 1, none⟩ (.int .u64 sS.v.root)).setCell ⟨P, j * 6 + 2, none⟩ (.int .i64 sS.v.cost)).setCell ⟨P, j * 6 + 3, none⟩ (.int .u64 (ids j))).setCell ⟨P, j * 6 + 4, none⟩ (.int .i64 0)).setCell ⟨P + 1, j, none⟩ (.int .i64 sS.rp)) P k (Pl.roundTo ids E (Pl.rounds ids E k r) (j + 1)) ∧ Below w.heap.size w (((((W.setCell ⟨P, j * 6 + 1, none⟩ (.int .u64 sS.v.root)).setCell ⟨P, j * 6 + 2, none⟩ (.int .i64 sS.v.cost)).setCell ⟨P, j * 6 + 3, none⟩ (.int .u64 (ids j))).setCell ⟨P, j * 6 + 4, none⟩ (.int .i64 0)).setCell ⟨P + 1, j, none⟩ (.int .i64 sS.rp))) := fun W hW => by
                rw [hstep]
                have h1 := step_pl (ids := ids) (E := E) (hPl.below hW) hlt3
                rw [hsb.1, hsb.2, ← hsS] at h1
                have h2 : Below w.heap.size w W := hB.trans (hW.mono hB.size)
                exact ⟨h1, ((((h2.setCell hP0 _).setCell hP0 _).setCell hP0 _).setCell hP0 _).setCell (Nat.le_succ_of_le hP0) _⟩
              have HS5 : Hid (∀ W, Below wr.heap.size wr W → (((((W.setCell ⟨P, j * 6 + 1, none⟩ (.int .u64 sS.v.root)).setCell ⟨P, j * 6 + 2, none⟩ (.int .i64 sS.v.cost)).setCell ⟨P, j * 6 + 3, none⟩ (.int .u64 (ids j))).setCell ⟨P, j * 6 + 4, none⟩ (.int .i64 0)).setCell ⟨P + 1, j, none⟩ (.int .i64 sS.rp)).cell? ⟨P, j * 6 + 3, none⟩ = some (.int .u64 (ids j)) ∧ (((((W.setCell ⟨P, j * 6 + 1, none⟩ (.int .u64 sS.v.root)).setCell ⟨P, j * 6 + 2, none⟩ (.int .i64 sS.v.cost)).setCell ⟨P, j * 6 + 3, none⟩ (.int .u64 (ids j))).setCell ⟨P, j * 6 + 4, none⟩ (.int .i64 0)).setCell ⟨P + 1, j, none⟩ (.int .i64 sS.rp)).cell? ⟨G, j, none⟩ = some (.slice eao (E j).length ecap)) := fun W hW => by
                have h1 := pl_set5 (pl_set4 (hPl.below hW) hlt3 ⟨sS.v.root, sS.v.cost, ids j, 0⟩) hlt3 sS.rp
                refine ⟨?_, ?_⟩
                · have := (h1.cells hlt3).1.2.2.1
                  simp only [if_true] at this
                  exact this
                · exact (World.cell?_of_block (heap_setCell_other _ _ _ _ (by exact hPG2))).trans (HS4.out W hW).2
              have HPC : Hid (∀ W, Below wr.heap.size wr W → _) := fun W hW => (hPl.below hW).cells hlt3
              have HB0 : Hid (Below wr.heap.size wr wr.drew) := Below.drew (Below.refl _ _)
              obtain ⟨k0, k1⟩ := HS.out wr (Below.refl _ _)
              have i0 : (0 : Int) ≤ (j : Int) := by omega
              have i1 : (j : Int) < (k : Int) := by omega
              generalize (Pl.offs (E j) X).length = m at *
              generalize (E j).length = en at *
              clear hZ hPl hB hI hrow hlen hsb hsS hbr hstep ev eA hPG hPG2 HRW hmk hmk2 hfew
              go_wp2_with fail
              go_region_held3 (fun W => W.cell? ⟨P, j * 6 + 3, none⟩ = some (.int .u64 (ids j)) ∧ W.cell? ⟨G, j, none⟩ = some (.slice eao en ecap))
                (first | (with_reducible exact HS.out _ HB0.out) | (with_reducible exact HS.out _ HB1.out) | (with_reducible exact HS.out _ HB2.out) | (with_reducible exact HS4.out _ HB2.out) | (with_reducible exact HS5.out _ HB2.out))
                (first | (go_at_call 37; (with_reducible refine (HOF.out _ HB0.out).mono ?_); rintro e w1 ⟨oao, ocap, rfl, HO1, HB1⟩) | (go_at_call 74; (with_reducible refine (HCH.out _ _ _ HO1.out HB1.out).mono ?_); rintro e w2 ⟨ag, rfl, HB2⟩; obtain ⟨⟨g0, g1, g2, g3, g4⟩, f0, f1, f2, f3, f4⟩ := HPC.out w2 HB2.out))
              all_goals go_wp2_with fail
              all_goals exact ⟨⟨j + 1, by omega, by go_num, HN.out _ HB2.out⟩, by simp [intOf]; omega⟩
            · obtain rfl : j = k := by omega
              have H3 : Hid (PlAt wr P j (Pl.rounds ids E j (r + 1)) ∧ Below w.heap.size w wr) := hZ.out
              go_wp2_with fail
              exact ⟨⟨r + 1, by omega, by go_num, H3⟩, by simp [intOf]; omega⟩
        · obtain rfl : r = k := by omega
          go_wp2_with fail
          go_ret2
          exact ⟨rfl, hY.out.1, by rw [HP.out]; exact hY.out.2⟩
end Go.Proofs.YtflghpnpjmodaaaGreatDoor

namespace Go.Proofs
open Go.Shelf
def Tryz.sortI_ren : Go.Shelf.Ren := ⟨fun | 125 => 118 | 128 => 175 | 129 => 176 | 189 => 75 | 215 => 115 | 216 => 172 | 257 => 117 | 294 => 166 | 295 => 167 | 296 => 168 | 297 => 169 | 298 => 170 | 299 => 171 | 300 => 173 | 301 => 174 | 328 => 202 | 329 => 203 | 330 => 204 | 331 => 205 | 332 => 206 | 343 => 216 | n => n, fun | 0 => 0 | 3 => 3 | 4 => 4 | 5 => 5 | 9 => 9 | 28 => 37 | 46 => 111 | 51 => 168 | 53 => 34 | 131 => 247 | 182 => 263 | 183 => 264 | 218 => 298 | 222 => 302 | 228 => 310 | 229 => 311 | n => n, fun | n => n⟩
theorem Tryz.sortI : Go.Proofs.Lays.n189 Tryz.prog Tryz.sortI_ren := {
  mixed := by kernel_rfl
  f125 := Tryz.func118.trans (congrArg some (by kernel_rfl))
  f128 := Tryz.func175.trans (congrArg some (by kernel_rfl))
  f129 := Tryz.func176.trans (congrArg some (by kernel_rfl))
  f189 := Tryz.func75.trans (congrArg some (by kernel_rfl))
  f215 := Tryz.func115.trans (congrArg some (by kernel_rfl))
  f216 := Tryz.func172.trans (congrArg some (by kernel_rfl))
  f257 := Tryz.func117.trans (congrArg some (by kernel_rfl))
  f294 := Tryz.func166.trans (congrArg some (by kernel_rfl))
  f295 := Tryz.func167.trans (congrArg some (by kernel_rfl))
  f296 := Tryz.func168.trans (congrArg some (by kernel_rfl))
  f297 := Tryz.func169.trans (congrArg some (by kernel_rfl))
  f298 := Tryz.func170.trans (congrArg some (by kernel_rfl))
  f299 := Tryz.func171.trans (congrArg some (by kernel_rfl))
  f300 := Tryz.func173.trans (congrArg some (by kernel_rfl))
  f301 := Tryz.func174.trans (congrArg some (by kernel_rfl))
  f328 := Tryz.func202.trans (congrArg some (by kernel_rfl))
  f329 := Tryz.func203.trans (congrArg some (by kernel_rfl))
  f330 := Tryz.func204.trans (congrArg some (by kernel_rfl))
  f331 := Tryz.func205.trans (congrArg some (by kernel_rfl))
  f332 := Tryz.func206.trans (congrArg some (by kernel_rfl))
  f343 := Tryz.func216.trans (congrArg some (by kernel_rfl))
  t0 := Tryz.underlying0
  a0 := Tryz.isAgg0
  z0 := Tryz.sizeOf0
  v0 := Tryz.zeroValue0
  t3 := Tryz.underlying3
  a3 := Tryz.isAgg3
  z3 := Tryz.sizeOf3
  v3 := Tryz.zeroValue3
  t4 := Tryz.underlying4
  a4 := Tryz.isAgg4
  z4 := Tryz.sizeOf4
  v4 := Tryz.zeroValue4
  t5 := Tryz.underlying5
  a5 := Tryz.isAgg5
  z5 := Tryz.sizeOf5
  v5 := Tryz.zeroValue5
  t9 := Tryz.underlying9
  a9 := Tryz.isAgg9
  z9 := Tryz.sizeOf9
  v9 := Tryz.zeroValue9
  t28 := Tryz.underlying37
  a28 := Tryz.isAgg37
  z28 := Tryz.sizeOf37
  v28 := Tryz.zeroValue37
  t46 := Tryz.underlying111
  a46 := Tryz.isAgg111
  z46 := Tryz.sizeOf111
  v46 := Tryz.zeroValue111
  t51 := Tryz.underlying168
  a51 := Tryz.isAgg168
  z51 := Tryz.sizeOf168
  v51 := Tryz.zeroValue168
  t53 := Tryz.underlying34
  a53 := Tryz.isAgg34
  z53 := Tryz.sizeOf34
  v53 := Tryz.zeroValue34
  t131 := Tryz.underlying247
  a131 := Tryz.isAgg247
  z131 := Tryz.sizeOf247
  v131 := Tryz.zeroValue247
  t182 := Tryz.underlying263
  a182 := Tryz.isAgg263
  z182 := Tryz.sizeOf263
  v182 := Tryz.zeroValue263
  t183 := Tryz.underlying264
  a183 := Tryz.isAgg264
  z183 := Tryz.sizeOf264
  v183 := Tryz.zeroValue264
  t218 := Tryz.underlying298
  a218 := Tryz.isAgg298
  z218 := Tryz.sizeOf298
  v218 := Tryz.zeroValue298
  t222 := Tryz.underlying302
  a222 := Tryz.isAgg302
  z222 := Tryz.sizeOf302
  v222 := Tryz.zeroValue302
  t228 := Tryz.underlying310
  a228 := Tryz.isAgg310
  z228 := Tryz.sizeOf310
  v228 := Tryz.zeroValue310
  t229 := Tryz.underlying311
  a229 := Tryz.isAgg311
  z229 := Tryz.sizeOf311
  v229 := Tryz.zeroValue311 }
end Go.Proofs

namespace Go.Proofs.YtflghpnpjmodaaaGreatDoor
open Go.RowKit
open Vc (V Of)
open Pl (Br Net Pc Lk En St)

/-- A list of ints, as it lies. -/
abbrev IL (l : List Int) (j : Nat) : Int := l.getD j 0
abbrev intCells (l : List Int) : List Value := cellsL l.length 1 (fun j _ => .int .i64 (IL l j))
theorem int_snoc (l : List Int) (z : Int) : cellsL (l.length + 1) 1 (catC l.length (fun j _ => .int .i64 (IL l j)) (fun _ _ => .int .i64 z)) = intCells (l ++ [z]) := by
  unfold intCells
  rw [List.length_append]
  apply cellsL_congr
  intro i hi
  simp only [catC]
  by_cases q : i < l.length
  · rw [if_pos q]
    simp [IL, List.getD, List.getElem?_append_left q]
  · rw [if_neg q]
    obtain rfl : i = l.length := by omega
    simp [IL, List.getD]
theorem one_int_row {w : World} {g : Nat} {z : Int} {ty : TypeId} (h : w.heap[g]? = some (.cells #[.int .i64 z] ty (0, 0))) : IRow w (some ⟨g, 0, none⟩) 1 1 (fun _ => z) := by
  refine ⟨Nat.le_refl _, fun _ => ⟨g, 0, rfl, (Array.getElem?_eq_some_iff.1 h).1, fun i hi j hj => ?_⟩⟩
  obtain rfl : i = 0 := by omega
  obtain rfl : j = 0 := by omega
  exact cell_of_row w g 0 _ _ _ h
/-- One int more. -/
theorem int_more {W : World} {base : Nat} {ao : Option Addr} {cap : Nat} {l : List Int} (h : W.ownsRow base 3 1 (.slice ao l.length cap) l.length (intCells l)) (hb : base ≤ W.heap.size) (hl : l.length ≤ 100000) (z : Int) :
    ∃ a1 c1 w2, (Builtin.append_ #[37, 37] 37 #[.slice ao l.length cap, .slice (some ⟨W.heap.size, 0, none⟩) 1 1]).run Tryz.prog (W.alloc (.cells #[.int .i64 z] 3)) = .ok (.slice a1 (l ++ [z]).length c1) w2 ∧ w2.ownsRow base 3 1 (.slice a1 (l ++ [z]).length c1) (l ++ [z]).length (intCells (l ++ [z])) ∧ Below base W w2 := by
  have hB : Below W.heap.size W (W.alloc (.cells #[.int .i64 z] 3)) := below_alloc1 _ _
  obtain ⟨a1, c1, w2, r, ho, hb2, _⟩ := append_c (W.alloc (.cells #[.int .i64 z] 3)) 37 3 _ 1 8 Tryz.underlying37 infoI rfl (by omega) base (.slice ao l.length cap) l.length (fun j _ => .int .i64 (IL l j)) (ownsC_below h hB) (some ⟨W.heap.size, 0, none⟩) 1 1 (fun _ _ => .int .i64 z) (fun _ _ => rfl) (one_int_row (heap_alloc_last _ _)) (fun h => by cases h) (by unfold maxLen; omega) (by omega) (by simp; omega)
  rw [int_snoc] at ho
  have e : (l ++ [z]).length = l.length + 1 := by simp
  rw [← e] at r ho
  exact ⟨a1, c1, w2, r, ho, (hB.mono hb).trans hb2⟩
/-- .. and what else is as it was. -/
theorem int_more2 {Z Zd : World} {base : Nat} {v : Value} {l : List Int} (ho : Z.ownsRow base 3 1 v l.length (intCells l)) (hbase : base ≤ Z.heap.size) (hl : l.length ≤ 100000) (z : Int) (hZ : Below Z.heap.size Z Zd) (hs : Zd.heap.size = Z.heap.size) :
    ∃ vo vc w2, (Builtin.append_ #[37, 37] 37 #[v, .slice (some ⟨Z.heap.size, 0, none⟩) 1 1]).run Tryz.prog (Zd.alloc (.cells #[.int .i64 z] 3)) = .ok (.slice vo (l ++ [z]).length vc) w2 ∧ w2.ownsRow base 3 1 (.slice vo (l ++ [z]).length vc) (l ++ [z]).length (intCells (l ++ [z])) ∧
      (∀ q, q < Z.heap.size → v.ownBlock ≠ some q → w2.heap[q]? = Z.heap[q]?) ∧ ((Value.slice vo (l ++ [z]).length vc).ownBlock = v.ownBlock ∨ (Value.slice vo (l ++ [z]).length vc).ownBlock = some (Z.heap.size + 1)) ∧ Below base Z w2 ∧ Z.heap.size ≤ w2.heap.size := by
  obtain ⟨i0, hi0, hz0, hz1, hz2⟩ := info_parts infoI
  obtain ⟨C, hC⟩ : ∃ C, C = Zd.alloc (.cells #[.int .i64 z] 3) := ⟨_, rfl⟩
  have hCb : Below Z.heap.size Z C := by rw [hC]; exact hZ.alloc (by omega) _
  have hCs : C.heap.size = Z.heap.size + 1 := by rw [hC]; simp [hs]
  have hCl : C.heap[Z.heap.size]? = some (.cells #[.int .i64 z] 3 (0, 0)) := by rw [hC, ← hs]; exact heap_alloc_last Zd _
  have hO := ownsC_below ho hCb
  obtain ⟨v', w2, hrun, h1, h2, _, h3⟩ := run_append_own_at (P := Tryz.prog) C base 37 37 3 i0 _ 1 8 Tryz.underlying37 hi0 hz0 hz1 hz2 rfl (by omega) v l.length (intCells l) hO ⟨Z.heap.size, 0, none⟩ 1 1 [.int .i64 z] rfl (fun j u hj => by
    have hl : j = 0 := by
      have := (List.getElem?_eq_some_iff.1 hj).1
      simpa using this
    subst hl
    rw [add_row, Nat.zero_add]
    simp at hj
    subst hj
    exact cell_of_row C Z.heap.size 0 _ _ _ hCl) (fun u hu => by simp at hu; subst hu; rfl) (by unfold maxLen; omega) (by omega) (by omega)
  have e1 : intCells l ++ [.int .i64 z] = intCells (l ++ [z]) := by
    have : ([.int .i64 z] : List Value) = cellsL 1 1 (fun _ _ => .int .i64 z) := by simp [cellsL]
    rw [this, cellsL_cat _ _ _ (by omega), int_snoc]
  have e2 : (l ++ [z]).length = l.length + 1 := by simp
  rw [e1, ← e2] at h1
  obtain ⟨ao, cap, rfl, _⟩ := owns_c (by omega) h1
  refine ⟨ao, cap, w2, by rw [← hC]; exact hrun, h1, fun q hq hne => (h2.block q (by omega) (fun p => hne p.symm)).trans (hCb.block q hq), ?_, ?_, by have := h2.size; omega⟩
  · rcases h3 with h3 | h3
    · exact Or.inl h3
    · exact Or.inr (by rw [h3, hCs])
  · exact (hCb.mono hbase).trans ((Below.refl _ _).grown h2 (by omega) (fun q hq => (ownsC_block hO q hq).1))
theorem intCells_map (l : List Int) : intCells l = l.map (Value.int .i64) := by
  apply List.ext_getElem
  · simp [intCells, cellsL]
  · intro i h1 h2
    have hi : i < l.length := by simpa using h2
    simp [intCells, cellsL, IL, List.getD, List.getElem?_eq_getElem hi]
theorem IL_row {w : World} {base : Nat} {v : Value} {l : List Int} (h : w.ownsRow base 3 1 v l.length (intCells l)) : ∃ ao cap, v = .slice ao l.length cap ∧ IRow w ao l.length cap (IL l) ∧ ∀ ad, ao = some ad → base ≤ ad.block := by
  obtain ⟨ao, cap, e, h1, _, h3⟩ := owns_c (by omega) h
  exact ⟨ao, cap, e, h1, h3⟩
/-- THE SORT OF INTS. -/
theorem isort_any (base : Nat) (v : Value) (l : List Int) (w : World) (hl : l.length ≤ 100000) (ho : w.ownsRow base 3 1 v l.length (intCells l)) :
    Calls Tryz.prog 75 #[v] w fun e w' => e = .returned (.tuple #[]) ∧ w'.ownsRow base 3 1 v (l.mergeSort fun x y => decide (x ≤ y)).length (intCells (l.mergeSort fun x y => decide (x ≤ y))) ∧ w.grownBy w' v.ownBlock := by
  obtain ⟨_, h2⟩ := ho
  rcases h2 with ⟨rfl, h0⟩ | ⟨g, cap, cur, rfl, hg, hh, hn, hm, hs, hx⟩
  · have e0 : l = [] := List.eq_nil_of_length_eq_zero h0
    subst e0
    refine (Any.slices_Sort_int_none Tryz.sortI none 0 w).mono ?_
    rintro e w' ⟨rfl, rfl⟩
    refine ⟨rfl, ?_, ⟨rfl, rfl, rfl, Nat.le_refl _, fun _ _ _ => rfl⟩⟩
    have : ([] : List Int).mergeSort (fun x y => decide (x ≤ y)) = [] := by simp
    rw [this]
    exact ⟨by simp [intCells, cellsL], Or.inl ⟨rfl, rfl⟩⟩
  · have hH : Go.Sort.Holds (Value.int .i64) w g 0 l.toArray := holds_of_blockI hh (by rw [← intCells_map, ← hx, Nat.mul_one])
    have hc := Any.slices_Sort_int Tryz.sortI g 0 cap l w hH (Array.getElem?_eq_some_iff.1 hh).1 (by omega)
    change Calls Tryz.prog 75 _ _ _ at hc
    refine hc.mono ?_
    rintro e w' ⟨rfl, n, os, rfl⟩
    have hlen : (l.mergeSort fun x y => decide (x ≤ y)).length = l.length := List.length_mergeSort _
    refine ⟨rfl, ?_, grownBy_sortedI _⟩
    rw [intCells_map, hlen]
    exact ownsRow_sortedI hlen hg hh hn hm hs
end Go.Proofs.YtflghpnpjmodaaaGreatDoor
