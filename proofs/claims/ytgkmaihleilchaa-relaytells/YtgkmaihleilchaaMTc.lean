/- walks: the document's Relay (written by tools/gen_rlaws9.py) -/
import Derived.Test.YtgkmaihleilchaaYW7
import Derived.Test.YtgkmaihleilchaaYM2
import Derived.Test.YtgkmaihleilchaaMTb
import Derived.Test.YtgkmaihleilchaaGR1
namespace Go.Proofs.Ytgkmaihleilchaa
open Go.RowKit
open Bk (E at')
open Rl (G gat F O R)

set_option maxHeartbeats 400000 in
theorem rbad_any (e : Int) (Bi : Nat) (k : Int) (w : World) (hi : w.cell? ⟨Bi, 0, none⟩ = some (.int .i64 k)) :
    Calls Try.prog 26 #[.int .i64 e, .pointer (some ⟨Bi, 0, none⟩)] w fun r w' => r = .returned (.agg #[.int .i64 e, .int .i64 k]) ∧ Below w.heap.size w w' := by
  have l1 : Bi < w.heap.size := block_lt_of_cell hi
  go_enter Try.func26, Try.ntmps26
  go_wp2_with fail
  exact bodyPost_ret (v := .agg #[.int .i64 e, .int .i64 k]) (results_row (p := 3) (ty := 33) Try.results26 _ _ w.heap.size 33 #[.int .i64 e, .int .i64 k] (0, 0) _ rfl (heap_alloc_last _ _) Try.underlying33 rfl (by rw [bsizeFa]; rfl)) rfl ⟨rfl, below_alloc1 _ _⟩
set_option maxRecDepth 100000 in
set_option maxHeartbeats 8000000 in
theorem rwrong9_any (ao : Option Addr) (cap : Nat) (l : List G) (w : World) (hr : GRow w ao cap l) :
    Calls Try.prog 10 #[.slice ao l.length cap] w fun e w' => e = .returned (faV (Rl.wrong l)) ∧ Below w.heap.size w w' := by
  have hn := hr.many
  have HRW : Hid (∀ W, Below w.heap.size w W → GRow W ao cap l) := fun W hW => hr.below hW
  have hcap : l.length ≤ cap := hr.row.1
  clear hr
  obtain ⟨G, HG⟩ : ∃ G, Hid (G = w.heap.size) := ⟨_, rfl⟩
  have HI : Hid (∀ W, W = w.alloc (.cells #[.int .i64 0, .int .i64 0] 33) → Below w.heap.size w W ∧ W.heap[G]? = some (.cells #[.int .i64 0, .int .i64 0] 33 (0, 0))) := by
    intro W hW
    rw [hW, HG.out]
    exact ⟨below_alloc1 _ _, heap_alloc_last _ _⟩
  have hGM : w.heap.size ≤ G := by rw [HG.out]; exact Nat.le_refl _
  have HN1 : Hid (Rl.wrong l = Bk.firstTo (Rl.gErr l) l.length) := rfl
  go_enter Try.func10, Try.ntmps10
  go_wp2_with fail
  rw [← HG.out]
  go_loopw [11] (fun i wr => ∃ k : Nat, k ≤ l.length ∧ i = .int .i64 k ∧ Hid (∀ j, j < k → Rl.gErr l j = 0) ∧ Hid (Below w.heap.size w wr ∧ wr.heap[G]? = some (.cells #[.int .i64 0, .int .i64 0] 33 (0, 0)))) (fun i _ => l.length - (intOf i).toNat)
  case atStart => exact ⟨0, by omega, rfl, (fun j hj => absurd hj (by omega)), HI.out _ rfl⟩
  case round =>
    obtain ⟨k, hk, rfl, hS, hX⟩ := hrel
    clear HI
    by_cases hlt : k < l.length
    · obtain ⟨b, off, rfl, _⟩ := (HRW.out wr hX.out.1).place (by omega)
      obtain ⟨c0, c1, c2, c3⟩ := (HRW.out wr hX.out.1).cells hlt
      have hgi := (HRW.out wr hX.out.1).at hlt
      obtain ⟨X, HX⟩ : ∃ X, Hid (X = (wr.alloc (.cells #[.int .i64 (k : Int)] 3)).alloc (.cells #[.int .i64 (gat l k).port, .slice (gat l k).wo (gat l k).ways.length (gat l k).wcap, .int .i64 (gat l k).plain, .slice (gat l k).oo (gat l k).opens.length (gat l k).ocap] 47)) := ⟨_, rfl⟩
      have hXB : Below wr.heap.size wr X := by rw [HX.out]; exact below_alloc2 _ _ _
      have hXi : X.heap[wr.heap.size]? = some (.cells #[.int .i64 (k : Int)] 3 (0, 0)) := by rw [HX.out]; exact heap_alloc2_old _ _ _
      have hXg : X.heap[wr.heap.size + 1]? = some (.cells #[.int .i64 (gat l k).port, .slice (gat l k).wo (gat l k).ways.length (gat l k).wcap, .int .i64 (gat l k).plain, .slice (gat l k).oo (gat l k).opens.length (gat l k).ocap] 47 (0, 0)) := by rw [HX.out]; exact heap_alloc2_new _ _ _
      have HXX : Hid (Below X.heap.size X X) := Below.refl _ _
      have hwX : Below w.heap.size w X := below_up hX.out.1 hXB
      have HFIN : Hid (∀ W, Below X.heap.size X W → Below w.heap.size w W ∧ W.heap[G]? = some (.cells #[.int .i64 0, .int .i64 0] 33 (0, 0))) := fun W hW => ⟨below_up hwX hW, keep (keep hX.out.2 hXB) hW⟩
      have HBAD : Hid (∀ (e : Int) (W : World), Below X.heap.size X W → Calls Try.prog 26 #[.int .i64 e, .pointer (some ⟨wr.heap.size, 0, none⟩)] W fun r w' => r = .returned (.agg #[.int .i64 e, .int .i64 (k : Int)]) ∧ Hid (Below w.heap.size w w' ∧ w'.heap[G]? = some (.cells #[.int .i64 0, .int .i64 0] 33 (0, 0)))) := fun e W hW => (rbad_any e wr.heap.size k W (cell_of_row W _ 0 _ _ _ (keep hXi hW))).mono (fun _ w' h => ⟨h.1, HFIN.out w' (below_up hW h.2)⟩)
      have HCC : Hid (∀ W, Below X.heap.size X W → W.cell? ⟨wr.heap.size, 0, none⟩ = some (.int .i64 (k : Int)) ∧ W.cell? ⟨wr.heap.size + 1, 0, none⟩ = some (.int .i64 (gat l k).port) ∧ W.cell? ⟨wr.heap.size + 1, 1, none⟩ = some (.slice (gat l k).wo (gat l k).ways.length (gat l k).wcap) ∧ W.cell? ⟨wr.heap.size + 1, 2, none⟩ = some (.int .i64 (gat l k).plain) ∧ W.cell? ⟨wr.heap.size + 1, 3, none⟩ = some (.slice (gat l k).oo (gat l k).opens.length (gat l k).ocap)) := fun W hW => ⟨cell_of_row W _ 0 _ _ _ (keep hXi hW), gt_cells (keep hXg hW)⟩
      have HF1 : Hid (∀ e, e ≠ 0 → Rl.gErr l k = e → Bk.firstTo (Rl.gErr l) l.length = (e, (k : Int))) := fun e he h => by
        subst h
        exact Bk.firstTo_stay _ k (by rw [Bk.firstTo_none _ _ hS.out]) he _ hlt
      have HS1 : Hid (Rl.gErr l k = 0 → ∀ j, j < k + 1 → Rl.gErr l j = 0) := fun h j hj => by
        by_cases e : j = k
        · subst e; exact h
        · exact hS.out j (by omega)
      have HPV : Hid (0 < k → ∀ W, Below X.heap.size X W → W.cell? ⟨b, off + (k - 1) * 4, none⟩ = some (.int .i64 (gat l (k - 1)).port)) := fun h0 W hW => ((HRW.out W (below_up hwX hW)).cells (show k - 1 < l.length by omega)).1
      have HGI : Hid (∀ W, Below X.heap.size X W → GIn W (gat l k)) := fun W hW => (hgi.below hXB).below hW
      have HGE : Hid (Rl.gErr l k = Rl.or3 (Rl.gateErr (gat l k)) (Rl.waysErr (gat l k).ways) (Rl.rise (Rl.aheadP l k) (gat l k).port)) := rfl
      have HAH : Hid (0 < k → Rl.aheadP l k = (gat l (k - 1)).port) := fun h0 => if_neg (by omega)
      have HA0 : Hid (k = 0 → Rl.aheadP l k = -1) := fun h0 => if_pos h0
      obtain ⟨i0, d0, d1, d2, d3⟩ := HCC.out X HXX.out
      clear hX hS hXB hXi hXg hgi HRW hwX
      generalize hx : gat l k = x at *
      clear hx
      go_upto_region 4 with fail
      rw [← HX.out]
      clear c0 c1 c2 c3
      by_cases p1 : x.port < 0
      · have hge : Rl.gateErr x = 3 := by unfold Rl.gateErr; rw [if_neg (by omega)]
        have HF2 : Hid _ := HF1.out 3 (by omega) (by rw [HGE.out, hge]; rfl)
        go_wp2_with fail
        refine (HBAD.out 3 X HXX.out).mono ?_
        rintro rr w9 ⟨rfl, HZ⟩
        obtain ⟨f0, f1, f2, f3⟩ := bfa_cells HZ.out.2
        go_wp2_with fail
        exact bodyPost_ret (v := .agg #[.int .i64 3, .int .i64 (k : Int)]) (results_row (p := 2) (ty := 33) Try.results10 _ _ G 33 #[.int .i64 3, .int .i64 (k : Int)] (0, 0) _ rfl (bfa_set HZ.out.2) Try.underlying33 rfl (by rw [bsizeFa]; rfl)) rfl ⟨by rw [HN1.out, HF2.out], (HZ.out.1.setCell hGM _).setCell hGM _⟩
      · by_cases p2 : 30 < x.port
        · have hge : Rl.gateErr x = 3 := by unfold Rl.gateErr; rw [if_neg (by omega)]
          have HF2 : Hid _ := HF1.out 3 (by omega) (by rw [HGE.out, hge]; rfl)
          go_wp2_with fail
          refine (HBAD.out 3 X HXX.out).mono ?_
          rintro rr w9 ⟨rfl, HZ⟩
          obtain ⟨f0, f1, f2, f3⟩ := bfa_cells HZ.out.2
          go_wp2_with fail
          exact bodyPost_ret (v := .agg #[.int .i64 3, .int .i64 (k : Int)]) (results_row (p := 2) (ty := 33) Try.results10 _ _ G 33 #[.int .i64 3, .int .i64 (k : Int)] (0, 0) _ rfl (bfa_set HZ.out.2) Try.underlying33 rfl (by rw [bsizeFa]; rfl)) rfl ⟨by rw [HN1.out, HF2.out], (HZ.out.1.setCell hGM _).setCell hGM _⟩
        · by_cases p3 : x.plain < 0
          · have hge : Rl.gateErr x = 3 := by unfold Rl.gateErr; rw [if_neg (by omega)]
            have HF2 : Hid _ := HF1.out 3 (by omega) (by rw [HGE.out, hge]; rfl)
            go_wp2_with fail
            refine (HBAD.out 3 X HXX.out).mono ?_
            rintro rr w9 ⟨rfl, HZ⟩
            obtain ⟨f0, f1, f2, f3⟩ := bfa_cells HZ.out.2
            go_wp2_with fail
            exact bodyPost_ret (v := .agg #[.int .i64 3, .int .i64 (k : Int)]) (results_row (p := 2) (ty := 33) Try.results10 _ _ G 33 #[.int .i64 3, .int .i64 (k : Int)] (0, 0) _ rfl (bfa_set HZ.out.2) Try.underlying33 rfl (by rw [bsizeFa]; rfl)) rfl ⟨by rw [HN1.out, HF2.out], (HZ.out.1.setCell hGM _).setCell hGM _⟩
          · by_cases p4 : 4094 < x.plain
            · have hge : Rl.gateErr x = 3 := by unfold Rl.gateErr; rw [if_neg (by omega)]
              have HF2 : Hid _ := HF1.out 3 (by omega) (by rw [HGE.out, hge]; rfl)
              go_wp2_with fail
              refine (HBAD.out 3 X HXX.out).mono ?_
              rintro rr w9 ⟨rfl, HZ⟩
              obtain ⟨f0, f1, f2, f3⟩ := bfa_cells HZ.out.2
              go_wp2_with fail
              exact bodyPost_ret (v := .agg #[.int .i64 3, .int .i64 (k : Int)]) (results_row (p := 2) (ty := 33) Try.results10 _ _ G 33 #[.int .i64 3, .int .i64 (k : Int)] (0, 0) _ rfl (bfa_set HZ.out.2) Try.underlying33 rfl (by rw [bsizeFa]; rfl)) rfl ⟨by rw [HN1.out, HF2.out], (HZ.out.1.setCell hGM _).setCell hGM _⟩
            · by_cases p5 : (16 : Int) < x.opens.length
              · have hge : Rl.gateErr x = 5 := by unfold Rl.gateErr; rw [if_pos (by omega), if_pos p5]
                have HF2 : Hid _ := HF1.out 5 (by omega) (by rw [HGE.out, hge]; rfl)
                go_wp2_with fail
                refine (HBAD.out 5 X HXX.out).mono ?_
                rintro rr w9 ⟨rfl, HZ⟩
                obtain ⟨f0, f1, f2, f3⟩ := bfa_cells HZ.out.2
                go_wp2_with fail
                exact bodyPost_ret (v := .agg #[.int .i64 5, .int .i64 (k : Int)]) (results_row (p := 2) (ty := 33) Try.results10 _ _ G 33 #[.int .i64 5, .int .i64 (k : Int)] (0, 0) _ rfl (bfa_set HZ.out.2) Try.underlying33 rfl (by rw [bsizeFa]; rfl)) rfl ⟨by rw [HN1.out, HF2.out], (HZ.out.1.setCell hGM _).setCell hGM _⟩
              · have hge : Rl.gateErr x = 0 := by unfold Rl.gateErr; rw [if_pos (by omega), if_neg p5]
                have HG2 : Hid (Rl.gErr l k = (if Rl.waysErr x.ways = 0 then Rl.rise (Rl.aheadP l k) x.port else Rl.waysErr x.ways)) := by
                  rw [HGE.out, hge]
                  rfl
                have hwn := (HGI.out X HXX.out).wn
                have hwc : x.ways.length ≤ x.wcap := (HGI.out X HXX.out).ways.1
                have hpp : 0 ≤ x.port := by omega
                clear hge HGE
                go_wp2_with fail
                go_loopw [6, 46] (fun a i ws => ∃ j : Nat, j ≤ x.ways.length ∧ i = .int .i64 j ∧ a = .int .i64 (Rg.last (Rl.wv x.ways) j) ∧ Hid (Rg.wrongTo (Rl.wv x.ways) (fun _ => 1) j = 0) ∧ Hid (Below X.heap.size X ws)) (fun _ i _ => x.ways.length - (intOf i).toNat)
                case atStart => exact ⟨0, by omega, rfl, rfl, rfl, HXX⟩
                case round =>
                  obtain ⟨j, hj, rfl, rfl, hX2, hB⟩ := hrel
                  rename World => ws
                  by_cases hjl : j < x.ways.length
                  · obtain ⟨b', off', hwo, _⟩ := (HGI.out ws hB.out).ways.place (by omega)
                    have c0 : ws.cell? ⟨b', off' + j, none⟩ = some (.int .i64 (Rl.wv x.ways j)) := ILs.cell (cap := x.wcap) (by rw [← hwo]; exact (HGI.out ws hB.out).ways) hjl
                    have HE2 : Hid (Rg.wayErr (Rg.last (Rl.wv x.ways) j) (Rl.wv x.ways j) 1 ≠ 0 → Rl.waysErr x.ways = Rg.wayErr (Rg.last (Rl.wv x.ways) j) (Rl.wv x.ways j) 1) := fun h => Rg.wrongTo_here (Rl.wv x.ways) (fun _ => 1) j x.ways.length hjl hX2.out h
                    have HZ2 : Hid (Rg.wayErr (Rg.last (Rl.wv x.ways) j) (Rl.wv x.ways j) 1 = 0 → Rg.wrongTo (Rl.wv x.ways) (fun _ => 1) (j + 1) = 0) := fun h => Rg.wrongTo_succ (Rl.wv x.ways) (fun _ => 1) j hX2.out h
                    have HL : Hid (Rg.last (Rl.wv x.ways) (j + 1) = Rl.wv x.ways j) := by show Rg.last (Rl.wv x.ways) (j + 1) = Rl.wv x.ways j; unfold Rg.last; rw [if_neg (by omega)]; rfl
                    have HERR : Hid (∀ e, e ≠ 0 → Rg.wayErr (Rg.last (Rl.wv x.ways) j) (Rl.wv x.ways j) 1 = e → Bk.firstTo (Rl.gErr l) l.length = (e, (k : Int))) := fun e he h => HF1.out e he (by
                      have h2 := HE2.out (by rw [h]; exact he)
                      rw [HG2.out, h2, h, if_neg he])
                    clear hX2 HE2
                    rw [hwo]
                    generalize Rg.last (Rl.wv x.ways) j = la at *
                    generalize Rl.wv x.ways j = v at *
                    by_cases g1 : v < 1
                    · have HF2 : Hid _ := HERR.out 3 (by omega) (by unfold Rg.wayErr; rw [if_neg (by omega)])
                      go_wp2_with fail
                      refine (HBAD.out 3 ws hB.out).mono ?_
                      rintro rr w9 ⟨rfl, HZ⟩
                      obtain ⟨f0, f1, f2, f3⟩ := bfa_cells HZ.out.2
                      go_wp2_with fail
                      exact bodyPost_ret (v := .agg #[.int .i64 3, .int .i64 (k : Int)]) (results_row (p := 2) (ty := 33) Try.results10 _ _ G 33 #[.int .i64 3, .int .i64 (k : Int)] (0, 0) _ rfl (bfa_set HZ.out.2) Try.underlying33 rfl (by rw [bsizeFa]; rfl)) rfl ⟨by rw [HN1.out, HF2.out], (HZ.out.1.setCell hGM _).setCell hGM _⟩
                    · by_cases g2 : 4094 < v
                      · have HF2 : Hid _ := HERR.out 3 (by omega) (by unfold Rg.wayErr; rw [if_neg (by omega)])
                        go_wp2_with fail
                        refine (HBAD.out 3 ws hB.out).mono ?_
                        rintro rr w9 ⟨rfl, HZ⟩
                        obtain ⟨f0, f1, f2, f3⟩ := bfa_cells HZ.out.2
                        go_wp2_with fail
                        exact bodyPost_ret (v := .agg #[.int .i64 3, .int .i64 (k : Int)]) (results_row (p := 2) (ty := 33) Try.results10 _ _ G 33 #[.int .i64 3, .int .i64 (k : Int)] (0, 0) _ rfl (bfa_set HZ.out.2) Try.underlying33 rfl (by rw [bsizeFa]; rfl)) rfl ⟨by rw [HN1.out, HF2.out], (HZ.out.1.setCell hGM _).setCell hGM _⟩
                      · by_cases g3 : v ≤ la
                        · have HF2 : Hid _ := HERR.out 2 (by omega) (by unfold Rg.wayErr; rw [if_pos (by omega), if_pos g3])
                          go_wp2_with fail
                          refine (HBAD.out 2 ws hB.out).mono ?_
                          rintro rr w9 ⟨rfl, HZ⟩
                          obtain ⟨f0, f1, f2, f3⟩ := bfa_cells HZ.out.2
                          go_wp2_with fail
                          exact bodyPost_ret (v := .agg #[.int .i64 2, .int .i64 (k : Int)]) (results_row (p := 2) (ty := 33) Try.results10 _ _ G 33 #[.int .i64 2, .int .i64 (k : Int)] (0, 0) _ rfl (bfa_set HZ.out.2) Try.underlying33 rfl (by rw [bsizeFa]; rfl)) rfl ⟨by rw [HN1.out, HF2.out], (HZ.out.1.setCell hGM _).setCell hGM _⟩
                        · have HW : Hid (Rg.wayErr la v 1 = 0) := by show Rg.wayErr la v 1 = 0; unfold Rg.wayErr; rw [if_pos (by omega), if_neg g3]
                          go_wp2_with fail
                          exact ⟨⟨j + 1, by omega, by go_num, by rw [HL.out], HZ2.out HW.out, hB⟩, by simp [intOf]; omega⟩
                  · obtain rfl : j = x.ways.length := by omega
                    have HG3 : Hid (Rl.gErr l k = Rl.rise (Rl.aheadP l k) x.port) := by
                      rw [HG2.out, if_pos (show Rl.waysErr x.ways = 0 from hX2.out)]
                      rfl
                    obtain ⟨i1, u0, u1, u2, u3⟩ := HCC.out ws hB.out
                    clear hX2 HG2 i0 d0 d1 d2 d3
                    by_cases hk0 : k = 0
                    · have hd0 : decide (0 < k) = false := decide_eq_false (by omega)
                      have HS2 : Hid _ := HS1.out (by rw [HG3.out, HA0.out hk0]; unfold Rl.rise; rw [if_neg (by omega)])
                      have HF3 : Hid _ := HFIN.out ws hB.out
                      clear HS1 HF1 HPV HAH HA0 hk0 HBAD HGI HG3
                      go_wp2_with fail
                      go_quiet (fail)
                      go_wp2_with fail
                      exact ⟨⟨k + 1, by omega, by go_num, HS2, ⟨below_drewN HF3.out.1 _, HF3.out.2⟩⟩, by simp [intOf]; omega⟩
                    · have hd0 : decide (0 < k) = true := decide_eq_true (by omega)
                      obtain ⟨q, hq⟩ : ∃ q, q = k - 1 := ⟨_, rfl⟩
                      have wq : IntKind.i64.wrap ((k : Int) - 1) = (q : Int) := by
                        simp [IntKind.wrap, IntKind.bits, IntKind.signed]
                        omega
                      have iq : (0 : Int) ≤ (q : Int) := by omega
                      have nq : (q : Int) < (l.length : Int) := by omega
                      have v0 := HPV.out (by omega) ws hB.out
                      have HAP : Hid (Rl.gErr l k = Rl.rise (gat l q).port x.port) := by rw [HG3.out, HAH.out (by omega), hq]; rfl
                      rw [← hq] at v0
                      clear hq HPV HAH HA0 HG3
                      generalize (gat l q).port = pq at *
                      have HF3 : Hid (∀ n, Below w.heap.size w (ws.drewN n) ∧ Below X.heap.size X (ws.drewN n)) := fun n => ⟨below_drewN (HFIN.out ws hB.out).1 n, below_drewN hB.out n⟩
                      have HF4 : Hid _ := HFIN.out ws hB.out
                      by_cases hge : x.port ≤ pq
                      · have hdg : decide (x.port ≤ pq) = true := decide_eq_true hge
                        have HF2 : Hid _ := HF1.out 2 (by omega) (by rw [HAP.out]; unfold Rl.rise; rw [if_pos hge])
                        clear HS1 HF1 HGI HAP
                        go_wp2_with fail
                        go_quiet (fail)
                        go_wp2_with fail
                        refine (HBAD.out 2 _ (by first | exact (HF3.out _).2 | exact Below.drew hB.out)).mono ?_
                        rintro rr w9 ⟨rfl, HZ⟩
                        obtain ⟨f0, f1, f2, f3⟩ := bfa_cells HZ.out.2
                        go_wp2_with fail
                        exact bodyPost_ret (v := .agg #[.int .i64 2, .int .i64 (k : Int)]) (results_row (p := 2) (ty := 33) Try.results10 _ _ G 33 #[.int .i64 2, .int .i64 (k : Int)] (0, 0) _ rfl (bfa_set HZ.out.2) Try.underlying33 rfl (by rw [bsizeFa]; rfl)) rfl ⟨by rw [HN1.out, HF2.out], (HZ.out.1.setCell hGM _).setCell hGM _⟩
                      · have hdg : decide (x.port ≤ pq) = false := decide_eq_false hge
                        have HS2 : Hid _ := HS1.out (by rw [HAP.out]; unfold Rl.rise; rw [if_neg hge])
                        clear HS1 HF1 HGI HAP HBAD
                        go_wp2_with fail
                        go_quiet (fail)
                        go_wp2_with fail
                        exact ⟨⟨k + 1, by omega, by go_num, HS2, ⟨below_drewN HF4.out.1 _, HF4.out.2⟩⟩, by simp [intOf]; omega⟩
    · obtain rfl : k = l.length := by omega
      have HF2 : Hid (Bk.firstTo (Rl.gErr l) l.length = (0, 0)) := Bk.firstTo_none _ _ hS.out
      obtain ⟨f0, f1, f2, f3⟩ := bfa_cells hX.out.2
      clear HRW
      go_wp2_with fail
      exact bodyPost_ret (v := .agg #[.int .i64 0, .int .i64 0]) (results_row (p := 2) (ty := 33) Try.results10 _ _ G 33 #[.int .i64 0, .int .i64 0] (0, 0) _ rfl (bfa_set hX.out.2) Try.underlying33 rfl (by rw [bsizeFa]; rfl)) rfl ⟨by rw [HN1.out, HF2.out], (hX.out.1.setCell hGM _).setCell hGM _⟩
end Go.Proofs.Ytgkmaihleilchaa

namespace Go.Proofs.Ytgkmaihleilchaa
open Go.RowKit
open Bk (E at')
open Rl (G gat F O R)

/-- What the document's Relay answers. -/
structure RelDoc (w w' : World) (f : F) (res : Rl.Res) (oo : Option Addr) (oc : Nat) (os : List OV) (bo : Option Addr) (bc : Nat) : Prop where
  out : os.map OV.o = res.out
  row : ORw w' oo oc f os
  book : BEL w' bo bc res.book
  low : Below w.heap.size w w'
/-- A row of the call's own; the data are the frame's own. -/
def OwnR (w : World) (base : Nat) (v : Value) (f : F) (l : List O) : Prop := w.ownsRow base 43 9 v l.length (cellsL l.length 9 (fun i => oC f ⟨l.getD i ⟨0, false, 0, false, 0⟩, f.ao, f.cap⟩))
theorem OwnR.below {w w' : World} {base : Nat} {v : Value} {f : F} {l : List O} (h : OwnR w base v f l) (hb : Below w.heap.size w w') : OwnR w' base v f l := ownsC_below h hb
theorem OwnR.nil (w : World) (base : Nat) (f : F) : OwnR w base (.slice none 0 0) f [] := ownsC_nil w base _ _ _
theorem OwnR.mono {w : World} {base base' : Nat} {v : Value} {f : F} {l : List O} (h : OwnR w base v f l) (hb : base' ≤ base) : OwnR w base' v f l := by
  obtain ⟨h1, h2⟩ := h
  refine ⟨h1, ?_⟩
  rcases h2 with h2 | ⟨g, cap, cur, hv, hg, r⟩
  · exact Or.inl h2
  · exact Or.inr ⟨g, cap, cur, hv, Nat.le_trans hb hg, r⟩
def ovs (f : F) (l : List O) : List OV := l.map (fun o => ⟨o, f.ao, f.cap⟩)
theorem OwnR.el {w : World} {base : Nat} {v : Value} {f : F} {l : List O} (h : OwnR w base v f l) (hd : ByteRow w f.ao f.n f.cap f.bs) (hn : NilOk f.ao f.n f.cap) : ∃ ao cap, v = .slice ao l.length cap ∧ ORw w ao cap f (ovs f l) := by
  obtain ⟨ao, cap, rfl, h1, _⟩ := owns_c (by omega) h
  refine ⟨ao, cap, rfl, ⟨?_, fun x hx => ?_⟩⟩
  · rw [show (ovs f l).length = l.length by simp [ovs]]
    exact h1.congr (fun i hi => by
      have : oat (ovs f l) i = ⟨l.getD i ⟨0, false, 0, false, 0⟩, f.ao, f.cap⟩ := by simp [oat, ovs, hi]
      rw [this])
  · obtain ⟨o, _, rfl⟩ := List.mem_map.1 hx
    exact ⟨hd, hn⟩
/-- 'append(out, x)'. -/
theorem more_ro (base : Nat) (W : World) (v : Value) (f : F) (l : List O) (x : O) (ho : OwnR W base v f l) (hl : l.length ≤ 1000) (hbase : base ≤ W.heap.size) :
    ∃ a m c W2, runAppO v (.slice (some ⟨W.heap.size, 0, none⟩) 1 1) (W.alloc (.cells (oA f ⟨x, f.ao, f.cap⟩) 43)) (.slice a m c) W2 ∧ m = (l ++ [x]).length ∧ OwnR W2 base (.slice a m c) f (l ++ [x]) ∧ Below base W W2 := by
  have hb1 := below_alloc1 W (.cells (oA f ⟨x, f.ao, f.cap⟩) 43)
  obtain ⟨a1, c1, w', r, o, b, _⟩ := append_c (W.alloc (.cells (oA f ⟨x, f.ao, f.cap⟩) 43)) 35 43 _ 9 88 Try.underlying35 infoO rfl (by omega) base v l.length _ (ho.below hb1) (some ⟨W.heap.size, 0, none⟩) 1 1 (fun _ => oC f ⟨x, f.ao, f.cap⟩) (fun _ _ => oC_one _ _ _) (one_out (heap_alloc_last W _)) (fun h => by cases h) (by unfold maxLen; omega) (by omega) (by have := hb1.size; omega)
  have e : l.length + 1 = (l ++ [x]).length := by simp
  refine ⟨a1, _, c1, w', r, e, ?_, (hb1.mono hbase).trans b⟩
  unfold OwnR
  rw [e] at o ⊢
  rw [cellsL_congr _ 9 _ (fun i => oC f ⟨(l ++ [x]).getD i ⟨0, false, 0, false, 0⟩, f.ao, f.cap⟩)] at o
  · exact o
  · intro i hi
    unfold catC
    by_cases h : i < l.length
    · have e9 : (l ++ [x]).getD i ⟨0, false, 0, false, 0⟩ = l.getD i ⟨0, false, 0, false, 0⟩ := by simp [List.getElem?_append_left h]
      rw [if_pos h, e9]
    · have hi' : i = l.length := by simp at hi; omega
      subst hi'
      rw [if_neg (by omega)]
      simp
theorem idx_step {l : List G} (h : Rl.Right l) (p : Int) {k : Nat} (hk : k < l.length) : Rl.idx l p (k + 1) = if (gat l k).port = p then (k : Int) else Rl.idx l p k := by
  show (if 0 ≤ Rl.idx l p k then Rl.idx l p k else if (gat l k).port = p then (k : Int) else -1) = _
  rcases Rl.idx_cases l p k with ⟨h1, h2⟩ | ⟨i, hi, h1, h2, _⟩
  · rw [h1, if_neg (by omega)]
  · rw [h1, if_pos (by omega)]
    by_cases e : (gat l k).port = p
    · have := h.one (show i < l.length by omega) hk (by rw [h2, e])
      omega
    · rw [if_neg e]
theorem fwrong_vid {f : F} (h : f.wrong = 0) (ht : f.tagged = true) : 0 ≤ f.vid := by
  unfold Rl.F.wrong wrong at h
  by_cases c1 : 281474976710655 < f.dst ∨ 281474976710655 < f.src
  · rw [if_pos c1] at h; cases h
  · rw [if_neg c1] at h
    by_cases c2 : f.src / 1099511627776 % 2 = 1
    · rw [if_pos c2] at h; cases h
    · rw [if_neg c2] at h
      by_cases c3 : (0 ≤ f.vid ∧ f.vid ≤ 4094) ∧ 0 ≤ f.prio ∧ f.prio ≤ 7
      · exact c3.1.1
      · rw [if_pos ⟨ht, c3⟩] at h; cases h
theorem drop_take (P : G → Bool) (Q : G → O) (l : List G) (k : Nat) (hk : k < l.length) : ((l.take (k + 1)).filter P).map Q = ((l.take k).filter P).map Q ++ (if P (gat l k) = true then [Q (gat l k)] else []) := by
  rw [Rl.take_succ l k hk, List.filter_append, List.map_append]
  congr 1
  by_cases q : P (gat l k) = true
  · simp [q]
  · simp [q]
/-- What lies where. -/
def RelOwn (w w' : World) (f : F) (oo : Option Addr) (oc : Nat) (os : List OV) (bo : Option Addr) (bcap : Nat) (bk : List E) (bo' : Option Addr) (bc' : Nat) (m : List E) : Prop := OwnR w' w.heap.size (.slice oo os.length oc) f (os.map OV.o) ∧ (∀ x ∈ os, x.da = f.ao ∧ x.dc = f.cap) ∧ BkD w' w.heap.size bo bcap bk bo' bc' m
theorem RelOwn.none (w W : World) (f : F) (bo : Option Addr) (bcap : Nat) (bk : List E) : RelOwn w W f none 0 [] bo bcap bk none 0 [] := ⟨OwnR.nil _ _ _, (fun _ h => absurd h (by simp)), Or.inr (OwnE.nil _ _)⟩
set_option maxRecDepth 20000 in
set_option maxHeartbeats 16000000 in
theorem rrelay_own (r : R) (ao : Option Addr) (cap : Nat) (l : List G) (bo : Option Addr) (bcap : Nat) (bk : List E) (p : Int) (f : F) (w : World) (hin : RelIn w r ao cap l bo bcap bk f) :
    Calls Try.prog 12 #[.agg #[.string r.name, .int .i64 r.rev, .slice r.ao r.n r.cap], .slice ao l.length cap, .slice bo bk.length bcap, .int .i64 p, .agg #[.int .u64 f.dst, .int .u64 f.src, .bool f.tagged, .int .i64 f.prio, .bool f.drop, .int .i64 f.vid, .int .i64 f.type, .slice f.ao f.n f.cap]] w fun e w' => ∃ oo oc os bo' bc', e = .returned (.tuple #[.slice oo os.length oc, .slice bo' (Rl.relay r l bk p f).book.length bc', .int .i64 (Rl.relay r l bk p f).err]) ∧ RelDoc w w' f (Rl.relay r l bk p f) oo oc os bo' bc' ∧ RelOwn w w' f oo oc os bo bcap bk bo' bc' (Rl.relay r l bk p f).book := by
  obtain ⟨W0, HW0⟩ : ∃ W0, Hid (W0 = (w.alloc (.cells #[.string r.name, .int .i64 r.rev, .slice r.ao r.n r.cap] 24)).alloc (.cells #[.int .u64 f.dst, .int .u64 f.src, .bool f.tagged, .int .i64 f.prio, .bool f.drop, .int .i64 f.vid, .int .i64 f.type, .slice f.ao f.n f.cap] 30)) := ⟨_, rfl⟩
  have hb0 : Below w.heap.size w W0 := by rw [HW0.out]; exact below_alloc2 _ _ _
  have hr0 : W0.heap[w.heap.size]? = some (.cells #[.string r.name, .int .i64 r.rev, .slice r.ao r.n r.cap] 24 (0, 0)) := by rw [HW0.out]; exact heap_alloc2_old _ _ _
  have hf0 : W0.heap[w.heap.size + 1]? = some (.cells #[.int .u64 f.dst, .int .u64 f.src, .bool f.tagged, .int .i64 f.prio, .bool f.drop, .int .i64 f.vid, .int .i64 f.type, .slice f.ao f.n f.cap] 30 (0, 0)) := by rw [HW0.out]; exact heap_alloc2_new _ _ _
  have HB0 : Hid (Below W0.heap.size W0 W0) := Below.refl _ _
  have HLOW : Hid (∀ W, Below W0.heap.size W0 W → Below w.heap.size w W) := fun W hW => below_up hb0 hW
  have HSR : Hid (∀ W, Below W0.heap.size W0 W → (W.cell? ⟨w.heap.size, 0, none⟩ = some (.string r.name) ∧ W.cell? ⟨w.heap.size, 1, none⟩ = some (.int .i64 r.rev) ∧ W.cell? ⟨w.heap.size, 2, none⟩ = some (.slice r.ao r.n r.cap)) ∧ (W.cell? ⟨w.heap.size + 1, 0, none⟩ = some (.int .u64 f.dst) ∧ W.cell? ⟨w.heap.size + 1, 1, none⟩ = some (.int .u64 f.src) ∧ W.cell? ⟨w.heap.size + 1, 2, none⟩ = some (.bool f.tagged) ∧ W.cell? ⟨w.heap.size + 1, 3, none⟩ = some (.int .i64 f.prio) ∧ W.cell? ⟨w.heap.size + 1, 4, none⟩ = some (.bool f.drop) ∧ W.cell? ⟨w.heap.size + 1, 5, none⟩ = some (.int .i64 f.vid) ∧ W.cell? ⟨w.heap.size + 1, 6, none⟩ = some (.int .i64 f.type) ∧ W.cell? ⟨w.heap.size + 1, 7, none⟩ = some (.slice f.ao f.n f.cap))) := fun W hW => ⟨rg_cells (keep hr0 hW), fr_cells (keep hf0 hW)⟩
  have HIN : Hid (∀ W, Below W0.heap.size W0 W → RelIn W r ao cap l bo bcap bk f) := fun W hW => (hin.below hb0).below hW
  have HNONE : Hid (∀ W err, Below W0.heap.size W0 W → RelDoc w W f ⟨[], [], err⟩ none 0 [] none 0 ∧ RelOwn w W f none 0 [] bo bcap bk none 0 []) := fun W err hW => ⟨⟨rfl, ⟨CRow.none _ _ _ _ _, fun x h => by simp at h⟩, CRow.none _ _ _ _ _, HLOW.out W hW⟩, RelOwn.none _ _ _ _ _ _⟩
  have HC1 : Hid (∀ W, Below W0.heap.size W0 W → Calls Try.prog 39 #[.agg #[.string r.name, .int .i64 r.rev, .slice r.ao r.n r.cap]] W fun e w' => e = .returned (.int .i64 r.wrong) ∧ Hid (Below W0.heap.size W0 w')) := fun W hW => (rwrong_any r.name r.rev r.ao r.n r.cap r.vs r.ts W (HIN.out W hW).rn (HIN.out W hW).ways).mono (fun e w' h => ⟨h.1, below_up hW h.2⟩)
  have HC2 : Hid (∀ W, Below W0.heap.size W0 W → Calls Try.prog 10 #[.slice ao l.length cap] W fun e w' => e = .returned (.agg #[.int .i64 (Rl.wrong l).1, .int .i64 (Rl.wrong l).2]) ∧ Hid (Below W0.heap.size W0 w')) := fun W hW => (rwrong9_any ao cap l W (HIN.out W hW).gates).mono (fun e w' h => ⟨h.1, below_up hW h.2⟩)
  have HC3 : Hid (∀ W, Below W0.heap.size W0 W → Calls Try.prog 40 #[.slice bo bk.length bcap] W fun e w' => e = .returned (.agg #[.int .i64 (Bk.wrong (at' bk) bk.length).1, .int .i64 (Bk.wrong (at' bk) bk.length).2]) ∧ Hid (Below W0.heap.size W0 w')) := fun W hW => (rwrong8_any bo bcap bk W (HIN.out W hW).bn (HIN.out W hW).book).mono (fun e w' h => ⟨h.1, below_up hW h.2⟩)
  have HC4 : Hid (∀ W, Below W0.heap.size W0 W → Calls Try.prog 20 #[.agg #[.int .u64 f.dst, .int .u64 f.src, .bool f.tagged, .int .i64 f.prio, .bool f.drop, .int .i64 f.vid, .int .i64 f.type, .slice f.ao f.n f.cap]] W fun e w' => e = .returned (.int .i64 f.wrong) ∧ Hid (Below W0.heap.size W0 w')) := fun W hW => (rwrong2_any f.dst f.src f.tagged f.prio f.drop f.vid f.type f.ao f.n f.cap W (HIN.out W hW).src.1).mono (fun e w' h => ⟨h.1, below_up hW h.2⟩)
  have HOK : Hid (Rl.errR r l bk f = 0 → Rg.Right r.vs r.ts r.n ∧ Rl.Right l ∧ Bk.Book bk ∧ (f.tagged = true → 0 ≤ f.vid)) := fun h => by
    obtain ⟨h1, h2, h3, h4⟩ := or4_zero h
    exact ⟨(Rg.wrong_zero h1).2.2, Rl.right_of h2, Bk.wrong_book.1 h3, fun ht => fwrong_vid h4 ht⟩
  have HFW : Hid (Rl.errR r l bk f = 0 → f.wrong = 0) := fun h => (or4_zero h).2.2.2
  have HEQ : Hid (Rl.errR r l bk f = 0 → Rl.relay r l bk p f = (if Rl.idx l p l.length < 0 then ⟨[], [], 6⟩ else if Rl.stays r l p f = true then ⟨[], bk, 0⟩ else ⟨Rl.outs r l bk p f, Rl.learnt bk l p f, 0⟩)) := fun h => if_pos h
  have HERR : Hid (Rl.errR r l bk f = Rl.or4 r.wrong (Rl.wrong l).1 (Bk.wrong (at' bk) bk.length).1 f.wrong) := rfl
  have HNE : Hid (Rl.errR r l bk f ≠ 0 → Rl.relay r l bk p f = ⟨[], [], Rl.errR r l bk f⟩) := fun h => if_neg h
  obtain ⟨⟨c0, c1, c2⟩, d0, d1, d2, d3, d4, d5, d6, d7⟩ := HSR.out W0 HB0.out
  clear hb0 hr0 hf0 hin
  generalize r.wrong = e1 at *
  generalize hgw : (Rl.wrong l).1 = e2 at *
  generalize hgw2 : (Rl.wrong l).2 = e2' at *
  generalize hbw : (Bk.wrong (at' bk) bk.length).1 = e3 at *
  generalize hbw2 : (Bk.wrong (at' bk) bk.length).2 = e3' at *
  obtain ⟨e4, he4⟩ : ∃ e4, e4 = f.wrong := ⟨_, rfl⟩
  rw [← he4] at HC4 HERR
  clear he4
  clear hgw hgw2 hbw hbw2
  go_enter Try.func12, Try.ntmps12
  go_wp2_with fail
  rw [← HW0.out]
  refine (HC1.out W0 HB0.out).mono ?_
  rintro e w1 ⟨rfl, HB1⟩
  clear c0 c1 c2 d0 d1 d2 d3 d4 d5 d6 d7
  by_cases k1 : e1 = 0
  · rw [k1]
    go_wp2_with fail
    refine (HC2.out w1 HB1.out).mono ?_
    rintro e w2 ⟨rfl, HB2⟩
    by_cases k2 : e2 = 0
    · rw [k2]
      have HD2 : Hid (∀ o, Below W0.heap.size W0 (w2.alloc o)) := fun o => below_al HB2.out o
      go_wp2_with fail
      refine (HC3.out _ (HD2.out _)).mono ?_
      rintro e w3 ⟨rfl, HB3⟩
      by_cases k3 : e3 = 0
      · rw [k3]
        have HB3b : Hid (Below W0.heap.size W0 (w3.alloc (.cells #[.int .i64 0, .int .i64 e3'] 33))) := below_al HB3.out _
        obtain ⟨V3, HV3⟩ : ∃ V3, Hid (V3 = w3.alloc (.cells #[.int .i64 0, .int .i64 e3'] 33)) := ⟨_, rfl⟩
        have HB4 : Hid (Below W0.heap.size W0 V3) := by rw [HV3.out]; exact HB3b.out
        obtain ⟨⟨c0, c1, c2⟩, d0, d1, d2, d3, d4, d5, d6, d7⟩ := HSR.out V3 HB4.out
        go_upto_region 10 with fail
        rw [← HV3.out]
        go_wp2_with fail
        refine (HC4.out V3 HB4.out).mono ?_
        rintro e w4 ⟨rfl, HB5⟩
        clear c0 c1 c2 d0 d1 d2 d3 d4 d5 d6 d7
        by_cases k4 : e4 = 0
        · have hE : Rl.errR r l bk f = 0 := by rw [HERR.out, k1, k2, k3, k4]; rfl
          rw [k4]
          obtain ⟨hR, hG, hBk, hTag⟩ := HOK.out hE
          have hmany := hG.many
          have HRL : Hid _ := HEQ.out hE
          have HG : Hid (Rl.Right l) := hG
          have hcap : l.length ≤ cap := (HIN.out w4 HB5.out).gates.row.1
          clear HOK HEQ HERR HNE k1 k2 k3 k4 HC1 HC2 HC3 HC4 HV3
          go_wp2_with fail
          go_loopw [17, 53] (fun a i wr => ∃ k : Nat, k ≤ l.length ∧ i = .int .i64 k ∧ a = .int .i64 (Rl.idx l p k) ∧ Hid (Below W0.heap.size W0 wr)) (fun _ i _ => l.length - (intOf i).toNat)
          case atStart => exact ⟨0, by omega, rfl, rfl, HB5⟩
          case round =>
            obtain ⟨k, hk, rfl, rfl, hB⟩ := hrel
            by_cases hlt : k < l.length
            · obtain ⟨b, off, rfl, _⟩ := (HIN.out wr hB.out).gates.place (by omega)
              obtain ⟨g0, g1, g2, g3⟩ := (HIN.out wr hB.out).gates.cells hlt
              have HST : Hid (Rl.idx l p (k + 1) = if (gat l k).port = p then (k : Int) else Rl.idx l p k) := idx_step HG.out p hlt
              have HBL : Hid (∀ o, Below W0.heap.size W0 (wr.alloc o)) := fun o => below_al hB.out o
              generalize gat l k = x at *
              generalize Rl.idx l p k = ix at *
              by_cases q : x.port = p
              · have e1 : (x.port == p) = true := by simp [q]
                rw [if_pos q] at HST
                clear q
                go_wp2_with fail
                exact ⟨⟨k + 1, by omega, by go_num, by rw [HST.out], HBL.out _⟩, by simp [intOf]; omega⟩
              · have e1 : (x.port == p) = false := by simpa using q
                rw [if_neg q] at HST
                clear q
                go_wp2_with fail
                exact ⟨⟨k + 1, by omega, by go_num, by rw [HST.out], HBL.out _⟩, by simp [intOf]; omega⟩
            · obtain rfl : k = l.length := by omega
              rcases Rl.idx_cases l p l.length with ⟨h1, _⟩ | ⟨k, hk, h1, h2, _⟩
              · have HX : Hid (Rl.relay r l bk p f = ⟨[], [], 6⟩) := by rw [HRL.out, h1]; rfl
                rw [h1]
                clear HRL h1 HIN HSR HG
                go_wp2_with fail
                go_ret3
                exact ⟨none, 0, [], none, 0, by rw [HX.out]; rfl, by rw [HX.out]; exact HNONE.out _ _ hB.out⟩
              · rw [h1]
                have hX1 : Rl.relay r l bk p f = (if Rl.stays r l p f = true then ⟨[], bk, 0⟩ else ⟨Rl.outs r l bk p f, Rl.learnt bk l p f, 0⟩) := by rw [HRL.out, h1, if_neg (by omega)]
                have hOk : Rl.Ok r l bk p f := ⟨⟨k, hk, h1⟩, HG.out, hR, hBk, HFW.out hE, hE⟩
                have hxat : Rl.atG l p = gat l k := Rl.atG_at h1
                have hfs := Rl.flood_stays hOk
                have hvv := hOk.vid
                rw [hxat] at hfs
                obtain ⟨x, hx⟩ : ∃ x, x = gat l k := ⟨_, rfl⟩
                obtain ⟨vi, hvi⟩ : ∃ vi, vi = Rl.vid l p f := ⟨_, rfl⟩
                have hvw : vi = Rl.wayOf f x := by rw [hvi, hx, ← hxat]; rfl
                rw [← hx, ← hvi] at hfs
                have HFS : Hid (Rl.stays r l p f = (decide (vi = 0) || (!Rl.passes x (r.tree vi) vi || decide (f.dst / 16 = 103282638848)))) := hfs
                have HX1 : Hid (Rl.stays r l p f = true → Rl.relay r l bk p f = ⟨[], bk, 0⟩) := fun h => by rw [hX1, if_pos h]
                have HX2 : Hid (Rl.stays r l p f = false → Rl.relay r l bk p f = ⟨Rl.outs r l bk p f, Rl.learnt bk l p f, 0⟩) := fun h => by rw [hX1, if_neg (by simp [h])]
                have HLN : Hid (Rl.learnt bk l p f = Bk.learn bk ⟨vi, f.src, p, 0⟩) := by
                  show Rl.learnt bk l p f = _
                  unfold Rl.learnt
                  rw [hvv, ← hvi]
                have HOU : Hid (Rl.outs r l bk p f = (l.filter (Rl.leads r (Rl.learnt bk l p f) vi f p)).map (Rl.leave f vi)) := by
                  show Rl.outs r l bk p f = _
                  unfold Rl.outs
                  rw [hvv, ← hvi]
                have HPT : Hid (∀ i, i < l.length → ((gat l i).port = p ↔ i = k)) := fun i hi => ⟨fun h => HG.out.one hi hk (by rw [h, h2]), fun h => by rw [h]; exact h2⟩
                obtain ⟨b, off, rfl, _⟩ := (HIN.out wr hB.out).gates.place (by omega)
                have HSG : Hid (∀ W, Below W0.heap.size W0 W → ((W.cell? ⟨w.heap.size, 0, none⟩ = some (.string r.name) ∧ W.cell? ⟨w.heap.size, 1, none⟩ = some (.int .i64 r.rev) ∧ W.cell? ⟨w.heap.size, 2, none⟩ = some (.slice r.ao r.n r.cap)) ∧ (W.cell? ⟨w.heap.size + 1, 0, none⟩ = some (.int .u64 f.dst) ∧ W.cell? ⟨w.heap.size + 1, 1, none⟩ = some (.int .u64 f.src) ∧ W.cell? ⟨w.heap.size + 1, 2, none⟩ = some (.bool f.tagged) ∧ W.cell? ⟨w.heap.size + 1, 3, none⟩ = some (.int .i64 f.prio) ∧ W.cell? ⟨w.heap.size + 1, 4, none⟩ = some (.bool f.drop) ∧ W.cell? ⟨w.heap.size + 1, 5, none⟩ = some (.int .i64 f.vid) ∧ W.cell? ⟨w.heap.size + 1, 6, none⟩ = some (.int .i64 f.type) ∧ W.cell? ⟨w.heap.size + 1, 7, none⟩ = some (.slice f.ao f.n f.cap))) ∧ (W.cell? ⟨b, off + k * 4, none⟩ = some (.int .i64 x.port) ∧ W.cell? ⟨b, off + k * 4 + 1, none⟩ = some (.slice x.wo x.ways.length x.wcap) ∧ W.cell? ⟨b, off + k * 4 + 2, none⟩ = some (.int .i64 x.plain) ∧ W.cell? ⟨b, off + k * 4 + 3, none⟩ = some (.slice x.oo x.opens.length x.ocap))) := fun W hW => ⟨HSR.out W hW, by rw [hx]; exact (HIN.out W hW).gates.cells hk⟩
                have HGX : Hid (∀ W, Below W0.heap.size W0 W → GIn W x) := fun W hW => by rw [hx]; exact (HIN.out W hW).gates.at hk
                have HCP : Hid (∀ (g : G) (V W : World), Below W0.heap.size W0 W → Below V.heap.size V W → GIn W g → Calls Try.prog 18 #[.agg #[.int .i64 g.port, .slice g.wo g.ways.length g.wcap, .int .i64 g.plain, .slice g.oo g.opens.length g.ocap], .agg #[.string r.name, .int .i64 r.rev, .slice r.ao r.n r.cap], .int .i64 vi] W fun e w' => e = .returned (.bool (Rl.passes g (r.tree vi) vi)) ∧ Hid (Below V.heap.size V w')) := fun g V W h0 hW hg => (passes8_any g r vi W hg hR (HIN.out W h0).ways).mono (fun _ _ h => ⟨h.1, below_up hW h.2⟩)
                have ik : (0 : Int) ≤ (k : Int) := by omega
                have nk : (k : Int) < (l.length : Int) := by omega
                have hdd := (HIN.out wr hB.out).dst
                have HDQ : Hid (IntKind.u64.wrap (f.dst.tdiv 16) = f.dst / 16) := by
                  show IntKind.u64.wrap (f.dst.tdiv 16) = f.dst / 16
                  rw [Int.tdiv_eq_ediv_of_nonneg hdd.1, wraps_u64 _ (by omega) (by omega)]
                obtain ⟨⟨⟨c0, c1, c2⟩, d0, d1, d2, d3, d4, d5, d6, d7⟩, g0, g1, g2, g3⟩ := HSG.out wr hB.out
                clear hX1 hOk hxat hfs hvv hvi h1 h2 HRL hx hE
                rename World => wr
                go_upto_region 23 with fail
                go_cut [77] (fun v W => v = .bool (f.tagged && decide (0 < f.vid)) ∧ W = wr)
                case first =>
                  clear HFS HX1 HX2 HLN HOU HPT HCP hvw
                  by_cases t1 : f.tagged = true
                  · rw [t1] at d2
                    go_wp2_with fail
                    go_meet
                    exact ⟨by rw [t1, Bool.true_and], rfl⟩
                  · have t2 : f.tagged = false := by simpa using t1
                    rw [t2] at d2
                    go_wp2_with fail
                    go_meet
                    exact ⟨by rw [t2, Bool.false_and], rfl⟩
                case rest =>
                obtain ⟨rfl, rfl⟩ := hcut
                rename World => wr
                obtain ⟨cc, hcc⟩ : ∃ cc, cc = (f.tagged && decide (0 < f.vid)) := ⟨_, rfl⟩
                rw [← hcc]
                have HVI : Hid (vi = if cc = true then f.vid else x.plain) := by
                  show vi = _
                  rw [hvw, hcc]
                  unfold Rl.wayOf
                  by_cases t1 : f.tagged = true
                  · by_cases t2 : 0 < f.vid
                    · rw [if_pos ⟨t1, by omega⟩, t1, decide_eq_true t2]; rfl
                    · have t3 : f.vid = 0 := by have := hTag t1; omega
                      rw [if_neg (fun q => q.2 t3), t1, decide_eq_false t2]; rfl
                  · have t2 : f.tagged = false := by simpa using t1
                    rw [if_neg (fun q => t1 q.1), t2]; rfl
                clear hcc hvw hTag
                go_upto_if 77 with fail
                go_cut [20] (fun v W => v = .int .i64 vi ∧ W = wr)
                case first =>
                  clear HFS HX1 HX2 HLN HOU HPT HCP
                  cases cc with
                  | true =>
                    go_wp2_with fail
                    go_meet
                    exact ⟨by rw [HVI.out]; rfl, rfl⟩
                  | false =>
                    go_wp2_with fail
                    go_meet
                    exact ⟨by rw [HVI.out]; rfl, rfl⟩
                case rest =>
                obtain ⟨rfl, rfl⟩ := hcut
                clear HVI
                rename World => wr
                have HB6 : Hid (Below W0.heap.size W0 wr) := hB
                have HPX : Hid (∀ W, Below W0.heap.size W0 W → Calls Try.prog 18 #[.agg #[.int .i64 x.port, .slice x.wo x.ways.length x.wcap, .int .i64 x.plain, .slice x.oo x.opens.length x.ocap], .agg #[.string r.name, .int .i64 r.rev, .slice r.ao r.n r.cap], .int .i64 vi] W fun e w' => e = .returned (.bool (Rl.passes x (r.tree vi) vi)) ∧ Hid (Below W0.heap.size W0 w')) := fun W hW => HCP.out x W0 W hW hW (HGX.out W hW)
                go_upto_region 25 with fail
                go_cut [97] (fun v W => v = .bool (Rl.stays r l p f) ∧ Hid (Below W0.heap.size W0 W))
                case first =>
                  have hs := HFS.out
                  clear HX1 HX2 HLN HOU HPT HCP HFS
                  by_cases hv : vi = 0
                  · rw [decide_eq_true hv, Bool.true_or] at hs
                    have HS1 : Hid (Rl.stays r l p f = true) := hs
                    have ev : (vi == 0) = true := by simp [hv]
                    clear hs hv HPX
                    go_quiet (fail)
                    go_wp2_with fail
                    go_meet
                    exact ⟨by rw [HS1.out], below_drewN HB6.out _⟩
                  · rw [decide_eq_false hv, Bool.false_or] at hs
                    have ev : (vi == 0) = false := by simpa using hv
                    cases hp : Rl.passes x (r.tree vi) vi with
                    | false =>
                      rw [hp] at hs HPX
                      have HS1 : Hid (Rl.stays r l p f = true) := hs
                      clear hs hv hp
                      refine wp_region_held_drew (S := fun W => ((W.cell? ⟨w.heap.size, 0, none⟩ = some (.string r.name) ∧ W.cell? ⟨w.heap.size, 1, none⟩ = some (.int .i64 r.rev) ∧ W.cell? ⟨w.heap.size, 2, none⟩ = some (.slice r.ao r.n r.cap)) ∧ (W.cell? ⟨w.heap.size + 1, 0, none⟩ = some (.int .u64 f.dst) ∧ W.cell? ⟨w.heap.size + 1, 1, none⟩ = some (.int .u64 f.src) ∧ W.cell? ⟨w.heap.size + 1, 2, none⟩ = some (.bool f.tagged) ∧ W.cell? ⟨w.heap.size + 1, 3, none⟩ = some (.int .i64 f.prio) ∧ W.cell? ⟨w.heap.size + 1, 4, none⟩ = some (.bool f.drop) ∧ W.cell? ⟨w.heap.size + 1, 5, none⟩ = some (.int .i64 f.vid) ∧ W.cell? ⟨w.heap.size + 1, 6, none⟩ = some (.int .i64 f.type) ∧ W.cell? ⟨w.heap.size + 1, 7, none⟩ = some (.slice f.ao f.n f.cap))) ∧ (W.cell? ⟨b, off + k * 4, none⟩ = some (.int .i64 x.port) ∧ W.cell? ⟨b, off + k * 4 + 1, none⟩ = some (.slice x.wo x.ways.length x.wcap) ∧ W.cell? ⟨b, off + k * 4 + 2, none⟩ = some (.int .i64 x.plain) ∧ W.cell? ⟨b, off + k * 4 + 3, none⟩ = some (.slice x.oo x.opens.length x.ocap))) (by kernel_rfl) (HSG.out _ (Below.drew HB6.out)) (fun hHeld => ?_)
                      refine heldT 0 80 hHeld ?_
                      simp only [Act.put, List.setIfInBounds_toArray, List.set_cons_zero, List.set_cons_succ]
                      refine heldT 1 81 hHeld ?_
                      simp only [Act.put, List.setIfInBounds_toArray, List.set_cons_zero, List.set_cons_succ]
                      refine heldT 2 82 hHeld ?_
                      simp only [Act.put, List.setIfInBounds_toArray, List.set_cons_zero, List.set_cons_succ]
                      refine heldT 3 83 hHeld ?_
                      simp only [Act.put, List.setIfInBounds_toArray, List.set_cons_zero, List.set_cons_succ]
                      refine heldT 4 84 hHeld ?_
                      simp only [Act.put, List.setIfInBounds_toArray, List.set_cons_zero, List.set_cons_succ]
                      refine heldT 5 85 hHeld ?_
                      simp only [Act.put, List.setIfInBounds_toArray, List.set_cons_zero, List.set_cons_succ]
                      refine heldT 6 86 hHeld ?_
                      simp only [Act.put, List.setIfInBounds_toArray, List.set_cons_zero, List.set_cons_succ]
                      refine heldT 7 87 hHeld ?_
                      simp only [Act.put, List.setIfInBounds_toArray, List.set_cons_zero, List.set_cons_succ]
                      refine heldT 8 88 hHeld ?_
                      simp only [Act.put, List.setIfInBounds_toArray, List.set_cons_zero, List.set_cons_succ]
                      refine wpAnyH_ready (rs := [9]) (by kernel_rfl) (by simp) ?_
                      refine AllReadyH.cons rfl (fun K hK => ?_) AllReadyH.nil
                      go_simp
                      refine (HPX.out _ (Below.drew HB6.out)).mono ?_
                      rintro e wA ⟨rfl, HBA⟩
                      refine hK.out _ _ (HSG.out _ HBA.out) (fun hHeld => ?_)
                      clear hK K
                      refine heldT 10 90 hHeld ?_
                      simp only [Act.put, List.setIfInBounds_toArray, List.set_cons_zero, List.set_cons_succ]
                      refine heldT 11 91 hHeld ?_
                      simp only [Act.put, List.setIfInBounds_toArray, List.set_cons_zero, List.set_cons_succ]
                      refine heldT 12 92 hHeld ?_
                      simp only [Act.put, List.setIfInBounds_toArray, List.set_cons_zero, List.set_cons_succ]
                      refine held_skip (i := 13) (some 93) rfl rfl (by kernel_rfl) (by kernel_rfl) (by kernel_rfl) (fun _ _ _ h => h) (by rfl) hHeld ?_
                      simp only [Act.put, List.setIfInBounds_toArray, List.set_cons_zero, List.set_cons_succ]
                      refine held_skip (i := 14) (some 94) rfl rfl (by kernel_rfl) (by kernel_rfl) (by kernel_rfl) (fun _ _ _ h => h) (by rfl) hHeld ?_
                      simp only [Act.put, List.setIfInBounds_toArray, List.set_cons_zero, List.set_cons_succ]
                      refine held_skip (i := 15) (some 95) rfl rfl (by kernel_rfl) (by kernel_rfl) (by kernel_rfl) (fun _ _ _ h => h) (by rfl) hHeld ?_
                      simp only [Act.put, List.setIfInBounds_toArray, List.set_cons_zero, List.set_cons_succ]
                      refine held_skip (i := 16) (some 96) rfl rfl (by kernel_rfl) (by kernel_rfl) (by kernel_rfl) (fun _ _ _ h => h) (by rfl) hHeld ?_
                      simp only [Act.put, List.setIfInBounds_toArray, List.set_cons_zero, List.set_cons_succ]
                      refine heldT 17 97 hHeld ?_
                      simp only [Act.put, List.setIfInBounds_toArray, List.set_cons_zero, List.set_cons_succ]
                      refine wpAnyH_done (by kernel_rfl) ?_ _
                      go_wp2_with fail
                      go_meet
                      exact ⟨by rw [HS1.out], HBA⟩
                    | true =>
                      rw [hp] at hs HPX
                      have HS1 : Hid (Rl.stays r l p f = decide (f.dst / 16 = 103282638848)) := hs
                      clear hs hv hp
                      go_region_held3 (fun W => ((W.cell? ⟨w.heap.size, 0, none⟩ = some (.string r.name) ∧ W.cell? ⟨w.heap.size, 1, none⟩ = some (.int .i64 r.rev) ∧ W.cell? ⟨w.heap.size, 2, none⟩ = some (.slice r.ao r.n r.cap)) ∧ (W.cell? ⟨w.heap.size + 1, 0, none⟩ = some (.int .u64 f.dst) ∧ W.cell? ⟨w.heap.size + 1, 1, none⟩ = some (.int .u64 f.src) ∧ W.cell? ⟨w.heap.size + 1, 2, none⟩ = some (.bool f.tagged) ∧ W.cell? ⟨w.heap.size + 1, 3, none⟩ = some (.int .i64 f.prio) ∧ W.cell? ⟨w.heap.size + 1, 4, none⟩ = some (.bool f.drop) ∧ W.cell? ⟨w.heap.size + 1, 5, none⟩ = some (.int .i64 f.vid) ∧ W.cell? ⟨w.heap.size + 1, 6, none⟩ = some (.int .i64 f.type) ∧ W.cell? ⟨w.heap.size + 1, 7, none⟩ = some (.slice f.ao f.n f.cap))) ∧ (W.cell? ⟨b, off + k * 4, none⟩ = some (.int .i64 x.port) ∧ W.cell? ⟨b, off + k * 4 + 1, none⟩ = some (.slice x.wo x.ways.length x.wcap) ∧ W.cell? ⟨b, off + k * 4 + 2, none⟩ = some (.int .i64 x.plain) ∧ W.cell? ⟨b, off + k * 4 + 3, none⟩ = some (.slice x.oo x.opens.length x.ocap)))
                        (first | (exact HSG.out _ (Hid.out (by assumption))) | (exact HSG.out _ (Below.drew (Hid.out (by assumption)))))
                        (first | (go_at_call 18; (with_reducible refine (HPX.out _ (by first | exact (Hid.out (by assumption)) | exact Below.drew (Hid.out (by assumption)))).mono ?_); rintro e wA ⟨rfl, HBA⟩))
                      all_goals go_wp2_with fail
                      all_goals go_meet
                      all_goals exact ⟨by rw [HS1.out]; first | rfl | exact congrArg Value.bool (Bool.eq_iff_iff.2 (by simp [HDQ.out])), HBA⟩
                case rest =>
                rename World => w5
                obtain ⟨rfl, HB7⟩ := hcut
                clear HFS HPX HGX c0 c1 c2 d0 d1 d2 d3 d4 d5 d6 d7 g0 g1 g2 g3
                cases hst : Rl.stays r l p f with
                | true =>
                  have HX3 : Hid _ := HX1.out hst
                  clear HX1 HX2 HLN HOU HPT HCP hst
                  go_wp2_with fail
                  go_ret3
                  exact ⟨none, 0, [], bo, bcap, by rw [HX3.out]; rfl, by rw [HX3.out]; exact ⟨⟨rfl, ⟨CRow.none _ _ _ _ _, fun x h => by simp at h⟩, (HIN.out w5 HB7.out).book, HLOW.out _ HB7.out⟩, OwnR.nil _ _ _, (fun _ h => absurd h (by simp)), Or.inl ⟨rfl, rfl, rfl⟩⟩⟩
                | false =>
                  have HX3 : Hid _ := HX2.out hst
                  obtain ⟨mm, hmm⟩ : ∃ mm, mm = Rl.learnt bk l p f := ⟨_, rfl⟩
                  have hml : Bk.learn bk ⟨vi, f.src, p, 0⟩ = mm := by rw [hmm]; exact HLN.out.symm
                  have hmB : Bk.Book mm := by rw [← hml]; exact Bk.learn_book hBk _
                  have hou := HOU.out
                  rw [← hmm] at hou
                  obtain ⟨sn, hsn⟩ : ∃ sn, sn = Bk.lookP mm (sought vi f.dst) := ⟨_, rfl⟩
                  obtain ⟨kn, hkn⟩ : ∃ kn, kn = decide (Bk.Known mm (sought vi f.dst)) := ⟨_, rfl⟩
                  have HOW : Hid (Rl.outs r l bk p f = (l.filter (fun g => decide (g.port ≠ p) && (Rl.passes g (r.tree vi) vi && (!kn || decide (g.port = sn))))).map (Rl.leave f vi)) := by rw [hsn, hkn]; exact hou
                  have HX4 : Hid (Rl.relay r l bk p f = ⟨Rl.outs r l bk p f, mm, 0⟩) := by rw [HX3.out, hmm]; rfl
                  have HLE : Hid (Calls Try.prog 41 #[.slice bo bk.length bcap, .int .i64 vi, .int .u64 f.src, .int .i64 p] w5 fun e w' => ∃ y c, e = .returned (.slice y mm.length c) ∧ Hid (BEL w' y c mm ∧ Below w5.heap.size w5 w' ∧ BkD w' w5.heap.size bo bcap bk y c mm)) := by
                    have := rlearn8_own bo bcap bk vi f.src p w5 hBk (HIN.out w5 HB7.out).book (HIN.out w5 HB7.out).src.1 (HIN.out w5 HB7.out).src.2
                    rw [hml] at this
                    refine this.mono ?_
                    rintro e w' ⟨y, c, rfl, h1, h2, h3⟩
                    exact ⟨y, c, rfl, h1, h2, h3⟩
                  have HLK : Hid (∀ (W : World) (y : Option Addr) (c : Nat), BEL W y c mm → Calls Try.prog 42 #[.slice y mm.length c, .int .i64 vi, .int .u64 f.dst] W fun e w' => e = .returned (.tuple #[.int .i64 sn, .bool kn]) ∧ Hid (Below W.heap.size W w')) := fun W y c h => by rw [hsn, hkn]; exact (rlook8_any y c mm vi f.dst W hmB h).mono (fun e w' h => ⟨h.1, h.2⟩)
                  clear HX1 HX2 hst hou hmm hml hsn hkn HX3 HOU HLN hmB
                  obtain ⟨⟨c0, c1, c2⟩, d0, d1, d2, d3, d4, d5, d6, d7⟩ := HSR.out w5 HB7.out
                  go_wp2_with fail
                  refine HLE.out.mono ?_
                  rintro e w6 ⟨yb, cb, rfl, H6⟩
                  have HB8 : Hid (Below W0.heap.size W0 w6) := below_up HB7.out H6.out.2.1
                  clear HLE c0 c1 c2 d0 d1 d2 d3 d4 d5 d6 d7
                  obtain ⟨⟨c0, c1, c2⟩, d0, d1, d2, d3, d4, d5, d6, d7⟩ := HSR.out w6 HB8.out
                  go_wp2_with fail
                  refine (HLK.out w6 yb cb H6.out.1).mono ?_
                  rintro e w7 ⟨rfl, H7⟩
                  have HB9 : Hid (Below W0.heap.size W0 w7) := below_up HB8.out H7.out
                  have HMB : Hid (∀ W, Below w7.heap.size w7 W → BEL W yb cb mm) := fun W hW => BEL.below (BEL.below H6.out.1 H7.out) hW
                  have HMD : Hid (∀ W, Below w7.heap.size w7 W → BkD W w.heap.size bo bcap bk yb cb mm) := fun W hW => by
                    rcases H6.out.2.2 with h | h
                    · exact Or.inl h
                    · exact Or.inr (((h.below H7.out).below hW).mono (HLOW.out w5 HB7.out).size)
                  clear HLK c0 c1 c2 d0 d1 d2 d3 d4 d5 d6 d7 H6 H7
                  obtain ⟨P, hP⟩ : ∃ P : G → Bool, P = fun g => decide (g.port ≠ p) && (Rl.passes g (r.tree vi) vi && (!kn || decide (g.port = sn))) := ⟨_, rfl⟩
                  rw [← hP] at HOW
                  have HPP : Hid (∀ g, P g = (decide (g.port ≠ p) && (Rl.passes g (r.tree vi) vi && (!kn || decide (g.port = sn))))) := fun g => by rw [hP]
                  clear hP
                  rename World => w7
                  go_wp2_with fail
                  go_loopw [23, 115] (fun o i ws => ∃ (i' : Nat) (a : Option Addr) (m' c : Nat), i' ≤ l.length ∧ i = .int .i64 i' ∧ o = .slice a m' c ∧ Hid (m' = (((l.take i').filter P).map (Rl.leave f vi)).length ∧ OwnR ws w7.heap.size (.slice a m' c) f (((l.take i').filter P).map (Rl.leave f vi)) ∧ Below w7.heap.size w7 ws)) (fun _ i _ => l.length - (intOf i).toNat)
                  case atStart => exact ⟨0, none, 0, 0, by omega, rfl, rfl, ⟨rfl, OwnR.nil _ _ _, Below.refl _ _⟩⟩
                  case round =>
                    obtain ⟨i, a, m', c, hi, rfl, rfl, hX⟩ := hrel
                    rename World => ws
                    have h0s : Below W0.heap.size W0 ws := below_up HB9.out hX.out.2.2
                    by_cases hlt : i < l.length
                    · obtain ⟨g0, g1, g2, g3⟩ := (HIN.out ws h0s).gates.cells hlt
                      have hgi := (HIN.out ws h0s).gates.at hlt
                      obtain ⟨X, HX⟩ : ∃ X, Hid (X = ws.alloc (.cells #[.int .i64 (gat l i).port, .slice (gat l i).wo (gat l i).ways.length (gat l i).wcap, .int .i64 (gat l i).plain, .slice (gat l i).oo (gat l i).opens.length (gat l i).ocap] 47)) := ⟨_, rfl⟩
                      have hXB : Below ws.heap.size ws X := by rw [HX.out]; exact below_alloc1 _ _
                      have hX5 : X.heap[ws.heap.size]? = some (.cells #[.int .i64 (gat l i).port, .slice (gat l i).wo (gat l i).ways.length (gat l i).wcap, .int .i64 (gat l i).plain, .slice (gat l i).oo (gat l i).opens.length (gat l i).ocap] 47 (0, 0)) := by rw [HX.out]; exact heap_alloc_last _ _
                      have h0X : Below W0.heap.size W0 X := below_up h0s hXB
                      have h7X : Below w7.heap.size w7 X := below_up hX.out.2.2 hXB
                      have hst := drop_take P (Rl.leave f vi) l i hlt
                      have HXX : Hid (Below X.heap.size X X) := Below.refl _ _
                      have HUX : Hid (∀ W, Below X.heap.size X W → Below W0.heap.size W0 W) := fun W hW => below_up h0X hW
                      have HGB : Hid (∀ W, Below X.heap.size X W → W.cell? ⟨ws.heap.size, 0, none⟩ = some (.int .i64 (gat l i).port) ∧ W.cell? ⟨ws.heap.size, 1, none⟩ = some (.slice (gat l i).wo (gat l i).ways.length (gat l i).wcap) ∧ W.cell? ⟨ws.heap.size, 2, none⟩ = some (.int .i64 (gat l i).plain) ∧ W.cell? ⟨ws.heap.size, 3, none⟩ = some (.slice (gat l i).oo (gat l i).opens.length (gat l i).ocap)) := fun W hW => gt_cells (keep hX5 hW)
                      have HNO : Hid (P (gat l i) = false → ∀ W, Below X.heap.size X W → m' = (((l.take (i + 1)).filter P).map (Rl.leave f vi)).length ∧ OwnR W w7.heap.size (.slice a m' c) f (((l.take (i + 1)).filter P).map (Rl.leave f vi)) ∧ Below w7.heap.size w7 W) := fun hp W hW => by
                        rw [hst, if_neg (by simp [hp]), List.append_nil]
                        exact ⟨hX.out.1, (hX.out.2.1.below hXB).below hW, below_up h7X hW⟩
                      have hlen : (((l.take i).filter P).map (Rl.leave f vi)).length ≤ 1000 := by
                        rw [List.length_map]
                        exact Nat.le_trans (List.length_filter_le _ _) (by simp; omega)
                      have HYE : Hid (P (gat l i) = true → ∀ W, Below X.heap.size X W → ∃ a1 m1 c1 W2, runAppO (.slice a m' c) (.slice (some ⟨W.heap.size, 0, none⟩) 1 1) (W.alloc (.cells (oA f ⟨Rl.leave f vi (gat l i), f.ao, f.cap⟩) 43)) (.slice a1 m1 c1) W2 ∧ Hid (m1 = (((l.take (i + 1)).filter P).map (Rl.leave f vi)).length ∧ OwnR W2 w7.heap.size (.slice a1 m1 c1) f (((l.take (i + 1)).filter P).map (Rl.leave f vi)) ∧ Below w7.heap.size w7 W2)) := fun hp W hW => by
                        have h7W : Below w7.heap.size w7 W := below_up h7X hW
                        obtain ⟨a1, m1, c1, W2, r1, e1, o1, b1⟩ := more_ro w7.heap.size W (.slice a m' c) f _ (Rl.leave f vi (gat l i)) ((hX.out.2.1.below hXB).below hW) hlen h7W.size
                        refine ⟨a1, m1, c1, W2, r1, ?_⟩
                        rw [hst, if_pos hp]
                        exact ⟨e1, o1, h7W.trans b1⟩
                      have HPX : Hid (Calls Try.prog 18 #[.agg #[.int .i64 (gat l i).port, .slice (gat l i).wo (gat l i).ways.length (gat l i).wcap, .int .i64 (gat l i).plain, .slice (gat l i).oo (gat l i).opens.length (gat l i).ocap], .agg #[.string r.name, .int .i64 r.rev, .slice r.ao r.n r.cap], .int .i64 vi] X fun e w' => e = .returned (.bool (Rl.passes (gat l i) (r.tree vi) vi)) ∧ Hid (Below X.heap.size X w')) := HCP.out (gat l i) X X h0X HXX.out (hgi.below hXB)
                      have hpt := HPT.out i hlt
                      have hpp := HPP.out (gat l i)
                      obtain ⟨⟨c0, c1, c2⟩, d0, d1, d2, d3, d4, d5, d6, d7⟩ := HSR.out X h0X
                      obtain ⟨v0, v1, v2, v3⟩ := HGB.out X HXX.out
                      clear hX hXB hX5 h0X h7X hst hgi hlen
                      generalize gat l i = y at *
                      obtain ⟨pv, hpv⟩ : ∃ pv, pv = P y := ⟨_, rfl⟩
                      rw [← hpv] at HNO HYE hpp
                      clear hpv
                      go_upto_region 33 with fail
                      rw [← HX.out]
                      clear g0 g1 g2 g3
                      go_cut [138] (fun v W => v = .bool (!pv) ∧ Hid (Below X.heap.size X W))
                      case first =>
                        clear HNO HYE
                        by_cases hik : i = k
                        · have e1 : ((i : Int) == (k : Int)) = true := by simp [hik]
                          have HPV : Hid (pv = false) := by rw [hpp, decide_eq_false (show ¬ y.port ≠ p by simp [hpt.2 hik])]; rfl
                          clear hik hpp hpt HPX
                          go_wp2_with fail
                          go_meet
                          exact ⟨by rw [HPV.out]; rfl, HXX⟩
                        · have e1 : ((i : Int) == (k : Int)) = false := by simp; omega
                          have e1b : (i == k) = false := by simpa using hik
                          rw [decide_eq_true (show y.port ≠ p from fun h => hik (hpt.1 h)), Bool.true_and] at hpp
                          clear hpt hik
                          cases kn with
                          | false =>
                            have HPV : Hid (pv = Rl.passes y (r.tree vi) vi) := by show pv = Rl.passes y (r.tree vi) vi; rw [hpp]; simp
                            generalize Rl.passes y (r.tree vi) vi = ps at *
                            clear hpp
                            go_wp2_with (go_at_call 18; refine HPX.out.mono ?_; rintro e wA ⟨rfl, HBA⟩)
                            go_meet
                            exact ⟨by rw [HPV.out], HBA⟩
                          | true =>
                            by_cases hsn : y.port = sn
                            · have e2 : (y.port != sn) = false := by simp [hsn]
                              have HPV : Hid (pv = Rl.passes y (r.tree vi) vi) := by show pv = Rl.passes y (r.tree vi) vi; rw [hpp, decide_eq_true hsn]; simp
                              generalize Rl.passes y (r.tree vi) vi = ps at *
                              clear hpp hsn
                              go_wp2_with (go_at_call 18; refine HPX.out.mono ?_; rintro e wA ⟨rfl, HBA⟩)
                              go_meet
                              exact ⟨by rw [HPV.out], HBA⟩
                            · have e2 : (y.port != sn) = true := by simp [hsn]
                              have HPV : Hid (pv = false) := by show pv = false; rw [hpp, decide_eq_false hsn]; simp
                              clear hpp hsn HPX
                              go_wp2_with fail
                              go_meet
                              exact ⟨by rw [HPV.out]; rfl, HXX⟩
                      case rest =>
                      rename World => wz
                      obtain ⟨rfl, HBz⟩ := hcut
                      clear hpp hpt HPX c0 c1 c2 d0 d1 d2 d3 d4 d5 d6 d7 v0 v1 v2 v3
                      cases pv with
                      | false =>
                        have HZ : Hid _ := HNO.out rfl wz HBz.out
                        clear HNO HYE
                        go_wp2_with fail
                        exact ⟨⟨i + 1, a, m', c, by omega, by go_num, rfl, HZ.out⟩, by simp [intOf]; omega⟩
                      | true =>
                        have HYES : Hid (∀ W, Below X.heap.size X W → ∃ a1 m1 c1 W2, runAppO (.slice a m' c) (.slice (some ⟨W.heap.size, 0, none⟩) 1 1) (W.alloc (.cells (oA f ⟨Rl.leave f vi y, f.ao, f.cap⟩) 43)) (.slice a1 m1 c1) W2 ∧ Hid (m1 = (((l.take (i + 1)).filter P).map (Rl.leave f vi)).length ∧ OwnR W2 w7.heap.size (.slice a1 m1 c1) f (((l.take (i + 1)).filter P).map (Rl.leave f vi)) ∧ Below w7.heap.size w7 W2)) := HYE.out rfl
                        obtain ⟨⟨c0, c1, c2⟩, d0, d1, d2, d3, d4, d5, d6, d7⟩ := HSR.out wz (HUX.out _ HBz.out)
                        obtain ⟨v0, v1, v2, v3⟩ := HGB.out wz HBz.out
                        have lz : ws.heap.size < wz.heap.size := block_lt_of_cell v0
                        have lf : w.heap.size + 1 < wz.heap.size := block_lt_of_cell d0
                        clear HNO HYE
                        by_cases hpl : y.plain = vi
                        · have e1 : (y.plain != vi) = false := by simp [hpl]
                          have hl : Rl.leave f vi y = ⟨y.port, false, 0, false, 0⟩ := if_pos hpl
                          clear hpl
                          obtain ⟨Y, HY⟩ : ∃ Y, Hid (Y = wz.alloc (.cells #[.int .u64 f.dst, .int .u64 f.src, .bool false, .int .i64 0, .bool false, .int .i64 0, .int .i64 f.type, .slice f.ao f.n f.cap] 30)) := ⟨_, rfl⟩
                          have hY1 : Below X.heap.size X Y := by rw [HY.out]; exact below_al HBz.out _
                          have hY2 : Y.heap[wz.heap.size]? = some (.cells #[.int .u64 f.dst, .int .u64 f.src, .bool false, .int .i64 0, .bool false, .int .i64 0, .int .i64 f.type, .slice f.ao f.n f.cap] 30 (0, 0)) := by rw [HY.out]; exact heap_alloc_last _ _
                          obtain ⟨a1, m1, c1', W2, r1, HZ⟩ := HYES.out Y hY1
                          rw [hl] at r1
                          have HRN : Hid (runAppO (.slice a m' c) (.slice (some ⟨Y.heap.size, 0, none⟩) 1 1) (Y.alloc (.cells #[.int .i64 y.port, .int .u64 f.dst, .int .u64 f.src, .bool false, .int .i64 0, .bool false, .int .i64 0, .int .i64 f.type, .slice f.ao f.n f.cap] 43)) (.slice a1 m1 c1') W2) := r1
                          obtain ⟨y0, y1, y2, y3, y4, y5, y6, y7⟩ := fr_cells hY2
                          obtain ⟨u0, u1, u2, u3⟩ := HGB.out Y hY1
                          clear hY1 hY2 r1 HYES hl
                          go_upto_region 39 with fail
                          rw [← HY.out]
                          clear c0 c1 c2 d0 d1 d2 d3 d4 d5 d6 d7 v0 v1 v2 v3
                          go_wp2_with (at_builtin; refine wpList_append_run rfl (.tmp 163) (.tmp 168) 35 rfl _ _ _ rfl rfl HRN.out ?_; clear HRN)
                          exact ⟨⟨i + 1, a1, m1, c1', by omega, by go_num, rfl, HZ.out⟩, by simp [intOf]; omega⟩
                        · have e1 : (y.plain != vi) = true := by simp [hpl]
                          by_cases ht : f.tagged = true
                          · rw [ht] at d2
                            have hl : Rl.leave f vi y = ⟨y.port, true, f.prio, f.drop, vi⟩ := by unfold Rl.leave; rw [if_neg hpl, if_pos ht, ht]; rfl
                            clear hpl ht
                            obtain ⟨Y, HY⟩ : ∃ Y, Hid (Y = (wz.alloc (.cells #[.int .u64 f.dst, .int .u64 f.src, .bool true, .int .i64 f.prio, .bool f.drop, .int .i64 vi, .int .i64 f.type, .slice f.ao f.n f.cap] 30)).drew) := ⟨_, rfl⟩
                            have hY1 : Below X.heap.size X Y := by rw [HY.out]; exact (below_al HBz.out _).drew
                            have hY2 : Y.heap[wz.heap.size]? = some (.cells #[.int .u64 f.dst, .int .u64 f.src, .bool true, .int .i64 f.prio, .bool f.drop, .int .i64 vi, .int .i64 f.type, .slice f.ao f.n f.cap] 30 (0, 0)) := by rw [HY.out]; exact heap_alloc_last _ _
                            obtain ⟨a1, m1, c1', W2, r1, HZ⟩ := HYES.out Y hY1
                            rw [hl] at r1
                            have HRN : Hid (runAppO (.slice a m' c) (.slice (some ⟨Y.heap.size, 0, none⟩) 1 1) (Y.alloc (.cells #[.int .i64 y.port, .int .u64 f.dst, .int .u64 f.src, .bool true, .int .i64 f.prio, .bool f.drop, .int .i64 vi, .int .i64 f.type, .slice f.ao f.n f.cap] 43)) (.slice a1 m1 c1') W2) := r1
                            obtain ⟨y0, y1, y2, y3, y4, y5, y6, y7⟩ := fr_cells hY2
                            obtain ⟨u0, u1, u2, u3⟩ := HGB.out Y hY1
                            clear hY1 hY2 r1 HYES hl
                            go_upto_region 38 with fail
                            go_region
                            all_goals go_upto_region 39 with fail
                            all_goals rw [← HY.out]
                            all_goals clear c0 c1 c2 d0 d1 d2 d3 d4 d5 d6 d7 v0 v1 v2 v3
                            all_goals go_wp2_with (at_builtin; refine wpList_append_run rfl (.tmp 163) (.tmp 168) 35 rfl _ _ _ rfl rfl HRN.out ?_; clear HRN)
                            all_goals exact ⟨⟨i + 1, a1, m1, c1', by omega, by go_num, rfl, HZ.out⟩, by simp [intOf]; omega⟩
                          · have ht2 : f.tagged = false := by simpa using ht
                            rw [ht2] at d2
                            have hl : Rl.leave f vi y = ⟨y.port, true, 0, false, vi⟩ := by unfold Rl.leave; rw [if_neg hpl, if_neg ht, ht2]; rfl
                            clear hpl ht ht2
                            obtain ⟨Y, HY⟩ : ∃ Y, Hid (Y = wz.alloc (.cells #[.int .u64 f.dst, .int .u64 f.src, .bool true, .int .i64 0, .bool false, .int .i64 vi, .int .i64 f.type, .slice f.ao f.n f.cap] 30)) := ⟨_, rfl⟩
                            have hY1 : Below X.heap.size X Y := by rw [HY.out]; exact below_al HBz.out _
                            have hY2 : Y.heap[wz.heap.size]? = some (.cells #[.int .u64 f.dst, .int .u64 f.src, .bool true, .int .i64 0, .bool false, .int .i64 vi, .int .i64 f.type, .slice f.ao f.n f.cap] 30 (0, 0)) := by rw [HY.out]; exact heap_alloc_last _ _
                            obtain ⟨a1, m1, c1', W2, r1, HZ⟩ := HYES.out Y hY1
                            rw [hl] at r1
                            have HRN : Hid (runAppO (.slice a m' c) (.slice (some ⟨Y.heap.size, 0, none⟩) 1 1) (Y.alloc (.cells #[.int .i64 y.port, .int .u64 f.dst, .int .u64 f.src, .bool true, .int .i64 0, .bool false, .int .i64 vi, .int .i64 f.type, .slice f.ao f.n f.cap] 43)) (.slice a1 m1 c1') W2) := r1
                            obtain ⟨y0, y1, y2, y3, y4, y5, y6, y7⟩ := fr_cells hY2
                            obtain ⟨u0, u1, u2, u3⟩ := HGB.out Y hY1
                            clear hY1 hY2 r1 HYES hl
                            go_upto_region 39 with fail
                            rw [← HY.out]
                            clear c0 c1 c2 d0 d1 d2 d3 d4 d5 d6 d7 v0 v1 v2 v3
                            go_wp2_with (at_builtin; refine wpList_append_run rfl (.tmp 163) (.tmp 168) 35 rfl _ _ _ rfl rfl HRN.out ?_; clear HRN)
                            exact ⟨⟨i + 1, a1, m1, c1', by omega, by go_num, rfl, HZ.out⟩, by simp [intOf]; omega⟩
                    · obtain rfl : i = l.length := by omega
                      have hfin := hX.out
                      rw [List.take_length] at hfin
                      have hi5 := HIN.out ws h0s
                      obtain ⟨ao2, cap2, e2, hrow⟩ := hfin.2.1.el hi5.data hi5.dnil
                      injection e2 with e3 e4 e5
                      have HFI : Hid ((RelDoc w ws f ⟨Rl.outs r l bk p f, mm, 0⟩ a c (ovs f ((l.filter P).map (Rl.leave f vi))) yb cb ∧ RelOwn w ws f a c (ovs f ((l.filter P).map (Rl.leave f vi))) bo bcap bk yb cb mm) ∧ m' = (ovs f ((l.filter P).map (Rl.leave f vi))).length) := by
                        refine ⟨⟨⟨?_, ?_, HMB.out ws hfin.2.2, HLOW.out ws h0s⟩, ?_, ?_, HMD.out ws hfin.2.2⟩, ?_⟩
                        · rw [HOW.out]
                          simp [ovs]
                        · rw [e3, e5]; exact hrow
                        · have e6 : ∀ L : List O, (ovs f L).map OV.o = L := fun L => by
                            induction L with
                            | nil => rfl
                            | cons a l ih => exact congrArg (a :: ·) ih
                          have e7 : ∀ L : List O, (ovs f L).length = L.length := fun L => by simp [ovs]
                          rw [e6, e7, ← hfin.1]
                          exact hfin.2.1.mono (HLOW.out w7 HB9.out).size
                        · intro x hx
                          obtain ⟨o, _, rfl⟩ := List.mem_map.1 hx
                          exact ⟨rfl, rfl⟩
                        · rw [hfin.1]; simp [ovs]
                      clear hX hfin hi5 e3 e4 e5 hrow
                      go_wp2_with fail
                      go_ret3
                      refine ⟨a, c, ovs f ((l.filter P).map (Rl.leave f vi)), yb, cb, ?_, by rw [HX4.out]; exact HFI.out.1⟩
                      rw [HX4.out, ← HFI.out.2]
                      rfl
        · have hE : Rl.errR r l bk f = e4 := by rw [HERR.out, k1, k2, k3]; rfl
          have HX : Hid (Rl.relay r l bk p f = ⟨[], [], e4⟩) := by rw [HNE.out (by rw [hE]; exact k4), hE]; rfl
          have dq : (e4 != 0) = true := by simp [k4]
          clear hE k4 HERR HNE
          go_wp2_with fail
          go_ret3
          exact ⟨none, 0, [], none, 0, by rw [HX.out]; rfl, by rw [HX.out]; exact HNONE.out _ _ HB5.out⟩
      · have hE : Rl.errR r l bk f = e3 := by rw [HERR.out, k1, k2]; unfold Rl.or4 Rl.or3; rw [if_pos rfl, if_pos rfl, if_neg k3]
        have HX : Hid (Rl.relay r l bk p f = ⟨[], [], e3⟩) := by rw [HNE.out (by rw [hE]; exact k3), hE]; rfl
        have dq : (e3 != 0) = true := by simp [k3]
        have HD3 : Hid (∀ o, Below W0.heap.size W0 (w3.alloc o)) := fun o => below_al HB3.out o
        clear hE k3 HERR HNE
        go_wp2_with fail
        go_quiet (fail)
        go_wp2_with fail
        go_ret3
        exact ⟨none, 0, [], none, 0, by rw [HX.out]; rfl, by rw [HX.out]; exact HNONE.out _ _ (by first | exact below_drewN (HD3.out _) _ | exact (HD3.out _).drew | exact HD3.out _)⟩
    · have hE : Rl.errR r l bk f = e2 := by rw [HERR.out, k1]; unfold Rl.or4 Rl.or3; rw [if_pos rfl, if_neg k2]
      have HX : Hid (Rl.relay r l bk p f = ⟨[], [], e2⟩) := by rw [HNE.out (by rw [hE]; exact k2), hE]; rfl
      have dq : (e2 != 0) = true := by simp [k2]
      have HD2 : Hid (∀ o, Below W0.heap.size W0 (w2.alloc o)) := fun o => below_al HB2.out o
      clear hE k2 HERR HNE
      go_wp2_with fail
      go_quiet (fail)
      go_wp2_with fail
      go_ret3
      exact ⟨none, 0, [], none, 0, by rw [HX.out]; rfl, by rw [HX.out]; exact HNONE.out _ _ (by first | exact below_drewN (HD2.out _) _ | exact (HD2.out _).drew | exact HD2.out _)⟩
  · have hE : Rl.errR r l bk f = e1 := by rw [HERR.out]; unfold Rl.or4; rw [if_neg k1]
    have HX : Hid (Rl.relay r l bk p f = ⟨[], [], e1⟩) := by rw [HNE.out (by rw [hE]; exact k1), hE]; rfl
    have dq : (e1 != 0) = true := by simp [k1]
    clear hE k1 HERR HNE
    go_wp2_with fail
    go_ret3
    exact ⟨none, 0, [], none, 0, by rw [HX.out]; rfl, by rw [HX.out]; exact HNONE.out _ _ HB1.out⟩
theorem rrelay_any (r : R) (ao : Option Addr) (cap : Nat) (l : List G) (bo : Option Addr) (bcap : Nat) (bk : List E) (p : Int) (f : F) (w : World) (hin : RelIn w r ao cap l bo bcap bk f) :
    Calls Try.prog 12 #[.agg #[.string r.name, .int .i64 r.rev, .slice r.ao r.n r.cap], .slice ao l.length cap, .slice bo bk.length bcap, .int .i64 p, .agg #[.int .u64 f.dst, .int .u64 f.src, .bool f.tagged, .int .i64 f.prio, .bool f.drop, .int .i64 f.vid, .int .i64 f.type, .slice f.ao f.n f.cap]] w fun e w' => ∃ oo oc os bo' bc', e = .returned (.tuple #[.slice oo os.length oc, .slice bo' (Rl.relay r l bk p f).book.length bc', .int .i64 (Rl.relay r l bk p f).err]) ∧ RelDoc w w' f (Rl.relay r l bk p f) oo oc os bo' bc' := (rrelay_own r ao cap l bo bcap bk p f w hin).mono (fun _ _ ⟨oo, oc, os, b1, b2, h1, h2, _⟩ => ⟨oo, oc, os, b1, b2, h1, h2⟩)
end Go.Proofs.Ytgkmaihleilchaa
