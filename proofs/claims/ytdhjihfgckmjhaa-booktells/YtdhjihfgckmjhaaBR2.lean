/- walks: the document's Wrong (hedgeref8); by tools/gen_rwrong8.py -/
import Derived.Test.YtdhjihfgckmjhaaBRa
namespace Go.Proofs.Ytdhjihfgckmjhaa
open Go.RowKit
open Bk (E at')

set_option maxRecDepth 100000 in
set_option maxHeartbeats 4000000 in
theorem rwrong8_any (ao : Option Addr) (cap : Nat) (l : List E) (w : World) (hn : l.length ≤ 9223372036854775807) (hr : BEL w ao cap l) :
    Calls Try.prog 9 #[.slice ao l.length cap] w fun e w' => e = .returned (faV (Bk.wrong (at' l) l.length)) ∧ Below w.heap.size w w' := by
  have HRW : Hid (∀ W, Below w.heap.size w W → BEL W ao cap l) := fun W hW => BEL.below hr hW
  have hcap : l.length ≤ cap := hr.1
  clear hr
  obtain ⟨G, HG⟩ : ∃ G, Hid (G = w.heap.size) := ⟨_, rfl⟩
  have HI : Hid (∀ W, W = w.alloc (.cells #[.int .i64 0, .int .i64 0] 27) → Below w.heap.size w W ∧ W.heap[G]? = some (.cells #[.int .i64 0, .int .i64 0] 27 (0, 0))) := by
    intro W hW
    rw [hW, HG.out]
    exact ⟨below_alloc1 _ _, heap_alloc_last _ _⟩
  have hGM : w.heap.size ≤ G := by rw [HG.out]; exact Nat.le_refl _
  have HZ : Hid (30 < l.length → Bk.wrong (at' l) l.length = (5, 0)) := fun h => if_pos h
  have HN : Hid (¬ 30 < l.length → Bk.wrong (at' l) l.length = Bk.firstTo (Bk.errAt (at' l)) l.length) := fun h => if_neg h
  by_cases h30 : 30 < l.length
  · have HZ1 : Hid _ := HZ.out h30
    have h30z : (30 : Int) < (l.length : Int) := by omega
    clear HI HZ HN
    go_enter Try.func9, Try.ntmps9
    go_wp2_with fail
    exact bodyPost_ret (v := .agg #[.int .i64 5, .int .i64 0]) (results_row (p := 2) (ty := 27) Try.results9 _ _ w.heap.size 27 #[.int .i64 5, .int .i64 0] (0, 0) _ rfl (heap_alloc_last _ _) Try.underlying27 rfl (by rw [bsizeFa]; rfl)) rfl ⟨by rw [HZ1.out], below_alloc1 _ _⟩
  · have HN1 : Hid _ := HN.out h30
    have h30z : ¬ (30 : Int) < (l.length : Int) := by omega
    clear HZ HN
    go_enter Try.func9, Try.ntmps9
    go_wp2_with fail
    rw [← HG.out]
    go_loopw [11] (fun i wr => ∃ k : Nat, k ≤ l.length ∧ i = .int .i64 k ∧ Hid (∀ j, j < k → Bk.errAt (at' l) j = 0) ∧ Hid (Below w.heap.size w wr ∧ wr.heap[G]? = some (.cells #[.int .i64 0, .int .i64 0] 27 (0, 0)))) (fun i _ => l.length - (intOf i).toNat)
    case atStart => exact ⟨0, by omega, rfl, (fun j hj => absurd hj (by omega)), HI.out _ rfl⟩
    case round =>
      obtain ⟨k, hk, rfl, hS, hX⟩ := hrel
      clear HI
      by_cases hlt : k < l.length
      · obtain ⟨b, off, rfl, _⟩ := (HRW.out wr hX.out.1).place (by omega)
        obtain ⟨c0, c1, c2, c3⟩ := (HRW.out wr hX.out.1).cells hlt
        obtain ⟨X, HX⟩ : ∃ X, Hid (X = wr.alloc (.cells #[.int .i64 (at' l k).vid, .int .u64 (at' l k).addr, .int .i64 (at' l k).port, .int .i64 (at' l k).age] 41)) := ⟨_, rfl⟩
        have HX9 : Hid (Below w.heap.size w X ∧ X.heap[G]? = some (.cells #[.int .i64 0, .int .i64 0] 27 (0, 0)) ∧ X.heap[wr.heap.size]? = some (.cells #[.int .i64 (at' l k).vid, .int .u64 (at' l k).addr, .int .i64 (at' l k).port, .int .i64 (at' l k).age] 41 (0, 0))) := by
          have hb : Below wr.heap.size wr X := by rw [HX.out]; exact below_alloc1 _ _
          have y1 : Below w.heap.size w X := hX.out.1.trans (hb.mono hX.out.1.size)
          exact ⟨y1, keep hX.out.2 hb, by rw [HX.out]; exact heap_alloc_last _ _⟩
        have HF1 : Hid (∀ e, e ≠ 0 → Bk.errAt (at' l) k = e → Bk.firstTo (Bk.errAt (at' l)) l.length = (e, (k : Int))) := fun e he h => by
          subst h
          exact Bk.firstTo_stay _ k (by rw [Bk.firstTo_none _ _ hS.out]) he _ hlt
        have HS1 : Hid (Bk.errAt (at' l) k = 0 → ∀ j, j < k + 1 → Bk.errAt (at' l) j = 0) := fun h j hj => by
          by_cases e : j = k
          · subst e; exact h
          · exact hS.out j (by omega)
        have HNR : Hid (¬ Bk.rng (at' l k) → Bk.firstTo (Bk.errAt (at' l)) l.length = (3, (k : Int))) := fun h => HF1.out 3 (by omega) (if_pos h)
        obtain ⟨f0, f1, f2, f3⟩ := bfa_cells hX.out.2
        have hGl : G < wr.heap.size := block_lt_of_cell f0
        have HRG : Hid (Bk.rng (at' l k) ↔ (1 ≤ (at' l k).vid ∧ (at' l k).vid ≤ 4094) ∧ (at' l k).addr ≤ 281474976710655 ∧ (0 ≤ (at' l k).port ∧ (at' l k).port ≤ 30) ∧ (0 ≤ (at' l k).age ∧ (at' l k).age ≤ 300)) := Iff.rfl
        have HWR : Hid (Below w.heap.size w wr ∧ wr.heap[G]? = some (.cells #[.int .i64 0, .int .i64 0] 27 (0, 0))) := hX
        clear hX hS
        by_cases q1 : 1 ≤ (at' l k).vid
        · by_cases q2 : (at' l k).vid ≤ 4094
          · by_cases q3 : (at' l k).addr ≤ 281474976710655
            · by_cases q4 : 0 ≤ (at' l k).port
              · by_cases q5 : (at' l k).port ≤ 30
                · by_cases q6 : 0 ≤ (at' l k).age
                  · by_cases q7 : (at' l k).age ≤ 300
                    · have hg : Bk.rng (at' l k) := HRG.out.2 (by omega)
                      clear HNR HRG
                      by_cases hk0 : k = 0
                      · have hd0 : decide (0 < k) = false := decide_eq_false (by omega)
                        have HS2 : Hid _ := HS1.out (Bk.errAt_zero.2 ⟨hg, fun h => absurd h (by omega)⟩)
                        clear HS1 HF1 HRW HN1 hg hk0
                        generalize at' l k = x at *
                        go_wp2_with fail
                        rw [← HX.out]
                        clear c0 c1 c2 c3 f0 f1 f2 f3
                        go_quiet (fail)
                        go_wp2_with fail
                        exact ⟨⟨k + 1, by omega, by go_num, HS2, ⟨below_drewN HX9.out.1 _, HX9.out.2.1⟩⟩, by simp [intOf]; omega⟩
                      · obtain ⟨p, hp⟩ : ∃ p, p = k - 1 := ⟨_, rfl⟩
                        have wp : IntKind.i64.wrap ((k : Int) - 1) = (p : Int) := by rw [wraps_i64 _ (by omega) (by omega)]; omega
                        have k0 : decide (0 < k) = true := decide_eq_true (by omega)
                        have ip : (0 : Int) ≤ (p : Int) := by omega
                        have np : (p : Int) < (l.length : Int) := by omega
                        have hpl : p < l.length := by omega
                        have HE2 : Hid (¬ Bk.lt (at' l p) (at' l k) → Bk.errAt (at' l) k = 2) := fun h => by
                          show (if ¬ Bk.rng (at' l k) then (3 : Int) else if 0 < k ∧ ¬ Bk.lt (at' l (k - 1)) (at' l k) then 2 else 0) = 2
                          rw [if_neg (by simp [hg]), if_pos ⟨by omega, by rw [← hp]; exact h⟩]
                        have HE0 : Hid (Bk.lt (at' l p) (at' l k) → Bk.errAt (at' l) k = 0) := fun h => Bk.errAt_zero.2 ⟨hg, fun _ => by rw [← hp]; exact h⟩
                        have HXX : Hid (Below X.heap.size X X) := Below.refl _ _
                        have HBE : Hid (∀ W, Below X.heap.size X W → Calls Try.prog 22 #[.agg #[.int .i64 (at' l p).vid, .int .u64 (at' l p).addr, .int .i64 (at' l p).port, .int .i64 (at' l p).age], .agg #[.int .i64 (at' l k).vid, .int .u64 (at' l k).addr, .int .i64 (at' l k).port, .int .i64 (at' l k).age]] W fun e w' => e = .returned (.bool (Bk.ltb (at' l p) (at' l k))) ∧ Hid (Below X.heap.size X w')) := fun W hW => (rahead_any (at' l p) (at' l k) W).mono (fun e w' h => ⟨h.1, hW.trans (h.2.mono hW.size)⟩)
                        have HFIN : Hid (∀ W, Below X.heap.size X W → Below w.heap.size w W ∧ W.heap[G]? = some (.cells #[.int .i64 0, .int .i64 0] 27 (0, 0))) := fun W hW => ⟨HX9.out.1.trans (hW.mono HX9.out.1.size), keep HX9.out.2.1 hW⟩
                        have HJC : Hid (∀ W, Below X.heap.size X W → (W.cell? ⟨b, off + p * 4, none⟩ = some (.int .i64 (at' l p).vid) ∧ W.cell? ⟨b, off + p * 4 + 1, none⟩ = some (.int .u64 (at' l p).addr) ∧ W.cell? ⟨b, off + p * 4 + 2, none⟩ = some (.int .i64 (at' l p).port) ∧ W.cell? ⟨b, off + p * 4 + 3, none⟩ = some (.int .i64 (at' l p).age)) ∧ W.cell? ⟨wr.heap.size, 0, none⟩ = some (.int .i64 (at' l k).vid) ∧ W.cell? ⟨wr.heap.size, 1, none⟩ = some (.int .u64 (at' l k).addr) ∧ W.cell? ⟨wr.heap.size, 2, none⟩ = some (.int .i64 (at' l k).port) ∧ W.cell? ⟨wr.heap.size, 3, none⟩ = some (.int .i64 (at' l k).age)) := fun W hW => ⟨(HRW.out W (HFIN.out W hW).1).cells hpl, en_cells (keep HX9.out.2.2 hW)⟩
                        obtain ⟨⟨t0, t1, t2, t3⟩, u0, u1, u2, u3⟩ := HJC.out X HXX.out
                        clear hp hg HRW f0 f1 f2 f3
                        by_cases hl : Bk.lt (at' l p) (at' l k)
                        · have HS2 : Hid _ := HS1.out (HE0.out hl)
                          rw [show Bk.ltb (at' l p) (at' l k) = true from decide_eq_true hl] at HBE
                          clear HS1 HF1 HE0 HE2 hl HN1
                          generalize at' l p = y at *
                          generalize at' l k = x at *
                          go_wp2_with fail
                          rw [← HX.out]
                          clear c0 c1 c2 c3
                          go_region_held3 (fun W => (W.cell? ⟨b, off + p * 4, none⟩ = some (.int .i64 y.vid) ∧ W.cell? ⟨b, off + p * 4 + 1, none⟩ = some (.int .u64 y.addr) ∧ W.cell? ⟨b, off + p * 4 + 2, none⟩ = some (.int .i64 y.port) ∧ W.cell? ⟨b, off + p * 4 + 3, none⟩ = some (.int .i64 y.age)) ∧ W.cell? ⟨wr.heap.size, 0, none⟩ = some (.int .i64 x.vid) ∧ W.cell? ⟨wr.heap.size, 1, none⟩ = some (.int .u64 x.addr) ∧ W.cell? ⟨wr.heap.size, 2, none⟩ = some (.int .i64 x.port) ∧ W.cell? ⟨wr.heap.size, 3, none⟩ = some (.int .i64 x.age))
                            (first | (exact HJC.out _ (Below.drew HXX.out)) | (exact HJC.out _ (Hid.out (by assumption))))
                            (first | (go_at_call 22; refine (HBE.out _ (Below.drew HXX.out)).mono ?_; rintro e w3 ⟨rfl, HB3⟩))
                          clear t0 t1 t2 t3 u0 u1 u2 u3
                          have HF3 : Hid _ := HFIN.out w3 HB3.out
                          clear HFIN HJC HBE
                          go_wp2_with fail
                          exact ⟨⟨k + 1, by omega, by go_num, HS2, HF3.out⟩, by simp [intOf]; omega⟩
                        · have HF2 : Hid _ := HF1.out 2 (by omega) (HE2.out hl)
                          rw [show Bk.ltb (at' l p) (at' l k) = false from decide_eq_false hl] at HBE
                          clear HS1 HF1 HE0 HE2 hl
                          generalize at' l p = y at *
                          generalize at' l k = x at *
                          go_wp2_with fail
                          rw [← HX.out]
                          clear c0 c1 c2 c3
                          go_region_held3 (fun W => (W.cell? ⟨b, off + p * 4, none⟩ = some (.int .i64 y.vid) ∧ W.cell? ⟨b, off + p * 4 + 1, none⟩ = some (.int .u64 y.addr) ∧ W.cell? ⟨b, off + p * 4 + 2, none⟩ = some (.int .i64 y.port) ∧ W.cell? ⟨b, off + p * 4 + 3, none⟩ = some (.int .i64 y.age)) ∧ W.cell? ⟨wr.heap.size, 0, none⟩ = some (.int .i64 x.vid) ∧ W.cell? ⟨wr.heap.size, 1, none⟩ = some (.int .u64 x.addr) ∧ W.cell? ⟨wr.heap.size, 2, none⟩ = some (.int .i64 x.port) ∧ W.cell? ⟨wr.heap.size, 3, none⟩ = some (.int .i64 x.age))
                            (first | (exact HJC.out _ (Below.drew HXX.out)) | (exact HJC.out _ (Hid.out (by assumption))))
                            (first | (go_at_call 22; refine (HBE.out _ (Below.drew HXX.out)).mono ?_; rintro e w3 ⟨rfl, HB3⟩))
                          clear t0 t1 t2 t3 u0 u1 u2 u3
                          have HF3 : Hid _ := HFIN.out w3 HB3.out
                          obtain ⟨g0, g1, g2, g3⟩ := bfa_cells HF3.out.2
                          clear HFIN HJC HBE
                          go_wp2_with fail
                          exact bodyPost_ret (v := .agg #[.int .i64 2, .int .i64 (k : Int)]) (results_row (p := 2) (ty := 27) Try.results9 _ _ G 27 #[.int .i64 2, .int .i64 (k : Int)] (0, 0) _ rfl (bfa_set HF3.out.2) Try.underlying27 rfl (by rw [bsizeFa]; rfl)) rfl ⟨by rw [HN1.out, HF2.out], (HF3.out.1.setCell hGM _).setCell hGM _⟩
                    · have HF2 : Hid _ := HNR.out (fun h => by have := HRG.out.1 h; omega)
                      clear HS1 HF1 HRW HRG HNR
                      generalize at' l k = x at *
                      go_wp2_with fail
                      exact bodyPost_ret (v := .agg #[.int .i64 3, .int .i64 (k : Int)]) (results_row (p := 2) (ty := 27) Try.results9 _ _ G 27 #[.int .i64 3, .int .i64 (k : Int)] (0, 0) _ rfl (keep (bfa_set HWR.out.2) (below_alloc1 _ _)) Try.underlying27 rfl (by rw [bsizeFa]; rfl)) rfl ⟨by rw [HN1.out, HF2.out], ((HWR.out.1.setCell hGM _).setCell hGM _).alloc ((HWR.out.1.setCell hGM _).setCell hGM _).size _⟩
                  · have HF2 : Hid _ := HNR.out (fun h => by have := HRG.out.1 h; omega)
                    clear HS1 HF1 HRW HRG HNR
                    generalize at' l k = x at *
                    go_wp2_with fail
                    exact bodyPost_ret (v := .agg #[.int .i64 3, .int .i64 (k : Int)]) (results_row (p := 2) (ty := 27) Try.results9 _ _ G 27 #[.int .i64 3, .int .i64 (k : Int)] (0, 0) _ rfl (keep (bfa_set HWR.out.2) (below_alloc1 _ _)) Try.underlying27 rfl (by rw [bsizeFa]; rfl)) rfl ⟨by rw [HN1.out, HF2.out], ((HWR.out.1.setCell hGM _).setCell hGM _).alloc ((HWR.out.1.setCell hGM _).setCell hGM _).size _⟩
                · have HF2 : Hid _ := HNR.out (fun h => by have := HRG.out.1 h; omega)
                  clear HS1 HF1 HRW HRG HNR
                  generalize at' l k = x at *
                  go_wp2_with fail
                  exact bodyPost_ret (v := .agg #[.int .i64 3, .int .i64 (k : Int)]) (results_row (p := 2) (ty := 27) Try.results9 _ _ G 27 #[.int .i64 3, .int .i64 (k : Int)] (0, 0) _ rfl (keep (bfa_set HWR.out.2) (below_alloc1 _ _)) Try.underlying27 rfl (by rw [bsizeFa]; rfl)) rfl ⟨by rw [HN1.out, HF2.out], ((HWR.out.1.setCell hGM _).setCell hGM _).alloc ((HWR.out.1.setCell hGM _).setCell hGM _).size _⟩
              · have HF2 : Hid _ := HNR.out (fun h => by have := HRG.out.1 h; omega)
                clear HS1 HF1 HRW HRG HNR
                generalize at' l k = x at *
                go_wp2_with fail
                exact bodyPost_ret (v := .agg #[.int .i64 3, .int .i64 (k : Int)]) (results_row (p := 2) (ty := 27) Try.results9 _ _ G 27 #[.int .i64 3, .int .i64 (k : Int)] (0, 0) _ rfl (keep (bfa_set HWR.out.2) (below_alloc1 _ _)) Try.underlying27 rfl (by rw [bsizeFa]; rfl)) rfl ⟨by rw [HN1.out, HF2.out], ((HWR.out.1.setCell hGM _).setCell hGM _).alloc ((HWR.out.1.setCell hGM _).setCell hGM _).size _⟩
            · have HF2 : Hid _ := HNR.out (fun h => by have := HRG.out.1 h; omega)
              clear HS1 HF1 HRW HRG HNR
              generalize at' l k = x at *
              go_wp2_with fail
              exact bodyPost_ret (v := .agg #[.int .i64 3, .int .i64 (k : Int)]) (results_row (p := 2) (ty := 27) Try.results9 _ _ G 27 #[.int .i64 3, .int .i64 (k : Int)] (0, 0) _ rfl (keep (bfa_set HWR.out.2) (below_alloc1 _ _)) Try.underlying27 rfl (by rw [bsizeFa]; rfl)) rfl ⟨by rw [HN1.out, HF2.out], ((HWR.out.1.setCell hGM _).setCell hGM _).alloc ((HWR.out.1.setCell hGM _).setCell hGM _).size _⟩
          · have HF2 : Hid _ := HNR.out (fun h => by have := HRG.out.1 h; omega)
            clear HS1 HF1 HRW HRG HNR
            generalize at' l k = x at *
            go_wp2_with fail
            exact bodyPost_ret (v := .agg #[.int .i64 3, .int .i64 (k : Int)]) (results_row (p := 2) (ty := 27) Try.results9 _ _ G 27 #[.int .i64 3, .int .i64 (k : Int)] (0, 0) _ rfl (keep (bfa_set HWR.out.2) (below_alloc1 _ _)) Try.underlying27 rfl (by rw [bsizeFa]; rfl)) rfl ⟨by rw [HN1.out, HF2.out], ((HWR.out.1.setCell hGM _).setCell hGM _).alloc ((HWR.out.1.setCell hGM _).setCell hGM _).size _⟩
        · have HF2 : Hid _ := HNR.out (fun h => by have := HRG.out.1 h; omega)
          clear HS1 HF1 HRW HRG HNR
          generalize at' l k = x at *
          go_wp2_with fail
          exact bodyPost_ret (v := .agg #[.int .i64 3, .int .i64 (k : Int)]) (results_row (p := 2) (ty := 27) Try.results9 _ _ G 27 #[.int .i64 3, .int .i64 (k : Int)] (0, 0) _ rfl (keep (bfa_set HWR.out.2) (below_alloc1 _ _)) Try.underlying27 rfl (by rw [bsizeFa]; rfl)) rfl ⟨by rw [HN1.out, HF2.out], ((HWR.out.1.setCell hGM _).setCell hGM _).alloc ((HWR.out.1.setCell hGM _).setCell hGM _).size _⟩
      · obtain rfl : k = l.length := by omega
        have HF2 : Hid (Bk.firstTo (Bk.errAt (at' l)) l.length = (0, 0)) := Bk.firstTo_none _ _ hS.out
        obtain ⟨f0, f1, f2, f3⟩ := bfa_cells hX.out.2
        clear HRW
        go_wp2_with fail
        exact bodyPost_ret (v := .agg #[.int .i64 0, .int .i64 0]) (results_row (p := 2) (ty := 27) Try.results9 _ _ G 27 #[.int .i64 0, .int .i64 0] (0, 0) _ rfl (bfa_set hX.out.2) Try.underlying27 rfl (by rw [bsizeFa]; rfl)) rfl ⟨by rw [HN1.out, HF2.out], (hX.out.1.setCell hGM _).setCell hGM _⟩
end Go.Proofs.Ytdhjihfgckmjhaa
