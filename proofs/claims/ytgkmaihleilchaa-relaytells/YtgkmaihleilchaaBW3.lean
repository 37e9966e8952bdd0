/- walks: package book's Wrong -/
import Derived.Test.YtgkmaihleilchaaBW2
namespace Go.Proofs.Ytgkmaihleilchaa
open Go.RowKit
open Bk (E at')

theorem bsizeFa : (Try.prog.info? 33).map (·.size) = some 2 := by kernel_rfl
/-- A fault's two cells, stored. -/
theorem bfa_set {w : World} {g : Nat} {a0 a1 v0 v1 : Value} {ty : TypeId} (h : w.heap[g]? = some (.cells #[a0, a1] ty (0, 0))) : ((w.setCell ⟨g, 0, none⟩ v0).setCell ⟨g, 1, none⟩ v1).heap[g]? = some (.cells #[v0, v1] ty (0, 0)) := by
  have h0 : (w.setCell ⟨g, 0, none⟩ v0).heap[g]? = some (.cells #[v0, a1] ty (0, 0)) := by rw [heap_setCell_same _ _ _ _ _ _ h]; rfl
  rw [heap_setCell_same _ _ _ _ _ _ h0]; rfl
theorem bfa_cells {w : World} {g : Nat} {a0 a1 : Value} {ty : TypeId} (h : w.heap[g]? = some (.cells #[a0, a1] ty (0, 0))) : w.cell? ⟨g, 0, none⟩ = some a0 ∧ w.cell? ⟨g, 1, none⟩ = some a1 ∧ w.frozen? ⟨g, 0, none⟩ = false ∧ w.frozen? ⟨g, 1, none⟩ = false :=
  ⟨cell_of_row w g 0 _ _ _ h, cell_of_row w g 1 _ _ _ h, frozen_of_row _ _ _ _ _ h, frozen_of_row _ _ _ _ _ h⟩
/-- A fault's two cells. -/
abbrev faV (p : Int × Int) : Value := .agg #[.int .i64 p.1, .int .i64 p.2]
set_option maxRecDepth 100000 in
set_option maxHeartbeats 2000000 in
theorem bwrong_any (ao : Option Addr) (cap : Nat) (l : List E) (w : World) (hn : l.length ≤ 9223372036854775807) (hr : BEL w ao cap l) :
    Calls Try.prog 28 #[.slice ao l.length cap] w fun e w' => e = .returned (faV (Bk.wrong (at' l) l.length)) ∧ Below w.heap.size w w' := by
  have HRW : Hid (∀ W, Below w.heap.size w W → BEL W ao cap l) := fun W hW => BEL.below hr hW
  have hcap : l.length ≤ cap := hr.1
  clear hr
  obtain ⟨G, HG⟩ : ∃ G, Hid (G = w.heap.size) := ⟨_, rfl⟩
  have HI : Hid (∀ W, W = w.alloc (.cells #[.int .i64 0, .int .i64 0] 33) → Below w.heap.size w W ∧ W.heap[G]? = some (.cells #[.int .i64 0, .int .i64 0] 33 (0, 0))) := by
    intro W hW
    rw [hW, HG.out]
    exact ⟨below_alloc1 _ _, heap_alloc_last _ _⟩
  have hGM : w.heap.size ≤ G := by rw [HG.out]; exact Nat.le_refl _
  have HZ : Hid (30 < l.length → Bk.wrong (at' l) l.length = (5, 0)) := fun h => if_pos h
  have HN : Hid (¬ 30 < l.length → Bk.wrong (at' l) l.length = Bk.firstTo (Bk.errAt (at' l)) l.length) := fun h => if_neg h
  obtain ⟨N, hN⟩ : ∃ N, N = l.length := ⟨_, rfl⟩
  by_cases h30 : 30 < l.length
  · have HZ1 : Hid _ := HZ.out h30
    have h30z : (30 : Int) < (l.length : Int) := by omega
    clear HI HZ HN
    go_enter Try.func28, Try.ntmps28
    go_wp2_with fail
    exact bodyPost_ret (v := .agg #[.int .i64 5, .int .i64 0]) (results_row (p := 2) (ty := 33) Try.results28 _ _ w.heap.size 33 #[.int .i64 5, .int .i64 0] (0, 0) _ rfl (heap_alloc_last _ _) Try.underlying33 rfl (by rw [bsizeFa]; rfl)) rfl ⟨by rw [HZ1.out], below_alloc1 _ _⟩
  · have HN1 : Hid _ := HN.out h30
    have h30z : ¬ (30 : Int) < (l.length : Int) := by omega
    clear HZ HN
    go_enter Try.func28, Try.ntmps28
    go_wp2_with fail
    rw [← HG.out]
    go_loopw [11] (fun i wr => ∃ k : Nat, k ≤ l.length ∧ i = .int .i64 k ∧ Hid (∀ j, j < k → Bk.errAt (at' l) j = 0) ∧ Hid (Below w.heap.size w wr ∧ wr.heap[G]? = some (.cells #[.int .i64 0, .int .i64 0] 33 (0, 0)))) (fun i _ => l.length - (intOf i).toNat)
    case atStart => exact ⟨0, by omega, rfl, (fun j hj => absurd hj (by omega)), HI.out _ rfl⟩
    case round =>
      obtain ⟨k, hk, rfl, hS, hX⟩ := hrel
      clear HI
      by_cases hlt : k < l.length
      · obtain ⟨b, off, rfl, _⟩ := (HRW.out wr hX.out.1).place (by omega)
        obtain ⟨c0, c1, c2, c3⟩ := (HRW.out wr hX.out.1).cells hlt
        obtain ⟨X, HX⟩ : ∃ X, Hid (X = wr.alloc (.cells #[.int .i64 (at' l k).vid, .int .u64 (at' l k).addr, .int .i64 (at' l k).port, .int .i64 (at' l k).age] 76)) := ⟨_, rfl⟩
        have HXB : Hid (Below wr.heap.size wr X) := by rw [HX.out]; exact below_alloc1 _ _
        have HX5 : Hid (X.heap[wr.heap.size]? = some (.cells #[.int .i64 (at' l k).vid, .int .u64 (at' l k).addr, .int .i64 (at' l k).port, .int .i64 (at' l k).age] 76 (0, 0))) := by rw [HX.out]; exact heap_alloc_last _ _
        have HCL : Hid (Calls Try.prog 53 #[.agg #[.int .i64 (at' l k).vid, .int .u64 (at' l k).addr, .int .i64 (at' l k).port, .int .i64 (at' l k).age]] X fun e w' => e = .returned (.bool (decide (Bk.rng (at' l k)))) ∧ Hid (Below w.heap.size w w' ∧ w'.heap[G]? = some (.cells #[.int .i64 0, .int .i64 0] 33 (0, 0)) ∧ w'.heap[wr.heap.size]? = some (.cells #[.int .i64 (at' l k).vid, .int .u64 (at' l k).addr, .int .i64 (at' l k).port, .int .i64 (at' l k).age] 76 (0, 0)))) := by
          refine (binr_any (at' l k) X).mono ?_
          rintro e w' ⟨rfl, hb⟩
          have y1 : Below w.heap.size w X := hX.out.1.trans (HXB.out.mono hX.out.1.size)
          exact ⟨rfl, y1.trans (hb.mono y1.size), keep (keep hX.out.2 HXB.out) hb, keep HX5.out hb⟩
        have HF1 : Hid (∀ e, e ≠ 0 → Bk.errAt (at' l) k = e → Bk.firstTo (Bk.errAt (at' l)) l.length = (e, (k : Int))) := fun e he h => by
          subst h
          exact Bk.firstTo_stay _ k (by rw [Bk.firstTo_none _ _ hS.out]) he _ hlt
        have HS1 : Hid (Bk.errAt (at' l) k = 0 → ∀ j, j < k + 1 → Bk.errAt (at' l) j = 0) := fun h j hj => by
          by_cases e : j = k
          · subst e; exact h
          · exact hS.out j (by omega)
        obtain ⟨d0, d1, d2, d3⟩ := en_cells HX5.out
        clear hX hS HX5 HXB
        by_cases hg : Bk.rng (at' l k)
        · have hdg : decide (Bk.rng (at' l k)) = true := decide_eq_true hg
          rw [hdg] at HCL
          by_cases hk0 : k = 0
          · have hd0 : decide (0 < k) = false := decide_eq_false (by omega)
            have HS2 : Hid _ := HS1.out (Bk.errAt_zero.2 ⟨hg, fun h => absurd h (by omega)⟩)
            clear HS1 HF1 HRW HN1 hg hdg hk0
            generalize at' l k = x at *
            go_wp2_with fail
            rw [← HX.out]
            refine HCL.out.mono ?_
            rintro e w1 ⟨rfl, hY⟩
            clear d0 d1 d2 d3 c0 c1 c2 c3
            go_wp2_with fail
            go_quiet (fail)
            go_wp2_with fail
            exact ⟨⟨k + 1, by omega, by go_num, HS2, ⟨below_drewN hY.out.1 _, hY.out.2.1⟩⟩, by simp [intOf]; omega⟩
          · obtain ⟨p, hp⟩ : ∃ p, p = k - 1 := ⟨_, rfl⟩
            have wp : IntKind.i64.wrap ((k : Int) - 1) = (p : Int) := by rw [wraps_i64 _ (by omega) (by omega)]; omega
            have k0 : decide (0 < k) = true := decide_eq_true (by omega)
            have ip : (0 : Int) ≤ (p : Int) := by omega
            have np : (p : Int) < (l.length : Int) := by omega
            have hpl : p < l.length := by omega
            have HE2 : Hid (¬ Bk.lt (at' l p) (at' l k) → Bk.errAt (at' l) k = 2) := fun h => by
              show (if ¬ Bk.rng (at' l k) then (3 : Int) else if 0 < k ∧ ¬ Bk.lt (at' l (k - 1)) (at' l k) then 2 else 0) = 2
              rw [if_neg (by simp [hg]), if_pos ⟨by omega, by rw [← hp]; exact h⟩]
            have HE0 : Hid (Bk.lt (at' l p) (at' l k) → Bk.errAt (at' l) k = 0) := fun h => Bk.errAt_zero.2 ⟨hg, fun _ => by rw [← hp]; exact h⟩
            have HRC : Hid (∀ W, Below w.heap.size w W → W.cell? ⟨b, off + p * 4, none⟩ = some (.int .i64 (at' l p).vid) ∧ W.cell? ⟨b, off + p * 4 + 1, none⟩ = some (.int .u64 (at' l p).addr) ∧ W.cell? ⟨b, off + p * 4 + 2, none⟩ = some (.int .i64 (at' l p).port) ∧ W.cell? ⟨b, off + p * 4 + 3, none⟩ = some (.int .i64 (at' l p).age)) := fun W hW => (HRW.out W hW).cells hpl
            have HBE : Hid (∀ W W1, Below W1.heap.size W1 W → Calls Try.prog 54 #[.agg #[.int .i64 (at' l p).vid, .int .u64 (at' l p).addr, .int .i64 (at' l p).port, .int .i64 (at' l p).age], .agg #[.int .i64 (at' l k).vid, .int .u64 (at' l k).addr, .int .i64 (at' l k).port, .int .i64 (at' l k).age]] W fun e w' => e = .returned (.int .i64 (Bk.cmp (at' l p) (at' l k))) ∧ Hid (Below W1.heap.size W1 w')) := fun W W1 hW => (border_any (at' l p) (at' l k) W).mono (fun e w' h => ⟨h.1, hW.trans (h.2.mono hW.size)⟩)
            have HGQ := cmp_geq (at' l p) (at' l k)
            have HQ : Hid (decide (Bk.cmp (at' l p) (at' l k) ≥ 0) = decide (¬ Bk.lt (at' l p) (at' l k))) := HGQ
            clear HGQ hp
            go_wp2_with fail
            rw [← HX.out]
            refine HCL.out.mono ?_
            rintro e w1 ⟨rfl, hY⟩
            clear d0 d1 d2 d3 c0 c1 c2 c3 HRW hg hdg
            have HXX : Hid (Below w1.heap.size w1 w1) := Below.refl _ _
            have HFIN : Hid (∀ W, Below w1.heap.size w1 W → Below w.heap.size w W ∧ W.heap[G]? = some (.cells #[.int .i64 0, .int .i64 0] 33 (0, 0))) := fun W hW => ⟨hY.out.1.trans (hW.mono hY.out.1.size), keep hY.out.2.1 hW⟩
            have HJC : Hid (∀ W, Below w1.heap.size w1 W → (W.cell? ⟨b, off + p * 4, none⟩ = some (.int .i64 (at' l p).vid) ∧ W.cell? ⟨b, off + p * 4 + 1, none⟩ = some (.int .u64 (at' l p).addr) ∧ W.cell? ⟨b, off + p * 4 + 2, none⟩ = some (.int .i64 (at' l p).port) ∧ W.cell? ⟨b, off + p * 4 + 3, none⟩ = some (.int .i64 (at' l p).age)) ∧ W.cell? ⟨wr.heap.size, 0, none⟩ = some (.int .i64 (at' l k).vid) ∧ W.cell? ⟨wr.heap.size, 1, none⟩ = some (.int .u64 (at' l k).addr) ∧ W.cell? ⟨wr.heap.size, 2, none⟩ = some (.int .i64 (at' l k).port) ∧ W.cell? ⟨wr.heap.size, 3, none⟩ = some (.int .i64 (at' l k).age)) := fun W hW => ⟨HRC.out W (HFIN.out W hW).1, en_cells (keep hY.out.2.2 hW)⟩
            obtain ⟨⟨t0, t1, t2, t3⟩, u0, u1, u2, u3⟩ := HJC.out w1 HXX.out
            clear HCL hY HRC
            by_cases hl : Bk.lt (at' l p) (at' l k)
            · have HS2 : Hid _ := HS1.out (HE0.out hl)
              have hq := HQ.out
              rw [decide_eq_false (show ¬ ¬ Bk.lt (at' l p) (at' l k) by simp [hl])] at hq
              clear HS1 HF1 HE0 HE2 HQ hl HN1
              generalize Bk.cmp (at' l p) (at' l k) = cm at *
              generalize at' l p = y at *
              generalize at' l k = x at *
              go_wp2_with fail
              go_region_held3 (fun W => (W.cell? ⟨b, off + p * 4, none⟩ = some (.int .i64 y.vid) ∧ W.cell? ⟨b, off + p * 4 + 1, none⟩ = some (.int .u64 y.addr) ∧ W.cell? ⟨b, off + p * 4 + 2, none⟩ = some (.int .i64 y.port) ∧ W.cell? ⟨b, off + p * 4 + 3, none⟩ = some (.int .i64 y.age)) ∧ W.cell? ⟨wr.heap.size, 0, none⟩ = some (.int .i64 x.vid) ∧ W.cell? ⟨wr.heap.size, 1, none⟩ = some (.int .u64 x.addr) ∧ W.cell? ⟨wr.heap.size, 2, none⟩ = some (.int .i64 x.port) ∧ W.cell? ⟨wr.heap.size, 3, none⟩ = some (.int .i64 x.age))
                (first | (exact HJC.out _ (Below.drew HXX.out)) | (exact HJC.out _ (Hid.out (by assumption))))
                (first | (go_at_call 54; refine (HBE.out _ _ (Below.drew HXX.out)).mono ?_; rintro e w3 ⟨rfl, HB3⟩))
              clear t0 t1 t2 t3 u0 u1 u2 u3
              have HF3 : Hid _ := HFIN.out w3 HB3.out
              clear HFIN HJC HBE
              go_wp2_with fail
              exact ⟨⟨k + 1, by omega, by go_num, HS2, HF3.out⟩, by simp [intOf]; omega⟩
            · have HF2 : Hid _ := HF1.out 2 (by omega) (HE2.out hl)
              have hq := HQ.out
              rw [decide_eq_true hl] at hq
              clear HS1 HF1 HE0 HE2 HQ hl
              generalize Bk.cmp (at' l p) (at' l k) = cm at *
              generalize at' l p = y at *
              generalize at' l k = x at *
              go_wp2_with fail
              go_region_held3 (fun W => (W.cell? ⟨b, off + p * 4, none⟩ = some (.int .i64 y.vid) ∧ W.cell? ⟨b, off + p * 4 + 1, none⟩ = some (.int .u64 y.addr) ∧ W.cell? ⟨b, off + p * 4 + 2, none⟩ = some (.int .i64 y.port) ∧ W.cell? ⟨b, off + p * 4 + 3, none⟩ = some (.int .i64 y.age)) ∧ W.cell? ⟨wr.heap.size, 0, none⟩ = some (.int .i64 x.vid) ∧ W.cell? ⟨wr.heap.size, 1, none⟩ = some (.int .u64 x.addr) ∧ W.cell? ⟨wr.heap.size, 2, none⟩ = some (.int .i64 x.port) ∧ W.cell? ⟨wr.heap.size, 3, none⟩ = some (.int .i64 x.age))
                (first | (exact HJC.out _ (Below.drew HXX.out)) | (exact HJC.out _ (Hid.out (by assumption))))
                (first | (go_at_call 54; refine (HBE.out _ _ (Below.drew HXX.out)).mono ?_; rintro e w3 ⟨rfl, HB3⟩))
              clear t0 t1 t2 t3 u0 u1 u2 u3
              have HF3 : Hid _ := HFIN.out w3 HB3.out
              obtain ⟨f0, f1, f2, f3⟩ := bfa_cells HF3.out.2
              clear HFIN HJC HBE
              go_wp2_with fail
              exact bodyPost_ret (v := .agg #[.int .i64 2, .int .i64 (k : Int)]) (results_row (p := 2) (ty := 33) Try.results28 _ _ G 33 #[.int .i64 2, .int .i64 (k : Int)] (0, 0) _ rfl (bfa_set HF3.out.2) Try.underlying33 rfl (by rw [bsizeFa]; rfl)) rfl ⟨by rw [HN1.out, HF2.out], (HF3.out.1.setCell hGM _).setCell hGM _⟩
        · have hdg : decide (Bk.rng (at' l k)) = false := decide_eq_false hg
          rw [hdg] at HCL
          have HF2 : Hid _ := HF1.out 3 (by omega) (if_pos hg)
          clear HS1 HF1 HRW hg hdg
          generalize at' l k = x at *
          go_wp2_with fail
          rw [← HX.out]
          refine HCL.out.mono ?_
          rintro e w1 ⟨rfl, hY⟩
          obtain ⟨f0, f1, f2, f3⟩ := bfa_cells hY.out.2.1
          clear d0 d1 d2 d3 c0 c1 c2 c3
          go_wp2_with fail
          exact bodyPost_ret (v := .agg #[.int .i64 3, .int .i64 (k : Int)]) (results_row (p := 2) (ty := 33) Try.results28 _ _ G 33 #[.int .i64 3, .int .i64 (k : Int)] (0, 0) _ rfl (bfa_set hY.out.2.1) Try.underlying33 rfl (by rw [bsizeFa]; rfl)) rfl ⟨by rw [HN1.out, HF2.out], (hY.out.1.setCell hGM _).setCell hGM _⟩
      · obtain rfl : k = l.length := by omega
        have HF2 : Hid (Bk.firstTo (Bk.errAt (at' l)) l.length = (0, 0)) := Bk.firstTo_none _ _ hS.out
        obtain ⟨f0, f1, f2, f3⟩ := bfa_cells hX.out.2
        clear HRW
        go_wp2_with fail
        exact bodyPost_ret (v := .agg #[.int .i64 0, .int .i64 0]) (results_row (p := 2) (ty := 33) Try.results28 _ _ G 33 #[.int .i64 0, .int .i64 0] (0, 0) _ rfl (bfa_set hX.out.2) Try.underlying33 rfl (by rw [bsizeFa]; rfl)) rfl ⟨by rw [HN1.out, HF2.out], (hX.out.1.setCell hGM _).setCell hGM _⟩
end Go.Proofs.Ytgkmaihleilchaa
