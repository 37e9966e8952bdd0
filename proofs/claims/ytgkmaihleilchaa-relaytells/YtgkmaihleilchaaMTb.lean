/- walks: the document's Learn (hedgeref8); by tools/gen_rlearn8.py -/
import Derived.Test.YtgkmaihleilchaaW1
import Derived.Test.YtgkmaihleilchaaBRa
import Derived.Test.YtgkmaihleilchaaBMd3
namespace Go.Proofs.Ytgkmaihleilchaa
open Go.RowKit

set_option maxHeartbeats 2000000 in
theorem rwrong2_any (d s : Int) (t : Bool) (p : Int) (dr : Bool) (v y : Int) (ao : Option Addr) (n c : Nat) (w : World) (h0 : 0 ≤ s) :
    Calls Try.prog 20 #[.agg #[.int .u64 d, .int .u64 s, .bool t, .int .i64 p, .bool dr, .int .i64 v, .int .i64 y, .slice ao n c]] w fun e w' => e = .returned (.int .i64 (wrong d s t p v y n)) ∧ Below w.heap.size w w' := by
  unfold wrong
  by_cases c1 : 281474976710655 < d ∨ 281474976710655 < s
  · rw [if_pos c1]
    by_cases c2 : (281474976710656 : Int) ≤ d
    · clear c1
      go_enter Try.func20, Try.ntmps20
      go_wp2
      go_ret
      exact ⟨rfl, below_alloc1 _ _⟩
    · have c3 : (281474976710656 : Int) ≤ s := by omega
      clear c1
      go_enter Try.func20, Try.ntmps20
      go_wp2
      go_ret
      exact ⟨rfl, below_alloc1 _ _⟩
  · rw [if_neg c1]
    have c2 : ¬ (281474976710656 : Int) ≤ d := by omega
    have c3 : ¬ (281474976710656 : Int) ≤ s := by omega
    clear c1
    by_cases c4 : s / 1099511627776 % 2 = 1
    · rw [if_pos c4]
      go_enter Try.func20, Try.ntmps20
      go_wp2
      go_ret
      exact ⟨rfl, below_alloc1 _ _⟩
    · rw [if_neg c4]
      have c4b : (s / 1099511627776 % 2 == 1) = false := by simp [c4]
      by_cases c5 : t = true ∧ ¬ ((0 ≤ v ∧ v ≤ 4094) ∧ 0 ≤ p ∧ p ≤ 7)
      · rw [if_pos c5]
        obtain ⟨rfl, c6⟩ := c5
        by_cases v1 : v < 0
        · go_enter Try.func20, Try.ntmps20
          go_wp2
          go_ret
          exact ⟨rfl, below_alloc1 _ _⟩
        · by_cases v2 : 4094 < v
          · go_enter Try.func20, Try.ntmps20
            go_wp2
            go_ret
            exact ⟨rfl, below_alloc1 _ _⟩
          · by_cases v3 : p < 0
            · go_enter Try.func20, Try.ntmps20
              go_wp2
              go_ret
              exact ⟨rfl, below_alloc1 _ _⟩
            · have v4 : 7 < p := by omega
              go_enter Try.func20, Try.ntmps20
              go_wp2
              go_ret
              exact ⟨rfl, below_alloc1 _ _⟩
      · rw [if_neg c5]
        have ct : t = true → (¬ v < 0) ∧ (¬ 4094 < v) ∧ (¬ p < 0) ∧ (¬ 7 < p) := fun e => by
          by_cases q : (0 ≤ v ∧ v ≤ 4094) ∧ 0 ≤ p ∧ p ≤ 7
          · omega
          · exact absurd ⟨e, q⟩ c5
        clear c5
        by_cases c6 : (1536 ≤ y ∧ y ≤ 65535) ∧ y ≠ 33024
        · rw [if_neg (fun h => h c6)]
          have y1 : ¬ y < 1536 := by omega
          have y2 : ¬ 65535 < y := by omega
          have y3 : ¬ y = 33024 := by omega
          have y4 : (y == 33024) = false := by simp [y3]
          clear c6
          by_cases c8 : (1500 : Int) < n
          · have c9 : 1500 < n := by omega
            rw [if_pos c9]
            clear c9
            cases t with
            | false =>
              go_enter Try.func20, Try.ntmps20
              go_wp2
              go_ret
              exact ⟨rfl, below_alloc1 _ _⟩
            | true =>
              obtain ⟨t1, t2, t3, t4⟩ := ct rfl
              go_enter Try.func20, Try.ntmps20
              go_wp2
              go_ret
              exact ⟨rfl, below_alloc1 _ _⟩
          · have c9 : ¬ 1500 < n := by omega
            rw [if_neg c9]
            clear c9
            cases t with
            | false =>
              go_enter Try.func20, Try.ntmps20
              go_wp2
              go_ret
              exact ⟨rfl, below_alloc1 _ _⟩
            | true =>
              obtain ⟨t1, t2, t3, t4⟩ := ct rfl
              go_enter Try.func20, Try.ntmps20
              go_wp2
              go_ret
              exact ⟨rfl, below_alloc1 _ _⟩
        · rw [if_pos c6]
          cases t with
          | false =>
            by_cases y1 : y < 1536
            · go_enter Try.func20, Try.ntmps20
              go_wp2
              go_ret
              exact ⟨rfl, below_alloc1 _ _⟩
            · by_cases y2 : 65535 < y
              · go_enter Try.func20, Try.ntmps20
                go_wp2
                go_ret
                exact ⟨rfl, below_alloc1 _ _⟩
              · obtain rfl : y = 33024 := by omega
                go_enter Try.func20, Try.ntmps20
                go_wp2
                go_ret
                exact ⟨rfl, below_alloc1 _ _⟩
          | true =>
            obtain ⟨t1, t2, t3, t4⟩ := ct rfl
            by_cases y1 : y < 1536
            · go_enter Try.func20, Try.ntmps20
              go_wp2
              go_ret
              exact ⟨rfl, below_alloc1 _ _⟩
            · by_cases y2 : 65535 < y
              · go_enter Try.func20, Try.ntmps20
                go_wp2
                go_ret
                exact ⟨rfl, below_alloc1 _ _⟩
              · obtain rfl : y = 33024 := by omega
                go_enter Try.func20, Try.ntmps20
                go_wp2
                go_ret
                exact ⟨rfl, below_alloc1 _ _⟩
end Go.Proofs.Ytgkmaihleilchaa

namespace Go.Proofs.Ytgkmaihleilchaa
open Go.RowKit
open Bk (E at')

set_option maxRecDepth 100000 in
set_option maxHeartbeats 4000000 in
theorem rwrong8_any (ao : Option Addr) (cap : Nat) (l : List E) (w : World) (hn : l.length ≤ 9223372036854775807) (hr : BEL w ao cap l) :
    Calls Try.prog 40 #[.slice ao l.length cap] w fun e w' => e = .returned (faV (Bk.wrong (at' l) l.length)) ∧ Below w.heap.size w w' := by
  have HRW : Hid (∀ W, Below w.heap.size w W → BEL W ao cap l) := fun W hW => BEL.below hr hW
  have hcap : l.length ≤ cap := hr.1
  clear hr
  obtain ⟨G, HG⟩ : ∃ G, Hid (G = w.heap.size) := ⟨_, rfl⟩
  have HI : Hid (∀ W, W = w.alloc (.cells #[.int .i64 0, .int .i64 0] 33) → Below w.heap.size w W ∧ W.heap[G]? = some (.cells #[.int .i64 0, .int .i64 0] 33 (0, 0))) := by
    intro W hW
    rw [hW, HG.out]
    exact ⟨below_alloc1 _ _, heap_alloc_last _ _⟩
  have hGM : w.heap.size ≤ G := by rw [HG.out]; exact Nat.le_refl _
  have HZ : Hid (30 < l.length → Bk.wrong (at' l) l.length = (5, 0)) := fun h => if_pos h
  have HN : Hid (¬ 30 < l.length → Bk.wrong (at' l) l.length = Bk.firstTo (Bk.errAt (at' l)) l.length) := fun h => if_neg h
  by_cases h30 : 30 < l.length
  · have HZ1 : Hid _ := HZ.out h30
    have h30z : (30 : Int) < (l.length : Int) := by omega
    clear HI HZ HN
    go_enter Try.func40, Try.ntmps40
    go_wp2_with fail
    exact bodyPost_ret (v := .agg #[.int .i64 5, .int .i64 0]) (results_row (p := 2) (ty := 33) Try.results40 _ _ w.heap.size 33 #[.int .i64 5, .int .i64 0] (0, 0) _ rfl (heap_alloc_last _ _) Try.underlying33 rfl (by rw [bsizeFa]; rfl)) rfl ⟨by rw [HZ1.out], below_alloc1 _ _⟩
  · have HN1 : Hid _ := HN.out h30
    have h30z : ¬ (30 : Int) < (l.length : Int) := by omega
    clear HZ HN
    go_enter Try.func40, Try.ntmps40
    go_wp2_with fail
    rw [← HG.out]
    go_loopw [11] (fun i wr => ∃ k : Nat, k ≤ l.length ∧ i = .int .i64 k ∧ Hid (∀ j, j < k → Bk.errAt (at' l) j = 0) ∧ Hid (Below w.heap.size w wr ∧ wr.heap[G]? = some (.cells #[.int .i64 0, .int .i64 0] 33 (0, 0)))) (fun i _ => l.length - (intOf i).toNat)
    case atStart => exact ⟨0, by omega, rfl, (fun j hj => absurd hj (by omega)), HI.out _ rfl⟩
    case round =>
      obtain ⟨k, hk, rfl, hS, hX⟩ := hrel
      clear HI
      by_cases hlt : k < l.length
      · obtain ⟨b, off, rfl, _⟩ := (HRW.out wr hX.out.1).place (by omega)
        obtain ⟨c0, c1, c2, c3⟩ := (HRW.out wr hX.out.1).cells hlt
        obtain ⟨X, HX⟩ : ∃ X, Hid (X = wr.alloc (.cells #[.int .i64 (at' l k).vid, .int .u64 (at' l k).addr, .int .i64 (at' l k).port, .int .i64 (at' l k).age] 76)) := ⟨_, rfl⟩
        have HX9 : Hid (Below w.heap.size w X ∧ X.heap[G]? = some (.cells #[.int .i64 0, .int .i64 0] 33 (0, 0)) ∧ X.heap[wr.heap.size]? = some (.cells #[.int .i64 (at' l k).vid, .int .u64 (at' l k).addr, .int .i64 (at' l k).port, .int .i64 (at' l k).age] 76 (0, 0))) := by
          have hb : Below wr.heap.size wr X := by rw [HX.out]; exact below_alloc1 _ _
          have y1 : Below w.heap.size w X := hX.out.1.trans (hb.mono hX.out.1.size)
          exact ⟨y1, keep hX.out.2 hb, by rw [HX.out]; exact heap_alloc_last _ _⟩
        have HF1 : Hid (∀ e, e ≠ 0 → Bk.errAt (at' l) k = e → Bk.firstTo (Bk.errAt (at' l)) l.length = (e, (k : Int))) := fun e he h => by
          subst h
          exact Bk.firstTo_stay _ k (by rw [Bk.firstTo_none _ _ hS.out]) he _ hlt
        have HS1 : Hid (Bk.errAt (at' l) k = 0 → ∀ j, j < k + 1 → Bk.errAt (at' l) j = 0) := fun h j hj => by
          by_cases e : j = k
          · subst e; exact h
          · exact hS.out j (by omega)
        have HNR : Hid (¬ Bk.rng (at' l k) → Bk.firstTo (Bk.errAt (at' l)) l.length = (3, (k : Int))) := fun h => HF1.out 3 (by omega) (if_pos h)
        obtain ⟨f0, f1, f2, f3⟩ := bfa_cells hX.out.2
        have hGl : G < wr.heap.size := block_lt_of_cell f0
        have HRG : Hid (Bk.rng (at' l k) ↔ (1 ≤ (at' l k).vid ∧ (at' l k).vid ≤ 4094) ∧ (at' l k).addr ≤ 281474976710655 ∧ (0 ≤ (at' l k).port ∧ (at' l k).port ≤ 30) ∧ (0 ≤ (at' l k).age ∧ (at' l k).age ≤ 300)) := Iff.rfl
        have HWR : Hid (Below w.heap.size w wr ∧ wr.heap[G]? = some (.cells #[.int .i64 0, .int .i64 0] 33 (0, 0))) := hX
        clear hX hS
        by_cases q1 : 1 ≤ (at' l k).vid
        · by_cases q2 : (at' l k).vid ≤ 4094
          · by_cases q3 : (at' l k).addr ≤ 281474976710655
            · by_cases q4 : 0 ≤ (at' l k).port
              · by_cases q5 : (at' l k).port ≤ 30
                · by_cases q6 : 0 ≤ (at' l k).age
                  · by_cases q7 : (at' l k).age ≤ 300
                    · have hg : Bk.rng (at' l k) := HRG.out.2 (by omega)
                      clear HNR HRG
                      by_cases hk0 : k = 0
                      · have hd0 : decide (0 < k) = false := decide_eq_false (by omega)
                        have HS2 : Hid _ := HS1.out (Bk.errAt_zero.2 ⟨hg, fun h => absurd h (by omega)⟩)
                        clear HS1 HF1 HRW HN1 hg hk0
                        generalize at' l k = x at *
                        go_wp2_with fail
                        rw [← HX.out]
                        clear c0 c1 c2 c3 f0 f1 f2 f3
                        go_quiet (fail)
                        go_wp2_with fail
                        exact ⟨⟨k + 1, by omega, by go_num, HS2, ⟨below_drewN HX9.out.1 _, HX9.out.2.1⟩⟩, by simp [intOf]; omega⟩
                      · obtain ⟨p, hp⟩ : ∃ p, p = k - 1 := ⟨_, rfl⟩
                        have wp : IntKind.i64.wrap ((k : Int) - 1) = (p : Int) := by rw [wraps_i64 _ (by omega) (by omega)]; omega
                        have k0 : decide (0 < k) = true := decide_eq_true (by omega)
                        have ip : (0 : Int) ≤ (p : Int) := by omega
                        have np : (p : Int) < (l.length : Int) := by omega
                        have hpl : p < l.length := by omega
                        have HE2 : Hid (¬ Bk.lt (at' l p) (at' l k) → Bk.errAt (at' l) k = 2) := fun h => by
                          show (if ¬ Bk.rng (at' l k) then (3 : Int) else if 0 < k ∧ ¬ Bk.lt (at' l (k - 1)) (at' l k) then 2 else 0) = 2
                          rw [if_neg (by simp [hg]), if_pos ⟨by omega, by rw [← hp]; exact h⟩]
                        have HE0 : Hid (Bk.lt (at' l p) (at' l k) → Bk.errAt (at' l) k = 0) := fun h => Bk.errAt_zero.2 ⟨hg, fun _ => by rw [← hp]; exact h⟩
                        have HXX : Hid (Below X.heap.size X X) := Below.refl _ _
                        have HBE : Hid (∀ W, Below X.heap.size X W → Calls Try.prog 63 #[.agg #[.int .i64 (at' l p).vid, .int .u64 (at' l p).addr, .int .i64 (at' l p).port, .int .i64 (at' l p).age], .agg #[.int .i64 (at' l k).vid, .int .u64 (at' l k).addr, .int .i64 (at' l k).port, .int .i64 (at' l k).age]] W fun e w' => e = .returned (.bool (Bk.ltb (at' l p) (at' l k))) ∧ Hid (Below X.heap.size X w')) := fun W hW => (rahead_any (at' l p) (at' l k) W).mono (fun e w' h => ⟨h.1, hW.trans (h.2.mono hW.size)⟩)
                        have HFIN : Hid (∀ W, Below X.heap.size X W → Below w.heap.size w W ∧ W.heap[G]? = some (.cells #[.int .i64 0, .int .i64 0] 33 (0, 0))) := fun W hW => ⟨HX9.out.1.trans (hW.mono HX9.out.1.size), keep HX9.out.2.1 hW⟩
                        have HJC : Hid (∀ W, Below X.heap.size X W → (W.cell? ⟨b, off + p * 4, none⟩ = some (.int .i64 (at' l p).vid) ∧ W.cell? ⟨b, off + p * 4 + 1, none⟩ = some (.int .u64 (at' l p).addr) ∧ W.cell? ⟨b, off + p * 4 + 2, none⟩ = some (.int .i64 (at' l p).port) ∧ W.cell? ⟨b, off + p * 4 + 3, none⟩ = some (.int .i64 (at' l p).age)) ∧ W.cell? ⟨wr.heap.size, 0, none⟩ = some (.int .i64 (at' l k).vid) ∧ W.cell? ⟨wr.heap.size, 1, none⟩ = some (.int .u64 (at' l k).addr) ∧ W.cell? ⟨wr.heap.size, 2, none⟩ = some (.int .i64 (at' l k).port) ∧ W.cell? ⟨wr.heap.size, 3, none⟩ = some (.int .i64 (at' l k).age)) := fun W hW => ⟨(HRW.out W (HFIN.out W hW).1).cells hpl, en_cells (keep HX9.out.2.2 hW)⟩
                        obtain ⟨⟨t0, t1, t2, t3⟩, u0, u1, u2, u3⟩ := HJC.out X HXX.out
                        clear hp hg HRW f0 f1 f2 f3
                        by_cases hl : Bk.lt (at' l p) (at' l k)
                        · have HS2 : Hid _ := HS1.out (HE0.out hl)
                          rw [show Bk.ltb (at' l p) (at' l k) = true from decide_eq_true hl] at HBE
                          clear HS1 HF1 HE0 HE2 hl HN1
                          generalize at' l p = y at *
                          generalize at' l k = x at *
                          go_wp2_with fail
                          rw [← HX.out]
                          clear c0 c1 c2 c3
                          go_region_held3 (fun W => (W.cell? ⟨b, off + p * 4, none⟩ = some (.int .i64 y.vid) ∧ W.cell? ⟨b, off + p * 4 + 1, none⟩ = some (.int .u64 y.addr) ∧ W.cell? ⟨b, off + p * 4 + 2, none⟩ = some (.int .i64 y.port) ∧ W.cell? ⟨b, off + p * 4 + 3, none⟩ = some (.int .i64 y.age)) ∧ W.cell? ⟨wr.heap.size, 0, none⟩ = some (.int .i64 x.vid) ∧ W.cell? ⟨wr.heap.size, 1, none⟩ = some (.int .u64 x.addr) ∧ W.cell? ⟨wr.heap.size, 2, none⟩ = some (.int .i64 x.port) ∧ W.cell? ⟨wr.heap.size, 3, none⟩ = some (.int .i64 x.age))
                            (first | (exact HJC.out _ (Below.drew HXX.out)) | (exact HJC.out _ (Hid.out (by assumption))))
                            (first | (go_at_call 63; refine (HBE.out _ (Below.drew HXX.out)).mono ?_; rintro e w3 ⟨rfl, HB3⟩))
                          clear t0 t1 t2 t3 u0 u1 u2 u3
                          have HF3 : Hid _ := HFIN.out w3 HB3.out
                          clear HFIN HJC HBE
                          go_wp2_with fail
                          exact ⟨⟨k + 1, by omega, by go_num, HS2, HF3.out⟩, by simp [intOf]; omega⟩
                        · have HF2 : Hid _ := HF1.out 2 (by omega) (HE2.out hl)
                          rw [show Bk.ltb (at' l p) (at' l k) = false from decide_eq_false hl] at HBE
                          clear HS1 HF1 HE0 HE2 hl
                          generalize at' l p = y at *
                          generalize at' l k = x at *
                          go_wp2_with fail
                          rw [← HX.out]
                          clear c0 c1 c2 c3
                          go_region_held3 (fun W => (W.cell? ⟨b, off + p * 4, none⟩ = some (.int .i64 y.vid) ∧ W.cell? ⟨b, off + p * 4 + 1, none⟩ = some (.int .u64 y.addr) ∧ W.cell? ⟨b, off + p * 4 + 2, none⟩ = some (.int .i64 y.port) ∧ W.cell? ⟨b, off + p * 4 + 3, none⟩ = some (.int .i64 y.age)) ∧ W.cell? ⟨wr.heap.size, 0, none⟩ = some (.int .i64 x.vid) ∧ W.cell? ⟨wr.heap.size, 1, none⟩ = some (.int .u64 x.addr) ∧ W.cell? ⟨wr.heap.size, 2, none⟩ = some (.int .i64 x.port) ∧ W.cell? ⟨wr.heap.size, 3, none⟩ = some (.int .i64 x.age))
                            (first | (exact HJC.out _ (Below.drew HXX.out)) | (exact HJC.out _ (Hid.out (by assumption))))
                            (first | (go_at_call 63; refine (HBE.out _ (Below.drew HXX.out)).mono ?_; rintro e w3 ⟨rfl, HB3⟩))
                          clear t0 t1 t2 t3 u0 u1 u2 u3
                          have HF3 : Hid _ := HFIN.out w3 HB3.out
                          obtain ⟨g0, g1, g2, g3⟩ := bfa_cells HF3.out.2
                          clear HFIN HJC HBE
                          go_wp2_with fail
                          exact bodyPost_ret (v := .agg #[.int .i64 2, .int .i64 (k : Int)]) (results_row (p := 2) (ty := 33) Try.results40 _ _ G 33 #[.int .i64 2, .int .i64 (k : Int)] (0, 0) _ rfl (bfa_set HF3.out.2) Try.underlying33 rfl (by rw [bsizeFa]; rfl)) rfl ⟨by rw [HN1.out, HF2.out], (HF3.out.1.setCell hGM _).setCell hGM _⟩
                    · have HF2 : Hid _ := HNR.out (fun h => by have := HRG.out.1 h; omega)
                      clear HS1 HF1 HRW HRG HNR
                      generalize at' l k = x at *
                      go_wp2_with fail
                      exact bodyPost_ret (v := .agg #[.int .i64 3, .int .i64 (k : Int)]) (results_row (p := 2) (ty := 33) Try.results40 _ _ G 33 #[.int .i64 3, .int .i64 (k : Int)] (0, 0) _ rfl (keep (bfa_set HWR.out.2) (below_alloc1 _ _)) Try.underlying33 rfl (by rw [bsizeFa]; rfl)) rfl ⟨by rw [HN1.out, HF2.out], ((HWR.out.1.setCell hGM _).setCell hGM _).alloc ((HWR.out.1.setCell hGM _).setCell hGM _).size _⟩
                  · have HF2 : Hid _ := HNR.out (fun h => by have := HRG.out.1 h; omega)
                    clear HS1 HF1 HRW HRG HNR
                    generalize at' l k = x at *
                    go_wp2_with fail
                    exact bodyPost_ret (v := .agg #[.int .i64 3, .int .i64 (k : Int)]) (results_row (p := 2) (ty := 33) Try.results40 _ _ G 33 #[.int .i64 3, .int .i64 (k : Int)] (0, 0) _ rfl (keep (bfa_set HWR.out.2) (below_alloc1 _ _)) Try.underlying33 rfl (by rw [bsizeFa]; rfl)) rfl ⟨by rw [HN1.out, HF2.out], ((HWR.out.1.setCell hGM _).setCell hGM _).alloc ((HWR.out.1.setCell hGM _).setCell hGM _).size _⟩
                · have HF2 : Hid _ := HNR.out (fun h => by have := HRG.out.1 h; omega)
                  clear HS1 HF1 HRW HRG HNR
                  generalize at' l k = x at *
                  go_wp2_with fail
                  exact bodyPost_ret (v := .agg #[.int .i64 3, .int .i64 (k : Int)]) (results_row (p := 2) (ty := 33) Try.results40 _ _ G 33 #[.int .i64 3, .int .i64 (k : Int)] (0, 0) _ rfl (keep (bfa_set HWR.out.2) (below_alloc1 _ _)) Try.underlying33 rfl (by rw [bsizeFa]; rfl)) rfl ⟨by rw [HN1.out, HF2.out], ((HWR.out.1.setCell hGM _).setCell hGM _).alloc ((HWR.out.1.setCell hGM _).setCell hGM _).size _⟩
              · have HF2 : Hid _ := HNR.out (fun h => by have := HRG.out.1 h; omega)
                clear HS1 HF1 HRW HRG HNR
                generalize at' l k = x at *
                go_wp2_with fail
                exact bodyPost_ret (v := .agg #[.int .i64 3, .int .i64 (k : Int)]) (results_row (p := 2) (ty := 33) Try.results40 _ _ G 33 #[.int .i64 3, .int .i64 (k : Int)] (0, 0) _ rfl (keep (bfa_set HWR.out.2) (below_alloc1 _ _)) Try.underlying33 rfl (by rw [bsizeFa]; rfl)) rfl ⟨by rw [HN1.out, HF2.out], ((HWR.out.1.setCell hGM _).setCell hGM _).alloc ((HWR.out.1.setCell hGM _).setCell hGM _).size _⟩
            · have HF2 : Hid _ := HNR.out (fun h => by have := HRG.out.1 h; omega)
              clear HS1 HF1 HRW HRG HNR
              generalize at' l k = x at *
              go_wp2_with fail
              exact bodyPost_ret (v := .agg #[.int .i64 3, .int .i64 (k : Int)]) (results_row (p := 2) (ty := 33) Try.results40 _ _ G 33 #[.int .i64 3, .int .i64 (k : Int)] (0, 0) _ rfl (keep (bfa_set HWR.out.2) (below_alloc1 _ _)) Try.underlying33 rfl (by rw [bsizeFa]; rfl)) rfl ⟨by rw [HN1.out, HF2.out], ((HWR.out.1.setCell hGM _).setCell hGM _).alloc ((HWR.out.1.setCell hGM _).setCell hGM _).size _⟩
          · have HF2 : Hid _ := HNR.out (fun h => by have := HRG.out.1 h; omega)
            clear HS1 HF1 HRW HRG HNR
            generalize at' l k = x at *
            go_wp2_with fail
            exact bodyPost_ret (v := .agg #[.int .i64 3, .int .i64 (k : Int)]) (results_row (p := 2) (ty := 33) Try.results40 _ _ G 33 #[.int .i64 3, .int .i64 (k : Int)] (0, 0) _ rfl (keep (bfa_set HWR.out.2) (below_alloc1 _ _)) Try.underlying33 rfl (by rw [bsizeFa]; rfl)) rfl ⟨by rw [HN1.out, HF2.out], ((HWR.out.1.setCell hGM _).setCell hGM _).alloc ((HWR.out.1.setCell hGM _).setCell hGM _).size _⟩
        · have HF2 : Hid _ := HNR.out (fun h => by have := HRG.out.1 h; omega)
          clear HS1 HF1 HRW HRG HNR
          generalize at' l k = x at *
          go_wp2_with fail
          exact bodyPost_ret (v := .agg #[.int .i64 3, .int .i64 (k : Int)]) (results_row (p := 2) (ty := 33) Try.results40 _ _ G 33 #[.int .i64 3, .int .i64 (k : Int)] (0, 0) _ rfl (keep (bfa_set HWR.out.2) (below_alloc1 _ _)) Try.underlying33 rfl (by rw [bsizeFa]; rfl)) rfl ⟨by rw [HN1.out, HF2.out], ((HWR.out.1.setCell hGM _).setCell hGM _).alloc ((HWR.out.1.setCell hGM _).setCell hGM _).size _⟩
      · obtain rfl : k = l.length := by omega
        have HF2 : Hid (Bk.firstTo (Bk.errAt (at' l)) l.length = (0, 0)) := Bk.firstTo_none _ _ hS.out
        obtain ⟨f0, f1, f2, f3⟩ := bfa_cells hX.out.2
        clear HRW
        go_wp2_with fail
        exact bodyPost_ret (v := .agg #[.int .i64 0, .int .i64 0]) (results_row (p := 2) (ty := 33) Try.results40 _ _ G 33 #[.int .i64 0, .int .i64 0] (0, 0) _ rfl (bfa_set hX.out.2) Try.underlying33 rfl (by rw [bsizeFa]; rfl)) rfl ⟨by rw [HN1.out, HF2.out], (hX.out.1.setCell hGM _).setCell hGM _⟩
end Go.Proofs.Ytgkmaihleilchaa

namespace Go.Proofs.Ytgkmaihleilchaa
open Go.RowKit
open Bk (E at')

/-- What the loop keeps. -/
def RLn (W0 W : World) (v : Value) (m : Nat) (pu ha : Bool) (l : List E) (s : E) (k : Nat) : Prop :=
  m = (Bk.outK l s k).length ∧ pu = Bk.putK l s k ∧ ha = Bk.hadK l s k ∧ OwnE W W0.heap.size v (Bk.outK l s k) ∧ Below W0.heap.size W0 W
/-- The same book, or a row of the call's own. -/
def BkD (w' : World) (base : Nat) (ao : Option Addr) (cap : Nat) (l : List E) (a : Option Addr) (c : Nat) (m : List E) : Prop := (a = ao ∧ c = cap ∧ m = l) ∨ OwnE w' base (.slice a m.length c) m
set_option maxRecDepth 100000 in
set_option maxHeartbeats 8000000 in
theorem rlearn8_own (ao : Option Addr) (cap : Nat) (l : List E) (vid addr port : Int) (w : World) (hbk : Bk.Book l) (hr : BEL w ao cap l) (h0 : 0 ≤ addr) (h1 : addr < 18446744073709551616) :
    Calls Try.prog 41 #[.slice ao l.length cap, .int .i64 vid, .int .u64 addr, .int .i64 port] w fun e w' => ∃ a c, e = .returned (.slice a (Bk.learn l ⟨vid, addr, port, 0⟩).length c) ∧ BEL w' a c (Bk.learn l ⟨vid, addr, port, 0⟩) ∧ Below w.heap.size w w' ∧ BkD w' w.heap.size ao cap l a c (Bk.learn l ⟨vid, addr, port, 0⟩) := by
  have hn := hbk.many
  have hcap : l.length ≤ cap := hr.1
  have HBK : Hid (Bk.Book l) := hbk
  have HRW : Hid (∀ W, Below w.heap.size w W → BEL W ao cap l) := fun W hW => BEL.below hr hW
  obtain ⟨s, hs⟩ : ∃ s : E, s = ⟨vid, addr, port, 0⟩ := ⟨_, rfl⟩
  have HSF : Hid (s.vid = vid ∧ s.addr = addr ∧ s.port = port ∧ s.age = 0) := by rw [hs]; exact ⟨rfl, rfl, rfl, rfl⟩
  have d1 : Int.tdiv addr 1099511627776 = addr / 1099511627776 := Int.tdiv_eq_ediv_of_nonneg h0
  have d2 : Int.tmod (addr / 1099511627776) 2 = addr / 1099511627776 % 2 := Int.tmod_eq_emod_of_nonneg (by omega)
  rw [← hs]
  have HNOT : Hid (¬ Bk.may s → Bk.learn l s = l) := fun h => if_pos (Or.inl h)
  have HMY : Hid (Bk.may s ↔ ((1 ≤ vid ∧ vid ≤ 4094) ∧ addr ≤ 281474976710655 ∧ (0 ≤ port ∧ port ≤ 30)) ∧ addr / 1099511627776 % 2 = 0) := by
    rw [hs]
    show (_ ∧ _) ↔ _
    unfold Bk.rng
    simp only
    omega
  have HSE : Hid (s = ⟨vid, addr, port, 0⟩) := hs
  clear hbk hr hs
  by_cases p1 : addr / 1099511627776 % 2 = 0
  · have e0 : (addr / 1099511627776 % 2 == 1) = false := by simp [p1]
    by_cases p2 : addr ≤ 281474976710655
    · by_cases p3 : 1 ≤ vid
      · by_cases p4 : vid ≤ 4094
        · by_cases p5 : 0 ≤ port
          · by_cases p6 : port ≤ 30
            · have hm : Bk.may s := HMY.out.2 (by omega)
              clear HNOT HMY
              obtain ⟨W0, HW0⟩ : ∃ W0, Hid (W0 = w.alloc (.cells #[.int .i64 vid, .int .u64 addr, .int .i64 port, .int .i64 0] 76)) := ⟨_, rfl⟩
              have HB0 : Hid (Below w.heap.size w W0) := by rw [HW0.out]; exact below_alloc1 _ _
              have HS0 : Hid (∀ W, Below W0.heap.size W0 W → W.heap[w.heap.size]? = some (.cells #[.int .i64 vid, .int .u64 addr, .int .i64 port, .int .i64 0] 76 (0, 0))) := fun W hW => by
                rw [HW0.out] at hW
                exact keep (heap_alloc_last w _) hW
              have HRL : Hid (∀ W, Below W0.heap.size W0 W → Below w.heap.size w W) := fun W hW => HB0.out.trans (hW.mono HB0.out.size)
              have HEND : Hid (∀ W, Below W0.heap.size W0 W → Bk.hadK l s l.length = false → 30 ≤ l.length → Bk.learn l s = l ∧ BEL W ao cap l ∧ Below w.heap.size w W) := fun W hW h h' => by
                have hk : ¬ Bk.Known l s := by
                  have := of_decide_eq_false h
                  rwa [List.take_length] at this
                exact ⟨if_pos (Or.inr ⟨hk, h'⟩), HRW.out W (HRL.out W hW), HRL.out W hW⟩
              have HENL : Hid ((Bk.hadK l s l.length = true ∨ l.length < 30) → Bk.learn l s = Bk.lo l s ++ s :: Bk.hi l s) := fun h => by
                refine if_neg (fun q => q.elim (fun q => q hm) (fun q => ?_))
                rcases h with h | h
                · have := of_decide_eq_true h
                  rw [List.take_length] at this
                  exact q.1 this
                · omega
              clear hm
              go_enter Try.func41, Try.ntmps41
              go_wp2_with fail
              rw [← HW0.out]
              go_loopw [10, 11, 12, 46] (fun o pu ha i wr => ∃ (k : Nat) (a : Option Addr) (m c : Nat) (pb hb : Bool), k ≤ l.length ∧ i = .int .i64 k ∧ o = .slice a m c ∧ pu = .bool pb ∧ ha = .bool hb ∧ Hid (RLn W0 wr (.slice a m c) m pb hb l s k)) (fun _ _ _ i _ => l.length - (intOf i).toNat)
              case atStart => exact ⟨0, none, 0, 0, false, false, by omega, rfl, rfl, rfl, rfl, ⟨rfl, rfl, (Bk.outK_zero l s).2.2.symm, OwnE.nil _ _, Below.refl _ _⟩⟩
              case round =>
                obtain ⟨k, a, m, c, pb, hb, hk, rfl, rfl, rfl, rfl, hX⟩ := hrel
                by_cases hlt : k < l.length
                · obtain ⟨b, off, rfl, _⟩ := (HRW.out wr (HRL.out wr hX.out.2.2.2.2)).place (by omega)
                  obtain ⟨c0, c1, c2, c3⟩ := (HRW.out wr (HRL.out wr hX.out.2.2.2.2)).cells hlt
                  obtain ⟨X, HX⟩ : ∃ X, Hid (X = wr.alloc (.cells #[.int .i64 (at' l k).vid, .int .u64 (at' l k).addr, .int .i64 (at' l k).port, .int .i64 (at' l k).age] 76)) := ⟨_, rfl⟩
                  have hXB : Below wr.heap.size wr X := by rw [HX.out]; exact below_alloc1 _ _
                  have hXX : X.heap[wr.heap.size]? = some (.cells #[.int .i64 (at' l k).vid, .int .u64 (at' l k).addr, .int .i64 (at' l k).port, .int .i64 (at' l k).age] 76 (0, 0)) := by rw [HX.out]; exact heap_alloc_last _ _
                  have hsz : X.heap.size = wr.heap.size + 1 := by rw [HX.out]; simp
                  have hBX : Below W0.heap.size W0 X := hX.out.2.2.2.2.trans (hXB.mono hX.out.2.2.2.2.size)
                  have hOX : OwnE X W0.heap.size (.slice a m c) (Bk.outK l s k) := hX.out.2.2.2.1.below hXB
                  have hol : (Bk.outK l s k).length ≤ 500 := Nat.le_trans (Bk.outK_length l s k) (by omega)
                  have hown : some wr.heap.size ≠ (Value.slice a m c).ownBlock := fun q => by
                    have := (ownsC_block hX.out.2.2.2.1 wr.heap.size q.symm).2
                    omega
                  have hpb := hX.out.2.1
                  have hhb := hX.out.2.2.1
                  -- what comes of it
                  have HKEY : Hid (Bk.key (at' l k) s → RLn W0 X (.slice a m c) m pb true l s (k + 1)) := fun h => by
                    obtain ⟨s1, s2⟩ := Bk.step_key s hlt h
                    refine ⟨by rw [s1]; exact hX.out.1, by rw [s2]; exact hpb, by rw [Bk.had_step s hlt, decide_eq_true h, Bool.or_true], by rw [s1]; exact hOX, hBX⟩
                  have HHAD : Hid (¬ Bk.key (at' l k) s → hb = Bk.hadK l s (k + 1)) := fun h => by rw [Bk.had_step s hlt, decide_eq_false h, Bool.or_false]; exact hhb
                  -- one more, in a world that has grown
                  have HONE : Hid (¬ Bk.key (at' l k) s → (pb = true ∨ ¬ Bk.lt s (at' l k)) → ∀ V : World, Below X.heap.size X V → ∃ a1 m1 c1 w2, runAppE (.slice a m c) (.slice (some ⟨V.heap.size, 0, none⟩) 1 1) (V.alloc (.cells #[.int .i64 (at' l k).vid, .int .u64 (at' l k).addr, .int .i64 (at' l k).port, .int .i64 (at' l k).age] 76)) (.slice a1 m1 c1) w2 ∧ Hid (RLn W0 w2 (.slice a1 m1 c1) m1 pb hb l s (k + 1))) := fun hnk hpl V hV => by
                    have hBV : Below W0.heap.size W0 V := hBX.trans (hV.mono hBX.size)
                    obtain ⟨a1, m1, c1, w2, r, e1, o, bb, _⟩ := more_e W0 V hBV (.slice a m c) _ (at' l k) (hOX.below hV) (by omega)
                    have hst : Bk.outK l s (k + 1) = Bk.outK l s k ++ [at' l k] ∧ Bk.putK l s (k + 1) = pb := by
                      by_cases q : Bk.lt s (at' l k)
                      · have hp : pb = true := hpl.elim id (fun r => absurd q r)
                        obtain ⟨t1, t2⟩ := Bk.step_more s hlt q (by rw [← hpb]; exact hp)
                        exact ⟨t1, by rw [t2, hp]⟩
                      · have q2 : Bk.lt (at' l k) s := by
                          by_cases q3 : Bk.lt (at' l k) s
                          · exact q3
                          · exact absurd (Bk.key_iff.2 ⟨q3, q⟩) hnk
                        obtain ⟨t1, t2, t3⟩ := Bk.step_low HBK.out s hlt q2
                        exact ⟨t1, by rw [t2, hpb, t3]⟩
                    exact ⟨a1, m1, c1, w2, r, ⟨by rw [hst.1]; exact e1, hst.2.symm, HHAD.out hnk, by rw [hst.1]; exact o, bb⟩⟩
                  -- two more
                  have HTWO : Hid (¬ Bk.key (at' l k) s → pb = false → Bk.lt s (at' l k) → ∀ V : World, Below X.heap.size X V → ∃ a1 m1 c1 w2 a2 m2 c2' w3, runAppE (.slice a m c) (.slice (some ⟨V.heap.size, 0, none⟩) 1 1) (V.alloc (.cells #[.int .i64 vid, .int .u64 addr, .int .i64 port, .int .i64 0] 76)) (.slice a1 m1 c1) w2 ∧ w2.heap[wr.heap.size]? = some (.cells #[.int .i64 (at' l k).vid, .int .u64 (at' l k).addr, .int .i64 (at' l k).port, .int .i64 (at' l k).age] 76 (0, 0)) ∧ runAppE (.slice a1 m1 c1) (.slice (some ⟨w2.heap.size, 0, none⟩) 1 1) (w2.alloc (.cells #[.int .i64 (at' l k).vid, .int .u64 (at' l k).addr, .int .i64 (at' l k).port, .int .i64 (at' l k).age] 76)) (.slice a2 m2 c2') w3 ∧ Hid (RLn W0 w3 (.slice a2 m2 c2') m2 true hb l s (k + 1))) := fun hnk hp hl V hV => by
                    have hBV : Below W0.heap.size W0 V := hBX.trans (hV.mono hBX.size)
                    obtain ⟨a1, m1, c1, w2, r, e1, o, bb, q1⟩ := more_e W0 V hBV (.slice a m c) _ s (hOX.below hV) (by omega)
                    obtain ⟨a2, m2, c2', w3, r2, e2, o2, bb2, _⟩ := more_e W0 w2 bb (.slice a1 m1 c1) _ (at' l k) o (by simp; omega)
                    obtain ⟨t1, t2⟩ := Bk.step_put s hlt hl (by rw [← hpb]; exact hp)
                    rw [HSF.out.1, HSF.out.2.1, HSF.out.2.2.1, HSF.out.2.2.2] at r
                    have hVs : wr.heap.size < V.heap.size := by have := hV.size; omega
                    refine ⟨a1, m1, c1, w2, a2, m2, c2', w3, r, ?_, r2, ⟨by rw [t1]; exact e2, t2.symm, HHAD.out hnk, by rw [t1]; exact o2, bb2⟩⟩
                    exact (q1 _ hVs hown).trans (keep hXX hV)
                  have HXX : Hid (Below X.heap.size X X) := Below.refl _ _
                  have HAH : Hid (∀ W, Below X.heap.size X W → Calls Try.prog 63 #[.agg #[.int .i64 vid, .int .u64 addr, .int .i64 port, .int .i64 0], .agg #[.int .i64 (at' l k).vid, .int .u64 (at' l k).addr, .int .i64 (at' l k).port, .int .i64 (at' l k).age]] W fun e w' => e = .returned (.bool (Bk.ltb s (at' l k))) ∧ w'.heap[wr.heap.size]? = some (.cells #[.int .i64 (at' l k).vid, .int .u64 (at' l k).addr, .int .i64 (at' l k).port, .int .i64 (at' l k).age] 76 (0, 0)) ∧ w'.heap[w.heap.size]? = some (.cells #[.int .i64 vid, .int .u64 addr, .int .i64 port, .int .i64 0] 76 (0, 0)) ∧ Hid (Below X.heap.size X w')) := fun W hW => by
                    have := rahead_any s (at' l k) W
                    rw [HSF.out.1, HSF.out.2.1, HSF.out.2.2.1, HSF.out.2.2.2] at this
                    refine this.mono ?_
                    rintro e w' ⟨rfl, hb'⟩
                    have hXW : Below X.heap.size X w' := hW.trans (hb'.mono hW.size)
                    exact ⟨rfl, keep hXX hXW, HS0.out _ (hBX.trans (hXW.mono hBX.size)), hXW⟩
                  have HSX := HS0.out X hBX
                  obtain ⟨g0, g1, g2, g3⟩ := en_cells HSX
                  obtain ⟨x0, x1, x2, x3⟩ := en_cells hXX
                  have HKY : Hid (Bk.key (at' l k) s ↔ (at' l k).vid = vid ∧ (at' l k).addr = addr) := by
                    show ((at' l k).vid = s.vid ∧ (at' l k).addr = s.addr) ↔ _
                    rw [HSF.out.1, HSF.out.2.1]
                  have hSZ : Hid (X.heap.size = wr.heap.size + 1) := hsz
                  have HLT : Hid (Bk.ltb s (at' l k) = true ↔ Bk.lt s (at' l k)) := Bk.ltb_iff
                  have hwl : w.heap.size < wr.heap.size := by
                    have h1 := (Array.getElem?_eq_some_iff.1 (HS0.out wr hX.out.2.2.2.2)).1
                    exact h1
                  obtain ⟨y0, y1, y2, y3⟩ := en_cells (HS0.out wr hX.out.2.2.2.2)
                  clear hX hXB hXX hsz hBX hOX hol hown hpb hhb HSX HHAD HRW HBK HENL HEND
                  generalize Bk.ltb s (at' l k) = LB at *
                  generalize Bk.lt s (at' l k) = LP at *
                  by_cases q1 : (at' l k).vid = vid
                  · have e1 : ((at' l k).vid == vid) = true := by simp [q1]
                    by_cases q2 : (at' l k).addr = addr
                    · have e2 : ((at' l k).addr == addr) = true := by simp [q2]
                      have HN : Hid _ := HKEY.out (HKY.out.2 ⟨q1, q2⟩)
                      clear HONE HTWO HKEY HKY HAH HLT q1 q2
                      generalize at' l k = y at *
                      go_wp2_with fail
                      rw [← HX.out]
                      exact ⟨⟨k + 1, a, m, c, pb, true, by omega, by go_num, rfl, rfl, rfl, HN⟩, by simp [intOf]; omega⟩
                    · have e2 : ((at' l k).addr == addr) = false := by simpa using q2
                      have hnk : ¬ Bk.key (at' l k) s := fun h => q2 (HKY.out.1 h).2
                      cases pb with
                      | true =>
                        obtain ⟨a1, m1, c1', w2, r, HN⟩ := HONE.out hnk (Or.inl rfl) X HXX.out
                        rw [hSZ.out, HX.out] at r
                        have HR : Hid _ := r
                        clear HONE HTWO HKEY HKY HAH HLT r hnk q1 q2
                        generalize at' l k = y at *
                        go_wp2_with (at_builtin; refine wpList_append_run rfl (.tmp 71) (.tmp 73) 26 rfl _ _ _ rfl rfl HR.out ?_; clear HR)
                        exact ⟨⟨k + 1, a1, m1, c1', true, hb, by omega, by go_num, rfl, rfl, rfl, HN⟩, by simp [intOf]; omega⟩
                      | false =>
                        cases LB with
                        | true =>
                          have HTW : Hid _ := HTWO.out hnk rfl (HLT.out.1 rfl)
                          clear HONE HTWO HKEY HKY HLT hnk q1 q2
                          generalize at' l k = y at *
                          go_wp2_with fail
                          rw [← HX.out]
                          refine (HAH.out X HXX.out).mono ?_
                          rintro e w1 ⟨rfl, hx1, hs1, HB1⟩
                          obtain ⟨a1, m1, c1', w2, a2, m2, c2', w3, r, hx2, r2, HN⟩ := HTW.out w1 HB1.out
                          have HR : Hid _ := r
                          have HR2 : Hid _ := r2
                          clear c0 c1 c2 c3 g0 g1 g2 g3 x0 x1 x2 x3 y0 y1 y2 y3 r r2 HTW HAH
                          obtain ⟨g0, g1, g2, g3⟩ := en_cells hs1
                          obtain ⟨x0, x1, x2, x3⟩ := en_cells hx2
                          go_wp2_with (at_builtin; first | (refine wpList_append_run rfl (.tmp 67) (.tmp 69) 26 rfl _ _ _ rfl rfl HR.out ?_; clear HR) | (refine wpList_append_run rfl (.tmp 71) (.tmp 73) 26 rfl _ _ _ rfl rfl HR2.out ?_; clear HR2))
                          exact ⟨⟨k + 1, a2, m2, c2', true, hb, by omega, by go_num, rfl, rfl, rfl, HN⟩, by simp [intOf]; omega⟩
                        | false =>
                          have HON : Hid _ := HONE.out hnk (Or.inr (fun h => by have := HLT.out.2 h; cases this))
                          clear HONE HTWO HKEY HKY HLT hnk q1 q2
                          generalize at' l k = y at *
                          go_wp2_with fail
                          rw [← HX.out]
                          refine (HAH.out X HXX.out).mono ?_
                          rintro e w1 ⟨rfl, hx1, hs1, HB1⟩
                          obtain ⟨a1, m1, c1', w2, r, HN⟩ := HON.out w1 HB1.out
                          have HR : Hid _ := r
                          clear c0 c1 c2 c3 g0 g1 g2 g3 x0 x1 x2 x3 y0 y1 y2 y3 r HON HAH
                          obtain ⟨x0, x1, x2, x3⟩ := en_cells hx1
                          go_wp2_with (at_builtin; refine wpList_append_run rfl (.tmp 71) (.tmp 73) 26 rfl _ _ _ rfl rfl HR.out ?_; clear HR)
                          exact ⟨⟨k + 1, a1, m1, c1', false, hb, by omega, by go_num, rfl, rfl, rfl, HN⟩, by simp [intOf]; omega⟩
                  · have e1 : ((at' l k).vid == vid) = false := by simpa using q1
                    have hnk : ¬ Bk.key (at' l k) s := fun h => q1 (HKY.out.1 h).1
                    cases pb with
                    | true =>
                      obtain ⟨a1, m1, c1', w2, r, HN⟩ := HONE.out hnk (Or.inl rfl) X HXX.out
                      rw [hSZ.out, HX.out] at r
                      have HR : Hid _ := r
                      clear HONE HTWO HKEY HKY HAH HLT r hnk q1
                      generalize at' l k = y at *
                      go_wp2_with (at_builtin; refine wpList_append_run rfl (.tmp 71) (.tmp 73) 26 rfl _ _ _ rfl rfl HR.out ?_; clear HR)
                      exact ⟨⟨k + 1, a1, m1, c1', true, hb, by omega, by go_num, rfl, rfl, rfl, HN⟩, by simp [intOf]; omega⟩
                    | false =>
                      cases LB with
                      | true =>
                        have HTW : Hid _ := HTWO.out hnk rfl (HLT.out.1 rfl)
                        clear HONE HTWO HKEY HKY HLT hnk q1
                        generalize at' l k = y at *
                        go_wp2_with fail
                        rw [← HX.out]
                        refine (HAH.out X HXX.out).mono ?_
                        rintro e w1 ⟨rfl, hx1, hs1, HB1⟩
                        obtain ⟨a1, m1, c1', w2, a2, m2, c2', w3, r, hx2, r2, HN⟩ := HTW.out w1 HB1.out
                        have HR : Hid _ := r
                        have HR2 : Hid _ := r2
                        clear c0 c1 c2 c3 g0 g1 g2 g3 x0 x1 x2 x3 y0 y1 y2 y3 r r2 HTW HAH
                        obtain ⟨g0, g1, g2, g3⟩ := en_cells hs1
                        obtain ⟨x0, x1, x2, x3⟩ := en_cells hx2
                        go_wp2_with (at_builtin; first | (refine wpList_append_run rfl (.tmp 67) (.tmp 69) 26 rfl _ _ _ rfl rfl HR.out ?_; clear HR) | (refine wpList_append_run rfl (.tmp 71) (.tmp 73) 26 rfl _ _ _ rfl rfl HR2.out ?_; clear HR2))
                        exact ⟨⟨k + 1, a2, m2, c2', true, hb, by omega, by go_num, rfl, rfl, rfl, HN⟩, by simp [intOf]; omega⟩
                      | false =>
                        have HON : Hid _ := HONE.out hnk (Or.inr (fun h => by have := HLT.out.2 h; cases this))
                        clear HONE HTWO HKEY HKY HLT hnk q1
                        generalize at' l k = y at *
                        go_wp2_with fail
                        rw [← HX.out]
                        refine (HAH.out X HXX.out).mono ?_
                        rintro e w1 ⟨rfl, hx1, hs1, HB1⟩
                        obtain ⟨a1, m1, c1', w2, r, HN⟩ := HON.out w1 HB1.out
                        have HR : Hid _ := r
                        clear c0 c1 c2 c3 g0 g1 g2 g3 x0 x1 x2 x3 y0 y1 y2 y3 r HON HAH
                        obtain ⟨x0, x1, x2, x3⟩ := en_cells hx1
                        go_wp2_with (at_builtin; refine wpList_append_run rfl (.tmp 71) (.tmp 73) 26 rfl _ _ _ rfl rfl HR.out ?_; clear HR)
                        exact ⟨⟨k + 1, a1, m1, c1', false, hb, by omega, by go_num, rfl, rfl, rfl, HN⟩, by simp [intOf]; omega⟩
                · obtain rfl : k = l.length := by omega
                  have HFIN : Hid (∀ W v, OwnE W W0.heap.size v (Bk.lo l s ++ s :: Bk.hi l s) → Below W0.heap.size W0 W → (hb = true ∨ l.length < 30) → ∃ a c, v = .slice a (Bk.learn l s).length c ∧ BEL W a c (Bk.learn l s) ∧ Below w.heap.size w W ∧ BkD W w.heap.size ao cap l a c (Bk.learn l s)) := fun W v ho hW hh => by
                    rw [HENL.out (by rw [← hX.out.2.2.1]; exact hh)]
                    obtain ⟨a', c', e', h', _⟩ := ho.el
                    exact ⟨a', c', e', h', HRL.out W hW, Or.inr (by rw [← e']; exact ho.mono (HRL.out W0 (Below.refl _ _)).size)⟩
                  have HE2 : Hid (∀ W, Below W0.heap.size W0 W → hb = false → 30 ≤ l.length → Bk.learn l s = l ∧ BEL W ao cap l ∧ Below w.heap.size w W) := fun W hW h => HEND.out W hW (by rw [← hX.out.2.2.1]; exact h)
                  have hall := Bk.out_all l s
                  rw [← hX.out.2.1] at hall
                  have HBW : Hid (Below W0.heap.size W0 wr) := hX.out.2.2.2.2
                  cases pb with
                  | true =>
                    have HO : Hid (OwnE wr W0.heap.size (.slice a m c) (Bk.lo l s ++ s :: Bk.hi l s)) := by rw [← hall]; exact hX.out.2.2.2.1
                    clear hX HRW HBK HENL HEND hall
                    cases hb with
                    | true =>
                      have HF : Hid _ := HFIN.out wr _ HO.out HBW.out (Or.inl rfl)
                      clear HFIN HE2
                      go_wp2_with fail
                      go_ret
                      obtain ⟨a', c', e', HF1, HF2⟩ := HF.out
                      exact ⟨a', c', congrArg Ending.returned e', HF1, HF2⟩
                    | false =>
                      by_cases hl30 : l.length < 30
                      · have hz : (l.length : Int) < 30 := by omega
                        have HF : Hid _ := HFIN.out wr _ HO.out HBW.out (Or.inr hl30)
                        clear HFIN HE2
                        go_wp2_with fail
                        go_ret
                        obtain ⟨a', c', e', HF1, HF2⟩ := HF.out
                        exact ⟨a', c', congrArg Ending.returned e', HF1, HF2⟩
                      · have hz : (30 : Int) ≤ (l.length : Int) := by omega
                        obtain ⟨HL, HF⟩ := HE2.out wr HBW.out rfl (by omega)
                        have HL2 : Hid _ := HL
                        clear HFIN HE2 HL
                        go_wp2_with fail
                        go_ret
                        exact ⟨ao, cap, by rw [HL2.out]; rfl, by rw [HL2.out]; exact HF.1, HF.2, Or.inl ⟨rfl, rfl, HL2.out⟩⟩
                  | false =>
                    obtain ⟨a1, m1, c1, w2, r, e1, o, bb, _⟩ := more_e W0 wr HBW.out (.slice a m c) _ s hX.out.2.2.2.1 (Nat.le_trans (Bk.outK_length l s _) (by omega))
                    rw [HSF.out.1, HSF.out.2.1, HSF.out.2.2.1, HSF.out.2.2.2] at r
                    have hall2 : Bk.outK l s l.length ++ [s] = Bk.lo l s ++ s :: Bk.hi l s := hall
                    rw [hall2] at o
                    have HO : Hid (OwnE w2 W0.heap.size (.slice a1 m1 c1) (Bk.lo l s ++ s :: Bk.hi l s)) := o
                    have HB2 : Hid (Below W0.heap.size W0 w2) := bb
                    have HR : Hid _ := r
                    obtain ⟨g0, g1, g2, g3⟩ := en_cells (HS0.out wr HBW.out)
                    clear hX HRW HBK HENL HEND hall hall2 o bb r e1
                    cases hb with
                    | true =>
                      have HF : Hid _ := HFIN.out w2 _ HO.out HB2.out (Or.inl rfl)
                      clear HFIN HE2
                      go_wp2_with (at_builtin; refine wpList_append_run rfl (.tmp 78) (.tmp 80) 26 rfl _ _ _ rfl rfl HR.out ?_; clear HR)
                      go_ret
                      obtain ⟨a', c', e', HF1, HF2⟩ := HF.out
                      exact ⟨a', c', congrArg Ending.returned e', HF1, HF2⟩
                    | false =>
                      by_cases hl30 : l.length < 30
                      · have hz : (l.length : Int) < 30 := by omega
                        have HF : Hid _ := HFIN.out w2 _ HO.out HB2.out (Or.inr hl30)
                        clear HFIN HE2
                        go_wp2_with (at_builtin; refine wpList_append_run rfl (.tmp 78) (.tmp 80) 26 rfl _ _ _ rfl rfl HR.out ?_; clear HR)
                        go_ret
                        obtain ⟨a', c', e', HF1, HF2⟩ := HF.out
                        exact ⟨a', c', congrArg Ending.returned e', HF1, HF2⟩
                      · have hz : (30 : Int) ≤ (l.length : Int) := by omega
                        obtain ⟨HL, HF⟩ := HE2.out w2 HB2.out rfl (by omega)
                        have HL2 : Hid _ := HL
                        clear HFIN HE2 HL
                        go_wp2_with (at_builtin; refine wpList_append_run rfl (.tmp 78) (.tmp 80) 26 rfl _ _ _ rfl rfl HR.out ?_; clear HR)
                        go_ret
                        exact ⟨ao, cap, by rw [HL2.out]; rfl, by rw [HL2.out]; exact HF.1, HF.2, Or.inl ⟨rfl, rfl, HL2.out⟩⟩
            · have HL : Hid _ := HNOT.out (fun h => by have := HMY.out.1 h; omega)
              clear HNOT HMY
              go_enter Try.func41, Try.ntmps41
              go_wp2_with fail
              go_ret
              exact ⟨ao, cap, by rw [HL.out]; rfl, by rw [HL.out]; exact HRW.out w (Below.refl _ _), Below.refl _ _, Or.inl ⟨rfl, rfl, HL.out⟩⟩
          · have HL : Hid _ := HNOT.out (fun h => by have := HMY.out.1 h; omega)
            clear HNOT HMY
            go_enter Try.func41, Try.ntmps41
            go_wp2_with fail
            go_ret
            exact ⟨ao, cap, by rw [HL.out]; rfl, by rw [HL.out]; exact HRW.out w (Below.refl _ _), Below.refl _ _, Or.inl ⟨rfl, rfl, HL.out⟩⟩
        · have HL : Hid _ := HNOT.out (fun h => by have := HMY.out.1 h; omega)
          clear HNOT HMY
          go_enter Try.func41, Try.ntmps41
          go_wp2_with fail
          go_ret
          exact ⟨ao, cap, by rw [HL.out]; rfl, by rw [HL.out]; exact HRW.out w (Below.refl _ _), Below.refl _ _, Or.inl ⟨rfl, rfl, HL.out⟩⟩
      · have HL : Hid _ := HNOT.out (fun h => by have := HMY.out.1 h; omega)
        clear HNOT HMY
        go_enter Try.func41, Try.ntmps41
        go_wp2_with fail
        go_ret
        exact ⟨ao, cap, by rw [HL.out]; rfl, by rw [HL.out]; exact HRW.out w (Below.refl _ _), Below.refl _ _, Or.inl ⟨rfl, rfl, HL.out⟩⟩
    · have HL : Hid _ := HNOT.out (fun h => by have := HMY.out.1 h; omega)
      clear HNOT HMY
      go_enter Try.func41, Try.ntmps41
      go_wp2_with fail
      go_ret
      exact ⟨ao, cap, by rw [HL.out]; rfl, by rw [HL.out]; exact HRW.out w (Below.refl _ _), Below.refl _ _, Or.inl ⟨rfl, rfl, HL.out⟩⟩
  · have e0 : (addr / 1099511627776 % 2 == 1) = true := by simp; omega
    have HL : Hid _ := HNOT.out (fun h => by have := HMY.out.1 h; omega)
    clear HNOT HMY
    go_enter Try.func41, Try.ntmps41
    go_wp2_with fail
    go_ret
    exact ⟨ao, cap, by rw [HL.out]; rfl, by rw [HL.out]; exact HRW.out w (Below.refl _ _), Below.refl _ _, Or.inl ⟨rfl, rfl, HL.out⟩⟩
theorem rlearn8_any (ao : Option Addr) (cap : Nat) (l : List E) (vid addr port : Int) (w : World) (hbk : Bk.Book l) (hr : BEL w ao cap l) (h0 : 0 ≤ addr) (h1 : addr < 18446744073709551616) :
    Calls Try.prog 41 #[.slice ao l.length cap, .int .i64 vid, .int .u64 addr, .int .i64 port] w fun e w' => ∃ a c, e = .returned (.slice a (Bk.learn l ⟨vid, addr, port, 0⟩).length c) ∧ BEL w' a c (Bk.learn l ⟨vid, addr, port, 0⟩) ∧ Below w.heap.size w w' := (rlearn8_own ao cap l vid addr port w hbk hr h0 h1).mono (fun _ _ ⟨a, c, h1, h2, h3, _⟩ => ⟨a, c, h1, h2, h3⟩)
end Go.Proofs.Ytgkmaihleilchaa
