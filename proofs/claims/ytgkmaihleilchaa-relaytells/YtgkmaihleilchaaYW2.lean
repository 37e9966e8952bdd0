/- walks: relay's Wrong -/
import Derived.Test.YtgkmaihleilchaaYW1
import Derived.Test.YtgkmaihleilchaaBW3
namespace Go.Proofs.Ytgkmaihleilchaa
open Go.RowKit
open Bk (E at')
open Rl (G gat)

theorem orTo3 (f : Nat → Int) : orTo f 3 = Rl.or3 (f 0) (f 1) (f 2) := by
  by_cases h1 : f 0 = 0 <;> by_cases h2 : f 1 = 0 <;> simp [orTo, Rl.or3, h1, h2]
theorem below_al {a b : World} (h : Below a.heap.size a b) (o : Obj) : Below a.heap.size a (b.alloc o) := h.alloc h.size o
theorem core3 (a b c : Int) (g : Nat) (ty : TypeId) (w : World) (h : w.heap[g]? = some (.cells #[.int .i64 a, .int .i64 b, .int .i64 c] ty (0, 0))) :
    Calls Try.prog 22 #[.slice (some ⟨g, 0, none⟩) 3 3] w fun e w' => e = .returned (.int .i64 (Rl.or3 a b c)) ∧ w' = w := by
  have := corey_any g 0 3 3 (fun i => if i = 0 then a else if i = 1 then b else c) w (by omega) (by omega) (fun i hi => by
    rcases (by omega : i = 0 ∨ i = 1 ∨ i = 2) with e | e | e <;> subst e
    · exact cell_of_row w g 0 _ _ _ h
    · exact cell_of_row w g 1 _ _ _ h
    · exact cell_of_row w g 2 _ _ _ h)
  rw [orTo3] at this
  exact this
set_option maxRecDepth 100000 in
set_option maxHeartbeats 4000000 in
theorem gwrong9_any (ao : Option Addr) (cap : Nat) (l : List G) (w : World) (hr : GRow w ao cap l) :
    Calls Try.prog 9 #[.slice ao l.length cap] w fun e w' => e = .returned (faV (Rl.wrong l)) ∧ Below w.heap.size w w' := by
  have hn := hr.many
  have HRW : Hid (∀ W, Below w.heap.size w W → GRow W ao cap l) := fun W hW => hr.below hW
  have hcap : l.length ≤ cap := hr.row.1
  clear hr
  obtain ⟨G, HG⟩ : ∃ G, Hid (G = w.heap.size) := ⟨_, rfl⟩
  have HI : Hid (∀ W, W = w.alloc (.cells #[.int .i64 0, .int .i64 0] 33) → Below w.heap.size w W ∧ W.heap[G]? = some (.cells #[.int .i64 0, .int .i64 0] 33 (0, 0))) := by
    intro W hW
    rw [hW, HG.out]
    exact ⟨below_alloc1 _ _, heap_alloc_last _ _⟩
  have hGM : w.heap.size ≤ G := by rw [HG.out]; exact Nat.le_refl _
  have HN1 : Hid (Rl.wrong l = Bk.firstTo (Rl.gErr l) l.length) := rfl
  go_enter Try.func9, Try.ntmps9
  go_wp2_with fail
  rw [← HG.out]
  go_loopw [3, 9] (fun a i wr => ∃ k : Nat, k ≤ l.length ∧ i = .int .i64 k ∧ a = .int .i64 (Rl.aheadP l k) ∧ Hid (∀ j, j < k → Rl.gErr l j = 0) ∧ Hid (Below w.heap.size w wr ∧ wr.heap[G]? = some (.cells #[.int .i64 0, .int .i64 0] 33 (0, 0)))) (fun _ i _ => l.length - (intOf i).toNat)
  case atStart => exact ⟨0, by omega, rfl, rfl, (fun j hj => absurd hj (by omega)), HI.out _ rfl⟩
  case round =>
    obtain ⟨k, hk, rfl, rfl, hS, hX⟩ := hrel
    clear HI
    by_cases hlt : k < l.length
    · obtain ⟨b, off, rfl, _⟩ := (HRW.out wr hX.out.1).place (by omega)
      obtain ⟨c0, c1, c2, c3⟩ := (HRW.out wr hX.out.1).cells hlt
      have hgi := (HRW.out wr hX.out.1).at hlt
      obtain ⟨X, HX⟩ : ∃ X, Hid (X = wr.alloc (.cells #[.int .i64 (gat l k).port, .slice (gat l k).wo (gat l k).ways.length (gat l k).wcap, .int .i64 (gat l k).plain, .slice (gat l k).oo (gat l k).opens.length (gat l k).ocap] 47)) := ⟨_, rfl⟩
      have HXB : Hid (Below wr.heap.size wr X) := by rw [HX.out]; exact below_alloc1 _ _
      have HX5 : Hid (X.heap[wr.heap.size]? = some (.cells #[.int .i64 (gat l k).port, .slice (gat l k).wo (gat l k).ways.length (gat l k).wcap, .int .i64 (gat l k).plain, .slice (gat l k).oo (gat l k).opens.length (gat l k).ocap] 47 (0, 0))) := by rw [HX.out]; exact heap_alloc_last _ _
      have HXX : Hid (Below X.heap.size X X) := Below.refl _ _
      have HC1 : Hid (∀ W, Below X.heap.size X W → Calls Try.prog 23 #[.agg #[.int .i64 (gat l k).port, .slice (gat l k).wo (gat l k).ways.length (gat l k).wcap, .int .i64 (gat l k).plain, .slice (gat l k).oo (gat l k).opens.length (gat l k).ocap]] W fun e w' => e = .returned (.int .i64 (Rl.gateErr (gat l k))) ∧ Hid (Below X.heap.size X w')) := fun W hW => (wrongGate_any (gat l k) W).mono (fun e w' h => ⟨h.1, hW.trans (h.2.mono hW.size)⟩)
      have HC2 : Hid (∀ W, Below X.heap.size X W → Calls Try.prog 24 #[.slice (gat l k).wo (gat l k).ways.length (gat l k).wcap] W fun e w' => e = .returned (.int .i64 (Rl.waysErr (gat l k).ways)) ∧ Hid (Below X.heap.size X w')) := fun W hW => (wrongWays9_any _ _ _ W hgi.wn ((hgi.ways.below HXB.out).below hW)).mono (fun e w' h => ⟨h.1, by rw [h.2]; exact hW⟩)
      have HC3 : Hid (∀ W, Below X.heap.size X W → Calls Try.prog 25 #[.int .i64 (Rl.aheadP l k), .int .i64 (gat l k).port] W fun e w' => e = .returned (.int .i64 (Rl.rise (Rl.aheadP l k) (gat l k).port)) ∧ Hid (Below X.heap.size X w')) := fun W hW => (rises_any _ _ W).mono (fun e w' h => ⟨h.1, by rw [h.2]; exact hW⟩)
      have HC4 : Hid (∀ W, Below X.heap.size X W → Calls Try.prog 22 #[.slice (some ⟨W.heap.size, 0, none⟩) 3 3] (W.alloc (.cells #[.int .i64 (Rl.gateErr (gat l k)), .int .i64 (Rl.waysErr (gat l k).ways), .int .i64 (Rl.rise (Rl.aheadP l k) (gat l k).port)] 31)) fun e w' => e = .returned (.int .i64 (Rl.gErr l k)) ∧ Hid (Below X.heap.size X w')) := fun W hW => (core3 _ _ _ W.heap.size _ _ (heap_alloc_last _ _)).mono (fun e w' h => ⟨h.1, by rw [h.2]; exact hW.alloc hW.size _⟩)
      have HF1 : Hid (Rl.gErr l k ≠ 0 → Bk.firstTo (Rl.gErr l) l.length = (Rl.gErr l k, (k : Int))) := fun he => Bk.firstTo_stay _ k (by rw [Bk.firstTo_none _ _ hS.out]) he _ hlt
      have HS1 : Hid (Rl.gErr l k = 0 → ∀ j, j < k + 1 → Rl.gErr l j = 0) := fun h j hj => by
        by_cases e : j = k
        · subst e; exact h
        · exact hS.out j (by omega)
      have HA : Hid (Rl.aheadP l (k + 1) = (gat l k).port) := by show Rl.aheadP l (k + 1) = _; unfold Rl.aheadP; rw [if_neg (by omega)]; rfl
      have HCC : Hid (∀ W, Below X.heap.size X W → W.cell? ⟨wr.heap.size, 0, none⟩ = some (.int .i64 (gat l k).port) ∧ W.cell? ⟨wr.heap.size, 1, none⟩ = some (.slice (gat l k).wo (gat l k).ways.length (gat l k).wcap) ∧ W.cell? ⟨wr.heap.size, 2, none⟩ = some (.int .i64 (gat l k).plain) ∧ W.cell? ⟨wr.heap.size, 3, none⟩ = some (.slice (gat l k).oo (gat l k).opens.length (gat l k).ocap)) := fun W hW => gt_cells (keep HX5.out hW)
      have HFIN : Hid (∀ W, Below X.heap.size X W → Below w.heap.size w W ∧ W.heap[G]? = some (.cells #[.int .i64 0, .int .i64 0] 33 (0, 0))) := fun W hW => ⟨(hX.out.1.trans (HXB.out.mono hX.out.1.size)).trans (hW.mono (by have := hX.out.1.size; have := HXB.out.size; omega)), keep (keep hX.out.2 HXB.out) hW⟩
      obtain ⟨d0, d1, d2, d3⟩ := HCC.out X HXX.out
      clear hX hS HX5 HXB hgi HRW
      generalize Rl.gErr l k = er at *
      generalize Rl.gateErr (gat l k) = e1 at *
      generalize Rl.waysErr (gat l k).ways = e2 at *
      generalize Rl.rise (Rl.aheadP l k) (gat l k).port = e3 at *
      generalize Rl.aheadP l k = ah at *
      generalize gat l k = x at *
      go_wp2_with fail
      rw [← HX.out]
      clear c0 c1 c2 c3
      by_cases he : er = 0
      · have dq : (er != 0) = false := by simp [he]
        have HS2 : Hid _ := HS1.out he
        clear HS1 HF1 he
        go_region_held3 (fun W => W.cell? ⟨wr.heap.size, 0, none⟩ = some (.int .i64 x.port) ∧ W.cell? ⟨wr.heap.size, 1, none⟩ = some (.slice x.wo x.ways.length x.wcap) ∧ W.cell? ⟨wr.heap.size, 2, none⟩ = some (.int .i64 x.plain) ∧ W.cell? ⟨wr.heap.size, 3, none⟩ = some (.slice x.oo x.opens.length x.ocap))
          (first | (exact HCC.out _ (Hid.out (by assumption))) | (exact HCC.out _ (Below.drew (Hid.out (by assumption)))) | (exact HCC.out _ (below_al (Hid.out (by assumption)) _)))
          (first | (go_at_call 23; refine (HC1.out _ (by first | exact (Hid.out (by assumption)) | exact Below.drew (Hid.out (by assumption)))).mono ?_; rintro e w1 ⟨rfl, HB⟩) | (go_at_call 24; refine (HC2.out _ (by first | exact (Hid.out (by assumption)) | exact Below.drew (Hid.out (by assumption)))).mono ?_; rintro e w1 ⟨rfl, HB⟩) | (go_at_call 25; refine (HC3.out _ (by first | exact (Hid.out (by assumption)) | exact Below.drew (Hid.out (by assumption)))).mono ?_; rintro e w1 ⟨rfl, HB⟩) | (go_at_call 22; refine (HC4.out _ (by first | exact (Hid.out (by assumption)) | exact Below.drew (Hid.out (by assumption)))).mono ?_; rintro e w1 ⟨rfl, HB⟩))
        all_goals
          have HF3 : Hid _ := HFIN.out _ HB.out
          obtain ⟨u0, u1, u2, u3⟩ := HCC.out _ HB.out
          clear HFIN HCC HC1 HC2 HC3 HC4 d0 d1 d2 d3
          go_wp2_with fail
          exact ⟨⟨k + 1, by omega, by go_num, by rw [HA.out], HS2, HF3.out⟩, by simp [intOf]; omega⟩
      · have dq : (er != 0) = true := by simp [he]
        have HF2 : Hid _ := HF1.out he
        clear HS1 HF1 he
        go_region_held3 (fun W => W.cell? ⟨wr.heap.size, 0, none⟩ = some (.int .i64 x.port) ∧ W.cell? ⟨wr.heap.size, 1, none⟩ = some (.slice x.wo x.ways.length x.wcap) ∧ W.cell? ⟨wr.heap.size, 2, none⟩ = some (.int .i64 x.plain) ∧ W.cell? ⟨wr.heap.size, 3, none⟩ = some (.slice x.oo x.opens.length x.ocap))
          (first | (exact HCC.out _ (Hid.out (by assumption))) | (exact HCC.out _ (Below.drew (Hid.out (by assumption)))) | (exact HCC.out _ (below_al (Hid.out (by assumption)) _)))
          (first | (go_at_call 23; refine (HC1.out _ (by first | exact (Hid.out (by assumption)) | exact Below.drew (Hid.out (by assumption)))).mono ?_; rintro e w1 ⟨rfl, HB⟩) | (go_at_call 24; refine (HC2.out _ (by first | exact (Hid.out (by assumption)) | exact Below.drew (Hid.out (by assumption)))).mono ?_; rintro e w1 ⟨rfl, HB⟩) | (go_at_call 25; refine (HC3.out _ (by first | exact (Hid.out (by assumption)) | exact Below.drew (Hid.out (by assumption)))).mono ?_; rintro e w1 ⟨rfl, HB⟩) | (go_at_call 22; refine (HC4.out _ (by first | exact (Hid.out (by assumption)) | exact Below.drew (Hid.out (by assumption)))).mono ?_; rintro e w1 ⟨rfl, HB⟩))
        all_goals
          have HF3 : Hid _ := HFIN.out _ HB.out
          obtain ⟨f0, f1, f2, f3⟩ := bfa_cells HF3.out.2
          clear HFIN HCC HC1 HC2 HC3 HC4 d0 d1 d2 d3
          go_wp2_with fail
          exact bodyPost_ret (v := .agg #[.int .i64 er, .int .i64 (k : Int)]) (results_row (p := 2) (ty := 33) Try.results9 _ _ G 33 #[.int .i64 er, .int .i64 (k : Int)] (0, 0) _ rfl (bfa_set HF3.out.2) Try.underlying33 rfl (by rw [bsizeFa]; rfl)) rfl ⟨by rw [HN1.out, HF2.out], (HF3.out.1.setCell hGM _).setCell hGM _⟩
    · obtain rfl : k = l.length := by omega
      have HF2 : Hid (Bk.firstTo (Rl.gErr l) l.length = (0, 0)) := Bk.firstTo_none _ _ hS.out
      obtain ⟨f0, f1, f2, f3⟩ := bfa_cells hX.out.2
      clear HRW
      go_wp2_with fail
      exact bodyPost_ret (v := .agg #[.int .i64 0, .int .i64 0]) (results_row (p := 2) (ty := 33) Try.results9 _ _ G 33 #[.int .i64 0, .int .i64 0] (0, 0) _ rfl (bfa_set hX.out.2) Try.underlying33 rfl (by rw [bsizeFa]; rfl)) rfl ⟨by rw [HN1.out, HF2.out], (hX.out.1.setCell hGM _).setCell hGM _⟩
end Go.Proofs.Ytgkmaihleilchaa
