/- walks: Go's stable sort: insertionSort -/
import Derived.Test.YthnklbcaodhbfaaVRw
import Derived.Test.YthnklbcaodhbfaaVK2
namespace Go.Proofs.Ythnklbcaodhbfaa
open Go.RowKit
open Vc (V Of)

theorem cmp_say (x y : V) (X W : World) (hW : Below X.heap.size X W) :
    Calls Try.prog 9 #[.agg #[.int .u64 x.root, .int .i64 x.cost, .int .u64 x.bridge, .int .i64 x.port], .agg #[.int .u64 y.root, .int .i64 y.cost, .int .u64 y.bridge, .int .i64 y.port]] W fun e w' => e = .returned (.int .i64 (Vc.cmp x y)) ∧ Hid (Below X.heap.size X w') :=
  (vcompare_any x y W).mono (fun _ _ h => ⟨h.1, hW.trans (h.2.mono hW.size)⟩)
set_option maxRecDepth 100000 in
set_option maxHeartbeats 4000000 in
theorem sinsertion_any (g n cap a b : Nat) (f : Nat → V) (w : World) (hA : w.heap[g]? = some (.cells (rowV n f) 27 (0, 0))) (hn : n ≤ 4398046511104) (ha : a ≤ n) (hb : b ≤ n) :
    Calls Try.prog 34 #[.slice (some ⟨g, 0, none⟩) n cap, .int .i64 a, .int .i64 b, .func (.func 9) #[] #[]] w fun x w' => x = .returned (.tuple #[]) ∧ ∃ G, w'.heap[g]? = some (.cells (rowV n G) 27 (0, 0)) ∧ Vc.Pm a b f G ∧ Vc.SIn a b G ∧ Below g w w' := by
  have HA : Hid (w.heap[g]? = some (.cells (rowV n f) 27 (0, 0))) := hA
  clear hA
  go_enter Try.func34, Try.ntmps34
  go_wp2_with fail
  go_loopw [8] (fun vi wr => ∃ i : Nat, a + 1 ≤ i ∧ (i ≤ b ∨ i = a + 1) ∧ vi = .int .i64 i ∧ Hid (∃ G, wr.heap[g]? = some (.cells (rowV n G) 27 (0, 0)) ∧ Vc.Pm a b f G ∧ Vc.SIn a i G ∧ Below g w wr)) (fun i _ => b - (intOf i).toNat)
  case atStart => exact ⟨a + 1, by omega, Or.inr rfl, by go_num, f, HA.out, Vc.Pm.refl, Vc.SIn.short f (by omega), Below.refl _ _⟩
  case round =>
    obtain ⟨i, li, ui, rfl, hX⟩ := hrel
    have HX : Hid (∃ G, wr.heap[g]? = some (.cells (rowV n G) 27 (0, 0)) ∧ Vc.Pm a b f G ∧ Vc.SIn a i G ∧ Below g w wr) := hX
    clear hX HA
    by_cases hlt : i < b
    · have hlt2 : (i : Int) < (b : Int) := by omega
      go_wp2_with fail
      go_loopw [9] (fun vj wi => ∃ j : Nat, a ≤ j ∧ j ≤ i ∧ vj = .int .i64 j ∧ Hid (∃ G, wi.heap[g]? = some (.cells (rowV n G) 27 (0, 0)) ∧ Vc.Pm a b f G ∧ Vc.Ins a i j G ∧ Below g w wi)) (fun j _ => (intOf j).toNat)
      case atStart =>
        obtain ⟨G, h1, h2, h3, h4⟩ := HX.out
        exact ⟨i, by omega, by omega, rfl, G, h1, h2, Vc.Ins.start h3, h4⟩
      case round =>
        obtain ⟨j, lj, uj, rfl, hY⟩ := hrel
        obtain ⟨G, hG, hP, hI, hB⟩ := hY.out
        have HG : Hid (wr.heap[g]? = some (.cells (rowV n G) 27 (0, 0))) := hG
        have HP : Hid (Vc.Pm a b f G) := hP
        have HI : Hid (Vc.Ins a i j G) := hI
        have HB : Hid (Below g w wr) := hB
        clear hY hG hP hI hB HX
        by_cases hj : a < j
        · obtain ⟨p, hp⟩ : ∃ p, p = j - 1 := ⟨_, rfl⟩
          have wp : IntKind.i64.wrap ((j : Int) - 1) = (p : Int) := by rw [wraps_i64 _ (by omega) (by omega)]; omega
          have hj2 : (a : Int) < (j : Int) := by omega
          have ip : (0 : Int) ≤ (p : Int) := by omega
          have ij : (0 : Int) ≤ (j : Int) := by omega
          have np : (p : Int) < (n : Int) := by omega
          have nj : (j : Int) < (n : Int) := by omega
          have HCC : Hid (∀ W, Below wr.heap.size wr W → (W.cell? ⟨g, j * 4, none⟩ = some (.int .u64 (G j).root) ∧ W.cell? ⟨g, j * 4 + 1, none⟩ = some (.int .i64 (G j).cost) ∧ W.cell? ⟨g, j * 4 + 2, none⟩ = some (.int .u64 (G j).bridge) ∧ W.cell? ⟨g, j * 4 + 3, none⟩ = some (.int .i64 (G j).port)) ∧ W.cell? ⟨g, p * 4, none⟩ = some (.int .u64 (G p).root) ∧ W.cell? ⟨g, p * 4 + 1, none⟩ = some (.int .i64 (G p).cost) ∧ W.cell? ⟨g, p * 4 + 2, none⟩ = some (.int .u64 (G p).bridge) ∧ W.cell? ⟨g, p * 4 + 3, none⟩ = some (.int .i64 (G p).port)) := fun W hW => ⟨rowV_cells (keep HG.out hW) (show j < n by omega), rowV_cells (keep HG.out hW) (show p < n by omega)⟩
          have HFR : Hid (∀ W, Below wr.heap.size wr W → (W.frozen? ⟨g, j * 4, none⟩ = false ∧ W.frozen? ⟨g, j * 4 + 1, none⟩ = false ∧ W.frozen? ⟨g, j * 4 + 2, none⟩ = false ∧ W.frozen? ⟨g, j * 4 + 3, none⟩ = false) ∧ W.frozen? ⟨g, p * 4, none⟩ = false ∧ W.frozen? ⟨g, p * 4 + 1, none⟩ = false ∧ W.frozen? ⟨g, p * 4 + 2, none⟩ = false ∧ W.frozen? ⟨g, p * 4 + 3, none⟩ = false) := fun W hW => ⟨rowV_free (keep HG.out hW) j, rowV_free (keep HG.out hW) p⟩
          have HW0 : Hid (Below wr.heap.size wr wr) := Below.refl _ _
          have HCM : Hid (∀ W, Below wr.heap.size wr W → Calls Try.prog 9 #[.agg #[.int .u64 (G j).root, .int .i64 (G j).cost, .int .u64 (G j).bridge, .int .i64 (G j).port], .agg #[.int .u64 (G p).root, .int .i64 (G p).cost, .int .u64 (G p).bridge, .int .i64 (G p).port]] W fun e w' => e = .returned (.int .i64 (Vc.cmp (G j) (G p))) ∧ Hid (Below wr.heap.size wr w')) := fun W hW => cmp_say (G j) (G p) wr W hW
          have HSW : Hid (∀ W, Below wr.heap.size wr W → _) := fun W hW => swap_fin (F := Vc.swp G j p) (keep HG.out hW) (HB.out.trans (hW.mono (Nat.le_of_lt (Array.getElem?_eq_some_iff.1 HG.out).1))) (Nat.le_refl _) (show j < n by omega) (show p < n by omega) (show j ≠ p by omega) rfl
          have HLO : Hid (∀ W, Below wr.heap.size wr W → W.heap[g]? = some (.cells (rowV n G) 27 (0, 0)) ∧ Below g w W) := fun W hW => ⟨keep HG.out hW, HB.out.trans (hW.mono (Nat.le_of_lt (Array.getElem?_eq_some_iff.1 HG.out).1))⟩
          have HYES : Hid (Vc.cmp (G j) (G p) < 0 → Vc.Pm a b f (Vc.swp G j p) ∧ Vc.Ins a i p (Vc.swp G j p)) := fun h => ⟨Vc.Pm.swap j p ⟨by omega, by omega⟩ ⟨by omega, by omega⟩ HP.out, by
            subst hp
            exact HI.out.step hj uj (Vc.cmp_lt.1 h)⟩
          have HNO : Hid (¬ Vc.cmp (G j) (G p) < 0 → Vc.SIn a (i + 1) G) := fun h => HI.out.done lj uj (fun _ q => h (Vc.cmp_lt.2 (by subst hp; exact q)))
          obtain ⟨⟨c0, c1, c2, c3⟩, d0, d1, d2, d3⟩ := HCC.out wr HW0.out
          have hpj : p < j := by omega
          have hap : a ≤ p := by omega
          clear hp HI HG HB
          obtain ⟨CV, hCV⟩ : ∃ CV, Vc.cmp (G j) (G p) = CV := ⟨_, rfl⟩
          rw [hCV] at HCM HYES HNO
          clear hCV
          obtain ⟨x, hx⟩ : ∃ x, G j = x := ⟨_, rfl⟩
          obtain ⟨y, hy⟩ : ∃ y, G p = y := ⟨_, rfl⟩
          rw [hx, hy] at HCC HCM HSW
          rw [hx] at c0 c1 c2 c3
          rw [hy] at d0 d1 d2 d3
          clear hx hy
          go_wp2_with fail
          go_region_held3 (fun W => (W.cell? ⟨g, j * 4, none⟩ = some (.int .u64 x.root) ∧ W.cell? ⟨g, j * 4 + 1, none⟩ = some (.int .i64 x.cost) ∧ W.cell? ⟨g, j * 4 + 2, none⟩ = some (.int .u64 x.bridge) ∧ W.cell? ⟨g, j * 4 + 3, none⟩ = some (.int .i64 x.port)) ∧ W.cell? ⟨g, p * 4, none⟩ = some (.int .u64 y.root) ∧ W.cell? ⟨g, p * 4 + 1, none⟩ = some (.int .i64 y.cost) ∧ W.cell? ⟨g, p * 4 + 2, none⟩ = some (.int .u64 y.bridge) ∧ W.cell? ⟨g, p * 4 + 3, none⟩ = some (.int .i64 y.port))
            (first | (exact HCC.out _ (Below.drew HW0.out)) | (exact HCC.out _ (Hid.out (by assumption))))
            (first | (go_at_call 9; refine (HCM.out _ (Below.drew HW0.out)).mono ?_; rintro e w3 ⟨rfl, HB3⟩))
          clear c0 c1 c2 c3 d0 d1 d2 d3
          by_cases hc : CV < 0
          · obtain ⟨k1, k2⟩ := HYES.out hc
            have HFN : Hid (_ ∧ _) := HSW.out w3 HB3.out
            have HPI : Hid (Vc.Pm a b f (Vc.swp G j p) ∧ Vc.Ins a i p (Vc.swp G j p)) := ⟨k1, k2⟩
            obtain ⟨⟨c0, c1, c2, c3⟩, d0, d1, d2, d3⟩ := HCC.out w3 HB3.out
            obtain ⟨⟨e0, e1, e2, e3⟩, f0, f1, f2, f3⟩ := HFR.out w3 HB3.out
            have hne : j * 4 ≠ p * 4 := by omega
            clear HSW HCC HCM HFR HYES HNO HLO k1 k2 HW0 HB3
            go_wp2_with fail
            go_region
            all_goals go_wp2_with fail
            all_goals exact ⟨⟨p, hap, by omega, rfl, Vc.swp G j p, HFN.out.1, HPI.out.1, HPI.out.2, HFN.out.2⟩, by simp [intOf]; omega⟩
          · have HOUT : Hid (∃ G, w3.heap[g]? = some (.cells (rowV n G) 27 (0, 0)) ∧ Vc.Pm a b f G ∧ Vc.SIn a (i + 1) G ∧ Below g w w3) := ⟨G, (HLO.out w3 HB3.out).1, HP.out, HNO.out (by omega), (HLO.out w3 HB3.out).2⟩
            have hc2 : decide (CV < 0) = false := decide_eq_false hc
            clear HSW HCC HCM HFR HYES HNO HLO HW0 HB3
            go_wp2_with fail
            exact ⟨⟨i + 1, by omega, by omega, by go_num, HOUT⟩, by simp [intOf]; omega⟩
        · have hja : j = a := by omega
          have HOUT : Hid (∀ m, ∃ G, (wr.drewN m).heap[g]? = some (.cells (rowV n G) 27 (0, 0)) ∧ Vc.Pm a b f G ∧ Vc.SIn a (i + 1) G ∧ Below g w (wr.drewN m)) := fun m => ⟨G, HG.out, HP.out, HI.out.done lj uj (fun q => by omega), below_drewN HB.out m⟩
          have hd : decide ((a : Int) < (j : Int)) = false := decide_eq_false (by omega)
          clear HG HP HI HB hja
          go_wp2_with fail
          go_quiet (fail)
          go_wp2_with fail
          exact ⟨⟨i + 1, by omega, by omega, by go_num, HOUT.out _⟩, by simp [intOf]; omega⟩
    · have HF : Hid (∃ G, wr.heap[g]? = some (.cells (rowV n G) 27 (0, 0)) ∧ Vc.Pm a b f G ∧ Vc.SIn a b G ∧ Below g w wr) := by
        obtain ⟨G, h1, h2, h3, h4⟩ := HX.out
        exact ⟨G, h1, h2, h3.sub (Nat.le_refl _) (by omega), h4⟩
      clear HX
      go_wp2_with fail
      exact bodyPost_end (results_none Try.results34 _ _ _) rfl ⟨rfl, HF.out⟩
end Go.Proofs.Ythnklbcaodhbfaa
