/- What Play leaves in three variables' boxes, at nets that are right -/
import Derived.Test.YtflghpnpjmodaaaGreatDoorK21
import Derived.Test.YtflghpnpjmodaaaGreatDoorK37
namespace Go.Proofs.YtflghpnpjmodaaaGreatDoor
open Go.RowKit
open Vc (V Of)
open Pl (Br Net Pc Lk En St)
open Tk (Md Mnd Cn Sc Dn ten yes)

/-- The net that is built, its rows the call's own. -/
structure LineW (base : Nat) (W : World) (ls : Nat → Lk) (k L : Nat) (v5 v6 : Value) : Prop where
  brs : W.ownsRow base 58 5 v5 k (cellsL k 5 (fun i => brC (bsL i)))
  lks : W.ownsRow base 83 6 v6 L (cellsL L 6 (fun j => lkC (ls j)))
  apart : ∀ q, v5.ownBlock = some q → v6.ownBlock ≠ some q
theorem LineW.below {base : Nat} {W W' : World} {ls : Nat → Lk} {k L : Nat} {v5 v6 : Value} (h : LineW base W ls k L v5 v6) (hb : Below W.heap.size W W') : LineW base W' ls k L v5 v6 := ⟨ownsC_below h.brs hb, ownsC_below h.lks hb, h.apart⟩
theorem LineW.set {base g o : Nat} {x : Value} {W : World} {ls : Nat → Lk} {k L : Nat} {v5 v6 : Value} (h : LineW base W ls k L v5 v6) (hg : g < base) : LineW base (W.setCell ⟨g, o, none⟩ x) ls k L v5 v6 := by
  have hgs : W.grownBy (W.setCell ⟨g, o, none⟩ x) (some g) := by
    have bz : Below 0 W (W.setCell ⟨g, o, none⟩ x) := (Below.refl 0 W).setCell (Nat.zero_le _) _
    exact ⟨bz.os, bz.tape, bz.output, bz.size, fun q hq hne => heap_setCell_other _ _ _ _ (by exact fun e => hne (by rw [e]))⟩
  refine ⟨h.brs.kept hgs ?_, h.lks.kept hgs ?_, h.apart⟩
  · cases hv : v5.ownBlock with
    | none => exact Or.inl rfl
    | some q => exact Or.inr (fun e => by have := (ownsC_block h.brs q hv).1; injection e with e; omega)
  · cases hv : v6.ownBlock with
    | none => exact Or.inl rfl
    | some q => exact Or.inr (fun e => by have := (ownsC_block h.lks q hv).1; injection e with e; omega)
theorem line_fin {w w1 W : World} {ls : Nat → Lk} {M R t s : Nat} {v5 v6 : Value} (h : NetW w1 W bsL ls M t s v5 v6) (hR : W.heap[R]? = some (.cells #[.slice none 0 0, .slice none 0 0] 32 (0, 0))) (hlt : R < M) (hb : Below R w W) :
    ((W.setCell ⟨R, 0, none⟩ v5).setCell ⟨R, 1, none⟩ v6).heap[R]? = some (.cells #[v5, v6] 32 (0, 0)) ∧ LineW (M + 1) ((W.setCell ⟨R, 0, none⟩ v5).setCell ⟨R, 1, none⟩ v6) ls t s v5 v6 ∧ Below R w ((W.setCell ⟨R, 0, none⟩ v5).setCell ⟨R, 1, none⟩ v6) := by
  refine ⟨?_, ?_, (hb.setCell (Nat.le_refl _) _).setCell (Nat.le_refl _) _⟩
  · have h1 := set_at (i := 0) (v := v5) hR
    have h2 := set_at (i := 1) (v := v6) h1
    rw [h2]
    rfl
  · have h0 : LineW (M + 1) W ls t s v5 v6 := ⟨h.brs, h.lks, h.apart⟩
    exact (h0.set (by omega)).set (by omega)
set_option maxHeartbeats 1000000 in
theorem uticks_any (x : Int) (w : World) : Calls Tryz.prog 16 #[.int .i64 x] w fun e w' => e = .returned (.agg #[.int .i64 1, .int .i64 x, .int .i64 0, .int .i64 0]) ∧ Below w.heap.size w w' := by
  go_enter Tryz.func16, Tryz.ntmps16
  go_wp2_with fail
  exact bodyPost_ret (v := .agg #[.int .i64 1, .int .i64 x, .int .i64 0, .int .i64 0]) (results_row (p := 2) (ty := 47) Tryz.results16 _ _ w.heap.size 47 _ (0, 0) _ rfl (heap_alloc_last _ _) Tryz.underlying47 rfl (by rw [sizeDo]; rfl)) rfl ⟨rfl, below_alloc1 _ _⟩
set_option maxRecDepth 100000 in
set_option maxHeartbeats 4000000 in
theorem uline_any (k : Nat) (ring : Bool) (w : World) (hk : k ≤ 1000) : Calls Tryz.prog 14 #[.int .i64 (k : Int), .bool ring] w fun e w' => ∃ a5 c5 a6 c6, e = .returned (.agg #[.slice a5 k c5, .slice a6 (lnL k ring) c6]) ∧ Hid (LineW (w.heap.size + 2) w' (Pl.lnk k ten yes) k (lnL k ring) (.slice a5 k c5) (.slice a6 (lnL k ring) c6) ∧ Below w.heap.size w w') := by
  obtain ⟨w1, Hw1⟩ : ∃ w1, Hid (w1 = w.alloc (.cells #[.slice none 0 0, .slice none 0 0] 32)) := ⟨_, rfl⟩
  have h1B : Below w.heap.size w w1 := by rw [Hw1.out]; exact below_alloc1 _ _
  have h1s : w1.heap.size = w.heap.size + 1 := by rw [Hw1.out]; simp
  have h1n : w1.heap[w.heap.size]? = some (.cells #[.slice none 0 0, .slice none 0 0] 32 (0, 0)) := by rw [Hw1.out]; exact heap_alloc_last _ _
  obtain ⟨M, HM⟩ : ∃ M, Hid (M = w.heap.size + 1) := ⟨_, rfl⟩
  obtain ⟨X, HX⟩ : ∃ X, Hid (X = w1.alloc (.cells #[.slice none 0 0, .slice none 0 0] 32)) := ⟨_, rfl⟩
  have H0 : Hid (NetW w1 X bsL (Pl.lnk k ten yes) M 0 (0 - 1) (.slice none 0 0) (.slice none 0 0)) := by
    have e : M = w1.heap.size := by rw [HM.out, h1s]
    rw [e, HX.out]
    exact ⟨below_alloc1 _ _, heap_alloc_last _ _, ownsC_nil _ _ _ _ _, ownsC_nil _ _ _ _ _, fun q hq => by simp [Value.ownBlock] at hq⟩
  have HR : Hid (∀ W, Below M w1 W → W.heap[w.heap.size]? = some (.cells #[.slice none 0 0, .slice none 0 0] 32 (0, 0)) ∧ Below w.heap.size w W) := fun W hW => ⟨(hW.block _ (by rw [HM.out]; omega)).trans h1n, h1B.trans (hW.mono (by rw [HM.out]; omega))⟩
  clear h1B h1n
  go_enter Tryz.func14, Tryz.ntmps14
  go_wp2_with fail
  rw [← Hw1.out, ← HX.out]
  rw [← HM.out]
  go_loopw [8] (fun i wr => ∃ (m : Nat) (v5 v6 : Value), m ≤ k ∧ i = .int .i64 m ∧ Hid (NetW w1 wr bsL (Pl.lnk k ten yes) M m (m - 1) v5 v6)) (fun i _ => k - (intOf i).toNat)
  case atStart => exact ⟨0, _, _, by omega, rfl, H0⟩
  case round =>
    obtain ⟨m, v5, v6, hm, rfl, hN⟩ := hrel
    clear H0
    by_cases hlt : m < k
    · have hi : (m : Int) < (k : Int) := by omega
      obtain ⟨a1, c1, w2, hap, hlo2, hcell2, hfz2, hN2⟩ := net_br hN.out (by omega)
      have HAP : Hid ((Builtin.append_ #[29, 29] 29 #[v5, .slice (some ⟨wr.heap.size, 0, none⟩) 1 1]).run Tryz.prog (wr.alloc (.cells #[.int .u64 (10 + (m : Int)), .slice none 0 0, .string ⟨#[114]⟩, .int .i64 0, .slice none 0 0] 58)) = .ok (.slice a1 (m + 1) c1) w2) := hap
      obtain ⟨g0, _⟩ := two_cells2 hN.out.box
      have hMl : M < wr.heap.size := (Array.getElem?_eq_some_iff.1 hN.out.box).1
      have wa : IntKind.i64.wrap (10 + (m : Int)) = 10 + (m : Int) := by rw [IntKind.wrap_i64]; omega
      have wb : IntKind.u64.wrap (10 + (m : Int)) = 10 + (m : Int) := by rw [IntKind.wrap_u64]; omega
      have wc : IntKind.i64.wrap ((m : Int) + 1) = (m : Int) + 1 := by rw [IntKind.wrap_i64]; omega
      have HN2 : Hid (NetW w1 (w2.setCell ⟨M, 0, none⟩ (.slice a1 (m + 1) c1)) bsL (Pl.lnk k ten yes) M (m + 1) (m - 1) (.slice a1 (m + 1) c1) v6) := hN2
      clear hap hN hN2 hlo2
      by_cases h0 : m = 0
      · have HN0 : Hid (NetW w1 (w2.setCell ⟨M, 0, none⟩ (.slice a1 (m + 1) c1)) bsL (Pl.lnk k ten yes) M (m + 1) (m + 1 - 1) (.slice a1 (m + 1) c1) v6) := by
          have h := HN2.out
          rw [show m - 1 = m + 1 - 1 by omega] at h
          exact h
        have hneg : ¬ (0 : Int) < (m : Int) := by omega
        have hnegN : ¬ 0 < m := by omega
        clear h0 HN2
        go_wp2_with (at_builtin; refine wpList_append_run rfl (.tmp 12) (.tmp 18) 29 rfl _ _ _ rfl rfl HAP.out ?_; clear HAP)
        exact ⟨⟨m + 1, _, _, by omega, by go_num, HN0⟩, by simp [intOf]; omega⟩
      · obtain ⟨p, hp⟩ : ∃ p, m = p + 1 := ⟨m - 1, by omega⟩
        obtain ⟨W3, HW3⟩ : ∃ W3, Hid (W3 = w2.setCell ⟨M, 0, none⟩ (.slice a1 (m + 1) c1)) := ⟨_, rfl⟩
        have HN3 : Hid (NetW w1 W3 bsL (Pl.lnk k ten yes) M (m + 1) p (.slice a1 (m + 1) c1) v6) := by
          have h := HN2.out
          rw [show m - 1 = p by omega] at h
          rw [HW3.out]
          exact h
        obtain ⟨a3, c3, w4, hap, hlo4, hcell4, hfz4, hN4⟩ := net_lk HN3.out (by omega)
        have HAL : Hid ((Builtin.append_ #[30, 30] 30 #[v6, .slice (some ⟨w2.heap.size, 0, none⟩) 1 1]).run Tryz.prog ((w2.setCell ⟨M, 0, none⟩ (.slice a1 (m + 1) c1)).alloc (.cells #[.int .i64 (p : Int), .int .i64 2, .int .i64 (m : Int), .int .i64 1, .int .i64 10, .bool true] 83)) = .ok (.slice a3 (p + 1) c3) w4) := by
          have e : lkA (Pl.lnk k ten yes p) = #[.int .i64 (p : Int), .int .i64 2, .int .i64 (m : Int), .int .i64 1, .int .i64 10, .bool true] := by
            unfold Pl.lnk
            rw [if_neg (by omega), hp]
            rfl
          have hs : W3.heap.size = w2.heap.size := by rw [HW3.out]; simp
          rw [e, hs, HW3.out] at hap
          exact hap
        obtain ⟨_, g3⟩ := two_cells2 HN3.out.box
        have hMl3 : M < W3.heap.size := (Array.getElem?_eq_some_iff.1 HN3.out.box).1
        have HN4 : Hid (NetW w1 (w4.setCell ⟨M, 1, none⟩ (.slice a3 (p + 1) c3)) bsL (Pl.lnk k ten yes) M (m + 1) (m + 1 - 1) (.slice a1 (m + 1) c1) (.slice a3 (p + 1) c3)) := by
          rw [show m + 1 - 1 = p + 1 by omega]
          exact hN4
        have wd : IntKind.i64.wrap ((m : Int) - 1) = (p : Int) := by rw [IntKind.wrap_i64]; omega
        have pos : (0 : Int) < (m : Int) := by omega
        have posN : 0 < m := by omega
        rw [HW3.out] at g3 hMl3
        clear hap hN4 hlo4 HN3 HN2 hp h0
        go_wp2_with (at_builtin; first | (refine wpList_append_run rfl (.tmp 12) (.tmp 18) 29 rfl _ _ _ rfl rfl HAP.out ?_; clear HAP) | (refine wpList_append_run rfl (.tmp 24) (.tmp 29) 30 rfl _ _ _ rfl rfl HAL.out ?_; clear HAL))
        exact ⟨⟨m + 1, _, _, by omega, by go_num, HN4⟩, by simp [intOf]; omega⟩
    · obtain rfl : m = k := by omega
      have hi : ¬ (m : Int) < (m : Int) := by omega
      obtain ⟨a5, c5, e5, _⟩ := owns_c (by omega) hN.out.brs
      obtain ⟨a6, c6, e6, _⟩ := owns_c (by omega) hN.out.lks
      subst e5
      subst e6
      have hMl : M < wr.heap.size := (Array.getElem?_eq_some_iff.1 hN.out.box).1
      by_cases hr : ring = true ∧ 2 < m
      · obtain ⟨rfl, h2⟩ := hr
        obtain ⟨p, hp⟩ : ∃ p, m = p + 1 := ⟨m - 1, by omega⟩
        have HN3 : Hid (NetW w1 wr bsL (Pl.lnk m ten yes) M m p (.slice a5 m c5) (.slice a6 (m - 1) c6)) := by
          have h := hN.out
          rw [show m - 1 = p by omega] at h ⊢
          exact h
        obtain ⟨a3, c3, w4, hap, hlo4, hcell4, hfz4, hN4⟩ := net_lk HN3.out (by omega)
        have HAL : Hid ((Builtin.append_ #[30, 30] 30 #[.slice a6 (m - 1) c6, .slice (some ⟨wr.heap.size, 0, none⟩) 1 1]).run Tryz.prog (wr.alloc (.cells #[.int .i64 (p : Int), .int .i64 2, .int .i64 0, .int .i64 1, .int .i64 10, .bool true] 83)) = .ok (.slice a3 m c3) w4) := by
          have e : lkA (Pl.lnk m ten yes p) = #[.int .i64 (p : Int), .int .i64 2, .int .i64 0, .int .i64 1, .int .i64 10, .bool true] := by
            unfold Pl.lnk
            rw [if_pos hp.symm]
            rfl
          rw [e, ← hp] at hap
          exact hap
        obtain ⟨_, g3⟩ := two_cells2 HN3.out.box
        have wd : IntKind.i64.wrap ((m : Int) - 1) = (p : Int) := by rw [IntKind.wrap_i64]; omega
        have h2i : (2 : Int) < (m : Int) := by omega
        obtain ⟨W5, HW5⟩ : ∃ W5, Hid (W5 = w4.setCell ⟨M, 1, none⟩ (.slice a3 m c3)) := ⟨_, rfl⟩
        have HN5 : Hid (NetW w1 W5 bsL (Pl.lnk m ten yes) M m m (.slice a5 m c5) (.slice a3 m c3)) := by
          rw [HW5.out]
          have h := hN4
          rw [← hp] at h
          exact h
        rw [← hp] at hN4
        obtain ⟨r5, b5⟩ := HR.out W5 HN5.out.low
        obtain ⟨r0, r1⟩ := two_cells2 r5
        have f0 := lk_free0 r5 0
        have f1 := lk_free0 r5 1
        obtain ⟨m0, m1⟩ := two_cells2 HN5.out.box
        have HF : Hid _ := line_fin HN5.out r5 (by rw [HM.out]; omega) b5
        have hl : lnL m true = m := by unfold lnL; rw [if_pos ⟨rfl, h2⟩]
        rw [HW5.out] at r0 r1 f0 f1 m0 m1 HF
        clear hap hN4 hlo4 HN3 hN HR r5 b5 hp HN5
        go_wp2_with (at_builtin; refine wpList_append_run rfl (.tmp 39) (.tmp 43) 30 rfl _ _ _ rfl rfl HAL.out ?_; clear HAL)
        obtain ⟨y1, y2, y3⟩ := HF.out
        exact bodyPost_ret (v := .agg #[.slice a5 m c5, .slice a3 m c3]) (results_row (p := 4) (ty := 32) Tryz.results14 _ _ w.heap.size 32 _ (0, 0) _ rfl y1 Tryz.underlying32 rfl (by rw [sizeNet]; rfl)) rfl ⟨_, _, _, _, rfl, (by have e : M + 1 = w.heap.size + 2 := by { rw [HM.out] }; rw [← e]; exact ⟨y2, y3⟩)⟩
      · have HN5 : Hid (NetW w1 wr bsL (Pl.lnk m ten yes) M m (m - 1) (.slice a5 m c5) (.slice a6 (m - 1) c6)) := hN.out
        obtain ⟨r5, b5⟩ := HR.out wr HN5.out.low
        obtain ⟨r0, r1⟩ := two_cells2 r5
        have f0 := lk_free0 r5 0
        have f1 := lk_free0 r5 1
        obtain ⟨m0, m1⟩ := two_cells2 HN5.out.box
        have HF : Hid _ := line_fin HN5.out r5 (by rw [HM.out]; omega) b5
        have hl : lnL m ring = m - 1 := by unfold lnL; rw [if_neg hr]
        clear hN HR r5 b5
        have key : ring = false ∨ (ring = true ∧ ¬ (2 : Int) < (m : Int)) := by
          cases ring with
          | false => exact Or.inl rfl
          | true => exact Or.inr ⟨rfl, fun z => hr ⟨rfl, by omega⟩⟩
        rcases key with rfl | ⟨rfl, h2⟩
        · go_wp2_with fail
          obtain ⟨y1, y2, y3⟩ := HF.out
          exact bodyPost_ret (v := .agg #[.slice a5 m c5, .slice a6 (m - 1) c6]) (results_row (p := 4) (ty := 32) Tryz.results14 _ _ w.heap.size 32 _ (0, 0) _ rfl y1 Tryz.underlying32 rfl (by rw [sizeNet]; rfl)) rfl ⟨_, _, _, _, rfl, (by have e : M + 1 = w.heap.size + 2 := by { rw [HM.out] }; rw [← e]; exact ⟨y2, y3⟩)⟩
        · go_wp2_with fail
          obtain ⟨y1, y2, y3⟩ := HF.out
          exact bodyPost_ret (v := .agg #[.slice a5 m c5, .slice a6 (m - 1) c6]) (results_row (p := 4) (ty := 32) Tryz.results14 _ _ w.heap.size 32 _ (0, 0) _ rfl y1 Tryz.underlying32 rfl (by rw [sizeNet]; rfl)) rfl ⟨_, _, _, _, rfl, (by have e : M + 1 = w.heap.size + 2 := by { rw [HM.out] }; rw [← e]; exact ⟨y2, y3⟩)⟩
end Go.Proofs.YtflghpnpjmodaaaGreatDoor

namespace Go.Proofs.YtflghpnpjmodaaaGreatDoor
open Go.RowKit
open Vc (V Of)
open Pl (Br Net Pc Lk En St ringE lineE ringId)
open Tk (Md Mnd Cn Sc Dn ten yes)

/-- A net's links behind whatever is done. -/
theorem sn_links {W : World} {n : Net} {T : Nat} {s : Sc} {n' : Net} {oa : Option Addr} {oc : Nat} {t' : List Tr} (h : SnOut W n T s n' oa oc t') : n'.ls = s.ls := congrArg Sc.ls h.sc
section
variable {k : Nat} {cst : Nat → Int} {a5 : Option Addr} {c5 : Nat} {a6 : Option Addr} {c6 : Nat}
/-- Which ports forward behind Settle and Wait ticks. -/
theorem ring_opens {W : World} {n' : Net} {oa : Option Addr} {oc : Nat} {t' : List Tr} {x : Int} (hx : 83 ≤ x) (h : SnOut W (netL k true cst a5 c5 a6 c6) 1 (((netL k true cst a5 c5 a6 c6).sc (startMs (netL k true cst a5 c5 a6 c6))).all (netL k true cst a5 c5 a6 c6).cn (tk1 x) 1) n' oa oc t') (hk : 3 ≤ k ∧ k ≤ 12) (hc : ∀ j, j < k → 1 ≤ cst j ∧ cst j ≤ 200000) {i j : Nat} (hi : i < k) (hj : j < 2) :
    opT t' 0 i ((j : Int) + 1) = Tk.onR k cst yes (Pl.ringAll k cst yes) i j := by
  have hO := fun hj => sn_opens (j := j) (k := 0) h (netL_wf hk.2) (netL_right hk.2 hc) (fun k hk => absurd hk (by omega)) (by omega) (by omega) (show i < (netL k true cst a5 c5 a6 c6).K from hi) hj
  obtain ⟨e1, _, e3, e4⟩ := sn_net h
  have e1 : n'.K = k := e1
  rw [tk1_all] at e3 e4
  have e3 : n'.ends = (netL k true cst a5 c5 a6 c6).ends := by
    rw [e3]
    show ((netL k true cst a5 c5 a6 c6).sc (startMs (netL k true cst a5 c5 a6 c6))).E _ = _
    rw [Pl.Net.sc_E]
  have e4 : n'.ids ((0 : Nat) : Int) = ringId := by
    rw [e4]
    funext q
    show ((netL k true cst a5 c5 a6 c6).sc (startMs (netL k true cst a5 c5 a6 c6))).ids _ _ q = _
    rw [net_ids, netL_ids]
  have hE : n'.ends i = ringE k cst yes i := by rw [e3]; exact netL_ring hk.1 hc hi
  have hlen : (ringE k cst yes i).length = 2 := rfl
  have hO := hO (by rw [hE, hlen]; exact hj)
  rw [e4, e1, hE] at hO
  have hf : ∀ q, q < k → Pl.rounds ringId n'.ends k k q = Pl.sat (Pl.ringAll k cst yes) q := fun q hq => by
    rw [e3]
    exact (Pl.finL_by (fun i hi => netL_ring hk.1 hc hi) (Pl.ringE_in hk.1 cst yes) hq).symm
  have hoffs : Pl.offs (ringE k cst yes i) (Pl.rounds ringId n'.ends k k) = Pl.offs (ringE k cst yes i) (Pl.sat (Pl.ringAll k cst yes)) := Pl.offs_congr (fun e he _ => by rw [hf _ (Pl.ringE_in hk.1 cst yes i hi e he)])
  rw [hf i hi, hoffs] at hO
  have hp : (EL (ringE k cst yes i) j).port = (j : Int) + 1 := by
    rcases (by omega : j = 0 ∨ j = 1) with e | e <;> subst e <;> rfl
  rw [hp] at hO
  have hO : opT t' 0 i ((j : Int) + 1) = _ := hO
  rw [hO]
  have hr : (Pl.rolesL k cst yes (Pl.ringAll k cst yes) i).getD j 0 = Pl.roleAt (Pl.sat (Pl.ringAll k cst yes) i) (Pl.offs (ringE k cst yes i) (Pl.sat (Pl.ringAll k cst yes))) (EL (ringE k cst yes i) j) := by
    unfold Pl.rolesL
    exact Tk.map_getD _ _ (EL_get (by rw [hlen]; exact hj))
  unfold Tk.onR
  simp only [hr]
  rw [Bool.decide_or]
/-- The links are as they were behind ticks. -/
theorem tick_links {W : World} {n : Net} {n' : Net} {oa : Option Addr} {oc : Nat} {t' : List Tr} {x : Int} {T : Nat} (h : SnOut W n T ((n.sc (startMs n)).all n.cn (tk1 x) 1) n' oa oc t') : n'.ls = n.ls ∧ n'.K = n.K ∧ n'.L = n.L := by
  obtain ⟨e1, e2, _, _⟩ := sn_net h
  have := sn_links h
  rw [tk1_all] at this
  exact ⟨this, e1, e2⟩
end
/-- THE CHEAPER WAY. -/
theorem cheap_at {k d i : Nat} (hk : 3 ≤ k ∧ k ≤ 12) (hd : d < k) (hi : i < k) : (Tk.onR k (Tk.dearC d) yes (Pl.ringAll k (Tk.dearC d) yes) i 1 && Tk.onR k (Tk.dearC d) yes (Pl.ringAll k (Tk.dearC d) yes) (Tk.nxt k i) 0) = decide (i ≠ d) := by
  have h1 := List.all_eq_true.1 Tk.cheap_all k (by
    have : (List.range 13).drop 3 = [3, 4, 5, 6, 7, 8, 9, 10, 11, 12] := by decide
    rw [this]
    simp
    omega)
  have h2 := List.all_eq_true.1 h1 d (List.mem_range.2 hd)
  have h3 := List.all_eq_true.1 h2 i (List.mem_range.2 hi)
  exact eq_of_beq h3
theorem dear_ok {k d : Nat} : ∀ j, j < k → 1 ≤ Tk.dearC d j ∧ Tk.dearC d j ≤ 200000 := fun j _ => by unfold Tk.dearC; split <;> omega
/-- Of three in a ring two links forward. -/
theorem three_at : (Tk.onR 3 ten yes (Pl.ringAll 3 ten yes) 0 1 && Tk.onR 3 ten yes (Pl.ringAll 3 ten yes) 1 0) = true ∧ (Tk.onR 3 ten yes (Pl.ringAll 3 ten yes) 1 1 && Tk.onR 3 ten yes (Pl.ringAll 3 ten yes) 2 0) = false ∧ (Tk.onR 3 ten yes (Pl.ringAll 3 ten yes) 2 1 && Tk.onR 3 ten yes (Pl.ringAll 3 ten yes) 0 0) = true := by decide +kernel
/-- What is done: ticks, a link goes down, ticks. -/
def cut3 (x : Int) (i : Nat) : Dn := if i = 0 then tickD 50 else if i = 1 then ⟨3, 0, 0, 0⟩ else tickD x
theorem cut_lv {k j : Nat} {a5 : Option Addr} {c5 : Nat} {a6 : Option Addr} {c6 : Nat} {ms : Nat → Nat → Mnd} : ((((netL k false ten a5 c5 a6 c6).sc ms).setUp 0 false).ls j) = Pl.lnk k ten (fun j => decide (j ≠ 0)) j := by
  show (if j = 0 then (⟨((0 : Nat) : Int), 2, ((if 0 + 1 = k then 0 else 0 + 1 : Nat) : Int), 1, ten 0, false⟩ : Lk) else Pl.lnk k ten yes j) = _
  by_cases e : j = 0
  · subst e
    rw [if_pos rfl]
    rfl
  · rw [if_neg e]
    exact congrArg (Lk.mk _ _ _ _ _) (decide_eq_true e).symm
/-- NO GHOST OUTLIVES ITS HOPS. -/
theorem ghost_at {k x i : Nat} {a5 : Option Addr} {c5 : Nat} {a6 : Option Addr} {c6 : Nat} (hk : 3 ≤ k ∧ k ≤ 12) (hx : 21 ≤ x ∧ x ≤ 70) (hi : i < k) (h0 : 0 < i) :
    (((((netL k false ten a5 c5 a6 c6).sc (startMs (netL k false ten a5 c5 a6 c6))).all (netL k false ten a5 c5 a6 c6).cn (cut3 x) 3).ms 0 i).md.v.root ≠ ringId 0) := by
  obtain ⟨n, hn⟩ : ∃ n, n = netL k false ten a5 c5 a6 c6 := ⟨_, rfl⟩
  have e1 : ((n.sc (startMs n)).all n.cn (cut3 x) 3) = (((n.sc (startMs n)).ticks n.cn 50).setUp 0 false).ticks n.cn x := by
    show ((((n.sc (startMs n)).one n.cn (tickD 50)).one n.cn ⟨3, 0, 0, 0⟩).one n.cn (tickD x)) = _
    rw [Tk.Sc.one_tick (d := tickD x) rfl, Tk.Sc.one_tick (d := tickD 50) rfl]
    rfl
  rw [← hn, e1]
  have e2 : ((((n.sc (startMs n)).ticks n.cn 50).setUp 0 false).ticks n.cn x).ms 0 = Tk.ticksF ringId (Pl.ends (Pl.lnk k ten (fun j => decide (j ≠ 0))) (fun j => decide (j ≠ 0)) (k - 1)) (Tk.ticksF ringId n.ends (startMs n 0) 50) x := by
    have hid : ∀ j, (n.sc (startMs n)).ids n.cn ((0 : Nat) : Int) j = ringId j := fun j => by rw [net_ids, hn, netL_ids]
    have hid2 : (((n.sc (startMs n)).ticks n.cn 50).setUp 0 false).ids n.cn ((0 : Nat) : Int) = ringId := funext hid
    have hls : (((n.sc (startMs n)).ticks n.cn 50).setUp 0 false).ls = Pl.lnk k ten (fun j => decide (j ≠ 0)) := funext (fun j => by
      have := cut_lv (k := k) (j := j) (a5 := a5) (c5 := c5) (a6 := a6) (c6 := c6) (ms := startMs n)
      rw [← hn] at this
      exact this)
    have hsm : ∀ a b, n.cn.sm a b = true := fun a b => by
      rw [hn, Pl.Net.sc_sm]
      exact decide_eq_true rfl
    have hE : (((n.sc (startMs n)).ticks n.cn 50).setUp 0 false).E n.cn = Pl.ends (Pl.lnk k ten (fun j => decide (j ≠ 0))) (fun j => decide (j ≠ 0)) (k - 1) := by
      funext q
      unfold Tk.Sc.E
      have hlv : (((n.sc (startMs n)).ticks n.cn 50).setUp 0 false).lv n.cn = fun j => decide (j ≠ 0) := by
        funext j
        unfold Tk.Sc.lv
        rw [hls, hsm, Bool.and_true]
        rfl
      rw [hlv, hls, hn]
      show Pl.ends _ _ (lnL k false) q = _
      rw [lnL_line]
    show Tk.ticksF ((((n.sc (startMs n)).ticks n.cn 50).setUp 0 false).ids n.cn ((0 : Nat) : Int)) ((((n.sc (startMs n)).ticks n.cn 50).setUp 0 false).E n.cn) (Tk.ticksF ((n.sc (startMs n)).ids n.cn ((0 : Nat) : Int)) ((n.sc (startMs n)).E n.cn) (startMs n 0) 50) x = _
    rw [hid2, hE, Pl.Net.sc_E, funext hid]
  rw [e2]
  have hS := Tk.says_ticks (ids := ringId) (E := n.ends) (F := lineE k ten yes) (fun i hi => by rw [hn]; exact netL_line ten_ok hi) (Pl.lineE_in k ten yes) (by
    have h := netL_start (k := k) (ring := false) (cst := ten) (a5 := a5) (c5 := c5) (a6 := a6) (c6 := c6) (F := lineE k ten yes) (fun i hi => netL_line ten_ok hi) 0
    rw [← hn] at h
    exact h) 50
  have hS2 := Tk.says_ticks (ids := ringId) (E := Pl.ends (Pl.lnk k ten (fun j => decide (j ≠ 0))) (fun j => decide (j ≠ 0)) (k - 1)) (F := Tk.cutE k) (fun i hi => Pl.line_ends ten_ok _ _ hi) (Pl.lineE_in k ten _) hS x
  rw [← hS2.2 i hi]
  have h1 := List.all_eq_true.1 Tk.ghost_all k (List.mem_range.2 (by omega))
  have h2 := Tk.allL_at h1 x (by omega)
  rw [Nat.zero_add] at h2
  unfold Tk.ghostAt at h2
  rw [show decide (x < 21) = false from decide_eq_false (by omega), Bool.false_or] at h2
  have h3 := List.all_eq_true.1 h2 i (List.mem_range.2 hi)
  rw [show decide (i = 0) = false from decide_eq_false (by omega), Bool.false_or] at h3
  exact of_decide_eq_true h3
end Go.Proofs.YtflghpnpjmodaaaGreatDoor

namespace Go.Proofs.YtflghpnpjmodaaaGreatDoor
open Go.RowKit
open Vc (V Of)
open Pl (Br Net Pc Lk En St ringE lineE ringId)
open Tk (Md Mnd Cn Sc Dn ten yes)

theorem pl_ok {n : Net} {ds : Nat → Dn} {dn : Nat} (hw : n.wrong.1 = 0) (hdn : dn ≤ 30) (he : ∀ q, q < dn → Tk.errOf n.cn (ds q) = 0) : (plErr n 1 ds dn).1 = 0 := by
  have e : stErr n 1 = (0, 0) := by
    unfold stErr
    rw [if_neg (fun z => z hw), if_neg (fun z => z (by omega))]
  unfold plErr
  rw [e, if_neg (fun z => z rfl), if_neg (by omega)]
  show (Pl.firstTo (fun q => Tk.errOf n.cn (ds q)) dn).1 = 0
  rw [Pl.firstTo_all _ _ he]
theorem errTick {c : Cn} {x : Int} (hx : 0 ≤ x ∧ x ≤ 200) : Tk.errOf c (tickD x) = 0 := by
  unfold Tk.errOf tickD
  simp only [if_pos]
  rw [if_pos hx]
/-- The world behind the three stores. -/
def boxes5 (W : World) (g7 g8 g9 : Nat) (na : Option Addr) (nk nc : Nat) (la : Option Addr) (lk lc : Nat) (oa : Option Addr) (ol oc : Nat) (f1 f2 : Int) : World := (((((W.setCell ⟨g7, 0, none⟩ (.slice na nk nc)).setCell ⟨g7, 1, none⟩ (.slice la lk lc)).setCell ⟨g8, 0, none⟩ (.slice oa ol oc)).setCell ⟨g9, 0, none⟩ (.int .i64 f1)).setCell ⟨g9, 1, none⟩ (.int .i64 f2))
structure UBox (n : Net) (s : Sc) (U : World) (n' : Net) (ob off oc : Nat) (t' : List Tr) (g7 g8 g9 : Nat) : Prop where
  sn : SnOut U n 1 s n' (some ⟨ob, off, none⟩) oc t'
  b7 : U.heap[g7]? = some (.cells #[.slice n'.bao n.K n'.bcap, .slice n'.lao n.L n'.lcap] 32 (0, 0))
  b8 : U.heap[g8]? = some (.cells #[.slice (some ⟨ob, off, none⟩) 1 oc] 43 (0, 0))
  b9 : U.heap[g9]? = some (.cells #[.int .i64 0, .int .i64 0] 26 (0, 0))
set_option maxHeartbeats 1000000 in
theorem u_fin {X V W0 W : World} {n : Net} {ds : Nat → Dn} {dn : Nat} {na : Option Addr} {nk nc : Nat} {la : Option Addr} {lk lc : Nat} {oa : Option Addr} {ol oc : Nat} {f1 f2 : Int} {g7 g8 g9 : Nat} (hR : PlF V W0 n 1 ds dn na nk nc la lk lc oa ol oc f1 f2) (h0 : (plErr n 1 ds dn).1 = 0) (hb : Below W0.heap.size W0 W) (hX : Below X.heap.size X W)
    (hk : W.heap[g7]? = some (.cells #[.slice none 0 0, .slice none 0 0] 32 (0, 0)) ∧ W.heap[g8]? = some (.cells #[.slice none 0 0] 43 (0, 0)) ∧ W.heap[g9]? = some (.cells #[.int .i64 0, .int .i64 0] 26 (0, 0))) (hl : X.heap.size ≤ g7 ∧ X.heap.size ≤ g8 ∧ X.heap.size ≤ g9)
    (hz : (g7 < V.heap.size ∨ W0.heap.size ≤ g7) ∧ (g8 < V.heap.size ∨ W0.heap.size ≤ g8) ∧ (g9 < V.heap.size ∨ W0.heap.size ≤ g9)) :
    ∃ (n' : Net) (ob off : Nat) (t' : List Tr), ((na = n'.bao ∧ nk = n.K ∧ nc = n'.bcap) ∧ (la = n'.lao ∧ lk = n.L ∧ lc = n'.lcap) ∧ (oa = some ⟨ob, off, none⟩ ∧ ol = 1 ∧ 1 ≤ oc) ∧ f1 = 0 ∧ f2 = 0) ∧
      ∀ Z, Z = boxes5 W g7 g8 g9 na nk nc la lk lc oa ol oc f1 f2 → Below X.heap.size X Z ∧ ∀ U, Below Z.heap.size Z U → UBox n ((n.sc (startMs n)).all n.cn ds dn) U n' ob off oc t' g7 g8 g9 := by
  obtain ⟨k7, k8, k9⟩ := hk
  obtain ⟨l7, l8, l9⟩ := hl
  obtain ⟨z7, z8, z9⟩ := hz
  have n78 : g7 ≠ g8 := fun e => by subst e; exact absurd (cells_type k7 k8) (by decide)
  have n79 : g7 ≠ g9 := fun e => by subst e; exact absurd (cells_type k7 k9) (by decide)
  have n89 : g8 ≠ g9 := fun e => by subst e; exact absurd (cells_type k8 k9) (by decide)
  rcases hR with ⟨q, _⟩ | ⟨_, ⟨rfl, rfl⟩, n', t', ⟨rfl, rfl, rfl⟩, ⟨rfl, rfl, rfl⟩, rfl, b, hVb, hK⟩
  · exact absurd h0 q
  · have hS0 := hK.here
    obtain ⟨e1, e2, _⟩ := sn_net hS0
    have tl : t'.length = 1 := hS0.len
    have hS0r := hS0.row
    obtain ⟨ob, off, rfl, _⟩ := hS0r.place (by omega)
    have oc1 := hS0r.row.1
    refine ⟨n', ob, off, t', ⟨⟨rfl, e1, rfl⟩, ⟨rfl, e2, rfl⟩, ⟨rfl, tl, by omega⟩, rfl, rfl⟩, fun Z HZ => ?_⟩
    unfold boxes5 at HZ
    have y7 : Z.heap[g7]? = some (.cells #[.slice n'.bao n'.K n'.bcap, .slice n'.lao n'.L n'.lcap] 32 (0, 0)) := by rw [HZ]; exact set_keep (set_keep (set_keep (set2_same k7) n78) n79) n79
    have y8 : Z.heap[g8]? = some (.cells #[.slice (some ⟨ob, off, none⟩) t'.length oc] 43 (0, 0)) := by rw [HZ]; exact set_keep (set_keep (set1_same (set_keep (set_keep k8 n78.symm) n78.symm)) n89) n89
    have y9 : Z.heap[g9]? = some (.cells #[.int .i64 0, .int .i64 0] 26 (0, 0)) := by rw [HZ]; exact set2_same (set_keep (set_keep (set_keep k9 n79.symm) n79.symm) n89.symm)
    have zs : Z.heap.size = W.heap.size := by rw [HZ]; simp
    have hZX : Below X.heap.size X Z := by rw [HZ]; exact ((((hX.setCell l7 _).setCell l7 _).setCell l8 _).setCell l9 _).setCell l9 _
    rw [e1, e2] at y7
    rw [tl] at y8
    exact ⟨hZX, fun U hU => ⟨boxes_kept hK hVb hb z7 z8 z9 (by rw [← HZ, ← zs]; exact hU), keep y7 hU, keep y8 hU, keep y9 hU⟩⟩
/-- Ident at such bridges. -/
theorem uident {i : Nat} (hi : i < 12) (W : World) : Calls Tryz.prog 17 #[.agg #[.int .u64 (10 + (i : Int)), .slice none 0 0, .string ⟨#[114]⟩, .int .i64 0, .slice none 0 0], .int .i64 0] W fun e w' => e = .returned (.int .u64 (ringId i)) ∧ Below W.heap.size W w' := by
  have hR := right_of (n := netL 12 false ten none 0 none 0) (netL_wf (by omega)) (netL_right (by omega) ten_ok)
  have h := pident_any (bsL i) 0 W ⟨CRow.none _ _ _ _ _, ⟨Nat.le_refl _, fun q => absurd q (Nat.lt_irrefl 0)⟩, Nat.zero_le _, Nat.zero_le _⟩ (hR.fine i hi)
  have e : (bsL i).id 0 = ringId i := congrFun (netL_ids (k := 12) (ring := false) (cst := ten) (a5 := none) (c5 := 0) (a6 := none) (c6 := 0) 0) i
  rw [e] at h
  exact h
theorem ring_o {k : Nat} {cst : Nat → Int} {a5 : Option Addr} {c5 : Nat} {a6 : Option Addr} {c6 : Nat} {W : World} {n' : Net} {ob off oc : Nat} {t' : List Tr} {x : Int} (hx : 83 ≤ x) (h : SnOut W (netL k true cst a5 c5 a6 c6) 1 (((netL k true cst a5 c5 a6 c6).sc (startMs (netL k true cst a5 c5 a6 c6))).all (netL k true cst a5 c5 a6 c6).cn (tk1 x) 1) n' (some ⟨ob, off, none⟩) oc t') (hk : 3 ≤ k ∧ k ≤ 12) (hc : ∀ j, j < k → 1 ≤ cst j ∧ cst j ≤ 200000) {i j : Nat} (hi : i < k) (hj : j < 2) {p : Int} (hp : p = (j : Int) + 1) :
    Calls Tryz.prog 27 #[.agg #[.slice (some ⟨ob, off, none⟩) 1 oc], .int .i64 0, .int .i64 (i : Int), .int .i64 p] W fun e w' => e = .returned (.bool (Tk.onR k cst yes (Pl.ringAll k cst yes) i j)) ∧ Below W.heap.size W w' := by
  have h1 := topens_any (some ⟨ob, off, none⟩) oc t' 0 (i : Int) p W h.row
  rw [h.len, hp, ring_opens hx h hk hc hi hj, ← hp] at h1
  exact h1
end Go.Proofs.YtflghpnpjmodaaaGreatDoor
