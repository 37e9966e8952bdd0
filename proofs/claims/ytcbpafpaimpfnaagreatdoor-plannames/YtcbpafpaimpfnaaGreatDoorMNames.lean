/- 'hedgelaw6.PlanNames' returns true for every net and every tree, and leaves it as it was: the row and its tied card. Conditions: none beyond the form's own (the tables lie as the program's text lays them: the card's tie). -/
import Derived.Test.YtcbpafpaimpfnaaGreatDoorME
import Derived.Test.YtcbpafpaimpfnaaGreatDoorHT
import Derived.Test.YtcbpafpaimpfnaaGreatDoorMA
import Derived.Test.YtcbpafpaimpfnaaGreatDoorCR
import Derived.Test.YtcbpafpaimpfnaaGreatDoorMF
import Derived.Test.YtcbpafpaimpfnaaGreatDoorCards
import Derived.Test.YtcbpafpaimpfnaaGreatDoorTie
import Derived.BigQuiet
import Derived.Maps.AppendAt
namespace Go.Proofs.YtcbpafpaimpfnaaGreatDoor
open Go.RowKit
open Vc (V Of)
open Pl (Br Net Pc Lk En St)

set_option maxRecDepth 100000 in
set_option maxHeartbeats 1000000 in
theorem rints_any (ao bo : Option Addr) (n c1 c2 : Nat) (f : Nat → Int) (w : World) (hn : n ≤ 1000) (h1 : IRow w ao n c1 f) (h2 : IRow w bo n c2 f) :
    Calls Tryz.prog 38 #[.slice ao n c1, .slice bo n c2] w fun e w' => e = .returned (.bool true) ∧ ∃ m, w' = w.drewN m := by
  have HA : Hid (∀ m, IRow (w.drewN m) ao n c1 f ∧ IRow (w.drewN m) bo n c2 f) := fun m => ⟨CRow.below h1 (below_drewN (Below.refl _ _) m), CRow.below h2 (below_drewN (Below.refl _ _) m)⟩
  have k1 := h1.1
  have k2 := h2.1
  clear h1 h2
  go_enter Tryz.func38, Tryz.ntmps38
  go_wp2_with fail
  go_loopw [13] (fun i wr => ∃ k m : Nat, k ≤ n ∧ i = .int .i64 k ∧ wr = w.drewN m) (fun i _ => n - (intOf i).toNat)
  case atStart => exact ⟨0, 0, by omega, rfl, rfl⟩
  case round =>
    obtain ⟨k, m, hk, rfl, HW⟩ := hrel
    by_cases hlt : k < n
    · obtain ⟨r1, r2⟩ := HA.out m
      rw [← HW] at r1 r2
      obtain ⟨b1, o1, rfl, _⟩ := CRow.some r1 (by omega)
      obtain ⟨b2, o2, rfl, _⟩ := CRow.some r2 (by omega)
      have x1 := IRow.cells r1 hlt
      have x2 := IRow.cells r2 hlt
      have HE : Hid (wr = w.drewN m) := HW
      have i0 : (0 : Int) ≤ (k : Int) := by omega
      have i1 : (k : Int) < (n : Int) := by omega
      clear r1 r2 HA HW
      generalize f k = z at *
      go_wp2_with fail
      go_quiet (fail)
      go_wp2_with fail
      exact ⟨⟨k + 1, _, by omega, by go_num, by rw [HE.out, World.drewN_drewN]⟩, by simp [intOf]; omega⟩
    · have hnk : ¬ (k : Int) < (n : Int) := by omega
      have HE : Hid (wr = w.drewN m) := HW
      clear HA HW
      go_wp2_with fail
      go_ret
      exact ⟨rfl, m, HE.out⟩
theorem vec_neq (a b c d : Int) (W : World) : (binOp .neq 48 (.agg #[.int .u64 a, .int .i64 b, .int .u64 c, .int .i64 d]) (.agg #[.int .u64 a, .int .i64 b, .int .u64 c, .int .i64 d])).run Tryz.prog W = .ok (.bool false) W := by go_simp
/-- Two places that say the same. -/
def OneSame (w : World) (P a Q b : Nat) : Prop :=
  ∃ (s : St) (len : Nat) (p q : Option Addr) (pc qc : Nat) (r t : Option Addr) (rc tc : Nat) (f g : Nat → Int), len ≤ 1000 ∧
    (w.cell? ⟨P, a, none⟩ = some (.int .u64 s.v.root) ∧ w.cell? ⟨P, a + 1, none⟩ = some (.int .i64 s.v.cost) ∧ w.cell? ⟨P, a + 2, none⟩ = some (.int .u64 s.v.bridge) ∧ w.cell? ⟨P, a + 3, none⟩ = some (.int .i64 s.v.port) ∧ w.cell? ⟨P, a + 4, none⟩ = some (.int .i64 s.rp) ∧ w.cell? ⟨P, a + 5, none⟩ = some (.slice p len pc) ∧ w.cell? ⟨P, a + 6, none⟩ = some (.slice r len rc)) ∧
    (w.cell? ⟨Q, b, none⟩ = some (.int .u64 s.v.root) ∧ w.cell? ⟨Q, b + 1, none⟩ = some (.int .i64 s.v.cost) ∧ w.cell? ⟨Q, b + 2, none⟩ = some (.int .u64 s.v.bridge) ∧ w.cell? ⟨Q, b + 3, none⟩ = some (.int .i64 s.v.port) ∧ w.cell? ⟨Q, b + 4, none⟩ = some (.int .i64 s.rp) ∧ w.cell? ⟨Q, b + 5, none⟩ = some (.slice q len qc) ∧ w.cell? ⟨Q, b + 6, none⟩ = some (.slice t len tc)) ∧
    (IRow w p len pc f ∧ IRow w q len qc f) ∧ (IRow w r len rc g ∧ IRow w t len tc g)
theorem OneSame.drewN {w : World} {P a Q b : Nat} (h : OneSame w P a Q b) (m : Nat) : OneSame (w.drewN m) P a Q b := by
  obtain ⟨s, len, p, q, pc, qc, r, t, rc, tc, f, g, h0, h1, h2, ⟨h3, h4⟩, h5, h6⟩ := h
  have hb := below_drewN (Below.refl w.heap.size w) m
  exact ⟨s, len, p, q, pc, qc, r, t, rc, tc, f, g, h0, h1, h2, ⟨CRow.below h3 hb, CRow.below h4 hb⟩, CRow.below h5 hb, CRow.below h6 hb⟩
set_option maxRecDepth 100000 in
set_option maxHeartbeats 4000000 in
theorem rsame6_any (n P oP cP Q oQ cQ : Nat) (w : World) (hn : n ≤ 1000) (h : ∀ i, i < n → OneSame w P (oP + i * 7) Q (oQ + i * 7)) :
    Calls Tryz.prog 14 #[.slice (some ⟨P, oP, none⟩) n cP, .slice (some ⟨Q, oQ, none⟩) n cQ] w fun e w' => e = .returned (.bool true) ∧ ∃ m, w' = w.drewN m := by
  have HA : Hid (∀ i, i < n → ∀ m, OneSame (w.drewN m) P (oP + i * 7) Q (oQ + i * 7)) := fun i hi m => (h i hi).drewN m
  clear h
  go_enter Tryz.func14, Tryz.ntmps14
  go_wp2_with fail
  go_loopw [13] (fun i wr => ∃ k m : Nat, k ≤ n ∧ i = .int .i64 k ∧ wr = w.drewN m) (fun i _ => n - (intOf i).toNat)
  case atStart => exact ⟨0, 0, by omega, rfl, rfl⟩
  case round =>
    obtain ⟨k, m, hk, rfl, HW⟩ := hrel
    by_cases hlt : k < n
    · have hs := HA.out k hlt m
      rw [← HW] at hs
      obtain ⟨⟨⟨v0, v1, v2, v3⟩, rp⟩, len, p, q, pc, qc, r, t, rc, tc, f, g, h0, ⟨x0, x1, x2, x3, x4, x5, x6⟩, ⟨y0, y1, y2, y3, y4, y5, y6⟩, ⟨r1, r2⟩, r3, r4⟩ := hs
      simp only at x0 x1 x2 x3 x4 y0 y1 y2 y3 y4
      have HI1 : Hid (∀ q', Calls Tryz.prog 38 #[.slice p len pc, .slice q len qc] (wr.drewN q') fun e w' => e = .returned (.bool true) ∧ ∃ m, w' = (wr.drewN q').drewN m) := fun q' => rints_any p q len pc qc f (wr.drewN q') h0 (CRow.below r1 (below_drewN (Below.refl _ _) q')) (CRow.below r2 (below_drewN (Below.refl _ _) q'))
      have HI2 : Hid (∀ q', Calls Tryz.prog 38 #[.slice r len rc, .slice t len tc] (wr.drewN q') fun e w' => e = .returned (.bool true) ∧ ∃ m, w' = (wr.drewN q').drewN m) := fun q' => rints_any r t len rc tc g (wr.drewN q') h0 (CRow.below r3 (below_drewN (Below.refl _ _) q')) (CRow.below r4 (below_drewN (Below.refl _ _) q'))
      have hne := vec_neq v0 v1 v2 v3
      have HE : Hid (wr = w.drewN m) := HW
      have i0 : (0 : Int) ≤ (k : Int) := by omega
      have i1 : (k : Int) < (n : Int) := by omega
      clear r1 r2 r3 r4 HA HW h0
      go_wp2_with fail
      go_quiet (first | (go_at_call 38; (with_reducible exact Calls.quiet_of (HI1.out _))) | (go_at_call 38; (with_reducible exact Calls.quiet_of (HI2.out _))))
      all_goals go_wp2_with fail
      all_goals exact ⟨⟨k + 1, _, by omega, by go_num, by rw [HE.out, World.drewN_drewN]⟩, by simp [intOf]; omega⟩
    · have hnk : ¬ (k : Int) < (n : Int) := by omega
      have HE : Hid (wr = w.drewN m) := HW
      clear HA HW
      go_wp2_with fail
      go_ret
      exact ⟨rfl, m, HE.out⟩
/-- Two rows of places that say the same, one by one. -/
theorem same_of_places {w : World} {P Q K K' : Nat} {x y : Nat → St} {E F : Nat → List En} (h1 : PlacesAt w P K x E K) (h2 : PlacesAt w Q K' y F K') {i j : Nat} (hi : i < K) (hj : j < K') (hl : (E i).length ≤ 1000) (e1 : x i = y j) (e2 : (F j).length = (E i).length) (e3 : ∀ q, q < (E i).length → (EL (F j) q).port = (EL (E i) q).port)
    (e4 : ∀ q, q < (E i).length → Pl.roleAt (y j) (Pl.offs (F j) y) (EL (F j) q) = Pl.roleAt (x i) (Pl.offs (E i) x) (EL (E i) q)) : OneSame w P (i * 7) Q (j * 7) := by
  obtain ⟨c, a1, a2, _, a4⟩ := h1
  obtain ⟨d, b1, b2, _, b4⟩ := h2
  obtain ⟨p, r, pc, rc, p5, p6, hp, hr, _, _⟩ := a4 i hi
  obtain ⟨q, t, qc, tc, q5, q6, hq, ht, _, _⟩ := b4 j hj
  rw [e2] at q5 q6 hq ht
  have A : ∀ s, s < 7 → w.cell? ⟨P, i * 7 + s, none⟩ = some (c i s) := fun s hs => rowC_cell a1 hi hs
  have B : ∀ s, s < 7 → w.cell? ⟨Q, j * 7 + s, none⟩ = some (d j s) := fun s hs => rowC_cell b1 hj hs
  have a2' := a2 i hi
  have b2' := b2 j hj
  rw [← e1] at b2'
  refine ⟨x i, (E i).length, p, q, pc, qc, r, t, rc, tc, _, _, hl, ⟨?_, ?_, ?_, ?_, ?_, ?_, ?_⟩, ⟨?_, ?_, ?_, ?_, ?_, ?_, ?_⟩, ⟨hp, CRow.congr hq (fun s hs => by funext _; exact congrArg (Value.int .i64) (e3 s hs))⟩, hr, CRow.congr ht (fun s hs => by funext _; exact congrArg (Value.int .i64) (e4 s hs))⟩
  · have := A 0 (by omega); rw [a2' 0 (by omega)] at this; exact this
  · have := A 1 (by omega); rw [a2' 1 (by omega)] at this; exact this
  · have := A 2 (by omega); rw [a2' 2 (by omega)] at this; exact this
  · have := A 3 (by omega); rw [a2' 3 (by omega)] at this; exact this
  · have := A 4 (by omega); rw [a2' 4 (by omega)] at this; exact this
  · have := A 5 (by omega); rw [p5] at this; exact this
  · have := A 6 (by omega); rw [p6] at this; exact this
  · have := B 0 (by omega); rw [b2' 0 (by omega)] at this; exact this
  · have := B 1 (by omega); rw [b2' 1 (by omega)] at this; exact this
  · have := B 2 (by omega); rw [b2' 2 (by omega)] at this; exact this
  · have := B 3 (by omega); rw [b2' 3 (by omega)] at this; exact this
  · have := B 4 (by omega); rw [b2' 4 (by omega)] at this; exact this
  · have := B 5 (by omega); rw [q5] at this; exact this
  · have := B 6 (by omega); rw [q6] at this; exact this
end Go.Proofs.YtcbpafpaimpfnaaGreatDoor

namespace Go.Proofs.YtcbpafpaimpfnaaGreatDoor
open Go.RowKit
open Pl (Br Net Pc Lk En St)

/-- When nothing is wrong with a net. -/
theorem wrong_iff (n : Net) : n.wrong.1 = 0 ↔ ¬ (12 < n.K ∨ 40 < n.L) ∧ (∀ i, i < n.K → Pl.bErr n.bs i = 0) ∧ ∀ i, i < n.L → Pl.lErr n.K n.ls i = 0 := by
  unfold Pl.Net.wrong
  by_cases c1 : 12 < n.K ∨ 40 < n.L
  · rw [if_pos c1]
    exact ⟨fun h => (by cases h), fun h => absurd c1 h.1⟩
  · rw [if_neg c1]
    by_cases c2 : (Pl.firstTo (Pl.bErr n.bs) n.K).1 = 0
    · rw [if_neg (fun q => q c2)]
      have hb := (Pl.firstTo_zero _ _ c2).2
      exact ⟨fun h => ⟨c1, hb, (Pl.firstTo_zero _ _ h).2⟩, fun h => by rw [Pl.firstTo_all _ _ h.2.2]⟩
    · rw [if_pos c2]
      exact ⟨fun h => absurd h c2, fun h => absurd (by rw [Pl.firstTo_all _ _ h.2.1]) c2⟩
end Go.Proofs.YtcbpafpaimpfnaaGreatDoor

namespace Go.Proofs.YtcbpafpaimpfnaaGreatDoor
open Go.RowKit
open Vc (V Of)
open Pl (Br Net Pc Lk En St)

theorem infoBg : (Tryz.prog.info? 40).map (fun i => (i.zero, i.size, i.bytes)) = some (some (.agg #[.int .u64 0, .slice none 0 0, .string ⟨#[]⟩, .int .i64 0, .slice none 0 0]), 5, 80) := by kernel_rfl
/-- A bridge with one priority changed; a net with such a bridge. -/
def Pl.Br.putP (b : Br) (ot : Nat) (pr : Int) (pao : Option Addr) (pcap : Nat) : Br := { b with pao := pao, pcap := pcap, pv := fun q => if q = ot then pr else b.pv q }
def putB (bs : Nat → Br) (br : Nat) (b : Br) (i : Nat) : Br := if i = br then b else bs i
def Pl.Net.putP (n : Net) (br ot : Nat) (pr : Int) (bao : Option Addr) (bcap : Nat) (pao : Option Addr) (pcap : Nat) : Net := { n with bao := bao, bcap := bcap, bs := putB n.bs br ((n.bs br).putP ot pr pao pcap) }
theorem putP_addr (n : Net) (br ot : Nat) (pr : Int) (bao : Option Addr) (bcap : Nat) (pao : Option Addr) (pcap : Nat) (i : Nat) : ((n.putP br ot pr bao bcap pao pcap).bs i).addr = (n.bs i).addr ∧ ((n.putP br ot pr bao bcap pao pcap).bs i).reg = (n.bs i).reg := by
  unfold Pl.Net.putP putB Pl.Br.putP
  simp only
  by_cases e : i = br
  · rw [if_pos e, e]; exact ⟨rfl, rfl⟩
  · rw [if_neg e]; exact ⟨rfl, rfl⟩
theorem putP_ids (n : Net) (br ot : Nat) (pr : Int) (bao : Option Addr) (bcap : Nat) (pao : Option Addr) (pcap : Nat) (tree : Int) (h : tree ≠ ot) : (n.putP br ot pr bao bcap pao pcap).ids tree = n.ids tree := by
  funext i
  unfold Pl.Net.ids Pl.Net.putP putB Pl.Br.putP Pl.Br.id Pl.Br.prio
  simp only
  by_cases e : i = br
  · rw [if_pos e, e]
    simp only
    by_cases q : 0 ≤ tree ∧ tree ≤ ((n.bs br).pn : Int) - 1
    · rw [if_pos q, if_pos q, if_neg (by omega)]
    · rw [if_neg q, if_neg q]
  · rw [if_neg e]
theorem putP_ends (n : Net) (br ot : Nat) (pr : Int) (bao : Option Addr) (bcap : Nat) (pao : Option Addr) (pcap : Nat) : (n.putP br ot pr bao bcap pao pcap).ends = n.ends := by
  have hl : (n.putP br ot pr bao bcap pao pcap).live = n.live := by
    funext k
    unfold Pl.Net.live
    rw [(putP_addr n br ot pr bao bcap pao pcap _).2, (putP_addr n br ot pr bao bcap pao pcap _).2]
    rfl
  funext i
  unfold Pl.Net.ends
  rw [hl]
  rfl
theorem putP_right {n : Net} (h : n.wrong.1 = 0) {br ot : Nat} {pr : Int} (hb : br < n.K) (hp : 0 ≤ pr ∧ pr ≤ 61440) (hr : pr % 4096 = 0) (bao : Option Addr) (bcap : Nat) (pao : Option Addr) (pcap : Nat) : (n.putP br ot pr bao bcap pao pcap).wrong.1 = 0 := by
  obtain ⟨h1, h2, h3⟩ := (wrong_iff n).1 h
  refine (wrong_iff _).2 ⟨h1, fun i hi => ?_, h3⟩
  have hi : i < n.K := hi
  have h0 := h2 i hi
  have ho : Pl.brErr ((n.putP br ot pr bao bcap pao pcap).bs i) = 0 := by
    have hz := bErr_zero h0
    unfold Pl.Net.putP putB Pl.Br.putP
    simp only
    by_cases e : i = br
    · rw [if_pos e]
      subst e
      unfold Pl.brErr at hz ⊢
      simp only
      split at hz
      · omega
      · rename_i q1
        rw [if_neg q1]
        split at hz
        · omega
        · rename_i q2
          rw [if_neg q2]
          split at hz
          · omega
          · rename_i q3
            have hs : Vc.someTo (fun q => Pl.oddP (if q = ot then pr else (n.bs i).pv q)) (n.bs i).pn = false := by
              apply Pl.someTo_none
              intro q hq
              by_cases e2 : q = ot
              · rw [if_pos e2]
                unfold Pl.oddP
                rw [decide_eq_true hp, decide_eq_false (fun w => w hr)]
                rfl
              · rw [if_neg e2]
                exact Pl.someTo_false (by simpa using q3) q hq
            rw [if_neg (by rw [hs]; decide)]
            exact hz
    · rw [if_neg e]; exact hz
  unfold Pl.bErr at h0 ⊢
  rw [if_neg (fun q => q (bErr_zero (h2 i hi)))] at h0
  rw [if_neg (fun q => q ho)]
  simp only [putP_addr]
  exact h0
theorem putP_wf {n : Net} (h : n.Wf) (br ot : Nat) (pr : Int) (bao : Option Addr) (bcap : Nat) (pao : Option Addr) (pcap : Nat) : (n.putP br ot pr bao bcap pao pcap).Wf :=
  ⟨fun i hi => by rw [(putP_addr n br ot pr bao bcap pao pcap i).1]; exact h.addr i hi, h.link⟩
theorem putB_row (bs : Nat → Br) (br : Nat) (b : Br) (K : Nat) (h : br < K) (hb : b = { bs br with pao := b.pao, pn := b.pn, pcap := b.pcap, pv := b.pv }) : (cellsL K 5 (fun i => brC (bs i))).set (br * 5 + 1) (.slice b.pao b.pn b.pcap) = cellsL K 5 (fun i => brC (putB bs br b i)) := by
  have h1 := congrArg Array.toList (rowC_put (n := K) (k := 5) (fun i => brC (bs i)) h (show 1 < 5 by omega) (.slice b.pao b.pn b.pcap))
  rw [Array.toList_setIfInBounds] at h1
  have h2 : rowC K 5 (updC (fun i => brC (bs i)) br 1 (.slice b.pao b.pn b.pcap)) = rowC K 5 (fun i => brC (putB bs br b i)) := by
    apply rowC_congr2
    intro i _ j hj
    unfold updC putB
    by_cases e : i = br
    · subst e
      rw [if_pos rfl, hb]
      rcases (by omega : j = 0 ∨ j = 1 ∨ j = 2 ∨ j = 3 ∨ j = 4) with q | q | q | q | q <;> subst q <;> simp [brC]
    · rw [if_neg (fun q => e q.1), if_neg e]
  rw [h2] at h1
  exact h1
/-- The copy of bridges, as it lies. -/
theorem trees_net {w : World} (n : Net) (hat : n.at' w) (h0 : 0 < n.K) (hK : n.K ≤ 12) :
    ∃ g c w2, (Builtin.append_ #[22, 22] 22 #[.slice (some ⟨w.heap.size + 1 + 1, 0, none⟩) 0 0, .slice n.bao n.K n.bcap]).run Tryz.prog (((w.alloc (.cells #[.int .i64 0, .int .i64 0] 28)).alloc (.cells #[.slice n.bao n.K n.bcap, .slice n.lao n.L n.lcap] 25)).alloc (.cells #[] 40)) = .ok (.slice (some ⟨g, 0, none⟩) n.K c) w2 ∧ Below w.heap.size w w2 ∧
      w2.heap[w.heap.size]? = some (.cells #[.int .i64 0, .int .i64 0] 28 (0, 0)) ∧ w2.heap[w.heap.size + 1]? = some (.cells #[.slice n.bao n.K n.bcap, .slice n.lao n.L n.lcap] 25 (0, 0)) ∧ w.heap.size + 1 < g ∧ n.K ≤ c ∧
      w2.ownsRow (w.heap.size + 1 + 1) 40 5 (.slice (some ⟨g, 0, none⟩) n.K c) n.K (cellsL n.K 5 (fun i => brC (n.bs i))) := by
  obtain ⟨Y, hY⟩ : ∃ Y, Y = ((w.alloc (.cells #[.int .i64 0, .int .i64 0] 28)).alloc (.cells #[.slice n.bao n.K n.bcap, .slice n.lao n.L n.lcap] 25)) := ⟨_, rfl⟩
  have hYB : Below w.heap.size w Y := by rw [hY]; exact below_alloc2 _ _ _
  have hYf : Y.heap[w.heap.size]? = some (.cells #[.int .i64 0, .int .i64 0] 28 (0, 0)) := by rw [hY]; exact heap_alloc2_old w _ _
  have hYn : Y.heap[w.heap.size + 1]? = some (.cells #[.slice n.bao n.K n.bcap, .slice n.lao n.L n.lcap] 25 (0, 0)) := by rw [hY]; exact heap_alloc2_new w _ _
  have hYs : Y.heap.size = w.heap.size + 1 + 1 := by rw [hY]; simp
  rw [← hY]
  have hZB : Below Y.heap.size Y (Y.alloc (.cells #[] 40)) := below_alloc1 _ _
  have hZ := heap_alloc_last Y (.cells #[] 40)
  have hr : BRow (Y.alloc (.cells #[] 40)) n.bao n.K n.bcap n.bs := CRow.below (CRow.below hat.brs hYB) hZB
  have hown := ownsC_empty (k := 5) (base := w.heap.size + 1 + 1) (fun i => brC (n.bs i)) hZ (by omega)
  rw [hYs] at hown
  obtain ⟨a1, c1, w2, r, ho, hb, _⟩ := append_c (Y.alloc (.cells #[] 40)) 22 40 _ 5 80 Tryz.underlying22 infoBg rfl (by omega) (w.heap.size + 1 + 1) _ 0 _ hown n.bao n.K n.bcap (fun i => brC (n.bs i)) (fun _ j => brC_one _ j) hr (fun e => by
    obtain ⟨b, off, e', _⟩ := hr.2 h0
    rw [e] at e'; cases e') (by unfold maxLen; omega) (by omega) (by simp; omega)
  rw [Nat.zero_add] at r ho
  rw [cellsL_congr n.K 5 _ (fun i => brC (n.bs i)) (fun i hi => by simp [catC])] at ho
  rcases ho.2 with ⟨e, _⟩ | ⟨g, cap, cur, e, hg, hh, q1, q2, q3, q4⟩
  · injection e with e1 e2 e3
    omega
  · injection e with e1 e2 e3
    subst e1
    subst e3
    have hl1 := (Array.getElem?_eq_some_iff.1 hYf).1
    have hl2 := (Array.getElem?_eq_some_iff.1 hYn).1
    have hZs := hZB.size
    refine ⟨g, c1, w2, r, (hYB.trans (hZB.mono hYB.size)).trans (hb.mono (by omega)), ?_, ?_, by omega, q1, ho⟩
    · rw [hb.block _ (by omega)]; exact keep hYf hZB
    · rw [hb.block _ (by omega)]; exact keep hYn hZB
/-- The copy of a bridge's priorities, as it lies. -/
theorem trees_prios {W : World} (b : Br) (hb : IRow W b.pao b.pn b.pcap b.pv) (h0 : 0 < b.pn) (hn : b.pn ≤ 16) :
    ∃ g c w2, (Builtin.append_ #[35, 35] 35 #[.slice (some ⟨W.heap.size, 0, none⟩) 0 0, .slice b.pao b.pn b.pcap]).run Tryz.prog (W.alloc (.cells #[] 3)) = .ok (.slice (some ⟨g, 0, none⟩) b.pn c) w2 ∧ Below W.heap.size W w2 ∧ W.heap.size ≤ g ∧ b.pn ≤ c ∧
      w2.ownsRow W.heap.size 3 1 (.slice (some ⟨g, 0, none⟩) b.pn c) b.pn (cellsL b.pn 1 (fun i _ => .int .i64 (b.pv i))) := by
  have hZB : Below W.heap.size W (W.alloc (.cells #[] 3)) := below_alloc1 _ _
  have hr : IRow (W.alloc (.cells #[] 3)) b.pao b.pn b.pcap b.pv := CRow.below hb hZB
  have hown := ownsC_empty (k := 1) (base := W.heap.size) (fun i _ => .int .i64 (b.pv i)) (heap_alloc_last W (.cells #[] 3)) (Nat.le_refl _)
  obtain ⟨a1, c1, w2, r, ho, hb2, _⟩ := append_c (W.alloc (.cells #[] 3)) 35 3 _ 1 8 Tryz.underlying35 infoI rfl (by omega) W.heap.size _ 0 _ hown b.pao b.pn b.pcap (fun i _ => .int .i64 (b.pv i)) (fun _ _ => rfl) hr (fun e => by
    obtain ⟨b', off, e', _⟩ := hr.2 h0
    rw [e] at e'; cases e') (by unfold maxLen; omega) (by omega) (by simp)
  rw [Nat.zero_add] at r ho
  rw [cellsL_congr b.pn 1 _ (fun i _ => .int .i64 (b.pv i)) (fun i hi => by simp [catC])] at ho
  rcases ho.2 with ⟨e, _⟩ | ⟨g, cap, cur, e, hg, hh, q1, q2, q3, q4⟩
  · injection e with e1 e2 e3
    omega
  · injection e with e1 e2 e3
    subst e1
    subst e3
    exact ⟨g, c1, w2, r, hZB.trans hb2, hg, q1, ho⟩
theorem ints_put (f : Nat → Int) (n ot : Nat) (pr : Int) (h : ot < n) : (cellsL n 1 (fun i _ => .int .i64 (f i))).set ot (.int .i64 pr) = cellsL n 1 (fun i _ => .int .i64 (if i = ot then pr else f i)) := by
  have h1 := congrArg Array.toList (rowC_put (n := n) (k := 1) (fun i _ => .int .i64 (f i)) h (show 0 < 1 by omega) (.int .i64 pr))
  rw [Array.toList_setIfInBounds, show ot * 1 + 0 = ot by omega] at h1
  have h2 : rowC n 1 (updC (fun i _ => .int .i64 (f i)) ot 0 (.int .i64 pr)) = rowC n 1 (fun i _ => .int .i64 (if i = ot then pr else f i)) := by
    apply rowC_congr2
    intro i _ j hj
    unfold updC
    by_cases e : i = ot
    · rw [if_pos ⟨e, by omega⟩, if_pos e]
    · rw [if_neg (fun q => e q.1), if_neg e]
  rw [h2] at h1
  exact h1
/-- The world behind the copies: what lies where. -/
structure TreeW (w W : World) (n : Net) (g c : Nat) (bs : Nat → Br) : Prop where
  low : Below w.heap.size w W
  flt : W.heap[w.heap.size]? = some (.cells #[.int .i64 0, .int .i64 0] 28 (0, 0))
  box : W.heap[w.heap.size + 1]? = some (.cells #[.slice (some ⟨g, 0, none⟩) n.K c, .slice n.lao n.L n.lcap] 25 (0, 0))
  new : w.heap.size + 1 < g
  own : W.ownsRow (w.heap.size + 1 + 1) 40 5 (.slice (some ⟨g, 0, none⟩) n.K c) n.K (cellsL n.K 5 (fun i => brC (bs i)))
theorem TreeW.below {w W W' : World} {n : Net} {g c : Nat} {bs : Nat → Br} (h : TreeW w W n g c bs) (hb : Below W.heap.size W W') : TreeW w W' n g c bs :=
  ⟨h.low.trans (hb.mono h.low.size), keep h.flt hb, keep h.box hb, h.new, ownsC_below h.own hb⟩
theorem trees_box {w w2 : World} {n : Net} {g c : Nat} (hb : Below w.heap.size w w2) (hf : w2.heap[w.heap.size]? = some (.cells #[.int .i64 0, .int .i64 0] 28 (0, 0))) (hn : w2.heap[w.heap.size + 1]? = some (.cells #[.slice n.bao n.K n.bcap, .slice n.lao n.L n.lcap] 25 (0, 0))) (hg : w.heap.size + 1 < g)
    (ho : w2.ownsRow (w.heap.size + 1 + 1) 40 5 (.slice (some ⟨g, 0, none⟩) n.K c) n.K (cellsL n.K 5 (fun i => brC (n.bs i)))) :
    TreeW w (w2.setCell ⟨w.heap.size + 1, 0, none⟩ (.slice (some ⟨g, 0, none⟩) n.K c)) n g c n.bs := by
  refine ⟨hb.setCell (by show w.heap.size ≤ w.heap.size + 1; omega) _, ?_, ?_, hg, ?_⟩
  · rw [heap_setCell_other _ _ _ _ (by show w.heap.size ≠ w.heap.size + 1; omega)]; exact hf
  · rw [heap_setCell_same _ _ _ _ _ _ hn]; rfl
  · refine ho.kept (row := some (w.heap.size + 1)) ?_ (Or.inr (by show some g ≠ some (w.heap.size + 1); intro q; injection q with q; omega))
    exact ⟨by first | rfl | simp, by first | rfl | simp, by first | rfl | simp, by first | exact Nat.le_refl _ | simp, fun q _ hne => heap_setCell_other _ _ _ _ (by exact fun p => hne (by rw [p]))⟩
theorem TreeW.cell {w W : World} {n : Net} {g c : Nat} {bs : Nat → Br} (h : TreeW w W n g c bs) {br j : Nat} (hb : br < n.K) (hj : j < 5) : W.cell? ⟨g, br * 5 + j, none⟩ = some (brC (bs br) j) ∧ W.frozen? ⟨g, br * 5 + j, none⟩ = false := by
  have hlt : br * 5 + j < n.K * 5 := by omega
  refine ⟨?_, h.own.frozenAt _⟩
  rw [h.own.cellAt _ hlt]
  have := rowC_get (n := n.K) (k := 5) (fun i => brC (bs i)) hb hj
  rw [rowC, List.getElem?_toArray] at this
  exact this
/-- One bridge has its own priorities now. -/
theorem TreeW.put {w W : World} {n : Net} {g c : Nat} (h : TreeW w W n g c n.bs) {br : Nat} (hb : br < n.K) (pg pc : Nat) : TreeW w (W.setCell ⟨g, br * 5 + 1, none⟩ (.slice (some ⟨pg, 0, none⟩) (n.bs br).pn pc)) n g c (putB n.bs br { n.bs br with pao := some ⟨pg, 0, none⟩, pcap := pc }) := by
  obtain ⟨ho4, hg4⟩ := h.own.stored (br * 5 + 1) (.slice (some ⟨pg, 0, none⟩) (n.bs br).pn pc)
  rw [putB_row n.bs br { n.bs br with pao := some ⟨pg, 0, none⟩, pcap := pc } n.K hb rfl] at ho4
  have l1 := (Array.getElem?_eq_some_iff.1 h.flt).1
  have l2 := (Array.getElem?_eq_some_iff.1 h.box).1
  have hn := h.new
  refine ⟨h.low.setCell (by show w.heap.size ≤ g; omega) _, ?_, ?_, h.new, ho4⟩
  · rw [hg4.block _ l1 (by intro q; injection q with q; omega)]; exact h.flt
  · rw [hg4.block _ l2 (by intro q; injection q with q; omega)]; exact h.box
theorem TreeW.other {w W W' : World} {n : Net} {g c : Nat} {bs : Nat → Br} {pg : Nat} (h : TreeW w W n g c bs) (hW : W.grownBy W' (some pg)) (hne : pg ≠ g) (hp : w.heap.size + 1 < pg) : TreeW w W' n g c bs := by
  have l1 := (Array.getElem?_eq_some_iff.1 h.flt).1
  have l2 := (Array.getElem?_eq_some_iff.1 h.box).1
  refine ⟨h.low.trans (below_of_grown hW h.low.size (by omega)), ?_, ?_, h.new, h.own.kept hW (Or.inr (by show some g ≠ some pg; intro q; injection q with q; exact hne q.symm))⟩
  · rw [hW.block _ l1 (by intro q; injection q with q; omega)]; exact h.flt
  · rw [hW.block _ l2 (by intro q; injection q with q; omega)]; exact h.box
end Go.Proofs.YtcbpafpaimpfnaaGreatDoor

namespace Go.Proofs.YtcbpafpaimpfnaaGreatDoor
namespace Pl
open Vc (V Of)
/-- Rising lists with the same members are the same. -/
theorem rising_ext : ∀ {l l' : List En}, l.Pairwise (fun x y => x.port < y.port) → l'.Pairwise (fun x y => x.port < y.port) → (∀ e, e ∈ l ↔ e ∈ l') → l = l'
  | [], [], _, _, _ => rfl
  | [], a :: _, _, _, h => by have := (h a).2 (by simp); simp at this
  | a :: _, [], _, _, h => by have := (h a).1 (by simp); simp at this
  | a :: l, b :: l', h1, h2, h => by
    obtain ⟨p1, p2⟩ := List.pairwise_cons.1 h1
    obtain ⟨q1, q2⟩ := List.pairwise_cons.1 h2
    have e : a = b := by
      rcases List.mem_cons.1 ((h a).1 (by simp)) with e | e
      · exact e
      · rcases List.mem_cons.1 ((h b).2 (by simp)) with e' | e'
        · exact e'.symm
        · have := p1 b e'; have := q1 a e; omega
    subst e
    congr 1
    refine rising_ext p2 q2 (fun e => ⟨fun he => ?_, fun he => ?_⟩)
    · rcases List.mem_cons.1 ((h e).1 (by simp [he])) with q | q
      · subst q; have := p1 e he; omega
      · exact q
    · rcases List.mem_cons.1 ((h e).2 (by simp [he])) with q | q
      · subst q; have := q1 e he; omega
      · exact q
/-- Told from the last one on. -/
def turn (K : Nat) (l : Lk) : Lk := ⟨(K : Int) - 1 - l.a, l.pa, (K : Int) - 1 - l.b, l.pb, l.cost, l.up⟩
def turnE (K : Nat) (e : En) : En := ⟨e.port, e.cost, (K : Int) - 1 - e.other, e.oport, e.live⟩
section
variable {K L : Nat} {ls ms : Nat → Lk} {lv mv : Nat → Bool}
theorem ends_turn (R : RightL K L ls) (S : RightL K L ms) (h : ∀ k, k < L → ms k = turn K (ls (L - 1 - k)) ∧ mv k = lv (L - 1 - k)) {i : Nat} (hi : i < K) : ends ms mv L (K - 1 - i) = (ends ls lv L i).map (turnE K) := by
  refine rising_ext (ends_sorted S mv _) ?_ (fun e => ?_)
  · rw [List.pairwise_map]
    exact ends_sorted R lv i
  · rw [ends_mem, List.mem_map]
    constructor
    · rintro ⟨k, hk, hh⟩
      obtain ⟨h1, h2⟩ := h k hk
      rw [h1, h2] at hh
      rcases hh with ⟨q, rfl⟩ | ⟨q, rfl⟩
      · exact ⟨_, ends_mem.2 ⟨L - 1 - k, by omega, Or.inl ⟨by simp only [turn] at q; omega, rfl⟩⟩, rfl⟩
      · exact ⟨_, ends_mem.2 ⟨L - 1 - k, by omega, Or.inr ⟨by simp only [turn] at q; omega, rfl⟩⟩, rfl⟩
    · rintro ⟨q, hq, rfl⟩
      obtain ⟨k, hk, hh⟩ := ends_mem.1 hq
      obtain ⟨h1, h2⟩ := h (L - 1 - k) (by omega)
      rw [show L - 1 - (L - 1 - k) = k by omega] at h1 h2
      refine ⟨L - 1 - k, by omega, ?_⟩
      rw [h1, h2]
      rcases hh with ⟨a, rfl⟩ | ⟨a, rfl⟩
      · exact Or.inl ⟨by simp only [turn]; omega, rfl⟩
      · exact Or.inr ⟨by simp only [turn]; omega, rfl⟩
end
/-- Two nets, of which one is the other told from the last one on. -/
theorem Walk.turn {ids jds : Nat → Int} {E F : Nat → List En} {K : Nat} (G : Good ids E K) (hids : ∀ i, i < K → jds (K - 1 - i) = ids i) (hE : ∀ i, i < K → F (K - 1 - i) = (E i).map (turnE K)) {i : Nat} {vs : List Nat} {ρ c : Int} (h : Walk ids E K i vs ρ c) : ∃ us, Walk jds F K (K - 1 - i) us ρ c := by
  induction h with
  | here i hi => rw [← hids i hi]; exact ⟨_, Walk.here _ (by omega)⟩
  | over i e vs ρ c hi he hl _ ih =>
    obtain ⟨us, hu⟩ := ih
    have ho := (G.lt i hi e he hl).1
    refine ⟨_, Walk.over (K - 1 - i) (turnE K e) us ρ c (by omega) (by rw [hE i hi]; exact List.mem_map.2 ⟨e, he, rfl⟩) hl ?_⟩
    have : (turnE K e).other.toNat = K - 1 - e.other.toNat := by simp only [turnE]; omega
    rw [this]
    exact hu
theorem fin_turn {ids jds : Nat → Int} {E F : Nat → List En} {K : Nat} (G : Good ids E K) (G' : Good jds F K) (hids : ∀ i, i < K → jds (K - 1 - i) = ids i) (hE : ∀ i, i < K → F (K - 1 - i) = (E i).map (turnE K)) :
    (∀ i, i < K → fin jds F K (K - 1 - i) = fin ids E K i) ∧ ∀ i, i < K → offs (F (K - 1 - i)) (fin jds F K) = offs (E i) (fin ids E K) := by
  have hids' : ∀ i, i < K → ids (K - 1 - i) = jds i := fun i hi => by
    have := hids (K - 1 - i) (by omega)
    rw [show K - 1 - (K - 1 - i) = i by omega] at this
    exact this.symm
  have hE' : ∀ i, i < K → E (K - 1 - i) = (F i).map (turnE K) := fun i hi => by
    have := hE (K - 1 - i) (by omega)
    rw [show K - 1 - (K - 1 - i) = i by omega] at this
    rw [this, List.map_map]
    have e : ∀ e : En, (turnE K ∘ turnE K) e = e := fun e => by
      simp only [Function.comp, turnE]
      have : (K : Int) - 1 - ((K : Int) - 1 - e.other) = e.other := by omega
      rw [this]
    rw [List.map_congr_left (fun x _ => e x), List.map_id']
  have hv : ∀ i, i < K → (fin jds F K (K - 1 - i)).v = (fin ids E K i).v := by
    intro i hi
    obtain ⟨vs, h1⟩ := fin_real G i hi
    obtain ⟨us, h2⟩ := h1.turn G hids hE
    obtain ⟨ws, h3⟩ := fin_real G' (K - 1 - i) (by omega)
    obtain ⟨ts, h4⟩ := h3.turn G' hids' hE'
    rw [show K - 1 - (K - 1 - i) = i by omega] at h4
    have a := fin_up G' (by omega) h2
    have b := fin_up G hi h4
    unfold le2 at a b
    refine Vc.V.eq (by omega) (by omega) ?_ ?_
    · rw [(fin_bridge _).1, (fin_bridge _).1, hids i hi]
    · rw [(fin_bridge _).2, (fin_bridge _).2]
  have ho : ∀ i, i < K → offs (F (K - 1 - i)) (fin jds F K) = offs (E i) (fin ids E K) := by
    intro i hi
    rw [hE i hi]
    unfold offs
    rw [List.filter_map, List.map_map]
    apply List.map_congr_left
    intro e he
    obtain ⟨h1, h2⟩ := List.mem_filter.1 he
    have k := (G.lt i hi e h1 h2).1
    simp only [Function.comp, offerOf, turnE]
    have : ((K : Int) - 1 - e.other).toNat = K - 1 - e.other.toNat := by omega
    rw [this, hv _ (toNat_lt k)]
  refine ⟨fun i hi => ?_, ho⟩
  rw [fin_fix G' (K - 1 - i) (by omega), fin_fix G i hi, ho i hi, hids i hi]
end Pl
end Go.Proofs.YtcbpafpaimpfnaaGreatDoor

namespace Go.Proofs.YtcbpafpaimpfnaaGreatDoor
open Go.RowKit
open Vc (V Of)
open Pl (Br Net Pc Lk En St)

theorem range_i64 {n : Int} (h : (Lit.int .i64 n).wf = true) : -9223372036854775808 ≤ n ∧ n ≤ 9223372036854775807 := by
  simp only [Lit.wf, Bool.and_eq_true, decide_eq_true_eq] at h
  have h1 : IntKind.i64.min = -9223372036854775808 := by decide
  have h2 : IntKind.i64.max = 9223372036854775807 := by decide
  rw [h1, h2] at h
  exact h
theorem i64_range {n : Int} (h : -9223372036854775808 ≤ n ∧ n ≤ 9223372036854775807) : (Lit.int .i64 n).wf = true := by
  simp only [Lit.wf, Bool.and_eq_true, decide_eq_true_eq]
  have h1 : IntKind.i64.min = -9223372036854775808 := by decide
  have h2 : IntKind.i64.max = 9223372036854775807 := by decide
  rw [h1, h2]
  exact h
/-- A link, told with bridges from the last one on. -/
def turnW (K : Nat) (l : Lk) : Lk := ⟨IntKind.i64.wrap ((K : Int) - 1 - l.a), l.pa, IntKind.i64.wrap ((K : Int) - 1 - l.b), l.pb, l.cost, l.up⟩
def Pl.Net.back (n : Net) (bao : Option Addr) (bcap : Nat) (lao : Option Addr) (lcap : Nat) : Net := ⟨bao, n.K, bcap, fun i => n.bs (n.K - 1 - i), lao, n.L, lcap, fun j => turnW n.K (n.ls (n.L - 1 - j))⟩
theorem wrap_in {K : Nat} (hK : K ≤ 12) {a : Int} (ha : -9223372036854775808 ≤ a ∧ a ≤ 9223372036854775807) : ((0 ≤ IntKind.i64.wrap ((K : Int) - 1 - a) ∧ IntKind.i64.wrap ((K : Int) - 1 - a) ≤ (K : Int) - 1) ↔ (0 ≤ a ∧ a ≤ (K : Int) - 1)) ∧ (0 ≤ a ∧ a ≤ (K : Int) - 1 → IntKind.i64.wrap ((K : Int) - 1 - a) = (K : Int) - 1 - a) := by
  rw [IntKind.wrap_i64]
  constructor
  · constructor <;> intro h <;> omega
  · intro h; omega
theorem wrap_wf (x : Int) : (Lit.int .i64 (IntKind.i64.wrap x)).wf = true := by
  apply i64_range
  rw [IntKind.wrap_i64]
  omega
/-- Nothing is wrong with a link itself. -/
theorem lk_iff (K : Nat) (l : Lk) : Pl.lkErr K l = 0 ↔ (0 ≤ l.a ∧ l.a ≤ (K : Int) - 1) ∧ (0 ≤ l.b ∧ l.b ≤ (K : Int) - 1) ∧ l.a ≠ l.b ∧ (1 ≤ l.pa ∧ l.pa ≤ 30) ∧ (1 ≤ l.pb ∧ l.pb ≤ 30) ∧ (1 ≤ l.cost ∧ l.cost ≤ 200000) := by
  unfold Pl.lkErr
  constructor
  · intro h
    split at h
    · omega
    · split at h
      · omega
      · split at h
        · omega
        · omega
  · intro h
    rw [if_neg (by omega), if_neg (by omega), if_neg (by omega)]
/-- Two links that share an end. -/
def cl (l m : Lk) : Bool := Pl.isEnd l m.a m.pa || Pl.isEnd l m.b m.pb
theorem cl_sym (l m : Lk) : cl l m = cl m l := by
  rw [Bool.eq_iff_iff]
  unfold cl Pl.isEnd
  simp only [Bool.or_eq_true, decide_eq_true_eq]
  omega
theorem lErr_iff (K L : Nat) (ls : Nat → Lk) : (∀ i, i < L → Pl.lErr K ls i = 0) ↔ (∀ i, i < L → Pl.lkErr K (ls i) = 0) ∧ ∀ i j, i < j → j < L → cl (ls i) (ls j) = false := by
  constructor
  · intro h
    refine ⟨fun i hi => (Pl.lErr_ok (h i hi)).1, fun i j hij hj => ?_⟩
    obtain ⟨h1, h2⟩ := (Pl.lErr_ok (h j hj)).2 i hij
    unfold cl
    rw [h1, h2]
    rfl
  · rintro ⟨h1, h2⟩ i hi
    unfold Pl.lErr
    have h3 : Vc.someTo (fun j => Pl.isEnd (ls j) (ls i).a (ls i).pa || Pl.isEnd (ls j) (ls i).b (ls i).pb) i = false := Pl.someTo_none (fun j hj => h2 j i hj hi)
    rw [if_neg (fun q => q (h1 i hi)), if_neg (by rw [h3]; decide)]
theorem bErr_iff (K : Nat) (bs : Nat → Br) : (∀ i, i < K → Pl.bErr bs i = 0) ↔ (∀ i, i < K → Pl.brErr (bs i) = 0) ∧ ∀ i j, i < j → j < K → (bs i).addr ≠ (bs j).addr := by
  constructor
  · intro h
    refine ⟨fun i hi => bErr_zero (h i hi), fun i j hij hj e => ?_⟩
    have h7 := h j hj
    unfold Pl.bErr at h7
    rw [if_neg (fun q => q (bErr_zero (h j hj))), if_pos (Pl.someTo_iff.2 ⟨i, hij, decide_eq_true e⟩)] at h7
    cases h7
  · rintro ⟨h1, h2⟩ i hi
    unfold Pl.bErr
    have h3 : Vc.someTo (fun j => decide ((bs j).addr = (bs i).addr)) i = false := Pl.someTo_none (fun j hj => decide_eq_false (h2 j i hj hi))
    rw [if_neg (fun q => q (h1 i hi)), if_neg (by rw [h3]; decide)]
theorem lk_turn {K : Nat} (hK : K ≤ 12) {l : Lk} (ha : (Lit.int .i64 l.a).wf = true) (hb : (Lit.int .i64 l.b).wf = true) : Pl.lkErr K (turnW K l) = 0 ↔ Pl.lkErr K l = 0 := by
  rw [lk_iff, lk_iff]
  obtain ⟨a1, a2⟩ := wrap_in hK (range_i64 ha)
  obtain ⟨b1, b2⟩ := wrap_in hK (range_i64 hb)
  show (0 ≤ IntKind.i64.wrap ((K : Int) - 1 - l.a) ∧ IntKind.i64.wrap ((K : Int) - 1 - l.a) ≤ (K : Int) - 1) ∧ (0 ≤ IntKind.i64.wrap ((K : Int) - 1 - l.b) ∧ IntKind.i64.wrap ((K : Int) - 1 - l.b) ≤ (K : Int) - 1) ∧ IntKind.i64.wrap ((K : Int) - 1 - l.a) ≠ IntKind.i64.wrap ((K : Int) - 1 - l.b) ∧ _ ↔ _
  generalize IntKind.i64.wrap ((K : Int) - 1 - l.a) = x at *
  generalize IntKind.i64.wrap ((K : Int) - 1 - l.b) = y at *
  rw [a1, b1]
  constructor
  · rintro ⟨h1, h2, h3, h4⟩
    have := a2 h1
    have := b2 h2
    exact ⟨h1, h2, by omega, h4⟩
  · rintro ⟨h1, h2, h3, h4⟩
    have := a2 h1
    have := b2 h2
    exact ⟨h1, h2, by omega, h4⟩
theorem turn_in {K : Nat} (hK : K ≤ 12) {l : Lk} (ha : (Lit.int .i64 l.a).wf = true) (hb : (Lit.int .i64 l.b).wf = true) (h : Pl.lkErr K l = 0) : turnW K l = Pl.turn K l := by
  obtain ⟨h1, h2, _⟩ := (lk_iff K l).1 h
  unfold turnW Pl.turn
  rw [(wrap_in hK (range_i64 ha)).2 h1, (wrap_in hK (range_i64 hb)).2 h2]
theorem cl_turn (K : Nat) (l m : Lk) : cl (Pl.turn K l) (Pl.turn K m) = cl l m := by
  rw [Bool.eq_iff_iff]
  unfold cl Pl.isEnd Pl.turn
  simp only [Bool.or_eq_true, decide_eq_true_eq]
  omega
theorem back_wrong (n : Net) (hwf : n.Wf) (bao : Option Addr) (bcap : Nat) (lao : Option Addr) (lcap : Nat) : (n.back bao bcap lao lcap).wrong.1 = 0 ↔ n.wrong.1 = 0 := by
  rw [wrong_iff, wrong_iff, bErr_iff, bErr_iff, lErr_iff, lErr_iff]
  show (¬ (12 < n.K ∨ 40 < n.L) ∧ ((∀ i, i < n.K → Pl.brErr (n.bs (n.K - 1 - i)) = 0) ∧ ∀ i j, i < j → j < n.K → (n.bs (n.K - 1 - i)).addr ≠ (n.bs (n.K - 1 - j)).addr) ∧ (∀ i, i < n.L → Pl.lkErr n.K (turnW n.K (n.ls (n.L - 1 - i))) = 0) ∧ ∀ i j, i < j → j < n.L → cl (turnW n.K (n.ls (n.L - 1 - i))) (turnW n.K (n.ls (n.L - 1 - j))) = false) ↔ _
  have lw : ∀ k, k < n.L → (Lit.int .i64 (n.ls k).a).wf = true ∧ (Lit.int .i64 (n.ls k).b).wf = true := fun k hk => ⟨(hwf.link k hk).1, (hwf.link k hk).2.2.1⟩
  constructor
  · rintro ⟨h0, ⟨h1, h2⟩, h3, h4⟩
    have hK : n.K ≤ 12 := by omega
    have hl : ∀ k, k < n.L → Pl.lkErr n.K (n.ls k) = 0 := fun k hk => by
      have := h3 (n.L - 1 - k) (by omega)
      rw [show n.L - 1 - (n.L - 1 - k) = k by omega] at this
      exact (lk_turn hK (lw k hk).1 (lw k hk).2).1 this
    refine ⟨h0, ⟨fun i hi => ?_, fun i j hij hj => ?_⟩, hl, fun i j hij hj => ?_⟩
    · have := h1 (n.K - 1 - i) (by omega)
      rw [show n.K - 1 - (n.K - 1 - i) = i by omega] at this
      exact this
    · have := h2 (n.K - 1 - j) (n.K - 1 - i) (by omega) (by omega)
      rw [show n.K - 1 - (n.K - 1 - i) = i by omega, show n.K - 1 - (n.K - 1 - j) = j by omega] at this
      exact fun e => this e.symm
    · have := h4 (n.L - 1 - j) (n.L - 1 - i) (by omega) (by omega)
      rw [show n.L - 1 - (n.L - 1 - i) = i by omega, show n.L - 1 - (n.L - 1 - j) = j by omega, turn_in hK (lw i (by omega)).1 (lw i (by omega)).2 (hl i (by omega)), turn_in hK (lw j hj).1 (lw j hj).2 (hl j hj), cl_turn, cl_sym] at this
      exact this
  · rintro ⟨h0, ⟨h1, h2⟩, h3, h4⟩
    have hK : n.K ≤ 12 := by omega
    refine ⟨h0, ⟨fun i hi => h1 _ (by omega), fun i j hij hj e => h2 (n.K - 1 - j) (n.K - 1 - i) (by omega) (by omega) e.symm⟩, fun i hi => (lk_turn hK (lw _ (by omega)).1 (lw _ (by omega)).2).2 (h3 _ (by omega)), fun i j hij hj => ?_⟩
    rw [turn_in hK (lw _ (by omega)).1 (lw _ (by omega)).2 (h3 (n.L - 1 - i) (by omega)), turn_in hK (lw _ (by omega)).1 (lw _ (by omega)).2 (h3 (n.L - 1 - j) (by omega)), cl_turn, cl_sym]
    exact h4 _ _ (by omega) (by omega)
theorem back_wf {n : Net} (h : n.Wf) (bao : Option Addr) (bcap : Nat) (lao : Option Addr) (lcap : Nat) : (n.back bao bcap lao lcap).Wf := by
  refine ⟨fun i hi => ?_, fun i hi => ?_⟩
  · have hi : i < n.K := hi
    exact h.addr (n.K - 1 - i) (by omega)
  · have hi : i < n.L := hi
    have hl := h.link (n.L - 1 - i) (by omega)
    exact ⟨wrap_wf _, hl.2.1, wrap_wf _, hl.2.2.2⟩
theorem EL_map (f : En → En) (l : List En) {q : Nat} (hq : q < l.length) : EL (l.map f) q = f (EL l q) := by
  simp [EL, List.getD, List.getElem?_eq_getElem hq]
/-- ALL STAND AS THEY DID. -/
theorem back_same {n : Net} (hwf : n.Wf) (h : n.wrong.1 = 0) (bao : Option Addr) (bcap : Nat) (lao : Option Addr) (lcap : Nat) (tree : Int) {w : World} {P Q : Nat} (h1 : PlacesAt w P n.K (Pl.rounds (n.ids tree) n.ends n.K n.K) n.ends n.K)
    (h2 : PlacesAt w Q n.K (Pl.rounds ((n.back bao bcap lao lcap).ids tree) (n.back bao bcap lao lcap).ends n.K n.K) (n.back bao bcap lao lcap).ends n.K) {i : Nat} (hi : i < n.K) : OneSame w P (i * 7) Q ((n.K - 1 - i) * 7) := by
  have R := right_of hwf h
  have S := right_of (back_wf hwf bao bcap lao lcap) ((back_wrong n hwf bao bcap lao lcap).2 h)
  have hl : ∀ k, k < n.L → Pl.lkErr n.K (n.ls k) = 0 := fun k hk => (lErr_iff n.K n.L n.ls).1 ((wrong_iff n).1 h).2.2 |>.1 k hk
  have lw : ∀ k, k < n.L → (Lit.int .i64 (n.ls k).a).wf = true ∧ (Lit.int .i64 (n.ls k).b).wf = true := fun k hk => ⟨(hwf.link k hk).1, (hwf.link k hk).2.2.1⟩
  have hms : ∀ k, k < n.L → (n.back bao bcap lao lcap).ls k = Pl.turn n.K (n.ls (n.L - 1 - k)) ∧ (n.back bao bcap lao lcap).live k = n.live (n.L - 1 - k) := fun k hk => by
    have e : (n.back bao bcap lao lcap).ls k = Pl.turn n.K (n.ls (n.L - 1 - k)) := turn_in R.few (lw _ (by omega)).1 (lw _ (by omega)).2 (hl _ (by omega))
    refine ⟨e, ?_⟩
    obtain ⟨o1, o2, _⟩ := R.links.ok (n.L - 1 - k) (by omega)
    unfold Pl.Net.live
    rw [e]
    have ea : (Pl.turn n.K (n.ls (n.L - 1 - k))).a.toNat = n.K - 1 - (n.ls (n.L - 1 - k)).a.toNat := by show ((n.K : Int) - 1 - (n.ls (n.L - 1 - k)).a).toNat = _; omega
    have eb : (Pl.turn n.K (n.ls (n.L - 1 - k))).b.toNat = n.K - 1 - (n.ls (n.L - 1 - k)).b.toNat := by show ((n.K : Int) - 1 - (n.ls (n.L - 1 - k)).b).toNat = _; omega
    rw [ea, eb]
    show (_ && decide (strOf 50 (n.bs (n.K - 1 - (n.K - 1 - (n.ls (n.L - 1 - k)).a.toNat))).reg.id = strOf 50 (n.bs (n.K - 1 - (n.K - 1 - (n.ls (n.L - 1 - k)).b.toNat))).reg.id)) = _
    rw [show n.K - 1 - (n.K - 1 - (n.ls (n.L - 1 - k)).a.toNat) = (n.ls (n.L - 1 - k)).a.toNat by omega, show n.K - 1 - (n.K - 1 - (n.ls (n.L - 1 - k)).b.toNat) = (n.ls (n.L - 1 - k)).b.toNat by omega]
    rfl
  have hids : ∀ j, j < n.K → (n.back bao bcap lao lcap).ids tree (n.K - 1 - j) = n.ids tree j := fun j hj => by
    show (n.bs (n.K - 1 - (n.K - 1 - j))).id tree = _
    rw [show n.K - 1 - (n.K - 1 - j) = j by omega]
    rfl
  have hE : ∀ j, j < n.K → (n.back bao bcap lao lcap).ends (n.K - 1 - j) = (n.ends j).map (Pl.turnE n.K) := fun j hj => Pl.ends_turn R.links S.links hms hj
  obtain ⟨t1, t2⟩ := Pl.fin_turn (Pl.good R.links R.few (n.ids tree) n.live) (Pl.good S.links S.few ((n.back bao bcap lao lcap).ids tree) (n.back bao bcap lao lcap).live) hids hE
  refine same_of_places h1 h2 hi (show n.K - 1 - i < n.K by omega) (ends_few n i R.fewL) (t1 i hi).symm ?_ (fun q hq => ?_) (fun q hq => ?_)
  · rw [hE i hi, List.length_map]
  · rw [hE i hi, EL_map _ _ hq]
    rfl
  · have e1 : Pl.rounds ((n.back bao bcap lao lcap).ids tree) (n.back bao bcap lao lcap).ends n.K n.K (n.K - 1 - i) = Pl.rounds (n.ids tree) n.ends n.K n.K i := t1 i hi
    have e2 : Pl.offs ((n.back bao bcap lao lcap).ends (n.K - 1 - i)) (Pl.rounds ((n.back bao bcap lao lcap).ids tree) (n.back bao bcap lao lcap).ends n.K n.K) = Pl.offs (n.ends i) (Pl.rounds (n.ids tree) n.ends n.K n.K) := t2 i hi
    rw [e1, e2, hE i hi, EL_map _ _ hq]
    rfl
end Go.Proofs.YtcbpafpaimpfnaaGreatDoor

namespace Go.Proofs.YtcbpafpaimpfnaaGreatDoor
open Go.RowKit

theorem append_at (w : World) (t e : TypeId) (z : Value) (k bytes : Nat) (ht : Tryz.prog.underlying t = some (.slice e)) (hinfo : (Tryz.prog.info? e).map (fun i => (i.zero, i.size, i.bytes)) = some (some z, k, bytes)) (hzk : z.cells.size = k) (hk : 0 < k)
    (base : Nat) (v : Value) (n : Nat) (c : Nat → Nat → Value) (hown : w.ownsRow base e k v n (cellsL n k c)) (ad : Addr) (m cp : Nat) (d : Nat → Nat → Value) (hd : ∀ i j, (d i j).oneCell' = true) (hr : CRow w (some ad) m cp k d) (h63 : n + m ≤ maxLen) (hb : (n + m) * bytes ≤ 140737488355328) (hbase : base ≤ w.heap.size) :
    ∃ a1 c1 w', (Builtin.append_ #[t, t] t #[v, .slice (some ad) m cp]).run Tryz.prog w = .ok (.slice a1 (n + m) c1) w' ∧ w'.ownsRow base e k (.slice a1 (n + m) c1) (n + m) (cellsL (n + m) k (catC n c d)) ∧ w.grownBy w' v.ownBlock ∧ Below base w w' ∧ ((Value.slice a1 (n + m) c1).ownBlock = v.ownBlock ∨ (Value.slice a1 (n + m) c1).ownBlock = some w.heap.size) := by
  obtain ⟨i0, hi, hz0, hz1, hz2⟩ := info_parts hinfo
  obtain ⟨v', w', hrun, h1, h2, _, h3⟩ := run_append_own_at (P := Tryz.prog) w base t t e i0 z k bytes ht hi hz0 hz1 hz2 hzk hk v n _ hown ad m cp (cellsL m k d) (cellsL_length _ _ _) (src_cells hk hr rfl) (cellsL_one _ _ _ hd) h63 hb hbase
  rw [cellsL_cat n m k hk] at h1
  obtain ⟨a1, c1, rfl, _⟩ := owns_c hk h1
  exact ⟨a1, c1, w', hrun, h1, h2, (Below.refl _ _).grown h2 hbase (fun q hq => (ownsC_block hown q hq).1), h3⟩
end Go.Proofs.YtcbpafpaimpfnaaGreatDoor

namespace Go.Proofs.YtcbpafpaimpfnaaGreatDoor
open Go.RowKit
open Vc (V Of)
open Pl (Br Net Pc Lk En St)

theorem one_br_row {w : World} {g : Nat} {b : Br} {ty : TypeId} (h : w.heap[g]? = some (.cells (brA b) ty (0, 0))) : BRow w (some ⟨g, 0, none⟩) 1 1 (fun _ => b) := by
  refine ⟨Nat.le_refl _, fun _ => ⟨g, 0, rfl, (Array.getElem?_eq_some_iff.1 h).1, fun i hi j hj => ?_⟩⟩
  obtain rfl : i = 0 := by omega
  rcases (by omega : j = 0 ∨ j = 1 ∨ j = 2 ∨ j = 3 ∨ j = 4) with e | e | e | e | e <;> subst e <;> exact cell_of_row w g _ _ _ _ h
theorem one_lk_row2 {w : World} {g : Nat} {l : Lk} {ty : TypeId} (h : w.heap[g]? = some (.cells (lkA l) ty (0, 0))) : LRow w (some ⟨g, 0, none⟩) 1 1 (fun _ => l) := one_lk_row h
/-- The net that is built: t bridges, s links so far; M: its box. -/
structure NamW (w1 W : World) (n : Net) (M t s : Nat) (v5 v6 : Value) : Prop where
  low : Below M w1 W
  box : W.heap[M]? = some (.cells #[v5, v6] 25 (0, 0))
  brs : W.ownsRow (M + 1) 40 5 v5 t (cellsL t 5 (fun i => brC (n.bs (n.K - 1 - i))))
  lks : W.ownsRow (M + 1) 46 6 v6 s (cellsL s 6 (fun j => lkC (turnW n.K (n.ls (n.L - 1 - j)))))
  apart : ∀ q, v5.ownBlock = some q → v6.ownBlock ≠ some q
theorem NamW.below {w1 W W' : World} {n : Net} {M t s : Nat} {v5 v6 : Value} (h : NamW w1 W n M t s v5 v6) (hb : Below W.heap.size W W') : NamW w1 W' n M t s v5 v6 :=
  ⟨h.low.trans (hb.mono (Nat.le_of_lt (Array.getElem?_eq_some_iff.1 h.box).1)), keep h.box hb, ownsC_below h.brs hb, ownsC_below h.lks hb, h.apart⟩
theorem kept_of {W W' : World} {base e k n : Nat} {v u : Value} {xs : List Value} (h : W.ownsRow base e k v n xs) (hg : W.grownBy W' u.ownBlock) (hne : ∀ q, v.ownBlock = some q → u.ownBlock ≠ some q) : W'.ownsRow base e k v n xs := by
  refine h.kept hg ?_
  cases hv : v.ownBlock with
  | none => exact Or.inl rfl
  | some q => exact Or.inr (fun e => hne q hv e.symm)
set_option maxHeartbeats 1000000 in
/-- ONE BRIDGE MORE: what 'append' does, and the store behind it. -/
theorem nam_br {w1 W : World} {n : Net} {M i s : Nat} {v5 v6 : Value} (h : NamW w1 W n M (n.K - (i + 1)) s v5 v6) (hi : i < n.K) (hby : n.K * 80 ≤ 140737488355328) :
    ∃ a1 c1 w2, (Builtin.append_ #[22, 22] 22 #[v5, .slice (some ⟨W.heap.size, 0, none⟩) 1 1]).run Tryz.prog (W.alloc (.cells (brA (n.bs i)) 40)) = .ok (.slice a1 (n.K - i) c1) w2 ∧ Below M w1 w2 ∧ w2.cell? ⟨M, 0, none⟩ = some v5 ∧ w2.frozen? ⟨M, 0, none⟩ = false ∧
      NamW w1 (w2.setCell ⟨M, 0, none⟩ (.slice a1 (n.K - i) c1)) n M (n.K - i) s (.slice a1 (n.K - i) c1) v6 := by
  obtain ⟨C, hC⟩ : ∃ C, C = W.alloc (.cells (brA (n.bs i)) 40) := ⟨_, rfl⟩
  have hCB : Below W.heap.size W C := by rw [hC]; exact below_alloc1 _ _
  have hCs : C.heap.size = W.heap.size + 1 := by rw [hC]; simp
  have hCl : C.heap[W.heap.size]? = some (.cells (brA (n.bs i)) 40 (0, 0)) := by rw [hC]; exact heap_alloc_last _ _
  have hMl : M < W.heap.size := (Array.getElem?_eq_some_iff.1 h.box).1
  have hN := h.below hCB
  obtain ⟨a1, c1, w2, r, ho, hg, hb, hw⟩ := append_at C 22 40 _ 5 80 Tryz.underlying22 infoBg rfl (by omega) (M + 1) v5 (n.K - (i + 1)) (fun q => brC (n.bs (n.K - 1 - q))) hN.brs ⟨W.heap.size, 0, none⟩ 1 1 (fun _ => brC (n.bs i)) (fun _ j => brC_one _ j) (one_br_row hCl) (by unfold maxLen; omega) (by omega) (by omega)
  have e1 : n.K - (i + 1) + 1 = n.K - i := by omega
  rw [e1] at r ho hw
  rw [cellsL_congr (n.K - i) 5 _ (fun q => brC (n.bs (n.K - 1 - q))) (fun q hq => by
    unfold catC
    by_cases c : q < n.K - (i + 1)
    · rw [if_pos c]
    · rw [if_neg c, show n.K - 1 - q = i by omega])] at ho
  have hMne : v5.ownBlock ≠ some M := fun e => by have := (ownsC_block hN.brs M e).1; omega
  have hM6 : v6.ownBlock ≠ some M := fun e => by have := (ownsC_block hN.lks M e).1; omega
  have hbox2 : w2.heap[M]? = some (.cells #[v5, v6] 25 (0, 0)) := (hg.block M (by omega) (fun e => hMne e.symm)).trans hN.box
  have hvM : (Value.slice a1 (n.K - i) c1).ownBlock ≠ some M := fun e => by
    rcases hw with hw | hw
    · rw [hw] at e; exact hMne e
    · rw [hw] at e; injection e with e; omega
  have hlow2 : Below M w1 w2 := hN.low.trans (hb.mono (by omega))
  have hgs : w2.grownBy (w2.setCell ⟨M, 0, none⟩ (.slice a1 (n.K - i) c1)) (some M) := by
    have bz : Below 0 w2 (w2.setCell ⟨M, 0, none⟩ (.slice a1 (n.K - i) c1)) := (Below.refl 0 w2).setCell (Nat.zero_le _) _
    exact ⟨bz.os, bz.tape, bz.output, bz.size, fun q hq hne => heap_setCell_other _ _ _ _ (by exact fun e => hne (by rw [e]))⟩
  have hap : ∀ q, (Value.slice a1 (n.K - i) c1).ownBlock = some q → v6.ownBlock ≠ some q := fun q hq e => by
    rcases hw with hw | hw
    · rw [hw] at hq; exact h.apart q hq e
    · have := (ownsC_block h.lks q e).2
      rw [hw] at hq
      injection hq with hq
      omega
  refine ⟨a1, c1, w2, by rw [← hC]; exact r, hlow2, (two_cells2 hbox2).1, lk_free0 hbox2 _, ⟨hlow2.setCell (Nat.le_refl _) _, ?_, ?_, ?_, hap⟩⟩
  · rw [heap_setCell_same _ _ _ _ _ _ hbox2]; rfl
  · refine ho.kept hgs ?_
    cases hv : (Value.slice a1 (n.K - i) c1).ownBlock with
    | none => exact Or.inl rfl
    | some q => exact Or.inr (fun e => hvM (by rw [hv]; exact e))
  · have h6 := kept_of hN.lks hg (fun q hq e => hN.apart q e hq)
    refine h6.kept hgs ?_
    cases hv : v6.ownBlock with
    | none => exact Or.inl rfl
    | some q => exact Or.inr (fun e => hM6 (by rw [hv]; exact e))
set_option maxHeartbeats 1000000 in
/-- ONE LINK MORE. -/
theorem nam_lk {w1 W : World} {n : Net} {M t i : Nat} {v5 v6 : Value} (h : NamW w1 W n M t (n.L - (i + 1)) v5 v6) (hi : i < n.L) (hby : n.L * 48 ≤ 140737488355328) :
    ∃ a1 c1 w2, (Builtin.append_ #[23, 23] 23 #[v6, .slice (some ⟨W.heap.size, 0, none⟩) 1 1]).run Tryz.prog (W.alloc (.cells (lkA (turnW n.K (n.ls i))) 46)) = .ok (.slice a1 (n.L - i) c1) w2 ∧ Below M w1 w2 ∧ w2.cell? ⟨M, 1, none⟩ = some v6 ∧ w2.frozen? ⟨M, 1, none⟩ = false ∧
      NamW w1 (w2.setCell ⟨M, 1, none⟩ (.slice a1 (n.L - i) c1)) n M t (n.L - i) v5 (.slice a1 (n.L - i) c1) := by
  obtain ⟨C, hC⟩ : ∃ C, C = W.alloc (.cells (lkA (turnW n.K (n.ls i))) 46) := ⟨_, rfl⟩
  have hCB : Below W.heap.size W C := by rw [hC]; exact below_alloc1 _ _
  have hCs : C.heap.size = W.heap.size + 1 := by rw [hC]; simp
  have hCl : C.heap[W.heap.size]? = some (.cells (lkA (turnW n.K (n.ls i))) 46 (0, 0)) := by rw [hC]; exact heap_alloc_last _ _
  have hMl : M < W.heap.size := (Array.getElem?_eq_some_iff.1 h.box).1
  have hN := h.below hCB
  obtain ⟨a1, c1, w2, r, ho, hg, hb, hw⟩ := append_at C 23 46 _ 6 48 Tryz.underlying23 infoLk rfl (by omega) (M + 1) v6 (n.L - (i + 1)) (fun q => lkC (turnW n.K (n.ls (n.L - 1 - q)))) hN.lks ⟨W.heap.size, 0, none⟩ 1 1 (fun _ => lkC (turnW n.K (n.ls i))) (fun _ j => lkC_one _ j) (one_lk_row hCl) (by unfold maxLen; omega) (by omega) (by omega)
  have e1 : n.L - (i + 1) + 1 = n.L - i := by omega
  rw [e1] at r ho hw
  rw [cellsL_congr (n.L - i) 6 _ (fun q => lkC (turnW n.K (n.ls (n.L - 1 - q)))) (fun q hq => by
    unfold catC
    by_cases c : q < n.L - (i + 1)
    · rw [if_pos c]
    · rw [if_neg c, show n.L - 1 - q = i by omega])] at ho
  have hMne : v6.ownBlock ≠ some M := fun e => by have := (ownsC_block hN.lks M e).1; omega
  have hM5 : v5.ownBlock ≠ some M := fun e => by have := (ownsC_block hN.brs M e).1; omega
  have hbox2 : w2.heap[M]? = some (.cells #[v5, v6] 25 (0, 0)) := (hg.block M (by omega) (fun e => hMne e.symm)).trans hN.box
  have hvM : (Value.slice a1 (n.L - i) c1).ownBlock ≠ some M := fun e => by
    rcases hw with hw | hw
    · rw [hw] at e; exact hMne e
    · rw [hw] at e; injection e with e; omega
  have hlow2 : Below M w1 w2 := hN.low.trans (hb.mono (by omega))
  have hgs : w2.grownBy (w2.setCell ⟨M, 1, none⟩ (.slice a1 (n.L - i) c1)) (some M) := by
    have bz : Below 0 w2 (w2.setCell ⟨M, 1, none⟩ (.slice a1 (n.L - i) c1)) := (Below.refl 0 w2).setCell (Nat.zero_le _) _
    exact ⟨bz.os, bz.tape, bz.output, bz.size, fun q hq hne => heap_setCell_other _ _ _ _ (by exact fun e => hne (by rw [e]))⟩
  have hap : ∀ q, v5.ownBlock = some q → (Value.slice a1 (n.L - i) c1).ownBlock ≠ some q := fun q hq e => by
    rcases hw with hw | hw
    · rw [hw] at e; exact h.apart q hq e
    · have := (ownsC_block h.brs q hq).2
      rw [hw] at e
      injection e with e
      omega
  refine ⟨a1, c1, w2, by rw [← hC]; exact r, hlow2, (two_cells2 hbox2).2, lk_free0 hbox2 _, ⟨hlow2.setCell (Nat.le_refl _) _, ?_, ?_, ?_, hap⟩⟩
  · rw [heap_setCell_same _ _ _ _ _ _ hbox2]; rfl
  · have h5 := kept_of hN.brs hg (fun q hq e => hN.apart q hq e)
    refine h5.kept hgs ?_
    cases hv : v5.ownBlock with
    | none => exact Or.inl rfl
    | some q => exact Or.inr (fun e => hM5 (by rw [hv]; exact e))
  · refine ho.kept hgs ?_
    cases hv : (Value.slice a1 (n.L - i) c1).ownBlock with
    | none => exact Or.inl rfl
    | some q => exact Or.inr (fun e => hvM (by rw [hv]; exact e))
/-- The net is built. -/
theorem NamW.net {w1 W : World} {n : Net} {M : Nat} {v5 v6 : Value} (h : NamW w1 W n M n.K n.L v5 v6) (hat : n.at' W) : ∃ a5 c5 a6 c6, v5 = .slice a5 n.K c5 ∧ v6 = .slice a6 n.L c6 ∧ (n.back a5 c5 a6 c6).at' W := by
  obtain ⟨a5, c5, e5, r5, _⟩ := owns_c (by omega) h.brs
  obtain ⟨a6, c6, e6, r6, _⟩ := owns_c (by omega) h.lks
  exact ⟨a5, c5, a6, c6, e5, e6, r5, fun i hi => hat.each _ (show n.K - 1 - i < n.K by have : i < n.K := hi; omega), r6, hat.manyB, hat.manyL⟩
end Go.Proofs.YtcbpafpaimpfnaaGreatDoor

namespace Go.Proofs.YtcbpafpaimpfnaaGreatDoor
open Go.RowKit
open Vc (V Of)
open Pl (Br Net Pc Lk En St)

set_option maxRecDepth 100000 in
set_option maxHeartbeats 40000000 in
theorem pnames_any (n : Net) (tree : Int) (w : World) (hat : n.at' w) (hwf : n.Wf) (ht : Tabs w) (hbt : 2 ≤ w.heap.size) (hbyL : n.L * 48 ≤ 140737488355328) (hbyK : n.K * 80 ≤ 140737488355328) :
    Calls Tryz.prog 8 #[n.val, .int .i64 tree] w fun e w' => e = .returned (.bool true) ∧ Below w.heap.size w w' := by
  obtain ⟨X, HX⟩ : ∃ X, Hid (X = w.alloc (.cells #[.slice n.bao n.K n.bcap, .slice n.lao n.L n.lcap] 25)) := ⟨_, rfl⟩
  have hXB : Below w.heap.size w X := by rw [HX.out]; exact below_alloc1 _ _
  have hXn : X.heap[w.heap.size]? = some (.cells #[.slice n.bao n.K n.bcap, .slice n.lao n.L n.lcap] 25 (0, 0)) := by rw [HX.out]; exact heap_alloc_last _ _
  have HC : Hid (∀ W, Below X.heap.size X W → (W.cell? ⟨w.heap.size, 0, none⟩ = some (.slice n.bao n.K n.bcap) ∧ W.cell? ⟨w.heap.size, 1, none⟩ = some (.slice n.lao n.L n.lcap)) ∧ n.at' W ∧ (Tabs W ∧ 2 ≤ W.heap.size) ∧ Below w.heap.size w W) := fun W hW => by
    have h1 : Below w.heap.size w W := hXB.trans (hW.mono hXB.size)
    exact ⟨two_cells2 (keep hXn hW), hat.below h1, ⟨ht.below h1 hbt, Nat.le_trans hbt h1.size⟩, h1⟩
  have HAL : Hid (Calls Tryz.prog 17 #[] X fun e w' => e = .returned (.bool true) ∧ Below X.heap.size X w') := palive_any X (ht.below hXB hbt) (Nat.le_trans hbt hXB.size)
  have HWF : Hid n.Wf := hwf
  have hcapB := hat.brs.1
  have hcapL := hat.lks.1
  have HBK : Hid (n.K * 80 ≤ 140737488355328) := hbyK
  have HBL : Hid (n.L * 48 ≤ 140737488355328) := hbyL
  have hKs : n.K ≤ 2000000000000 := by omega
  have hLs : n.L ≤ 3000000000000 := by omega
  clear hat ht hXn hXB hwf hbyK hbyL
  simp only [Pl.Net.val]
  go_enter Tryz.func8, Tryz.ntmps8
  go_wp2_with fail
  rw [← HX.out]
  refine HAL.out.mono ?_
  rintro e w1 ⟨rfl, hb1⟩
  obtain ⟨⟨d0, d1⟩, _⟩ := HC.out w1 hb1
  obtain ⟨M, HM⟩ : ∃ M, Hid (M = w1.heap.size) := ⟨_, rfl⟩
  have HLW : Hid (∀ W, Below M w1 W → Below X.heap.size X W) := fun W hW => hb1.trans (hW.mono (by rw [HM.out]; exact hb1.size))
  have H0 : Hid (NamW w1 (w1.alloc (.cells #[.slice none 0 0, .slice none 0 0] 25)) n M (n.K - n.K) 0 (.slice none 0 0) (.slice none 0 0)) := by
    rw [Nat.sub_self]
    refine ⟨by rw [HM.out]; exact below_alloc1 _ _, by rw [HM.out]; exact heap_alloc_last _ _, ownsC_nil _ _ _ _ _, ownsC_nil _ _ _ _ _, fun q hq => by simp [Value.ownBlock] at hq⟩
  have wk : IntKind.i64.wrap ((n.K : Int) - 1) = (n.K : Int) - 1 := by rw [IntKind.wrap_i64]; omega
  clear HAL
  go_wp2_with fail
  rw [← HM.out]
  clear d0 d1
  go_loopw [7] (fun s7 wr => ∃ (m : Nat) (v5 : Value), m ≤ n.K ∧ s7 = .int .i64 ((m : Int) - 1) ∧ Hid (NamW w1 wr n M (n.K - m) 0 v5 (.slice none 0 0))) (fun s7 _ => (intOf s7 + 1).toNat)
  case atStart => exact ⟨n.K, .slice none 0 0, Nat.le_refl _, by first | rfl | simp, H0⟩
  case round =>
    obtain ⟨m, v5, hm, rfl, hW⟩ := hrel
    clear H0
    cases m with
    | succ i =>
      have e0 : ((i + 1 : Nat) : Int) - 1 = (i : Int) := by omega
      rw [e0]
      obtain ⟨⟨n0, _⟩, hatW, _⟩ := HC.out wr (HLW.out wr hW.out.low)
      obtain ⟨bb, boff, eb, _⟩ := CRow.some hatW.brs (by omega)
      have hi : i < n.K := by omega
      obtain ⟨a1, c1, w2, hap, hlo2, hcell2, hfz2, hN⟩ := nam_br (hW.out.below (Below.drew (Below.refl _ _))) hi HBK.out
      have HU : Hid (∀ W, Below M w1 W → W.cell? ⟨w.heap.size, 0, none⟩ = some (.slice (some ⟨bb, boff, none⟩) n.K n.bcap) ∧ (W.cell? ⟨bb, boff + i * 5, none⟩ = some (.int .u64 (n.bs i).addr) ∧ W.cell? ⟨bb, boff + i * 5 + 1, none⟩ = some (.slice (n.bs i).pao (n.bs i).pn (n.bs i).pcap) ∧ W.cell? ⟨bb, boff + i * 5 + 2, none⟩ = some (.string (n.bs i).reg.s) ∧ W.cell? ⟨bb, boff + i * 5 + 3, none⟩ = some (.int .i64 (n.bs i).reg.rev) ∧ W.cell? ⟨bb, boff + i * 5 + 4, none⟩ = some (.slice (n.bs i).reg.ao (n.bs i).reg.n (n.bs i).reg.cap))) := fun W hWW => by
        obtain ⟨⟨k0, _⟩, k1, _⟩ := HC.out W (HLW.out W hWW)
        have k2 := k1.brs
        rw [eb] at k0 k2
        exact ⟨k0, BRow.cells k2 hi⟩
      have HAP : Hid ((Builtin.append_ #[22, 22] 22 #[v5, .slice (some ⟨wr.heap.size, 0, none⟩) 1 1]).run Tryz.prog (wr.drew.alloc (.cells #[.int .u64 (n.bs i).addr, .slice (n.bs i).pao (n.bs i).pn (n.bs i).pcap, .string (n.bs i).reg.s, .int .i64 (n.bs i).reg.rev, .slice (n.bs i).reg.ao (n.bs i).reg.n (n.bs i).reg.cap] 40)) = .ok (.slice a1 (n.K - i) c1) w2) := hap
      have hMw : M ≤ wr.heap.size := Nat.le_of_lt (Array.getElem?_eq_some_iff.1 hW.out.box).1
      have HS0 : Hid _ := HU.out _ (hW.out.low.drew)
      have HS1 : Hid _ := HU.out (wr.drew.alloc (.cells #[.int .u64 (n.bs i).addr, .slice (n.bs i).pao (n.bs i).pn (n.bs i).pcap, .string (n.bs i).reg.s, .int .i64 (n.bs i).reg.rev, .slice (n.bs i).reg.ao (n.bs i).reg.n (n.bs i).reg.cap] 40)) (hW.out.low.drew.alloc hMw _)
      have HS2 : Hid _ := HU.out _ hlo2
      have HS3 : Hid _ := HU.out _ hN.low
      have HN : Hid (NamW w1 (w2.setCell ⟨M, 0, none⟩ (.slice a1 (n.K - i) c1)) n M (n.K - i) 0 (.slice a1 (n.K - i) c1) (.slice none 0 0)) := hN
      have g0 := (two_cells2 hW.out.box).1
      have hMl : M < wr.heap.size := (Array.getElem?_eq_some_iff.1 hW.out.box).1
      have g1 : ∀ o, (wr.alloc o).cell? ⟨M, 0, none⟩ = some v5 := fun o => ((below_alloc1 wr o).cell (by exact hMl)).trans g0
      have i0 : (0 : Int) ≤ (i : Int) := by omega
      have i1 : (i : Int) < (n.K : Int) := by omega
      have wi : IntKind.i64.wrap ((i : Int) - 1) = (i : Int) - 1 := by rw [IntKind.wrap_i64]; omega
      clear hW hatW hap hlo2 hN HU HC HLW n0 eb HBK HBL e0 hm
      generalize (n.bs i).addr = b0 at *
      generalize Value.slice (n.bs i).pao (n.bs i).pn (n.bs i).pcap = b1 at *
      generalize Value.string (n.bs i).reg.s = b2 at *
      generalize Value.int .i64 (n.bs i).reg.rev = b3 at *
      generalize Value.slice (n.bs i).reg.ao (n.bs i).reg.n (n.bs i).reg.cap = b4 at *
      go_wp2_with fail
      refine wp_region_held_drew (S := fun W => W.cell? ⟨w.heap.size, 0, none⟩ = some (.slice (some ⟨bb, boff, none⟩) n.K n.bcap) ∧ (W.cell? ⟨bb, boff + i * 5, none⟩ = some (.int .u64 b0) ∧ W.cell? ⟨bb, boff + i * 5 + 1, none⟩ = some b1 ∧ W.cell? ⟨bb, boff + i * 5 + 2, none⟩ = some b2 ∧ W.cell? ⟨bb, boff + i * 5 + 3, none⟩ = some b3 ∧ W.cell? ⟨bb, boff + i * 5 + 4, none⟩ = some b4)) (by kernel_rfl) HS0.out (fun hHeld => ?_)
      refine held_take (i := 0) (v := ?_) (some 26) rfl rfl (by kernel_rfl) (by kernel_rfl) (by kernel_rfl) (fun _ _ _ h => h) (by rfl) ?_ hHeld ?_
      rotate_left 1
      · (intro wq hSw; go_simp; try with_reducible rfl)
      (try simp only [Act.put, List.setIfInBounds_toArray, List.set_cons_zero, List.set_cons_succ])
      refine held_take (i := 2) (v := ?_) (some 28) rfl rfl (by kernel_rfl) (by kernel_rfl) (by kernel_rfl) (fun _ _ _ h => h) (by rfl) ?_ hHeld ?_
      rotate_left 1
      · (intro wq hSw; go_simp; try with_reducible rfl)
      (try simp only [Act.put, List.setIfInBounds_toArray, List.set_cons_zero, List.set_cons_succ])
      refine held_take (i := 3) (v := ?_) (some 29) rfl rfl (by kernel_rfl) (by kernel_rfl) (by kernel_rfl) (fun _ _ _ h => h) (by rfl) ?_ hHeld ?_
      rotate_left 1
      · (intro wq hSw; go_simp; try with_reducible rfl)
      (try simp only [Act.put, List.setIfInBounds_toArray, List.set_cons_zero, List.set_cons_succ])
      refine held_take (i := 4) (v := ?_) (some 30) rfl rfl (by kernel_rfl) (by kernel_rfl) (by kernel_rfl) (fun _ _ _ h => h) (by rfl) ?_ hHeld ?_
      rotate_left 1
      · (intro wq hSw; go_simp; try with_reducible rfl)
      (try simp only [Act.put, List.setIfInBounds_toArray, List.set_cons_zero, List.set_cons_succ])
      refine held_take (i := 5) (v := ?_) (some 31) rfl rfl (by kernel_rfl) (by kernel_rfl) (by kernel_rfl) (fun _ _ _ h => h) (by rfl) ?_ hHeld ?_
      rotate_left 1
      · (intro wq hSw; go_simp; try with_reducible rfl)
      (try simp only [Act.put, List.setIfInBounds_toArray, List.set_cons_zero, List.set_cons_succ])
      refine held_take (i := 6) (v := ?_) (some 32) rfl rfl (by kernel_rfl) (by kernel_rfl) (by kernel_rfl) (fun _ _ _ h => h) (by rfl) ?_ hHeld ?_
      rotate_left 1
      · (intro wq hSw; go_simp; try with_reducible rfl)
      (try simp only [Act.put, List.setIfInBounds_toArray, List.set_cons_zero, List.set_cons_succ])
      refine wpAnyH_ready (rs := [1, 7]) (by kernel_rfl) (by simp) ?_
      refine AllReadyH.cons rfl (fun K hK => ?_) (AllReadyH.cons rfl (fun K hK => ?_) AllReadyH.nil)
      · go_simp
        refine hK.out _ _ hHeld (fun hHeld => ?_)
        clear hK K
        (try simp only [Act.put, List.setIfInBounds_toArray, List.set_cons_zero, List.set_cons_succ])
        refine wpAnyH_ready (rs := [7]) (by kernel_rfl) (by simp) ?_
        refine AllReadyH.cons rfl (fun K hK => ?_) AllReadyH.nil
        go_simp
        refine hK.out _ _ HS1.out (fun hHeld => ?_)
        clear hK K
        (try simp only [Act.put, List.setIfInBounds_toArray, List.set_cons_zero, List.set_cons_succ])
        refine wpAnyH_ready (rs := [8]) (by kernel_rfl) (by simp) ?_
        refine AllReadyH.cons rfl (fun K hK => ?_) AllReadyH.nil
        refine step_append_d (some 34) rfl rfl (.tmp 27) (.tmp 33) 22 rfl _ _ _ rfl rfl HAP.out ?_
        refine hK.out _ _ HS2.out (fun hHeld => ?_)
        clear hK K
        (try simp only [Act.put, List.setIfInBounds_toArray, List.set_cons_zero, List.set_cons_succ])
        refine held_take (i := 9) (v := ?_) (some 35) rfl rfl (by kernel_rfl) (by kernel_rfl) (by kernel_rfl) (fun _ _ _ h => h) (by rfl) ?_ hHeld ?_
        rotate_left 1
        · (intro wq hSw; go_simp; try with_reducible rfl)
        (try simp only [Act.put, List.setIfInBounds_toArray, List.set_cons_zero, List.set_cons_succ])
        refine wpAnyH_ready (rs := [10]) (by kernel_rfl) (by simp) ?_
        refine AllReadyH.cons rfl (fun K hK => ?_) AllReadyH.nil
        go_simp
        refine hK.out _ _ HS3.out (fun hHeld => ?_)
        clear hK K
        refine wpAnyH_done (by kernel_rfl) ?_ _
        clear hHeld
        go_wp2_with fail
        exact ⟨⟨i, _, by omega, by go_num, HN⟩, by first | (simp [intOf]; done) | (simp [intOf]; omega)⟩
      · go_simp
        refine hK.out _ _ HS1.out (fun hHeld => ?_)
        clear hK K
        (try simp only [Act.put, List.setIfInBounds_toArray, List.set_cons_zero, List.set_cons_succ])
        refine wpAnyH_ready (rs := [1]) (by kernel_rfl) (by simp) ?_
        refine AllReadyH.cons rfl (fun K hK => ?_) AllReadyH.nil
        go_simp
        refine hK.out _ _ hHeld (fun hHeld => ?_)
        clear hK K
        (try simp only [Act.put, List.setIfInBounds_toArray, List.set_cons_zero, List.set_cons_succ])
        refine wpAnyH_ready (rs := [8]) (by kernel_rfl) (by simp) ?_
        refine AllReadyH.cons rfl (fun K hK => ?_) AllReadyH.nil
        refine step_append_d (some 34) rfl rfl (.tmp 27) (.tmp 33) 22 rfl _ _ _ rfl rfl HAP.out ?_
        refine hK.out _ _ HS2.out (fun hHeld => ?_)
        clear hK K
        (try simp only [Act.put, List.setIfInBounds_toArray, List.set_cons_zero, List.set_cons_succ])
        refine held_take (i := 9) (v := ?_) (some 35) rfl rfl (by kernel_rfl) (by kernel_rfl) (by kernel_rfl) (fun _ _ _ h => h) (by rfl) ?_ hHeld ?_
        rotate_left 1
        · (intro wq hSw; go_simp; try with_reducible rfl)
        (try simp only [Act.put, List.setIfInBounds_toArray, List.set_cons_zero, List.set_cons_succ])
        refine wpAnyH_ready (rs := [10]) (by kernel_rfl) (by simp) ?_
        refine AllReadyH.cons rfl (fun K hK => ?_) AllReadyH.nil
        go_simp
        refine hK.out _ _ HS3.out (fun hHeld => ?_)
        clear hK K
        refine wpAnyH_done (by kernel_rfl) ?_ _
        clear hHeld
        go_wp2_with fail
        exact ⟨⟨i, _, by omega, by go_num, HN⟩, by first | (simp [intOf]; done) | (simp [intOf]; omega)⟩
    | zero =>
      have ez : ((0 : Nat) : Int) - 1 = -1 := by omega
      rw [ez]
      clear ez
      have HN0 : Hid (NamW w1 wr n M n.K (n.L - n.L) v5 (.slice none 0 0)) := by rw [Nat.sub_self]; exact hW
      obtain ⟨⟨n0, n1⟩, _⟩ := HC.out wr (HLW.out wr hW.out.low)
      have wl : IntKind.i64.wrap ((n.L : Int) - 1) = (n.L : Int) - 1 := by rw [IntKind.wrap_i64]; omega
      clear hW hm
      go_wp2_with fail
      clear n0 n1
      go_loopw [8] (fun s8 wr => ∃ (m : Nat) (v6 : Value), m ≤ n.L ∧ s8 = .int .i64 ((m : Int) - 1) ∧ Hid (NamW w1 wr n M n.K (n.L - m) v5 v6)) (fun s8 _ => (intOf s8 + 1).toNat)
      case atStart => exact ⟨n.L, .slice none 0 0, Nat.le_refl _, by first | rfl | simp, HN0⟩
      case round =>
        obtain ⟨m, v6, hm, rfl, hW⟩ := hrel
        clear HN0
        cases m with
        | succ i =>
          have e0 : ((i + 1 : Nat) : Int) - 1 = (i : Int) := by omega
          rw [e0]
          obtain ⟨⟨n0, n1⟩, hatW, _⟩ := HC.out wr (HLW.out wr hW.out.low)
          obtain ⟨lb, loff, el, _⟩ := CRow.some hatW.lks (by omega)
          have hi : i < n.L := by omega
          have hlr := hatW.lks
          rw [el] at hlr n1
          obtain ⟨c0, c1, c2, c3, c4, c5⟩ := LRow.cells hlr hi
          obtain ⟨Z, HZ⟩ : ∃ Z, Hid (Z = wr.alloc (.cells (lkA (turnW n.K (n.ls i))) 46)) := ⟨_, rfl⟩
          have hZB : Below wr.heap.size wr Z := by rw [HZ.out]; exact below_alloc1 _ _
          have hZs : Z.heap.size = wr.heap.size + 1 := by rw [HZ.out]; simp
          obtain ⟨a1, c1', w2, hap, hlo2, hcell2, hfz2, hN⟩ := nam_lk (hW.out.below hZB) hi HBL.out
          rw [hZs, HZ.out] at hap
          have HAP : Hid _ := hap
          have HN : Hid (NamW w1 (w2.setCell ⟨M, 1, none⟩ (.slice a1 (n.L - i) c1')) n M n.K (n.L - i) v5 (.slice a1 (n.L - i) c1')) := hN
          have g0 := (two_cells2 hW.out.box).2
          have hMl : M < wr.heap.size := (Array.getElem?_eq_some_iff.1 hW.out.box).1
          have g1 : ∀ o, (wr.alloc o).cell? ⟨M, 1, none⟩ = some v6 := fun o => ((below_alloc1 wr o).cell (by exact hMl)).trans g0
          have i0 : (0 : Int) ≤ (i : Int) := by omega
          have i1 : (i : Int) < (n.L : Int) := by omega
          have wi : IntKind.i64.wrap ((i : Int) - 1) = (i : Int) - 1 := by rw [IntKind.wrap_i64]; omega
          clear hW hatW hap hlo2 hN HC HLW hlr n0 HBK HBL e0 hm hZB hZs HZ el
          unfold turnW at HAP
          generalize n.ls i = l at *
          obtain ⟨la, pa, lb', pb, co, up⟩ := l
          simp only [lkA] at *
          have ew : ∀ z : Int, IntKind.i64.wrap z = wrap64 z := fun z => by rw [IntKind.wrap_i64]; unfold wrap64; rfl
          simp only [ew] at HAP
          clear ew
          go_wp2_with (at_builtin; refine wpList_append_run rfl (.tmp 62) (.tmp 64) 23 rfl _ _ _ rfl rfl HAP.out ?_)
          first
            | exact ⟨⟨i, _, by omega, by go_num, HN⟩, by first | (simp [intOf]; done) | (simp [intOf]; omega)⟩
            | exact ⟨⟨_, by omega, HN⟩, by first | (simp [intOf]; done) | (simp [intOf]; omega)⟩
            | (trace_state; exact ⟨⟨_, HN⟩, by first | (simp [intOf]; done) | (simp [intOf]; omega)⟩)
        | zero =>
          have ez : ((0 : Nat) : Int) - 1 = -1 := by omega
          rw [ez]
          clear ez
          have hNW : NamW w1 wr n M n.K n.L v5 v6 := hW.out
          obtain ⟨⟨n0, n1⟩, hat3, ⟨ht3, hg3⟩, hlow3⟩ := HC.out wr (HLW.out wr hNW.low)
          have HP1 : Hid (Calls Tryz.prog 12 #[.agg #[.slice n.bao n.K n.bcap, .slice n.lao n.L n.lcap], .int .i64 tree] wr fun e w' => ∃ a k c f1 f2, e = .returned (.tuple #[.slice a k c, .agg #[.int .i64 f1, .int .i64 f2]]) ∧ Hid (Below wr.heap.size wr w' ∧ PlRes n tree wr.heap.size w' a k c f1 f2)) := pplan_res n tree wr hat3 HWF.out ht3 hg3
          have HNW : Hid (NamW w1 wr n M n.K n.L v5 v6) := hNW
          have HB3 : Hid (n.at' wr ∧ Tabs wr ∧ 2 ≤ wr.heap.size ∧ Below w.heap.size w wr) := ⟨hat3, ht3, hg3, hlow3⟩
          obtain ⟨w4, hw4⟩ : ∃ w4, w4 = wr := ⟨_, rfl⟩
          subst hw4
          clear hW hNW hat3 ht3 hg3 hlow3 HC HLW HBK HBL hm
          go_wp2_with fail
          refine HP1.out.mono ?_
          rintro e w5 ⟨a, k1, c, f1, f2, rfl, hA⟩
          obtain ⟨Y, HY⟩ : ∃ Y, Hid (Y = w5.alloc (.cells #[.int .i64 f1, .int .i64 f2] 28)) := ⟨_, rfl⟩
          have hYB : Below w5.heap.size w5 Y := by rw [HY.out]; exact below_alloc1 _ _
          have hYf : Y.heap[w5.heap.size]? = some (.cells #[.int .i64 f1, .int .i64 f2] 28 (0, 0)) := by rw [HY.out]; exact heap_alloc_last _ _
          have hwY : Below w4.heap.size w4 Y := hA.out.1.trans (hYB.mono hA.out.1.size)
          have hNY := HNW.out.below hwY
          obtain ⟨a5, c5, a6, c6, rfl, rfl, hatM⟩ := hNY.net (HB3.out.1.below hwY)
          have HP2 : Hid (Calls Tryz.prog 12 #[.agg #[.slice a5 n.K c5, .slice a6 n.L c6], .int .i64 tree] Y fun e w' => ∃ a k c f1 f2, e = .returned (.tuple #[.slice a k c, .agg #[.int .i64 f1, .int .i64 f2]]) ∧ Hid (Below Y.heap.size Y w' ∧ PlRes (n.back a5 c5 a6 c6) tree Y.heap.size w' a k c f1 f2)) := pplan_res (n.back a5 c5 a6 c6) tree Y hatM (back_wf HWF.out _ _ _ _) (HB3.out.2.1.below hwY HB3.out.2.2.1) (Nat.le_trans HB3.out.2.2.1 hwY.size)
          obtain ⟨p0, p1⟩ := two_cells2 hNY.box
          rw [HY.out] at p0 p1
          have HLY : Hid (Below w.heap.size w Y) := HB3.out.2.2.2.trans (hwY.mono HB3.out.2.2.2.size)
          have HRA : Hid (PlRes n tree w4.heap.size Y a k1 c f1 f2) := hA.out.2.below hYB
          clear hA HP1 hatM hNY hwY hYB HNW HB3 n0 n1
          go_wp2_with fail
          rw [← HY.out]
          refine HP2.out.mono ?_
          rintro e w6 ⟨b, k2, d, g1, g2, rfl, hB⟩
          have hf6 := keep hYf hB.out.1
          have lf6 := (Array.getElem?_eq_some_iff.1 hf6).1
          obtain ⟨u0, u1⟩ := two_cells2 hf6
          have k0 : ∀ o, (w6.alloc o).cell? ⟨w5.heap.size, 0, none⟩ = some (.int .i64 f1) := fun o => ((below_alloc1 w6 o).cell (by exact lf6)).trans u0
          have HRES : Hid ((f1 ≠ 0 ∧ g1 ≠ 0) ∨ ((f1 = 0 ∧ g1 = 0) ∧ ∃ P Q, (a = some ⟨P, 0, none⟩ ∧ k1 = n.K ∧ c = n.K) ∧ (b = some ⟨Q, 0, none⟩ ∧ k2 = n.K ∧ d = n.K) ∧ ∀ W, Below w6.heap.size w6 W → ∀ i, i < n.K → OneSame W P (i * 7) Q ((n.K - 1 - i) * 7))) := by
            have hbw := back_wrong n HWF.out a5 c5 a6 c6
            have r1 := HRA.out.below hB.out.1
            have r2 := hB.out.2
            rcases r1 with ⟨q1, _, q2⟩ | ⟨q1, q2, _, q3, q4⟩ | ⟨q1, q2, P, q3, ⟨q4, q5⟩, q6, _⟩
            · rcases r2 with ⟨p1, _, p2⟩ | ⟨p1, _⟩ | ⟨p1, _⟩
              · refine Or.inl ⟨?_, ?_⟩
                · have e : f1 = n.wrong.1 := by rw [← q2]
                  rw [e]; exact q1
                · have e : g1 = (n.back a5 c5 a6 c6).wrong.1 := by rw [← p2]
                  rw [e]; exact p1
              · exact absurd (hbw.1 p1) q1
              · exact absurd (hbw.1 p1) q1
            · rcases r2 with ⟨p1, _⟩ | ⟨_, _, _, p3, _⟩ | ⟨_, p2, _⟩
              · exact absurd (hbw.2 q1) p1
              · exact Or.inl ⟨by rw [q3]; decide, by rw [p3]; decide⟩
              · exact absurd p2 q2
            · rcases r2 with ⟨p1, _⟩ | ⟨_, p2, _⟩ | ⟨p1, p2, Q, p3, ⟨p4, p5⟩, p6, _⟩
              · exact absurd (hbw.2 q1) p1
              · exact absurd q2 p2
              · exact Or.inr ⟨⟨q4, p4⟩, P, Q, q3, p3, fun W hWW i hi => back_same HWF.out q1 a5 c5 a6 c6 tree (q6.below hWW) (p6.below hWW) hi⟩
          have HLW6 : Hid (∀ o, Below w.heap.size w (w6.alloc o)) := fun o => by
            have h1 : Below w.heap.size w w6 := HLY.out.trans (hB.out.1.mono HLY.out.size)
            exact h1.alloc h1.size o
          clear hB hf6 u0 u1 p0 p1 HP2 HRA hYf HLY HY
          rcases HRES.out with ⟨hf, hg⟩ | ⟨⟨rfl, rfl⟩, P, Q, ⟨rfl, rfl, rfl⟩, ⟨rfl, rfl, rfl⟩, hsame⟩
          · clear HRES
            have z1 : (f1 == 0) = false := by simp [hf]
            have z2 : (g1 == 0) = false := by simp [hg]
            go_wp2_with fail
            go_ret
            exact ⟨rfl, HLW6.out _⟩
          · clear HRES
            obtain ⟨Z, HZ⟩ : ∃ Z, Hid (Z = w6.alloc (.cells #[.int .i64 0, .int .i64 g2] 28)) := ⟨_, rfl⟩
            have HSM : Hid (∀ q i, i < n.K → OneSame (Z.drewN q) P (i * 7) Q ((n.K - 1 - i) * 7)) := fun q i hi => hsame _ (below_drewN (by rw [HZ.out]; exact below_alloc1 _ _) q) i hi
            have HLZ : Hid (∀ q, Below w.heap.size w (Z.drewN q)) := fun q => below_drewN (by rw [HZ.out]; exact HLW6.out _) q
            clear hsame
            go_wp2_with fail
            rw [← HZ.out]
            clear k0 HLW6 HZ
            go_loopw [96] (fun q wr => ∃ i m : Nat, i ≤ n.K ∧ q = .int .i64 i ∧ wr = Z.drewN m) (fun q _ => n.K - (intOf q).toNat)
            case atStart => exact ⟨0, 0, by omega, rfl, rfl⟩
            case round =>
              obtain ⟨i, m, hi, rfl, HWE⟩ := hrel
              by_cases hik : i < n.K
              · have HE : Hid (wr = Z.drewN m) := HWE
                obtain ⟨j, hj⟩ : ∃ j, n.K - 1 - i = j := ⟨_, rfl⟩
                have HCS : Hid (∀ q, Calls Tryz.prog 14 #[.slice (some ⟨P, i * 7, none⟩) 1 (n.K - i), .slice (some ⟨Q, j * 7, none⟩) 1 (n.K - j)] (wr.drewN q) fun e w' => e = .returned (.bool true) ∧ ∃ m, w' = (wr.drewN q).drewN m) := fun q => rsame6_any 1 P (i * 7) (n.K - i) Q (j * 7) (n.K - j) (wr.drewN q) (by omega) (fun t ht => by
                  obtain rfl : t = 0 := by omega
                  have := HSM.out (m + q) i hik
                  rw [hj] at this
                  rw [HE.out, World.drewN_drewN]
                  exact this)
                have i0 : (0 : Int) ≤ (i : Int) := by omega
                have i1 : (i : Int) < (n.K : Int) := by omega
                have w0 : IntKind.i64.wrap ((i : Int) + 1) = (i : Int) + 1 := wraps_i64 _ (by omega) (by omega)
                have w2' : IntKind.i64.wrap ((n.K : Int) - 1 - (i : Int)) = (j : Int) := by rw [IntKind.wrap_i64]; omega
                have w3' : IntKind.i64.wrap ((n.K : Int) - (i : Int)) = ((j + 1 : Nat) : Int) := by rw [IntKind.wrap_i64]; omega
                have j0 : (n.K : Int) - 1 - (i : Int) = (j : Int) := by omega
                have j1 : (n.K : Int) - (i : Int) = ((j + 1 : Nat) : Int) := by omega
                have j2 : j < n.K := by omega
                clear HWE HSM hj HX
                go_wp2_with fail
                go_quiet (first | (go_at_call 14; exact Calls.quiet_of (HCS.out _)))
                all_goals go_wp2_with fail
                all_goals exact ⟨⟨i + 1, _, by omega, by go_num, by rw [HE.out, World.drewN_drewN]⟩, by simp [intOf]; omega⟩
              · have hnk2 : ¬ (i : Int) < (n.K : Int) := by omega
                have HE : Hid (Below w.heap.size w wr) := by rw [HWE]; exact HLZ.out m
                clear HWE HLZ HSM
                go_wp2_with fail
                go_ret
                exact ⟨rfl, HE.out⟩
end Go.Proofs.YtcbpafpaimpfnaaGreatDoor

namespace Go.Proofs.YtcbpafpaimpfnaaGreatDoor
open Go.ChangeShapes Go.WideShapes Go.ChangeAt Go.RowKit
open Pl (Br Net Pc Lk En St)

theorem bytesBg : Tryz.prog.bytesOf 40 = 80 := by kernel_rfl
set_option maxRecDepth 100000 in
theorem bridges_many {H : Type} {enc : TypeId × Value → H} {W : World} {ao : Option Addr} {n cap : Nat} {fuel : Nat} {x : DataW H × List MemPlace}
    (hf : DataW.trod enc Tryz.prog W 0 (fun _ => true) true fuel 22 [.slice ao n cap] = some x) (hz : (x.1.weights Tryz.prog 22).all (· ≤ reachBytes) = true) : n * 80 ≤ reachBytes := by
  rcases Deep.open_slice Tryz.underlying22 hf with ⟨hcs, _⟩ | ⟨a, len, cap', m, k, D, Pl, hcs, _, hl, hm, hmm, hx, _⟩
  · simp at hcs
    omega
  · simp at hcs
    obtain ⟨_, rfl, rfl⟩ := hcs
    rw [if_pos rfl] at hmm
    rw [hx] at hz
    unfold DataW.weights at hz
    rw [Tryz.underlying22] at hz
    simp only [List.all_cons, Bool.and_eq_true, decide_eq_true_eq, List.length_map, List.length_range, bytesBg] at hz
    have := hz.1
    omega
set_option maxRecDepth 100000 in
theorem net_in2 {H : Type} {enc : TypeId × Value → H} {W : World} {base : Nat} {v : Value} {D : DataW H} {ps : List MemPlace}
    (hv : Value.okWide Tryz.prog W .any base 25 v) (h : DataW.Trod enc Tryz.prog W 0 (fun _ => true) true 25 v D ps) :
    ∃ n : Net, v = n.val ∧ n.at' W ∧ n.Wf ∧ ((D.weights Tryz.prog 25).all (· ≤ reachBytes) = true → n.L * 48 ≤ reachBytes ∧ n.K * 80 ≤ reachBytes) := by
  obtain ⟨cs, rfl, hcs⟩ := okWide_struct Tryz.underlying25 hv
  rw [cellsNt] at hcs
  obtain ⟨l⟩ := cs
  obtain ⟨c0, c1, rfl⟩ := plist2 (by simpa using hcs)
  obtain ⟨fuel, hf⟩ := h
  obtain ⟨xs, m, _, hxy, _, hlen, hfs⟩ := DataW.trod_struct Tryz.underlying25 hf
  obtain ⟨y0, y1, rfl⟩ := plist2 (by simpa using hlen)
  have g0 := hfs 0 _ rfl
  have g1 := hfs 1 _ rfl
  simp only [Value.cells] at g0 g1
  obtain ⟨bao, K, bcap, bs, rfl, hb, _, hbn, hb2⟩ := bridges_cell g0
  obtain ⟨lao, L, lcap, ls, rfl, hl, _, hln, hl2⟩ := links_cell g1
  refine ⟨⟨bao, K, bcap, bs, lao, L, lcap, ls⟩, rfl, ⟨hb, fun i hi => (hb2 i hi).1, hl, hbn, hln⟩, ⟨fun i hi => (hb2 i hi).2, hl2⟩, fun hz => ?_⟩
  simp only [Prod.mk.injEq] at hxy
  rw [hxy.1] at hz
  unfold DataW.weights at hz
  rw [Tryz.underlying25] at hz
  simp only [List.map_cons, List.map_nil, DataW.weightsEach, List.all_append, Bool.and_eq_true] at hz
  exact ⟨links_many g1 hz.2.1, bridges_many g0 hz.1⟩
end Go.Proofs.YtcbpafpaimpfnaaGreatDoor

namespace Go.Proofs.YtcbpafpaimpfnaaGreatDoor.planNames
open Go.ChangeShapes Go.WideShapes Go.ChangeAt Go.RowKit

set_option maxRecDepth 100000 in
theorem contract (H : Type) (enc : TypeId × Value → H) (W : World) (base : Nat) (args : Array Value) (ds gs : List (DataW H)) (before : List MemPlace)
    (hval : ∀ (j : Nat) t v, Tryz.f8.params[j]? = some t → args[j]? = some v → Value.okWide Tryz.prog W .any base t v)
    (hW : DataW.Whole enc Tryz.prog Tryz.f8.params.toList Rows.planNamesSpec.vars false W args.toList ds gs before)
    (hsz : (DataW.weightsEach Tryz.prog (Tryz.f8.params.toList ++ (OpenSpec.ofChange Rows.planNamesSpec).bare.plain.varTypes Tryz.prog) (ds ++ gs)).all (· ≤ reachBytes) = true)
    (hL : laidMetH Tryz.prog Rows.planNamesRow.laid W) :
    Calls Tryz.prog 8 args W fun e W' => ∃ v, e = .returned v ∧ Rows.planNamesSpec.post enc Tryz.prog Tryz.f8 false true false false W args v W' := by
  have hW' := hW
  obtain ⟨p, q, hA0, hV, rfl, hfz, hnd⟩ := hW
  have hA : DataW.TrodAll enc Tryz.prog W 0 (fun _ => true) true Tryz.f8.params.toList args.toList ds p := hA0
  rw [Tryz.params8] at hA hval hsz
  obtain ⟨v0, vs0, d0, ds0, p0, q0, hargs, rfl, rfl, h0, r0⟩ := trodAll_cons hA
  obtain ⟨v1, vs1, d1, ds1, p1, q1, rfl, rfl, rfl, h1, r1⟩ := trodAll_cons r0
  obtain ⟨rfl, rfl, rfl⟩ := trodAll_nil r1
  obtain rfl : args = #[v0, v1] := by cases args; simp_all
  obtain ⟨rfl, rfl⟩ := trodVars_none hV
  have lt0 : ∀ x ∈ p0, x.block < W.heap.size := by obtain ⟨m, hm⟩ := h0; exact DataW.trod_lt m _ _ _ hm
  obtain ⟨n0, rfl, hat0, hwf0, hz0⟩ := net_in2 (hval 0 25 v0 rfl rfl) h0
  have lt1 : ∀ x ∈ p1, x.block < W.heap.size := by obtain ⟨m, hm⟩ := h1; exact DataW.trod_lt m _ _ _ hm
  obtain ⟨z1, rfl⟩ := okWide_int Tryz.underlying3 (hval 1 3 v1 rfl rfl)
  have hall := hsz
  simp only [List.cons_append, DataW.weightsEach, List.all_append, Bool.and_eq_true] at hall
  have hm0 := hz0 hall.1
  unfold reachBytes at hm0
  have hT := tabs_of hL
  have hG : 2 ≤ W.heap.size := hT.lt
  clear hA0 hall hsz
  refine (pnames_any n0 z1 W hat0 hwf0 hT hG (by omega) (by omega)).mono fun e W' ⟨he, bel⟩ => ?_
  subst he
  exact ⟨_, rfl, _, _, _, [], _, [], hW', trodAll_mk1 (shut_bool Tryz.underlying4 _), (trodAll_cons_mk (Below.trod laidOut (by kernel_rfl) (of_decide_eq_true (by kernel_rfl)) h0 bel lt0) (trodAll_cons_mk (Below.trod laidOut (by kernel_rfl) (of_decide_eq_true (by kernel_rfl)) h1 bel lt1) trodAll_mk0)), rfl, bel.frame _, fun h => by cases h⟩

theorem laid_met (os : Os) : laidMet Tryz.prog Rows.planNamesRow.laid ((laidW (World.holding Tryz.prog os ⟨#[], #[], []⟩)).forCall (fun _ _ => 0) ⟨#[], #[.agg #[.slice none 0 0, .slice none 0 0], .int .i64 0], []⟩).memory :=
  laidMet_of_run' 8 (by kernel_rfl) (by kernel_rfl)
theorem reads (os : Os) {H : Type} (enc : TypeId × Value → H) : ∃ places, DataW.whole enc Tryz.prog ((laidW (World.holding Tryz.prog os ⟨#[], #[], []⟩)).forCall (fun _ _ => 0) ⟨#[], #[.agg #[.slice none 0 0, .slice none 0 0], .int .i64 0], []⟩).memory Tryz.f8.params.toList Rows.planNamesSpec.vars false #[Value.agg #[.slice none 0 0, .slice none 0 0], .int .i64 0].toList 8 = some ([.agg [.nil, .nil], .lit (.int .i64 0)], [], places) :=
  ⟨[], by kernel_rfl⟩

set_option maxRecDepth 100000 in
theorem lifted (os : Os) (started : os.Started) (H : Type) (enc : TypeId × Value → H) (F : Stop.Interp) :
    ReturnsInHanded {} Tryz.checked os 8 .any ((OpenSpec.ofChange Rows.planNamesSpec).preRow enc Tryz.prog Tryz.f8 Rows.planNamesRow.domain false Rows.planNamesRow.laid) (((OpenSpec.ofChange Rows.planNamesSpec).at F).post enc Tryz.prog Tryz.f8 false true false false) := by
  obtain ⟨places, hx⟩ := reads os enc
  refine returnsInHanded_of_row (C := Tryz.checked) (s := OpenSpec.ofChange Rows.planNamesSpec) own started (by kernel_rfl) Tryz.func8
    (witness_row_at (enc := enc) (C := Tryz.checked) false (laidW (World.holding Tryz.prog os ⟨#[], #[], []⟩)) #[.agg #[.slice none 0 0, .slice none 0 0], .int .i64 0] rfl (by kernel_rfl) (by kernel_rfl) (by kernel_rfl)
      (OpenSpec.preRow_of_cond 8 hx (by kernel_rfl) (fun k hk => by cases hk) (by kernel_rfl) (laid_met os))) ?_
  intro W base args ds gs before hval hW _ _ hsz hL _ _
  exact contract H enc W base args ds gs before hval hW hsz hL

theorem said : Rows.PlanNamesSaid :=
  OpenClaim.holds_of_cond 8 Tryz.f8 rfl rfl rfl rfl rfl rfl rfl ⟨rfl, rfl, rfl, rfl, rfl⟩ rfl rfl rfl rfl rfl (by kernel_rfl) Tryz.func8 (by kernel_rfl)
    (of_decide_eq_true (by kernel_rfl)) (by unfold Func.isWrapper; first | (rw [if_pos (by decide +kernel)]; kernel_rfl) | (rw [if_neg (by decide +kernel)]; exact ⟨rfl, rfl⟩))
    (fun os started H enc _ F => by rw [OpenClaim.pre_eq_preRow]; exact lifted os started H enc F)

theorem plain (f : FuncId) (fn : Func) (hf : Tryz.pinned.checked.prog.funcNamed "hedgerow/hedgelaw6.PlanNames" = some f) (hfn : Tryz.pinned.checked.prog.funcs[f]? = some fn) :
    false = Tryz.pinned.checked.prog.looks [] ∧ ∀ (j : Nat) t, fn.params[j]? = some t → Tryz.pinned.checked.prog.wantsStandIn t = false := by
  obtain rfl : f = 8 := Option.some.inj ((show Tryz.prog.funcNamed "hedgerow/hedgelaw6.PlanNames" = some 8 by kernel_rfl).symm.trans hf) |>.symm
  obtain rfl : fn = Tryz.f8 := (Option.some.inj (Tryz.func8.symm.trans hfn)).symm
  refine ⟨by kernel_rfl, fun j t ht => ?_⟩
  rw [Tryz.params8] at ht
  have h1 : Tryz.prog.wantsStandIn 25 = false := by kernel_rfl
  have h2 : Tryz.prog.wantsStandIn 3 = false := by kernel_rfl
  have ht2 : t = 25 ∨ t = 3 := by simpa using Array.mem_of_getElem? ht
  rcases ht2 with rfl | rfl
  · exact h1
  · exact h2

/-- ████ THE CARD ████ -/
theorem card : Rows.PlanNamesCardSaid :=
  Claim7.holds_tied_plain_at .later [] _ _ _ _ said (fun _ h => by cases h) (by kernel_rfl) (fun _ h => by cases h) planNames_row_tie rfl ⟨rfl, rfl⟩ (by kernel_rfl) rfl plain (by kernel_rfl)
end Go.Proofs.YtcbpafpaimpfnaaGreatDoor.planNames
namespace Go.Proofs.YtcbpafpaimpfnaaGreatDoor
/-- NO MATTER WHO IS TOLD FIRST: the statement, as it was given. -/
theorem planNames_card : Rows.PlanNamesCardSaid := planNames.card
#print axioms planNames_card
end Go.Proofs.YtcbpafpaimpfnaaGreatDoor
