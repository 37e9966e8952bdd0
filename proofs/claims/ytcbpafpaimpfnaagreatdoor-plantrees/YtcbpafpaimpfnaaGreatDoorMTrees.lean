/- 'hedgelaw6.PlanTrees' returns true for every net and every four numbers, and leaves it as it was: the row and its tied card. Conditions: none beyond the form's own (the tables lie as the program's text lays them: the card's tie). -/
import Derived.Test.YtcbpafpaimpfnaaGreatDoorME
import Derived.Test.YtcbpafpaimpfnaaGreatDoorHT
import Derived.Test.YtcbpafpaimpfnaaGreatDoorCards
import Derived.Test.YtcbpafpaimpfnaaGreatDoorTie
import Derived.Test.YtcbpafpaimpfnaaGreatDoorMF
import Derived.BigQuiet
namespace Go.Proofs.YtcbpafpaimpfnaaGreatDoor
open Go.RowKit
open Vc (V Of)
open Pl (Br Net Pc Lk En St)

set_option maxRecDepth 100000 in
set_option maxHeartbeats 1000000 in
theorem rints_any (ao bo : Option Addr) (n c1 c2 : Nat) (f : Nat → Int) (w : World) (hn : n ≤ 1000) (h1 : IRow w ao n c1 f) (h2 : IRow w bo n c2 f) :
    Calls Tryz.prog 38 #[.slice ao n c1, .slice bo n c2] w fun e w' => e = .returned (.bool true) ∧ ∃ m, w' = w.drewN m := by
  have HA : Hid (∀ m, IRow (w.drewN m) ao n c1 f ∧ IRow (w.drewN m) bo n c2 f) := fun m => ⟨CRow.below h1 (below_drewN (Below.refl _ _) m), CRow.below h2 (below_drewN (Below.refl _ _) m)⟩
  have k1 := h1.1
  have k2 := h2.1
  clear h1 h2
  go_enter Tryz.func38, Tryz.ntmps38
  go_wp2_with fail
  go_loopw [13] (fun i wr => ∃ k m : Nat, k ≤ n ∧ i = .int .i64 k ∧ wr = w.drewN m) (fun i _ => n - (intOf i).toNat)
  case atStart => exact ⟨0, 0, by omega, rfl, rfl⟩
  case round =>
    obtain ⟨k, m, hk, rfl, HW⟩ := hrel
    by_cases hlt : k < n
    · obtain ⟨r1, r2⟩ := HA.out m
      rw [← HW] at r1 r2
      obtain ⟨b1, o1, rfl, _⟩ := CRow.some r1 (by omega)
      obtain ⟨b2, o2, rfl, _⟩ := CRow.some r2 (by omega)
      have x1 := IRow.cells r1 hlt
      have x2 := IRow.cells r2 hlt
      have HE : Hid (wr = w.drewN m) := HW
      have i0 : (0 : Int) ≤ (k : Int) := by omega
      have i1 : (k : Int) < (n : Int) := by omega
      clear r1 r2 HA HW
      generalize f k = z at *
      go_wp2_with fail
      go_quiet (fail)
      go_wp2_with fail
      exact ⟨⟨k + 1, _, by omega, by go_num, by rw [HE.out, World.drewN_drewN]⟩, by simp [intOf]; omega⟩
    · have hnk : ¬ (k : Int) < (n : Int) := by omega
      have HE : Hid (wr = w.drewN m) := HW
      clear HA HW
      go_wp2_with fail
      go_ret
      exact ⟨rfl, m, HE.out⟩
theorem vec_neq (a b c d : Int) (W : World) : (binOp .neq 48 (.agg #[.int .u64 a, .int .i64 b, .int .u64 c, .int .i64 d]) (.agg #[.int .u64 a, .int .i64 b, .int .u64 c, .int .i64 d])).run Tryz.prog W = .ok (.bool false) W := by go_simp
/-- Two places that say the same. -/
def OneSame (w : World) (P a Q b : Nat) : Prop :=
  ∃ (s : St) (len : Nat) (p q : Option Addr) (pc qc : Nat) (r t : Option Addr) (rc tc : Nat) (f g : Nat → Int), len ≤ 1000 ∧
    (w.cell? ⟨P, a, none⟩ = some (.int .u64 s.v.root) ∧ w.cell? ⟨P, a + 1, none⟩ = some (.int .i64 s.v.cost) ∧ w.cell? ⟨P, a + 2, none⟩ = some (.int .u64 s.v.bridge) ∧ w.cell? ⟨P, a + 3, none⟩ = some (.int .i64 s.v.port) ∧ w.cell? ⟨P, a + 4, none⟩ = some (.int .i64 s.rp) ∧ w.cell? ⟨P, a + 5, none⟩ = some (.slice p len pc) ∧ w.cell? ⟨P, a + 6, none⟩ = some (.slice r len rc)) ∧
    (w.cell? ⟨Q, b, none⟩ = some (.int .u64 s.v.root) ∧ w.cell? ⟨Q, b + 1, none⟩ = some (.int .i64 s.v.cost) ∧ w.cell? ⟨Q, b + 2, none⟩ = some (.int .u64 s.v.bridge) ∧ w.cell? ⟨Q, b + 3, none⟩ = some (.int .i64 s.v.port) ∧ w.cell? ⟨Q, b + 4, none⟩ = some (.int .i64 s.rp) ∧ w.cell? ⟨Q, b + 5, none⟩ = some (.slice q len qc) ∧ w.cell? ⟨Q, b + 6, none⟩ = some (.slice t len tc)) ∧
    (IRow w p len pc f ∧ IRow w q len qc f) ∧ (IRow w r len rc g ∧ IRow w t len tc g)
theorem OneSame.drewN {w : World} {P a Q b : Nat} (h : OneSame w P a Q b) (m : Nat) : OneSame (w.drewN m) P a Q b := by
  obtain ⟨s, len, p, q, pc, qc, r, t, rc, tc, f, g, h0, h1, h2, ⟨h3, h4⟩, h5, h6⟩ := h
  have hb := below_drewN (Below.refl w.heap.size w) m
  exact ⟨s, len, p, q, pc, qc, r, t, rc, tc, f, g, h0, h1, h2, ⟨CRow.below h3 hb, CRow.below h4 hb⟩, CRow.below h5 hb, CRow.below h6 hb⟩
set_option maxRecDepth 100000 in
set_option maxHeartbeats 4000000 in
theorem rsame6_any (n P oP cP Q oQ cQ : Nat) (w : World) (hn : n ≤ 1000) (h : ∀ i, i < n → OneSame w P (oP + i * 7) Q (oQ + i * 7)) :
    Calls Tryz.prog 14 #[.slice (some ⟨P, oP, none⟩) n cP, .slice (some ⟨Q, oQ, none⟩) n cQ] w fun e w' => e = .returned (.bool true) ∧ ∃ m, w' = w.drewN m := by
  have HA : Hid (∀ i, i < n → ∀ m, OneSame (w.drewN m) P (oP + i * 7) Q (oQ + i * 7)) := fun i hi m => (h i hi).drewN m
  clear h
  go_enter Tryz.func14, Tryz.ntmps14
  go_wp2_with fail
  go_loopw [13] (fun i wr => ∃ k m : Nat, k ≤ n ∧ i = .int .i64 k ∧ wr = w.drewN m) (fun i _ => n - (intOf i).toNat)
  case atStart => exact ⟨0, 0, by omega, rfl, rfl⟩
  case round =>
    obtain ⟨k, m, hk, rfl, HW⟩ := hrel
    by_cases hlt : k < n
    · have hs := HA.out k hlt m
      rw [← HW] at hs
      obtain ⟨⟨⟨v0, v1, v2, v3⟩, rp⟩, len, p, q, pc, qc, r, t, rc, tc, f, g, h0, ⟨x0, x1, x2, x3, x4, x5, x6⟩, ⟨y0, y1, y2, y3, y4, y5, y6⟩, ⟨r1, r2⟩, r3, r4⟩ := hs
      simp only at x0 x1 x2 x3 x4 y0 y1 y2 y3 y4
      have HI1 : Hid (∀ q', Calls Tryz.prog 38 #[.slice p len pc, .slice q len qc] (wr.drewN q') fun e w' => e = .returned (.bool true) ∧ ∃ m, w' = (wr.drewN q').drewN m) := fun q' => rints_any p q len pc qc f (wr.drewN q') h0 (CRow.below r1 (below_drewN (Below.refl _ _) q')) (CRow.below r2 (below_drewN (Below.refl _ _) q'))
      have HI2 : Hid (∀ q', Calls Tryz.prog 38 #[.slice r len rc, .slice t len tc] (wr.drewN q') fun e w' => e = .returned (.bool true) ∧ ∃ m, w' = (wr.drewN q').drewN m) := fun q' => rints_any r t len rc tc g (wr.drewN q') h0 (CRow.below r3 (below_drewN (Below.refl _ _) q')) (CRow.below r4 (below_drewN (Below.refl _ _) q'))
      have hne := vec_neq v0 v1 v2 v3
      have HE : Hid (wr = w.drewN m) := HW
      have i0 : (0 : Int) ≤ (k : Int) := by omega
      have i1 : (k : Int) < (n : Int) := by omega
      clear r1 r2 r3 r4 HA HW h0
      go_wp2_with fail
      go_quiet (first | (go_at_call 38; (with_reducible exact Calls.quiet_of (HI1.out _))) | (go_at_call 38; (with_reducible exact Calls.quiet_of (HI2.out _))))
      all_goals go_wp2_with fail
      all_goals exact ⟨⟨k + 1, _, by omega, by go_num, by rw [HE.out, World.drewN_drewN]⟩, by simp [intOf]; omega⟩
    · have hnk : ¬ (k : Int) < (n : Int) := by omega
      have HE : Hid (wr = w.drewN m) := HW
      clear HA HW
      go_wp2_with fail
      go_ret
      exact ⟨rfl, m, HE.out⟩
/-- Two rows of places that say the same, one by one. -/
theorem same_of_places {w : World} {P Q K K' : Nat} {x y : Nat → St} {E F : Nat → List En} (h1 : PlacesAt w P K x E K) (h2 : PlacesAt w Q K' y F K') {i j : Nat} (hi : i < K) (hj : j < K') (hl : (E i).length ≤ 1000) (e1 : x i = y j) (e2 : (F j).length = (E i).length) (e3 : ∀ q, q < (E i).length → (EL (F j) q).port = (EL (E i) q).port)
    (e4 : ∀ q, q < (E i).length → Pl.roleAt (y j) (Pl.offs (F j) y) (EL (F j) q) = Pl.roleAt (x i) (Pl.offs (E i) x) (EL (E i) q)) : OneSame w P (i * 7) Q (j * 7) := by
  obtain ⟨c, a1, a2, _, a4⟩ := h1
  obtain ⟨d, b1, b2, _, b4⟩ := h2
  obtain ⟨p, r, pc, rc, p5, p6, hp, hr, _, _⟩ := a4 i hi
  obtain ⟨q, t, qc, tc, q5, q6, hq, ht, _, _⟩ := b4 j hj
  rw [e2] at q5 q6 hq ht
  have A : ∀ s, s < 7 → w.cell? ⟨P, i * 7 + s, none⟩ = some (c i s) := fun s hs => rowC_cell a1 hi hs
  have B : ∀ s, s < 7 → w.cell? ⟨Q, j * 7 + s, none⟩ = some (d j s) := fun s hs => rowC_cell b1 hj hs
  have a2' := a2 i hi
  have b2' := b2 j hj
  rw [← e1] at b2'
  refine ⟨x i, (E i).length, p, q, pc, qc, r, t, rc, tc, _, _, hl, ⟨?_, ?_, ?_, ?_, ?_, ?_, ?_⟩, ⟨?_, ?_, ?_, ?_, ?_, ?_, ?_⟩, ⟨hp, CRow.congr hq (fun s hs => by funext _; exact congrArg (Value.int .i64) (e3 s hs))⟩, hr, CRow.congr ht (fun s hs => by funext _; exact congrArg (Value.int .i64) (e4 s hs))⟩
  · have := A 0 (by omega); rw [a2' 0 (by omega)] at this; exact this
  · have := A 1 (by omega); rw [a2' 1 (by omega)] at this; exact this
  · have := A 2 (by omega); rw [a2' 2 (by omega)] at this; exact this
  · have := A 3 (by omega); rw [a2' 3 (by omega)] at this; exact this
  · have := A 4 (by omega); rw [a2' 4 (by omega)] at this; exact this
  · have := A 5 (by omega); rw [p5] at this; exact this
  · have := A 6 (by omega); rw [p6] at this; exact this
  · have := B 0 (by omega); rw [b2' 0 (by omega)] at this; exact this
  · have := B 1 (by omega); rw [b2' 1 (by omega)] at this; exact this
  · have := B 2 (by omega); rw [b2' 2 (by omega)] at this; exact this
  · have := B 3 (by omega); rw [b2' 3 (by omega)] at this; exact this
  · have := B 4 (by omega); rw [b2' 4 (by omega)] at this; exact this
  · have := B 5 (by omega); rw [q5] at this; exact this
  · have := B 6 (by omega); rw [q6] at this; exact this
end Go.Proofs.YtcbpafpaimpfnaaGreatDoor

namespace Go.Proofs.YtcbpafpaimpfnaaGreatDoor
open Go.RowKit
open Pl (Br Net Pc Lk En St)

/-- When nothing is wrong with a net. -/
theorem wrong_iff (n : Net) : n.wrong.1 = 0 ↔ ¬ (12 < n.K ∨ 40 < n.L) ∧ (∀ i, i < n.K → Pl.bErr n.bs i = 0) ∧ ∀ i, i < n.L → Pl.lErr n.K n.ls i = 0 := by
  unfold Pl.Net.wrong
  by_cases c1 : 12 < n.K ∨ 40 < n.L
  · rw [if_pos c1]
    exact ⟨fun h => (by cases h), fun h => absurd c1 h.1⟩
  · rw [if_neg c1]
    by_cases c2 : (Pl.firstTo (Pl.bErr n.bs) n.K).1 = 0
    · rw [if_neg (fun q => q c2)]
      have hb := (Pl.firstTo_zero _ _ c2).2
      exact ⟨fun h => ⟨c1, hb, (Pl.firstTo_zero _ _ h).2⟩, fun h => by rw [Pl.firstTo_all _ _ h.2.2]⟩
    · rw [if_pos c2]
      exact ⟨fun h => absurd h c2, fun h => absurd (by rw [Pl.firstTo_all _ _ h.2.1]) c2⟩
end Go.Proofs.YtcbpafpaimpfnaaGreatDoor

namespace Go.Proofs.YtcbpafpaimpfnaaGreatDoor
open Go.RowKit
open Vc (V Of)
open Pl (Br Net Pc Lk En St)

theorem infoBg : (Tryz.prog.info? 40).map (fun i => (i.zero, i.size, i.bytes)) = some (some (.agg #[.int .u64 0, .slice none 0 0, .string ⟨#[]⟩, .int .i64 0, .slice none 0 0]), 5, 80) := by kernel_rfl
/-- A bridge with one priority changed; a net with such a bridge. -/
def Pl.Br.putP (b : Br) (ot : Nat) (pr : Int) (pao : Option Addr) (pcap : Nat) : Br := { b with pao := pao, pcap := pcap, pv := fun q => if q = ot then pr else b.pv q }
def putB (bs : Nat → Br) (br : Nat) (b : Br) (i : Nat) : Br := if i = br then b else bs i
def Pl.Net.putP (n : Net) (br ot : Nat) (pr : Int) (bao : Option Addr) (bcap : Nat) (pao : Option Addr) (pcap : Nat) : Net := { n with bao := bao, bcap := bcap, bs := putB n.bs br ((n.bs br).putP ot pr pao pcap) }
theorem putP_addr (n : Net) (br ot : Nat) (pr : Int) (bao : Option Addr) (bcap : Nat) (pao : Option Addr) (pcap : Nat) (i : Nat) : ((n.putP br ot pr bao bcap pao pcap).bs i).addr = (n.bs i).addr ∧ ((n.putP br ot pr bao bcap pao pcap).bs i).reg = (n.bs i).reg := by
  unfold Pl.Net.putP putB Pl.Br.putP
  simp only
  by_cases e : i = br
  · rw [if_pos e, e]; exact ⟨rfl, rfl⟩
  · rw [if_neg e]; exact ⟨rfl, rfl⟩
theorem putP_ids (n : Net) (br ot : Nat) (pr : Int) (bao : Option Addr) (bcap : Nat) (pao : Option Addr) (pcap : Nat) (tree : Int) (h : tree ≠ ot) : (n.putP br ot pr bao bcap pao pcap).ids tree = n.ids tree := by
  funext i
  unfold Pl.Net.ids Pl.Net.putP putB Pl.Br.putP Pl.Br.id Pl.Br.prio
  simp only
  by_cases e : i = br
  · rw [if_pos e, e]
    simp only
    by_cases q : 0 ≤ tree ∧ tree ≤ ((n.bs br).pn : Int) - 1
    · rw [if_pos q, if_pos q, if_neg (by omega)]
    · rw [if_neg q, if_neg q]
  · rw [if_neg e]
theorem putP_ends (n : Net) (br ot : Nat) (pr : Int) (bao : Option Addr) (bcap : Nat) (pao : Option Addr) (pcap : Nat) : (n.putP br ot pr bao bcap pao pcap).ends = n.ends := by
  have hl : (n.putP br ot pr bao bcap pao pcap).live = n.live := by
    funext k
    unfold Pl.Net.live
    rw [(putP_addr n br ot pr bao bcap pao pcap _).2, (putP_addr n br ot pr bao bcap pao pcap _).2]
    rfl
  funext i
  unfold Pl.Net.ends
  rw [hl]
  rfl
theorem putP_right {n : Net} (h : n.wrong.1 = 0) {br ot : Nat} {pr : Int} (hb : br < n.K) (hp : 0 ≤ pr ∧ pr ≤ 61440) (hr : pr % 4096 = 0) (bao : Option Addr) (bcap : Nat) (pao : Option Addr) (pcap : Nat) : (n.putP br ot pr bao bcap pao pcap).wrong.1 = 0 := by
  obtain ⟨h1, h2, h3⟩ := (wrong_iff n).1 h
  refine (wrong_iff _).2 ⟨h1, fun i hi => ?_, h3⟩
  have hi : i < n.K := hi
  have h0 := h2 i hi
  have ho : Pl.brErr ((n.putP br ot pr bao bcap pao pcap).bs i) = 0 := by
    have hz := bErr_zero h0
    unfold Pl.Net.putP putB Pl.Br.putP
    simp only
    by_cases e : i = br
    · rw [if_pos e]
      subst e
      unfold Pl.brErr at hz ⊢
      simp only
      split at hz
      · omega
      · rename_i q1
        rw [if_neg q1]
        split at hz
        · omega
        · rename_i q2
          rw [if_neg q2]
          split at hz
          · omega
          · rename_i q3
            have hs : Vc.someTo (fun q => Pl.oddP (if q = ot then pr else (n.bs i).pv q)) (n.bs i).pn = false := by
              apply Pl.someTo_none
              intro q hq
              by_cases e2 : q = ot
              · rw [if_pos e2]
                unfold Pl.oddP
                rw [decide_eq_true hp, decide_eq_false (fun w => w hr)]
                rfl
              · rw [if_neg e2]
                exact Pl.someTo_false (by simpa using q3) q hq
            rw [if_neg (by rw [hs]; decide)]
            exact hz
    · rw [if_neg e]; exact hz
  unfold Pl.bErr at h0 ⊢
  rw [if_neg (fun q => q (bErr_zero (h2 i hi)))] at h0
  rw [if_neg (fun q => q ho)]
  simp only [putP_addr]
  exact h0
theorem putP_wf {n : Net} (h : n.Wf) (br ot : Nat) (pr : Int) (bao : Option Addr) (bcap : Nat) (pao : Option Addr) (pcap : Nat) : (n.putP br ot pr bao bcap pao pcap).Wf :=
  ⟨fun i hi => by rw [(putP_addr n br ot pr bao bcap pao pcap i).1]; exact h.addr i hi, h.link⟩
theorem putB_row (bs : Nat → Br) (br : Nat) (b : Br) (K : Nat) (h : br < K) (hb : b = { bs br with pao := b.pao, pn := b.pn, pcap := b.pcap, pv := b.pv }) : (cellsL K 5 (fun i => brC (bs i))).set (br * 5 + 1) (.slice b.pao b.pn b.pcap) = cellsL K 5 (fun i => brC (putB bs br b i)) := by
  have h1 := congrArg Array.toList (rowC_put (n := K) (k := 5) (fun i => brC (bs i)) h (show 1 < 5 by omega) (.slice b.pao b.pn b.pcap))
  rw [Array.toList_setIfInBounds] at h1
  have h2 : rowC K 5 (updC (fun i => brC (bs i)) br 1 (.slice b.pao b.pn b.pcap)) = rowC K 5 (fun i => brC (putB bs br b i)) := by
    apply rowC_congr2
    intro i _ j hj
    unfold updC putB
    by_cases e : i = br
    · subst e
      rw [if_pos rfl, hb]
      rcases (by omega : j = 0 ∨ j = 1 ∨ j = 2 ∨ j = 3 ∨ j = 4) with q | q | q | q | q <;> subst q <;> simp [brC]
    · rw [if_neg (fun q => e q.1), if_neg e]
  rw [h2] at h1
  exact h1
/-- The copy of bridges, as it lies. -/
theorem trees_net {w : World} (n : Net) (hat : n.at' w) (h0 : 0 < n.K) (hK : n.K ≤ 12) :
    ∃ g c w2, (Builtin.append_ #[22, 22] 22 #[.slice (some ⟨w.heap.size + 1 + 1, 0, none⟩) 0 0, .slice n.bao n.K n.bcap]).run Tryz.prog (((w.alloc (.cells #[.int .i64 0, .int .i64 0] 28)).alloc (.cells #[.slice n.bao n.K n.bcap, .slice n.lao n.L n.lcap] 25)).alloc (.cells #[] 40)) = .ok (.slice (some ⟨g, 0, none⟩) n.K c) w2 ∧ Below w.heap.size w w2 ∧
      w2.heap[w.heap.size]? = some (.cells #[.int .i64 0, .int .i64 0] 28 (0, 0)) ∧ w2.heap[w.heap.size + 1]? = some (.cells #[.slice n.bao n.K n.bcap, .slice n.lao n.L n.lcap] 25 (0, 0)) ∧ w.heap.size + 1 < g ∧ n.K ≤ c ∧
      w2.ownsRow (w.heap.size + 1 + 1) 40 5 (.slice (some ⟨g, 0, none⟩) n.K c) n.K (cellsL n.K 5 (fun i => brC (n.bs i))) := by
  obtain ⟨Y, hY⟩ : ∃ Y, Y = ((w.alloc (.cells #[.int .i64 0, .int .i64 0] 28)).alloc (.cells #[.slice n.bao n.K n.bcap, .slice n.lao n.L n.lcap] 25)) := ⟨_, rfl⟩
  have hYB : Below w.heap.size w Y := by rw [hY]; exact below_alloc2 _ _ _
  have hYf : Y.heap[w.heap.size]? = some (.cells #[.int .i64 0, .int .i64 0] 28 (0, 0)) := by rw [hY]; exact heap_alloc2_old w _ _
  have hYn : Y.heap[w.heap.size + 1]? = some (.cells #[.slice n.bao n.K n.bcap, .slice n.lao n.L n.lcap] 25 (0, 0)) := by rw [hY]; exact heap_alloc2_new w _ _
  have hYs : Y.heap.size = w.heap.size + 1 + 1 := by rw [hY]; simp
  rw [← hY]
  have hZB : Below Y.heap.size Y (Y.alloc (.cells #[] 40)) := below_alloc1 _ _
  have hZ := heap_alloc_last Y (.cells #[] 40)
  have hr : BRow (Y.alloc (.cells #[] 40)) n.bao n.K n.bcap n.bs := CRow.below (CRow.below hat.brs hYB) hZB
  have hown := ownsC_empty (k := 5) (base := w.heap.size + 1 + 1) (fun i => brC (n.bs i)) hZ (by omega)
  rw [hYs] at hown
  obtain ⟨a1, c1, w2, r, ho, hb, _⟩ := append_c (Y.alloc (.cells #[] 40)) 22 40 _ 5 80 Tryz.underlying22 infoBg rfl (by omega) (w.heap.size + 1 + 1) _ 0 _ hown n.bao n.K n.bcap (fun i => brC (n.bs i)) (fun _ j => brC_one _ j) hr (fun e => by
    obtain ⟨b, off, e', _⟩ := hr.2 h0
    rw [e] at e'; cases e') (by unfold maxLen; omega) (by omega) (by simp; omega)
  rw [Nat.zero_add] at r ho
  rw [cellsL_congr n.K 5 _ (fun i => brC (n.bs i)) (fun i hi => by simp [catC])] at ho
  rcases ho.2 with ⟨e, _⟩ | ⟨g, cap, cur, e, hg, hh, q1, q2, q3, q4⟩
  · injection e with e1 e2 e3
    omega
  · injection e with e1 e2 e3
    subst e1
    subst e3
    have hl1 := (Array.getElem?_eq_some_iff.1 hYf).1
    have hl2 := (Array.getElem?_eq_some_iff.1 hYn).1
    have hZs := hZB.size
    refine ⟨g, c1, w2, r, (hYB.trans (hZB.mono hYB.size)).trans (hb.mono (by omega)), ?_, ?_, by omega, q1, ho⟩
    · rw [hb.block _ (by omega)]; exact keep hYf hZB
    · rw [hb.block _ (by omega)]; exact keep hYn hZB
/-- The copy of a bridge's priorities, as it lies. -/
theorem trees_prios {W : World} (b : Br) (hb : IRow W b.pao b.pn b.pcap b.pv) (h0 : 0 < b.pn) (hn : b.pn ≤ 16) :
    ∃ g c w2, (Builtin.append_ #[35, 35] 35 #[.slice (some ⟨W.heap.size, 0, none⟩) 0 0, .slice b.pao b.pn b.pcap]).run Tryz.prog (W.alloc (.cells #[] 3)) = .ok (.slice (some ⟨g, 0, none⟩) b.pn c) w2 ∧ Below W.heap.size W w2 ∧ W.heap.size ≤ g ∧ b.pn ≤ c ∧
      w2.ownsRow W.heap.size 3 1 (.slice (some ⟨g, 0, none⟩) b.pn c) b.pn (cellsL b.pn 1 (fun i _ => .int .i64 (b.pv i))) := by
  have hZB : Below W.heap.size W (W.alloc (.cells #[] 3)) := below_alloc1 _ _
  have hr : IRow (W.alloc (.cells #[] 3)) b.pao b.pn b.pcap b.pv := CRow.below hb hZB
  have hown := ownsC_empty (k := 1) (base := W.heap.size) (fun i _ => .int .i64 (b.pv i)) (heap_alloc_last W (.cells #[] 3)) (Nat.le_refl _)
  obtain ⟨a1, c1, w2, r, ho, hb2, _⟩ := append_c (W.alloc (.cells #[] 3)) 35 3 _ 1 8 Tryz.underlying35 infoI rfl (by omega) W.heap.size _ 0 _ hown b.pao b.pn b.pcap (fun i _ => .int .i64 (b.pv i)) (fun _ _ => rfl) hr (fun e => by
    obtain ⟨b', off, e', _⟩ := hr.2 h0
    rw [e] at e'; cases e') (by unfold maxLen; omega) (by omega) (by simp)
  rw [Nat.zero_add] at r ho
  rw [cellsL_congr b.pn 1 _ (fun i _ => .int .i64 (b.pv i)) (fun i hi => by simp [catC])] at ho
  rcases ho.2 with ⟨e, _⟩ | ⟨g, cap, cur, e, hg, hh, q1, q2, q3, q4⟩
  · injection e with e1 e2 e3
    omega
  · injection e with e1 e2 e3
    subst e1
    subst e3
    exact ⟨g, c1, w2, r, hZB.trans hb2, hg, q1, ho⟩
theorem ints_put (f : Nat → Int) (n ot : Nat) (pr : Int) (h : ot < n) : (cellsL n 1 (fun i _ => .int .i64 (f i))).set ot (.int .i64 pr) = cellsL n 1 (fun i _ => .int .i64 (if i = ot then pr else f i)) := by
  have h1 := congrArg Array.toList (rowC_put (n := n) (k := 1) (fun i _ => .int .i64 (f i)) h (show 0 < 1 by omega) (.int .i64 pr))
  rw [Array.toList_setIfInBounds, show ot * 1 + 0 = ot by omega] at h1
  have h2 : rowC n 1 (updC (fun i _ => .int .i64 (f i)) ot 0 (.int .i64 pr)) = rowC n 1 (fun i _ => .int .i64 (if i = ot then pr else f i)) := by
    apply rowC_congr2
    intro i _ j hj
    unfold updC
    by_cases e : i = ot
    · rw [if_pos ⟨e, by omega⟩, if_pos e]
    · rw [if_neg (fun q => e q.1), if_neg e]
  rw [h2] at h1
  exact h1
/-- The world behind the copies: what lies where. -/
structure TreeW (w W : World) (n : Net) (g c : Nat) (bs : Nat → Br) : Prop where
  low : Below w.heap.size w W
  flt : W.heap[w.heap.size]? = some (.cells #[.int .i64 0, .int .i64 0] 28 (0, 0))
  box : W.heap[w.heap.size + 1]? = some (.cells #[.slice (some ⟨g, 0, none⟩) n.K c, .slice n.lao n.L n.lcap] 25 (0, 0))
  new : w.heap.size + 1 < g
  own : W.ownsRow (w.heap.size + 1 + 1) 40 5 (.slice (some ⟨g, 0, none⟩) n.K c) n.K (cellsL n.K 5 (fun i => brC (bs i)))
theorem TreeW.below {w W W' : World} {n : Net} {g c : Nat} {bs : Nat → Br} (h : TreeW w W n g c bs) (hb : Below W.heap.size W W') : TreeW w W' n g c bs :=
  ⟨h.low.trans (hb.mono h.low.size), keep h.flt hb, keep h.box hb, h.new, ownsC_below h.own hb⟩
theorem trees_box {w w2 : World} {n : Net} {g c : Nat} (hb : Below w.heap.size w w2) (hf : w2.heap[w.heap.size]? = some (.cells #[.int .i64 0, .int .i64 0] 28 (0, 0))) (hn : w2.heap[w.heap.size + 1]? = some (.cells #[.slice n.bao n.K n.bcap, .slice n.lao n.L n.lcap] 25 (0, 0))) (hg : w.heap.size + 1 < g)
    (ho : w2.ownsRow (w.heap.size + 1 + 1) 40 5 (.slice (some ⟨g, 0, none⟩) n.K c) n.K (cellsL n.K 5 (fun i => brC (n.bs i)))) :
    TreeW w (w2.setCell ⟨w.heap.size + 1, 0, none⟩ (.slice (some ⟨g, 0, none⟩) n.K c)) n g c n.bs := by
  refine ⟨hb.setCell (by show w.heap.size ≤ w.heap.size + 1; omega) _, ?_, ?_, hg, ?_⟩
  · rw [heap_setCell_other _ _ _ _ (by show w.heap.size ≠ w.heap.size + 1; omega)]; exact hf
  · rw [heap_setCell_same _ _ _ _ _ _ hn]; rfl
  · refine ho.kept (row := some (w.heap.size + 1)) ?_ (Or.inr (by show some g ≠ some (w.heap.size + 1); intro q; injection q with q; omega))
    exact ⟨by first | rfl | simp, by first | rfl | simp, by first | rfl | simp, by first | exact Nat.le_refl _ | simp, fun q _ hne => heap_setCell_other _ _ _ _ (by exact fun p => hne (by rw [p]))⟩
theorem TreeW.cell {w W : World} {n : Net} {g c : Nat} {bs : Nat → Br} (h : TreeW w W n g c bs) {br j : Nat} (hb : br < n.K) (hj : j < 5) : W.cell? ⟨g, br * 5 + j, none⟩ = some (brC (bs br) j) ∧ W.frozen? ⟨g, br * 5 + j, none⟩ = false := by
  have hlt : br * 5 + j < n.K * 5 := by omega
  refine ⟨?_, h.own.frozenAt _⟩
  rw [h.own.cellAt _ hlt]
  have := rowC_get (n := n.K) (k := 5) (fun i => brC (bs i)) hb hj
  rw [rowC, List.getElem?_toArray] at this
  exact this
/-- One bridge has its own priorities now. -/
theorem TreeW.put {w W : World} {n : Net} {g c : Nat} (h : TreeW w W n g c n.bs) {br : Nat} (hb : br < n.K) (pg pc : Nat) : TreeW w (W.setCell ⟨g, br * 5 + 1, none⟩ (.slice (some ⟨pg, 0, none⟩) (n.bs br).pn pc)) n g c (putB n.bs br { n.bs br with pao := some ⟨pg, 0, none⟩, pcap := pc }) := by
  obtain ⟨ho4, hg4⟩ := h.own.stored (br * 5 + 1) (.slice (some ⟨pg, 0, none⟩) (n.bs br).pn pc)
  rw [putB_row n.bs br { n.bs br with pao := some ⟨pg, 0, none⟩, pcap := pc } n.K hb rfl] at ho4
  have l1 := (Array.getElem?_eq_some_iff.1 h.flt).1
  have l2 := (Array.getElem?_eq_some_iff.1 h.box).1
  have hn := h.new
  refine ⟨h.low.setCell (by show w.heap.size ≤ g; omega) _, ?_, ?_, h.new, ho4⟩
  · rw [hg4.block _ l1 (by intro q; injection q with q; omega)]; exact h.flt
  · rw [hg4.block _ l2 (by intro q; injection q with q; omega)]; exact h.box
theorem TreeW.other {w W W' : World} {n : Net} {g c : Nat} {bs : Nat → Br} {pg : Nat} (h : TreeW w W n g c bs) (hW : W.grownBy W' (some pg)) (hne : pg ≠ g) (hp : w.heap.size + 1 < pg) : TreeW w W' n g c bs := by
  have l1 := (Array.getElem?_eq_some_iff.1 h.flt).1
  have l2 := (Array.getElem?_eq_some_iff.1 h.box).1
  refine ⟨h.low.trans (below_of_grown hW h.low.size (by omega)), ?_, ?_, h.new, h.own.kept hW (Or.inr (by show some g ≠ some pg; intro q; injection q with q; exact hne q.symm))⟩
  · rw [hW.block _ l1 (by intro q; injection q with q; omega)]; exact h.flt
  · rw [hW.block _ l2 (by intro q; injection q with q; omega)]; exact h.box
end Go.Proofs.YtcbpafpaimpfnaaGreatDoor

namespace Go.Proofs.YtcbpafpaimpfnaaGreatDoor
open Go.RowKit
open Vc (V Of)
open Pl (Br Net Pc Lk En St)

/-- The changed net lies there. -/
theorem trees_at {w W W9 : World} {n : Net} {g c pg pc br ot : Nat} {pr : Int} (hat : n.at' w) (hb : br < n.K) (ht : TreeW w W9 n g c (putB n.bs br { n.bs br with pao := some ⟨pg, 0, none⟩, pcap := pc })) (hp : W9.ownsRow W.heap.size 3 1 (.slice (some ⟨pg, 0, none⟩) (n.bs br).pn pc) (n.bs br).pn (cellsL (n.bs br).pn 1 (fun i _ => .int .i64 (if i = ot then pr else (n.bs br).pv i)))) :
    (n.putP br ot pr (some ⟨g, 0, none⟩) c (some ⟨pg, 0, none⟩) pc).at' W9 := by
  have hlow := ht.low
  obtain ⟨ao, cap, e, hr, _⟩ := owns_c (by omega) ht.own
  injection e with q1 q2 q3
  subst q1
  subst q3
  obtain ⟨po, pcap, e, hpr, _⟩ := owns_c (by omega) hp
  injection e with q1 q2 q3
  subst q1
  subst q3
  refine ⟨CRow.congr hr (fun i _ => ?_), fun i hi => ?_, CRow.below hat.lks hlow, hat.manyB, hat.manyL⟩
  · funext j
    unfold Pl.Net.putP putB Pl.Br.putP
    simp only
    by_cases e : i = br
    · rw [if_pos e, if_pos e]; rfl
    · rw [if_neg e, if_neg e]
  · have hi : i < n.K := hi
    have ho := hat.each i hi
    unfold Pl.Net.putP putB Pl.Br.putP
    simp only
    by_cases e : i = br
    · rw [if_pos e]
      subst e
      exact ⟨hpr, ho.2.1.below hlow, ho.2.2.1, ho.2.2.2⟩
    · rw [if_neg e]
      exact ho.below hlow
set_option maxRecDepth 100000 in
set_option maxHeartbeats 20000000 in
theorem ptrees_any (n : Net) (tree br ot pr : Int) (w : World) (hat : n.at' w) (hwf : n.Wf) (ht : Tabs w) (hbt : 2 ≤ w.heap.size) :
    Calls Tryz.prog 9 #[n.val, .int .i64 tree, .int .i64 br, .int .i64 ot, .int .i64 pr] w fun e w' => e = .returned (.bool true) ∧ Below w.heap.size w w' := by
  obtain ⟨X, HX⟩ : ∃ X, Hid (X = w.alloc (.cells #[.slice n.bao n.K n.bcap, .slice n.lao n.L n.lcap] 25)) := ⟨_, rfl⟩
  have hXB : Below w.heap.size w X := by rw [HX.out]; exact below_alloc1 _ _
  have hXn : X.heap[w.heap.size]? = some (.cells #[.slice n.bao n.K n.bcap, .slice n.lao n.L n.lcap] 25 (0, 0)) := by rw [HX.out]; exact heap_alloc_last _ _
  have HC : Hid (∀ W, Below X.heap.size X W → (W.cell? ⟨w.heap.size, 0, none⟩ = some (.slice n.bao n.K n.bcap) ∧ W.cell? ⟨w.heap.size, 1, none⟩ = some (.slice n.lao n.L n.lcap)) ∧ n.at' W ∧ (Tabs W ∧ 2 ≤ W.heap.size) ∧ Below w.heap.size w W) := fun W hW => by
    have h1 : Below w.heap.size w W := hXB.trans (hW.mono hXB.size)
    exact ⟨two_cells2 (keep hXn hW), hat.below h1, ⟨ht.below h1 hbt, Nat.le_trans hbt h1.size⟩, h1⟩
  have HAL : Hid (Calls Tryz.prog 17 #[] X fun e w' => e = .returned (.bool true) ∧ Below X.heap.size X w') := palive_any X (ht.below hXB hbt) (Nat.le_trans hbt hXB.size)
  have HWF : Hid n.Wf := hwf
  have hmB := hat.manyB
  have hcapB := hat.brs.1
  clear hat ht hXn hXB hwf
  simp only [Pl.Net.val]
  go_enter Tryz.func9, Tryz.ntmps9
  go_wp2_with fail
  rw [← HX.out]
  refine HAL.out.mono ?_
  rintro e w1 ⟨rfl, hb1⟩
  obtain ⟨⟨d0, d1⟩, hat1, ⟨ht1, hg1⟩, hlow1⟩ := HC.out w1 hb1
  have HLW : Hid (Below w.heap.size w w1) := hlow1
  have HP : Hid (Calls Tryz.prog 12 #[.agg #[.slice n.bao n.K n.bcap, .slice n.lao n.L n.lcap], .int .i64 tree] w1 fun e w' => ∃ a k c f1 f2, e = .returned (.tuple #[.slice a k c, .agg #[.int .i64 f1, .int .i64 f2]]) ∧ Hid (Below w1.heap.size w1 w' ∧ PlRes n tree w1.heap.size w' a k c f1 f2)) := pplan_res n tree w1 hat1 HWF.out ht1 hg1
  have HAT : Hid (n.at' w1) := hat1
  clear HAL hat1 ht1 hg1 hlow1
  by_cases h1 : br < 0
  · clear HP HC
    go_wp2_with fail
    go_ret
    exact ⟨rfl, HLW.out⟩
  by_cases h2 : (n.K : Int) ≤ br
  · clear HP HC
    go_wp2_with fail
    go_ret
    exact ⟨rfl, HLW.out⟩
  obtain ⟨b, rfl⟩ : ∃ b : Nat, br = b := ⟨br.toNat, by omega⟩
  have hb : b < n.K := by omega
  by_cases h3 : ot = tree
  · clear HP HC
    subst h3
    go_wp2_with fail
    go_ret
    exact ⟨rfl, HLW.out⟩
  have g3 : (ot == tree) = false := by simp [h3]
  by_cases h4 : ot < 0
  · clear HP HC
    go_wp2_with fail
    go_ret
    exact ⟨rfl, HLW.out⟩
  obtain ⟨o, rfl⟩ : ∃ o : Nat, ot = o := ⟨ot.toNat, by omega⟩
  have hbr := HAT.out.brs
  obtain ⟨bb, boff, eb, _⟩ := CRow.some hbr (by omega)
  rw [eb] at hbr
  obtain ⟨c0, c1, c2, c3, c4⟩ := BRow.cells hbr hb
  have d0' := d0
  rw [eb] at d0'
  have i0 : (0 : Int) ≤ (b : Int) := by omega
  have i1 : (b : Int) < (n.K : Int) := by omega
  have hpn := (HAT.out.each b hb).2.2.1
  by_cases h5 : ((n.bs b).pn : Int) ≤ (o : Int)
  · clear HP HC d0
    go_wp2_with fail
    go_ret
    exact ⟨rfl, HLW.out⟩
  by_cases h6 : pr < 0
  · clear HP HC d0
    go_wp2_with fail
    go_ret
    exact ⟨rfl, HLW.out⟩
  by_cases h7 : 61440 < pr
  · clear HP HC d0
    go_wp2_with fail
    go_ret
    exact ⟨rfl, HLW.out⟩
  have hr8 : pr.tmod 4096 = pr % 4096 := Int.tmod_eq_emod_of_nonneg (by omega)
  have hw8 : IntKind.i64.wrap (pr % 4096) = pr % 4096 := wraps_i64 _ (by omega) (by omega)
  by_cases h8 : pr % 4096 = 0
  case neg =>
    have hd : (pr.tmod 4096 == 0) = false := by rw [hr8]; simp [h8]
    have hd2 : (pr % 4096 == 0) = false := by simp [h8]
    have hd3 : (pr % 4096 != 0) = true := by simp [h8]
    clear HP HC d0
    go_wp2_with fail
    go_ret
    exact ⟨rfl, HLW.out⟩
  have hd : (pr.tmod 4096 == 0) = true := by rw [hr8]; simp [h8]
  have hd2 : (pr % 4096 == 0) = true := by simp [h8]
  have hd3 : (pr % 4096 != 0) = false := by simp [h8]
  have ho : o < (n.bs b).pn := by omega
  rw [eb] at HP d0
  clear d0'
  go_wp2_with fail
  refine HP.out.mono ?_
  rintro e w2 ⟨a, m, c, f1, f2, rfl, hA⟩
  obtain ⟨Y, HY⟩ : ∃ Y, Hid (Y = w2.alloc (.cells #[.int .i64 f1, .int .i64 f2] 28)) := ⟨_, rfl⟩
  have hYB : Below w2.heap.size w2 Y := by rw [HY.out]; exact below_alloc1 _ _
  have hXw2 : Below X.heap.size X w2 := hb1.trans (hA.out.1.mono hb1.size)
  have hXY : Below X.heap.size X Y := hXw2.trans (hYB.mono hXw2.size)
  have hres := hA.out.2
  have HLO : Hid (Below w.heap.size w Y) := (HC.out Y hXY).2.2.2
  clear HP d0 d1 c0 c1 c2 c3 c4 hbr
  rcases hres with ⟨e0, ⟨rfl, rfl, rfl⟩, e1⟩ | ⟨_, _, ⟨rfl, rfl, rfl⟩, rfl, rfl⟩ | ⟨e0, htr, P, ⟨rfl, rfl, rfl⟩, ⟨rfl, rfl⟩, hPA, _⟩
  · obtain ⟨rfl, rfl⟩ : f1 = n.wrong.1 ∧ f2 = n.wrong.2 := by rw [← e1]; exact ⟨rfl, rfl⟩
    have g0 : (n.wrong.1 == 0) = false := by simp [e0]
    clear e1 HC hA
    go_wp2_with fail
    go_ret
    exact ⟨rfl, by rw [← HY.out]; exact HLO.out⟩
  · clear HC hA
    go_wp2_with fail
    go_ret
    exact ⟨rfl, by rw [← HY.out]; exact HLO.out⟩
  · have R := right_of HWF.out e0
    have hfine := R.fine b hb
    obtain ⟨⟨x0, x1⟩, hat2, ⟨ht2, hg2⟩, hlow2⟩ := HC.out w2 hXw2
    obtain ⟨g, cc, w4, hap, hb4, hf4, hn4, hnew, hcc, hown⟩ := trees_net n hat2 (by omega) R.few
    have HT5 : Hid (TreeW w2 (w4.setCell ⟨w2.heap.size + 1, 0, none⟩ (.slice (some ⟨g, 0, none⟩) n.K cc)) n g cc n.bs) := trees_box hb4 hf4 hn4 hnew hown
    have hXw4 : Below X.heap.size X w4 := hXw2.trans (hb4.mono hXw2.size)
    have up1 : ∀ W, Below w2.heap.size w2 W → W.cell? ⟨w.heap.size, 0, none⟩ = some (.slice n.bao n.K n.bcap) ∧ W.cell? ⟨w.heap.size, 1, none⟩ = some (.slice n.lao n.L n.lcap) := fun W hW => (HC.out W (hXw2.trans (hW.mono hXw2.size))).1
    obtain ⟨y0, y1⟩ := up1 (w2.alloc (.cells #[.int .i64 0, .int .i64 0] 28)) (below_alloc1 _ _)
    obtain ⟨z0, z1⟩ := up1 (((w2.alloc (.cells #[.int .i64 0, .int .i64 0] 28)).alloc (.cells #[.slice n.bao n.K n.bcap, .slice n.lao n.L n.lcap] 25)).alloc (.cells #[] 40)) (((below_alloc2 w2 _ _)).trans ((below_alloc1 _ _).mono (by simp; omega)))
    obtain ⟨q0, q1⟩ := two_cells2 hn4
    have q2 : w4.frozen? ⟨w2.heap.size + 1, 0, none⟩ = false := lk_free0 hn4 _
    have HAP : Hid ((Builtin.append_ #[22, 22] 22 #[.slice (some ⟨w2.heap.size + 1 + 1, 0, none⟩) 0 0, .slice n.bao n.K n.bcap]).run Tryz.prog (((w2.alloc (.cells #[.int .i64 0, .int .i64 0] 28)).alloc (.cells #[.slice n.bao n.K n.bcap, .slice n.lao n.L n.lcap] 25)).alloc (.cells #[] 40)) = .ok (.slice (some ⟨g, 0, none⟩) n.K cc) w4) := hap
    rw [eb] at y0 z0 HAP q0
    have HPA : Hid (PlacesAt w2 P n.K (Pl.rounds (n.ids tree) n.ends n.K n.K) n.ends n.K) := hPA
    have HA2 : Hid (n.at' w2 ∧ Tabs w2 ∧ 2 ≤ w2.heap.size ∧ Below w.heap.size w w2) := ⟨hat2, ht2, hg2, hlow2⟩
    have HRT : Hid (∀ pao pcap, (n.putP b o pr (some ⟨g, 0, none⟩) cc pao pcap).wrong.1 = 0) := fun pao pcap => putP_right e0 hb ⟨by omega, by omega⟩ h8 _ _ _ _
    clear hat2 ht2 hg2 hlow2 hap hb4 hf4 hn4 hown hPA hXw4 hA hXY hYB HLO HY
    go_wp2_with (at_builtin; refine wpList_append_run rfl (.tmp 69) (.tmp 71) 22 rfl _ _ _ rfl rfl HAP.out ?_)
    obtain ⟨W5, HW5⟩ : ∃ W5, Hid (W5 = w4.setCell ⟨w2.heap.size + 1, 0, none⟩ (.slice (some ⟨g, 0, none⟩) n.K cc)) := ⟨_, rfl⟩
    rw [← HW5.out] at HT5 ⊢
    clear HAP y0 y1 z0 z1 q0 q1 q2
    have HUP : Hid (∀ W, Below w2.heap.size w2 W → W.cell? ⟨w.heap.size, 0, none⟩ = some (.slice (some ⟨bb, boff, none⟩) n.K n.bcap) ∧ W.cell? ⟨bb, boff + b * 5 + 1, none⟩ = some (.slice (n.bs b).pao (n.bs b).pn (n.bs b).pcap)) := fun W hW => by
      have k1 := (up1 W hW).1
      rw [eb] at k1
      have k2 := (HA2.out.1.below hW).brs
      rw [eb] at k2
      exact ⟨k1, (BRow.cells k2 hb).2.1⟩
    obtain ⟨pg, pc, w7, hap7, hb7, hpg, hpc, hown7⟩ := trees_prios (W := W5.drew) (n.bs b) ((HA2.out.1.below (HT5.out.below (Below.drew (Below.refl _ _))).low).each b hb).1 (by omega) hfine.few
    have hT7 : TreeW w2 w7 n g cc n.bs := (HT5.out.below (Below.drew (Below.refl _ _))).below hb7
    have hgl : g < W5.heap.size := by
      obtain ⟨k1, _⟩ := HT5.out.cell hb (show 1 < 5 by omega)
      exact block_lt_of_cell k1
    have hpgg : pg ≠ g := by
      have : W5.drew.heap.size = W5.heap.size := rfl
      omega
    have hW5s : w2.heap.size + 1 < W5.heap.size := (Array.getElem?_eq_some_iff.1 HT5.out.box).1
    have hpgw : w2.heap.size + 1 < pg := by
      have : W5.drew.heap.size = W5.heap.size := rfl
      omega
    have hT8 := hT7.put hb pg pc
    obtain ⟨e1, e2⟩ := hT7.cell hb (show 1 < 5 by omega)
    have hg78 : w7.grownBy (w7.setCell ⟨g, b * 5 + 1, none⟩ (.slice (some ⟨pg, 0, none⟩) (n.bs b).pn pc)) (some g) := by
      have bz : Below 0 w7 (w7.setCell ⟨g, b * 5 + 1, none⟩ (.slice (some ⟨pg, 0, none⟩) (n.bs b).pn pc)) := (Below.refl 0 w7).setCell (Nat.zero_le _) _
      exact ⟨bz.os, bz.tape, bz.output, bz.size, fun i hi hne => heap_setCell_other _ _ _ _ (by exact fun e => hne (by rw [e]))⟩
    have hown8 := hown7.kept hg78 (Or.inr (by show some pg ≠ some g; intro q; injection q with q; exact hpgg q))
    have HSA : Hid (∀ W, TreeW w2 W n g cc n.bs → (W.cell? ⟨w2.heap.size + 1, 0, none⟩ = some (.slice (some ⟨g, 0, none⟩) n.K cc)) ∧ W.cell? ⟨w.heap.size, 0, none⟩ = some (.slice (some ⟨bb, boff, none⟩) n.K n.bcap) ∧ W.cell? ⟨bb, boff + b * 5 + 1, none⟩ = some (.slice (n.bs b).pao (n.bs b).pn (n.bs b).pcap)) := fun W h => ⟨(two_cells2 h.box).1, (HUP.out W h.low).1, (HUP.out W h.low).2⟩
    have HSD : Hid _ := HSA.out _ (HT5.out.below (Below.drew (Below.refl _ _)))
    have HSE : Hid _ := HSA.out _ ((HT5.out.below (Below.drew (Below.refl _ _))).below (below_alloc1 _ (.cells #[] 3)))
    have HS7 : Hid _ := HSA.out _ hT7
    have HSN : Hid _ := (⟨(two_cells2 hT8.box).1, (HUP.out _ hT8.low).1, (HUP.out _ hT8.low).2⟩ : _ ∧ _ ∧ _)
    have HAP7 : Hid _ := hap7
    have HT8 : Hid _ := hT8
    have HO8 : Hid ((w7.setCell ⟨g, b * 5 + 1, none⟩ (.slice (some ⟨pg, 0, none⟩) (n.bs b).pn pc)).ownsRow W5.drew.heap.size 3 1 (.slice (some ⟨pg, 0, none⟩) (n.bs b).pn pc) (n.bs b).pn (cellsL (n.bs b).pn 1 (fun i _ => .int .i64 ((n.bs b).pv i)))) := hown8
    clear HSA HUP hT7 hT8 hown7 hown8 hap7 hg78 up1 HT5 hb7
    have e1' : w7.cell? ⟨g, b * 5 + 1, none⟩ = some (.slice (n.bs b).pao (n.bs b).pn (n.bs b).pcap) := e1
    clear e1
    refine wp_region_held_drew (S := fun W => W.cell? ⟨w2.heap.size + 1, 0, none⟩ = some (.slice (some ⟨g, 0, none⟩) n.K cc) ∧ W.cell? ⟨w.heap.size, 0, none⟩ = some (.slice (some ⟨bb, boff, none⟩) n.K n.bcap) ∧ W.cell? ⟨bb, boff + b * 5 + 1, none⟩ = some (.slice (n.bs b).pao (n.bs b).pn (n.bs b).pcap)) (by kernel_rfl) HSD.out (fun hHeld => ?_)
    refine held_take (i := 0) (v := ?_) (some 74) rfl rfl (by kernel_rfl) (by kernel_rfl) (by kernel_rfl) (fun _ _ _ h => h) (by rfl) ?_ hHeld ?_
    rotate_left 1
    · (intro wq hSw; go_simp; try with_reducible rfl)
    (try simp only [Act.put, List.setIfInBounds_toArray, List.set_cons_zero, List.set_cons_succ])
    refine held_take (i := 1) (v := ?_) (some 75) rfl rfl (by kernel_rfl) (by kernel_rfl) (by kernel_rfl) (fun _ _ _ h => h) (by rfl) ?_ hHeld ?_
    rotate_left 1
    · (intro wq hSw; go_simp; try with_reducible rfl)
    (try simp only [Act.put, List.setIfInBounds_toArray, List.set_cons_zero, List.set_cons_succ])
    refine held_take (i := 2) (v := ?_) (some 76) rfl rfl (by kernel_rfl) (by kernel_rfl) (by kernel_rfl) (fun _ _ _ h => h) (by rfl) ?_ hHeld ?_
    rotate_left 1
    · (intro wq hSw; go_simp; try with_reducible rfl)
    (try simp only [Act.put, List.setIfInBounds_toArray, List.set_cons_zero, List.set_cons_succ])
    refine held_take (i := 4) (v := ?_) (some 78) rfl rfl (by kernel_rfl) (by kernel_rfl) (by kernel_rfl) (fun _ _ _ h => h) (by rfl) ?_ hHeld ?_
    rotate_left 1
    · (intro wq hSw; go_simp; try with_reducible rfl)
    (try simp only [Act.put, List.setIfInBounds_toArray, List.set_cons_zero, List.set_cons_succ])
    refine held_take (i := 5) (v := ?_) (some 79) rfl rfl (by kernel_rfl) (by kernel_rfl) (by kernel_rfl) (fun _ _ _ h => h) (by rfl) ?_ hHeld ?_
    rotate_left 1
    · (intro wq hSw; go_simp; try with_reducible rfl)
    (try simp only [Act.put, List.setIfInBounds_toArray, List.set_cons_zero, List.set_cons_succ])
    refine held_take (i := 6) (v := ?_) (some 80) rfl rfl (by kernel_rfl) (by kernel_rfl) (by kernel_rfl) (fun _ _ _ h => h) (by rfl) ?_ hHeld ?_
    rotate_left 1
    · (intro wq hSw; go_simp; try with_reducible rfl)
    (try simp only [Act.put, List.setIfInBounds_toArray, List.set_cons_zero, List.set_cons_succ])
    refine held_take (i := 7) (v := ?_) (some 81) rfl rfl (by kernel_rfl) (by kernel_rfl) (by kernel_rfl) (fun _ _ _ h => h) (by rfl) ?_ hHeld ?_
    rotate_left 1
    · (intro wq hSw; go_simp; try with_reducible rfl)
    (try simp only [Act.put, List.setIfInBounds_toArray, List.set_cons_zero, List.set_cons_succ])
    refine held_take (i := 8) (v := ?_) (some 82) rfl rfl (by kernel_rfl) (by kernel_rfl) (by kernel_rfl) (fun _ _ _ h => h) (by rfl) ?_ hHeld ?_
    rotate_left 1
    · (intro wq hSw; go_simp; try with_reducible rfl)
    (try simp only [Act.put, List.setIfInBounds_toArray, List.set_cons_zero, List.set_cons_succ])
    refine held_take (i := 9) (v := ?_) (some 83) rfl rfl (by kernel_rfl) (by kernel_rfl) (by kernel_rfl) (fun _ _ _ h => h) (by rfl) ?_ hHeld ?_
    rotate_left 1
    · (intro wq hSw; go_simp; try with_reducible rfl)
    (try simp only [Act.put, List.setIfInBounds_toArray, List.set_cons_zero, List.set_cons_succ])
    refine wpAnyH_ready (rs := [3]) (by kernel_rfl) (by simp) ?_
    refine AllReadyH.cons rfl (fun K hK => ?_) AllReadyH.nil
    go_simp
    refine hK.out _ _ HSE.out (fun hHeld => ?_)
    clear hK K
    (try simp only [Act.put, List.setIfInBounds_toArray, List.set_cons_zero, List.set_cons_succ])
    refine wpAnyH_ready (rs := [10]) (by kernel_rfl) (by simp) ?_
    refine AllReadyH.cons rfl (fun K hK => ?_) AllReadyH.nil
    refine step_append_d (some 84) rfl rfl (.tmp 77) (.tmp 83) 35 rfl _ _ _ rfl rfl HAP7.out ?_
    refine hK.out _ _ HS7.out (fun hHeld => ?_)
    clear hK K
    (try simp only [Act.put, List.setIfInBounds_toArray, List.set_cons_zero, List.set_cons_succ])
    refine held_take (i := 11) (v := ?_) (some 85) rfl rfl (by kernel_rfl) (by kernel_rfl) (by kernel_rfl) (fun _ _ _ h => h) (by rfl) ?_ hHeld ?_
    rotate_left 1
    · (intro wq hSw; go_simp; try with_reducible rfl)
    (try simp only [Act.put, List.setIfInBounds_toArray, List.set_cons_zero, List.set_cons_succ])
    refine held_take (i := 12) (v := ?_) (some 86) rfl rfl (by kernel_rfl) (by kernel_rfl) (by kernel_rfl) (fun _ _ _ h => h) (by rfl) ?_ hHeld ?_
    rotate_left 1
    · (intro wq hSw; go_simp; try with_reducible rfl)
    (try simp only [Act.put, List.setIfInBounds_toArray, List.set_cons_zero, List.set_cons_succ])
    refine wpAnyH_ready (rs := [13]) (by kernel_rfl) (by simp) ?_
    refine AllReadyH.cons rfl (fun K hK => ?_) AllReadyH.nil
    go_simp
    refine hK.out _ _ HSN.out (fun hHeld => ?_)
    clear hK K hHeld
    refine wpAnyH_done (by kernel_rfl) ?_ _
    obtain ⟨W8, HW8⟩ : ∃ W8, Hid (W8 = w7.setCell ⟨g, b * 5 + 1, none⟩ (.slice (some ⟨pg, 0, none⟩) (n.bs b).pn pc)) := ⟨_, rfl⟩
    have hT8 := HT8.out
    have hO8 := HO8.out
    rw [← HW8.out] at hT8 hO8 ⊢
    obtain ⟨k0, k1⟩ := two_cells2 hT8.box
    have k2 : W8.cell? ⟨g, b * 5 + 1, none⟩ = some (.slice (some ⟨pg, 0, none⟩) (n.bs b).pn pc) := by
      have := (hT8.cell hb (show 1 < 5 by omega)).1
      rw [this]
      unfold putB
      rw [if_pos rfl]
      rfl
    have k3 : W8.cell? ⟨pg, o, none⟩ = some (.int .i64 ((n.bs b).pv o)) := by
      rw [hO8.cellAt o (by omega)]
      have := rowC_get (n := (n.bs b).pn) (k := 1) (fun i _ => .int .i64 ((n.bs b).pv i)) ho (show 0 < 1 by omega)
      rw [rowC, List.getElem?_toArray, show o * 1 + 0 = o by omega] at this
      exact this
    have k4 : W8.frozen? ⟨pg, o, none⟩ = false := hO8.frozenAt _
    obtain ⟨hO9, hg9⟩ := hO8.stored o (.int .i64 pr)
    rw [ints_put (n.bs b).pv (n.bs b).pn o pr ho] at hO9
    have hT9 := hT8.other hg9 hpgg hpgw
    have hat9 := trees_at (w := w2) (W := W5.drew) HA2.out.1 hb hT9 hO9
    have ht9 := HA2.out.2.1.below hT9.low HA2.out.2.2.1
    have hg9' := Nat.le_trans HA2.out.2.2.1 hT9.low.size
    have HP9 : Hid (Calls Tryz.prog 12 #[.agg #[.slice (some ⟨g, 0, none⟩) n.K cc, .slice n.lao n.L n.lcap], .int .i64 tree] (W8.setCell ⟨pg, o, none⟩ (.int .i64 pr)) fun e w' => ∃ Q, e = .returned (.tuple #[.slice (some ⟨Q, 0, none⟩) n.K n.K, .agg #[.int .i64 0, .int .i64 0]]) ∧ w'.heap[w2.heap.size]? = some (.cells #[.int .i64 0, .int .i64 0] 28 (0, 0)) ∧ Hid (Below w.heap.size w w' ∧ PlacesAt w' P n.K (Pl.rounds (n.ids tree) n.ends n.K n.K) n.ends n.K ∧ PlacesAt w' Q n.K (Pl.rounds (n.ids tree) n.ends n.K n.K) n.ends n.K)) := by
      refine (pplan_any _ tree _ hat9 (putP_wf HWF.out b o pr _ _ _ _) ht9 hg9').mono ?_
      rintro e w' ⟨v1, v2⟩
      rcases v2 with ⟨q, _⟩ | ⟨_, q, _⟩ | ⟨_, _, Q, rfl, v3, _⟩
      · exact absurd (HRT.out _ _) q
      · exact absurd htr q
      · rw [putP_ids n b o pr _ _ _ _ tree (fun e => h3 e.symm), putP_ends] at v3
        have hlo : Below w2.heap.size w2 w' := hT9.low.trans (v1.mono hT9.low.size)
        exact ⟨Q, rfl, keep hT9.flt v1, HA2.out.2.2.2.trans (hlo.mono HA2.out.2.2.2.size), HPA.out.below hlo, v3⟩
    obtain ⟨t0, t1⟩ := two_cells2 hT9.box
    have hcapP : o < pc := by omega
    have j0 : (0 : Int) ≤ (o : Int) := by omega
    have j1 : (o : Int) < ((n.bs b).pn : Int) := by omega
    clear hT8 hO8 hO9 hg9 hT9 hat9 ht9 hg9' HT8 HO8 HAP7 HSD HSE HS7 HSN HRT HA2 e2 e1' hXw2
    go_wp2_with fail
    refine HP9.out.mono ?_
    rintro e w10 ⟨Q, rfl, hf10, HN⟩
    obtain ⟨r0, r1⟩ := two_cells2 hf10
    obtain ⟨s0, s1, _, _⟩ := vc_free hf10
    have HB11 : Hid (Below w10.heap.size w10 ((w10.setCell ⟨w2.heap.size, 0, none⟩ (.int .i64 0)).setCell ⟨w2.heap.size, 1, none⟩ (.int .i64 0))) := below_same hf10
    have HSM : Hid (∀ W, Below w10.heap.size w10 W → Calls Tryz.prog 14 #[.slice (some ⟨P, 0, none⟩) n.K n.K, .slice (some ⟨Q, 0, none⟩) n.K n.K] W fun e w' => e = .returned (.bool true) ∧ ∃ m, w' = W.drewN m) := fun W hW => rsame6_any n.K P 0 n.K Q 0 n.K W (by have := R.few; omega) (fun i hi => by
      rw [Nat.zero_add]
      exact same_of_places (HN.out.2.1.below hW) (HN.out.2.2.below hW) hi hi (ends_few n i R.fewL) rfl rfl (fun _ _ => rfl) (fun _ _ => rfl))
    have HF : Hid (∀ W m, Below w10.heap.size w10 W → Below w.heap.size w (W.drewN m)) := fun W m hW => below_drewN (HN.out.1.trans (hW.mono HN.out.1.size)) m
    clear HP9 HN k0 k1 k2 k3 k4 t0 t1
    go_wp2_with fail
    refine (HSM.out _ HB11.out).mono ?_
    rintro e w12 ⟨rfl, m, rfl⟩
    have HE := HF.out _ m HB11.out
    clear HSM HF HB11
    go_wp2_with fail
    go_ret
    exact ⟨rfl, HE⟩
end Go.Proofs.YtcbpafpaimpfnaaGreatDoor

namespace Go.Proofs.YtcbpafpaimpfnaaGreatDoor.planTrees
open Go.ChangeShapes Go.WideShapes Go.ChangeAt Go.RowKit

set_option maxRecDepth 100000 in
theorem contract (H : Type) (enc : TypeId × Value → H) (W : World) (base : Nat) (args : Array Value) (ds gs : List (DataW H)) (before : List MemPlace)
    (hval : ∀ (j : Nat) t v, Tryz.f9.params[j]? = some t → args[j]? = some v → Value.okWide Tryz.prog W .any base t v)
    (hW : DataW.Whole enc Tryz.prog Tryz.f9.params.toList Rows.planTreesSpec.vars false W args.toList ds gs before)
    (hsz : (DataW.weightsEach Tryz.prog (Tryz.f9.params.toList ++ (OpenSpec.ofChange Rows.planTreesSpec).bare.plain.varTypes Tryz.prog) (ds ++ gs)).all (· ≤ reachBytes) = true)
    (hL : laidMetH Tryz.prog Rows.planTreesRow.laid W) :
    Calls Tryz.prog 9 args W fun e W' => ∃ v, e = .returned v ∧ Rows.planTreesSpec.post enc Tryz.prog Tryz.f9 false true false false W args v W' := by
  have hW' := hW
  obtain ⟨p, q, hA0, hV, rfl, hfz, hnd⟩ := hW
  have hA : DataW.TrodAll enc Tryz.prog W 0 (fun _ => true) true Tryz.f9.params.toList args.toList ds p := hA0
  rw [Tryz.params9] at hA hval hsz
  obtain ⟨v0, vs0, d0, ds0, p0, q0, hargs, rfl, rfl, h0, r0⟩ := trodAll_cons hA
  obtain ⟨v1, vs1, d1, ds1, p1, q1, rfl, rfl, rfl, h1, r1⟩ := trodAll_cons r0
  obtain ⟨v2, vs2, d2, ds2, p2, q2, rfl, rfl, rfl, h2, r2⟩ := trodAll_cons r1
  obtain ⟨v3, vs3, d3, ds3, p3, q3, rfl, rfl, rfl, h3, r3⟩ := trodAll_cons r2
  obtain ⟨v4, vs4, d4, ds4, p4, q4, rfl, rfl, rfl, h4, r4⟩ := trodAll_cons r3
  obtain ⟨rfl, rfl, rfl⟩ := trodAll_nil r4
  obtain rfl : args = #[v0, v1, v2, v3, v4] := by cases args; simp_all
  obtain ⟨rfl, rfl⟩ := trodVars_none hV
  have lt0 : ∀ x ∈ p0, x.block < W.heap.size := by obtain ⟨m, hm⟩ := h0; exact DataW.trod_lt m _ _ _ hm
  obtain ⟨n0, rfl, hat0, hwf0, hz0⟩ := net_in (hval 0 25 v0 rfl rfl) h0
  have lt1 : ∀ x ∈ p1, x.block < W.heap.size := by obtain ⟨m, hm⟩ := h1; exact DataW.trod_lt m _ _ _ hm
  obtain ⟨z1, rfl⟩ := okWide_int Tryz.underlying3 (hval 1 3 v1 rfl rfl)
  have lt2 : ∀ x ∈ p2, x.block < W.heap.size := by obtain ⟨m, hm⟩ := h2; exact DataW.trod_lt m _ _ _ hm
  obtain ⟨z2, rfl⟩ := okWide_int Tryz.underlying3 (hval 2 3 v2 rfl rfl)
  have lt3 : ∀ x ∈ p3, x.block < W.heap.size := by obtain ⟨m, hm⟩ := h3; exact DataW.trod_lt m _ _ _ hm
  obtain ⟨z3, rfl⟩ := okWide_int Tryz.underlying3 (hval 3 3 v3 rfl rfl)
  have lt4 : ∀ x ∈ p4, x.block < W.heap.size := by obtain ⟨m, hm⟩ := h4; exact DataW.trod_lt m _ _ _ hm
  obtain ⟨z4, rfl⟩ := okWide_int Tryz.underlying3 (hval 4 3 v4 rfl rfl)
  have hall := hsz
  simp only [List.cons_append, DataW.weightsEach, List.all_append, Bool.and_eq_true] at hall
  have hm0 := hz0 hall.1
  unfold reachBytes at hm0
  have hT := tabs_of hL
  have hG : 2 ≤ W.heap.size := hT.lt
  clear hA0 hall hsz
  refine (ptrees_any n0 z1 z2 z3 z4 W hat0 hwf0 hT hG).mono fun e W' ⟨he, bel⟩ => ?_
  subst he
  exact ⟨_, rfl, _, _, _, [], _, [], hW', trodAll_mk1 (shut_bool Tryz.underlying4 _), (trodAll_cons_mk (Below.trod laidOut (by kernel_rfl) (of_decide_eq_true (by kernel_rfl)) h0 bel lt0) (trodAll_cons_mk (Below.trod laidOut (by kernel_rfl) (of_decide_eq_true (by kernel_rfl)) h1 bel lt1) (trodAll_cons_mk (Below.trod laidOut (by kernel_rfl) (of_decide_eq_true (by kernel_rfl)) h2 bel lt2) (trodAll_cons_mk (Below.trod laidOut (by kernel_rfl) (of_decide_eq_true (by kernel_rfl)) h3 bel lt3) (trodAll_cons_mk (Below.trod laidOut (by kernel_rfl) (of_decide_eq_true (by kernel_rfl)) h4 bel lt4) trodAll_mk0))))), rfl, bel.frame _, fun h => by cases h⟩

theorem laid_met (os : Os) : laidMet Tryz.prog Rows.planTreesRow.laid ((laidW (World.holding Tryz.prog os ⟨#[], #[], []⟩)).forCall (fun _ _ => 0) ⟨#[], #[.agg #[.slice none 0 0, .slice none 0 0], .int .i64 0, .int .i64 0, .int .i64 0, .int .i64 0], []⟩).memory :=
  laidMet_of_run' 8 (by kernel_rfl) (by kernel_rfl)
theorem reads (os : Os) {H : Type} (enc : TypeId × Value → H) : ∃ places, DataW.whole enc Tryz.prog ((laidW (World.holding Tryz.prog os ⟨#[], #[], []⟩)).forCall (fun _ _ => 0) ⟨#[], #[.agg #[.slice none 0 0, .slice none 0 0], .int .i64 0, .int .i64 0, .int .i64 0, .int .i64 0], []⟩).memory Tryz.f9.params.toList Rows.planTreesSpec.vars false #[Value.agg #[.slice none 0 0, .slice none 0 0], .int .i64 0, .int .i64 0, .int .i64 0, .int .i64 0].toList 8 = some ([.agg [.nil, .nil], .lit (.int .i64 0), .lit (.int .i64 0), .lit (.int .i64 0), .lit (.int .i64 0)], [], places) :=
  ⟨[], by kernel_rfl⟩

set_option maxRecDepth 100000 in
theorem lifted (os : Os) (started : os.Started) (H : Type) (enc : TypeId × Value → H) (F : Stop.Interp) :
    ReturnsInHanded {} Tryz.checked os 9 .any ((OpenSpec.ofChange Rows.planTreesSpec).preRow enc Tryz.prog Tryz.f9 Rows.planTreesRow.domain false Rows.planTreesRow.laid) (((OpenSpec.ofChange Rows.planTreesSpec).at F).post enc Tryz.prog Tryz.f9 false true false false) := by
  obtain ⟨places, hx⟩ := reads os enc
  refine returnsInHanded_of_row (C := Tryz.checked) (s := OpenSpec.ofChange Rows.planTreesSpec) own started (by kernel_rfl) Tryz.func9
    (witness_row_at (enc := enc) (C := Tryz.checked) false (laidW (World.holding Tryz.prog os ⟨#[], #[], []⟩)) #[.agg #[.slice none 0 0, .slice none 0 0], .int .i64 0, .int .i64 0, .int .i64 0, .int .i64 0] rfl (by kernel_rfl) (by kernel_rfl) (by kernel_rfl)
      (OpenSpec.preRow_of_cond 8 hx (by kernel_rfl) (fun k hk => by cases hk) (by kernel_rfl) (laid_met os))) ?_
  intro W base args ds gs before hval hW _ _ hsz hL _ _
  exact contract H enc W base args ds gs before hval hW hsz hL

theorem said : Rows.PlanTreesSaid :=
  OpenClaim.holds_of_cond 9 Tryz.f9 rfl rfl rfl rfl rfl rfl rfl ⟨rfl, rfl, rfl, rfl, rfl⟩ rfl rfl rfl rfl rfl (by kernel_rfl) Tryz.func9 (by kernel_rfl)
    (of_decide_eq_true (by kernel_rfl)) (by unfold Func.isWrapper; first | (rw [if_pos (by decide +kernel)]; kernel_rfl) | (rw [if_neg (by decide +kernel)]; exact ⟨rfl, rfl⟩))
    (fun os started H enc _ F => by rw [OpenClaim.pre_eq_preRow]; exact lifted os started H enc F)

theorem plain (f : FuncId) (fn : Func) (hf : Tryz.pinned.checked.prog.funcNamed "hedgerow/hedgelaw6.PlanTrees" = some f) (hfn : Tryz.pinned.checked.prog.funcs[f]? = some fn) :
    false = Tryz.pinned.checked.prog.looks [] ∧ ∀ (j : Nat) t, fn.params[j]? = some t → Tryz.pinned.checked.prog.wantsStandIn t = false := by
  obtain rfl : f = 9 := Option.some.inj ((show Tryz.prog.funcNamed "hedgerow/hedgelaw6.PlanTrees" = some 9 by kernel_rfl).symm.trans hf) |>.symm
  obtain rfl : fn = Tryz.f9 := (Option.some.inj (Tryz.func9.symm.trans hfn)).symm
  refine ⟨by kernel_rfl, fun j t ht => ?_⟩
  rw [Tryz.params9] at ht
  have h1 : Tryz.prog.wantsStandIn 25 = false := by kernel_rfl
  have h2 : Tryz.prog.wantsStandIn 3 = false := by kernel_rfl
  have ht2 : t = 25 ∨ t = 3 := by simpa using Array.mem_of_getElem? ht
  rcases ht2 with rfl | rfl
  · exact h1
  · exact h2

/-- ████ THE CARD ████ -/
theorem card : Rows.PlanTreesCardSaid :=
  Claim7.holds_tied_plain_at .later [] _ _ _ _ said (fun _ h => by cases h) (by kernel_rfl) (fun _ h => by cases h) planTrees_row_tie rfl ⟨rfl, rfl⟩ (by kernel_rfl) rfl plain (by kernel_rfl)
end Go.Proofs.YtcbpafpaimpfnaaGreatDoor.planTrees
namespace Go.Proofs.YtcbpafpaimpfnaaGreatDoor
/-- EACH TREE ON ITS OWN: the statement, as it was given. -/
theorem planTrees_card : Rows.PlanTreesCardSaid := planTrees.card
#print axioms planTrees_card
end Go.Proofs.YtcbpafpaimpfnaaGreatDoor
