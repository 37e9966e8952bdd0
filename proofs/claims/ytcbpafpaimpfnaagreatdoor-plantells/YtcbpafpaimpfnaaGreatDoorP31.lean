/- The document's Plan: rows of ints and of vectors that it writes; what they come to -/
import Derived.Test.YtcbpafpaimpfnaaGreatDoorP28
import Derived.Test.YtcbpafpaimpfnaaGreatDoorP30
import Derived.Test.YtcbpafpaimpfnaaGreatDoorP27
import Derived.Test.YtcbpafpaimpfnaaGreatDoorP13
import Derived.Test.YtcbpafpaimpfnaaGreatDoorP12
import Derived.Test.YtcbpafpaimpfnaaGreatDoorP23
namespace Go.Proofs.YtcbpafpaimpfnaaGreatDoor
section
open Go.RowKit
open Vc (V Of)
open Pl (Br Net Pc Lk En St LN)
set_option maxRecDepth 100000 in
set_option maxHeartbeats 4000000 in
theorem rlive_any (n : Net) (w : World) (hat : n.at' w) (R : n.Right) :
  Calls Tryz.prog 18 #[n.val] w fun e w' => ∃ ao cap, e = .returned (.slice ao n.lvs.length cap) ∧ LRow w' ao n.lvs.length cap (fun j => n.ls (LN n.lvs j)) ∧ NilOk ao n.lvs.length cap ∧ (∀ ad, ao = some ad → w.heap.size ≤ ad.block) ∧ Below w.heap.size w w' := by
 obtain ⟨X0, HX0⟩ : ∃ X, Hid (X = w.alloc (.cells #[.slice n.bao n.K n.bcap, .slice n.lao n.L n.lcap] 25)) := ⟨_, rfl⟩
 have hXB : Below w.heap.size w X0 := by rw [HX0.out]; exact below_alloc1 _ _
 have hXs : X0.heap.size = w.heap.size + 1 := by rw [HX0.out]; simp
 have hXn : X0.heap[w.heap.size]? = some (.cells #[.slice n.bao n.K n.bcap, .slice n.lao n.L n.lcap] 25 (0, 0)) := by rw [HX0.out]; exact heap_alloc_last _ _
 have HC : Hid (∀ W, Below X0.heap.size X0 W → (W.cell? ⟨w.heap.size, 0, none⟩ = some (.slice n.bao n.K n.bcap) ∧ W.cell? ⟨w.heap.size, 1, none⟩ = some (.slice n.lao n.L n.lcap)) ∧ n.at' W ∧ Below w.heap.size w W) := fun W hW => by
  have h1 : Below w.heap.size w W := hXB.trans (hW.mono hXB.size)
  exact ⟨two_cells2 (keep hXn hW), hat.below h1, h1⟩
 have HR : Hid n.Right := R
 have hK := R.few
 have hL := R.fewL
 have hcap := hat.brs.1
 have hcapL := hat.lks.1
 obtain ⟨G, HG⟩ : ∃ G, Hid (G = w.heap.size + 1) := ⟨_, rfl⟩
 have hmk : ∀ W : World, (Instr.makeSlice 92 (.int .i64 (n.K : Int)) (.int .i64 (n.K : Int))).run Tryz.prog W = .ok (.slice (some ⟨W.heap.size, 0, none⟩) n.K n.K) (W.alloc (.cells (rowC n.K 1 (fun _ _ => .slice none 0 0)) 93)) := fun W => make_rowD W 92 93 (.slice none 0 0) 1 24 n.K Tryz.underlying92 infoBytes (by omega) rfl (by omega) (by omega) _ (fun _ j hj => by rw [show j = 0 by omega]; rfl)
 have H0 : Hid (∃ v, IdsAt (X0.alloc (.cells (rowC n.K 1 (fun _ _ => .slice none 0 0)) 93)) G n.K n.bs v 0 ∧ Below X0.heap.size X0 (X0.alloc (.cells (rowC n.K 1 (fun _ _ => .slice none 0 0)) 93))) := ⟨fun _ => .slice none 0 0, ⟨by rw [HG.out, ← hXs]; exact heap_alloc_last _ _, fun i hi => absurd hi (by omega)⟩, below_alloc1 _ _⟩
 obtain ⟨⟨n0, n1⟩, _⟩ := HC.out X0 (Below.refl _ _)
 obtain ⟨⟨m0, m1⟩, _⟩ := HC.out (X0.alloc (.cells (rowC n.K 1 (fun _ _ => .slice none 0 0)) 93)) (below_alloc1 _ _)
 rw [HX0.out] at n0 n1 m0 m1
 clear hat R hXn hXB
 simp only [Pl.Net.val]
 go_enter Tryz.func18, Tryz.ntmps18
 go_wp2_with fail
 rw [← HX0.out]
 rw [← HG.out]
 clear n0 n1 m0 m1
 go_loopw [16] (fun i wr => ∃ k : Nat, k ≤ n.K ∧ i = .int .i64 k ∧ Hid (∃ v, IdsAt wr G n.K n.bs v k ∧ Below X0.heap.size X0 wr)) (fun i _ => n.K - (intOf i).toNat)
 case atStart => exact ⟨0, by omega, rfl, H0⟩
 case round =>
  obtain ⟨k, hk, rfl, hX⟩ := hrel
  clear H0
  obtain ⟨v, hI, hB⟩ := hX.out
  by_cases hlt : k < n.K
  ·have hatW := (HC.out wr hB).2.1
   obtain ⟨b, off, eb, _⟩ := CRow.some hatW.brs (by omega)
   have hbr := hatW.brs
   rw [eb] at hbr ⊢
   obtain ⟨c0, c1, c2, c3, c4⟩ := BRow.cells hbr hlt
   obtain ⟨X, HX⟩ : ∃ X, Hid (X = wr.alloc (.cells (brA (n.bs k)) 40)) := ⟨_, rfl⟩
   have hXB : Below wr.heap.size wr X := by rw [HX.out]; exact below_alloc1 _ _
   have hX5 : X.heap[wr.heap.size]? = some (.cells (brA (n.bs k)) 40 (0, 0)) := by rw [HX.out]; exact heap_alloc_last _ _
   have hIX := hI.below hXB
   have hBX : Below X0.heap.size X0 X := hB.trans (hXB.mono hB.size)
   obtain ⟨d0, d1, d2, d3, d4⟩ := br_cells hX5
   have HCL : Hid (Calls Tryz.prog 40 #[.agg #[.string (n.bs k).reg.s, .int .i64 (n.bs k).reg.rev, .slice (n.bs k).reg.ao (n.bs k).reg.n (n.bs k).reg.cap]] X fun e w' => ∃ ro rc, e = .returned (.slice ro 50 rc) ∧ w'.cell? ⟨G, k, none⟩ = some (v k) ∧ w'.frozen? ⟨G, k, none⟩ = false ∧ Hid (∃ v, IdsAt (w'.setCell ⟨G, k, none⟩ (.slice ro 50 rc)) G n.K n.bs v (k + 1) ∧ Below X0.heap.size X0 (w'.setCell ⟨G, k, none⟩ (.slice ro 50 rc)))) := by
    obtain ⟨_, x2, _⟩ := HC.out X hBX
    have hok := (HR.out.fine k hlt).reg
    refine (rident_new (n.bs k).reg.s (n.bs k).reg.rev (n.bs k).reg.ao (n.bs k).reg.n (n.bs k).reg.cap (n.bs k).reg.vs (n.bs k).reg.ts X (Rg.isName_parts hok.1).2.1 hok.2.1 hok.2.2 (x2.each k hlt).2.1).mono ?_
    rintro e w' ⟨ro, rc, rfl, y1, y2, y3⟩
    have z1 := hIX.below y2
    have hBw : Below X0.heap.size X0 w' := hBX.trans (y2.mono hBX.size)
    have e1 : (⟨G, k, none⟩ : Addr) = ⟨G, k * 1 + 0, none⟩ := by simp
    have hGlt : G < X.heap.size := by have := (Array.getElem?_eq_some_iff.1 hIX.1).1; exact this
    obtain ⟨rb, roff, er, hrb, _⟩ := y1.2 (by omega)
    subst er
    have hne : rb ≠ G := by have := y3 _ rfl; simp only at this; omega
    refine ⟨_, rc, rfl, ?_, ?_, fun i => if i = k then .slice (some ⟨rb, roff, none⟩) 50 rc else v i, ⟨?_, fun i hi => ?_⟩, hBw.setCell (by rw [HG.out, hXs]; exact Nat.le_refl _) _⟩
    ·rw [e1]; exact rowC_cell z1.1 hlt (by omega)
    ·exact lk_free0 z1.1 _
    ·rw [e1, rowC_set z1.1 hlt (by omega), rowC_congr2 (d := fun i _ => if i = k then .slice (some ⟨rb, roff, none⟩) 50 rc else v i) (fun i _ j hj => by
      unfold updC
      by_cases q : i = k
      ·rw [if_pos ⟨q, by omega⟩, if_pos q]
      ·rw [if_neg (fun p => q p.1), if_neg q])]
    ·have oth : ∀ b, b ≠ G → (w'.setCell ⟨G, k, none⟩ (.slice (some ⟨rb, roff, none⟩) 50 rc)).heap[b]? = w'.heap[b]? := fun b hb => heap_setCell_other _ _ _ _ (by exact hb)
     by_cases q : i = k
     ·subst q
      exact ⟨rb, roff, rc, if_pos rfl, byteRow_other y1 (fun b off e _ => by cases e; exact oth _ hne) (by simp), hne⟩
     ·obtain ⟨b1, off1, rc1, q1, q2, q3⟩ := z1.2 i (by omega)
      exact ⟨b1, off1, rc1, by simp only; rw [if_neg q]; exact q1, byteRow_other q2 (fun b off e _ => by cases e; exact oth _ q3) (by simp), q3⟩
   clear hX hI hB hIX hBX hXB hX5 hbr hatW eb
   simp only [brA] at *
   generalize (n.bs k).reg.s = s at *
   have i0 : (0 : Int) ≤ (k : Int) := by omega
   have i1 : (k : Int) < (n.K : Int) := by omega
   go_wp2_with fail
   rw [← HX.out]
   refine HCL.out.mono ?_
   rintro e w1 ⟨ro, rc, rfl, k1, k2, HN⟩
   clear HCL
   go_wp2_with fail
   exact ⟨⟨k + 1, by omega, by go_num, HN⟩, by simp [intOf]; omega⟩
  ·obtain hkK : k = n.K := by omega
   rw [hkK] at hI
   have hnk : ¬ (k : Int) < (n.K : Int) := by omega
   obtain ⟨⟨m0, m1⟩, _⟩ := HC.out wr hB
   obtain ⟨w1, hw1⟩ : ∃ w1, w1 = wr := ⟨_, rfl⟩
   subst hw1
   have HFR : Hid (∀ W, Below w1.heap.size w1 W → IdsAt W G n.K n.bs v n.K ∧ LRow W n.lao n.L n.lcap n.ls ∧ Below w.heap.size w W) := fun W hW => by
    obtain ⟨_, x2, x3⟩ := HC.out W (hB.trans (hW.mono hB.size))
    exact ⟨hI.below hW, x2.lks, x3⟩
   have H1 : Hid (w1.ownsRow w1.heap.size 46 6 (.slice none (n.lvsTo 0).length 0) (n.lvsTo 0).length (lkCells n.ls (n.lvsTo 0)) ∧ Below w1.heap.size w1 w1) := ⟨ownsC_nil _ _ _ _ _, Below.refl _ _⟩
   clear hX hI hB HC hmk
   go_wp2_with fail
   clear m0 m1
   go_loopw [3, 31] (fun s3 i wr => ∃ (j : Nat) (ao : Option Addr) (cap : Nat), j ≤ n.L ∧ i = .int .i64 j ∧ s3 = .slice ao (n.lvsTo j).length cap ∧ Hid (wr.ownsRow w1.heap.size 46 6 (.slice ao (n.lvsTo j).length cap) (n.lvsTo j).length (lkCells n.ls (n.lvsTo j)) ∧ Below w1.heap.size w1 wr)) (fun _ i _ => n.L - (intOf i).toNat)
   case atStart => exact ⟨0, none, 0, by omega, rfl, rfl, H1⟩
   case round =>
    obtain ⟨j, ao, cap, hj, rfl, rfl, hY⟩ := hrel
    clear H1
    by_cases hlt2 : j < n.L
    ·obtain ⟨hO, hB⟩ := hY.out
     obtain ⟨f1, f2, _⟩ := HFR.out wr hB
     obtain ⟨lb, loff, el, _⟩ := CRow.some f2 (by omega)
     rw [el] at f2 ⊢
     obtain ⟨c0, c1, c2, c3, c4, c5⟩ := LRow.cells f2 hlt2
     obtain ⟨o1, o2, o3, _⟩ := HR.out.links.ok j hlt2
     have hnext := n.lvsTo_next j
     have hfew := n.lvsTo_few j
     have hlv : n.live j = ((n.ls j).up && decide (strOf 50 (n.bs (n.ls j).a.toNat).reg.id = strOf 50 (n.bs (n.ls j).b.toNat).reg.id)) := rfl
     obtain ⟨na, hna⟩ : ∃ na : Nat, (n.ls j).a = na := ⟨(n.ls j).a.toNat, by omega⟩
     obtain ⟨nb, hnb⟩ : ∃ nb : Nat, (n.ls j).b = nb := ⟨(n.ls j).b.toNat, by omega⟩
     have ha : na < n.K := by omega
     have hb : nb < n.K := by omega
     have hta : (n.ls j).a.toNat = na := by omega
     have htb : (n.ls j).b.toNat = nb := by omega
     rw [hta, htb] at hlv
     obtain ⟨Z, HZ⟩ : ∃ Z, Hid (Z = wr.alloc (.cells (lkA (n.ls j)) 46)) := ⟨_, rfl⟩
     have hZB : Below wr.heap.size wr Z := by rw [HZ.out]; exact below_alloc1 _ _
     have hZl : Z.heap[wr.heap.size]? = some (.cells (lkA (n.ls j)) 46 (0, 0)) := by rw [HZ.out]; exact heap_alloc_last _ _
     have HZS : Hid (Z.heap.size = wr.heap.size + 1) := by show _ = _; rw [HZ.out]; simp
     have g3 := f1.below hZB
     obtain ⟨q0, q1, q2, q3, q4, q5⟩ := lk_cells hZl
     have eA : (⟨G, na, none⟩ : Addr) = ⟨G, na * 1 + 0, none⟩ := by simp
     have eB : (⟨G, nb, none⟩ : Addr) = ⟨G, nb * 1 + 0, none⟩ := by simp
     have ca : Z.cell? ⟨G, na, none⟩ = some (v na) := by rw [eA]; exact rowC_cell g3.1 ha (by omega)
     have cb : Z.cell? ⟨G, nb, none⟩ = some (v nb) := by rw [eB]; exact rowC_cell g3.1 hb (by omega)
     obtain ⟨ab, aoff, arc, xa, ra, _⟩ := g3.2 na ha
     obtain ⟨bb, boff, brc, xb, rb, _⟩ := g3.2 nb hb
     rw [xa] at ca
     rw [xb] at cb
     have HEQ : Hid (∀ m, Calls Tryz.prog 41 #[.slice (some ⟨ab, aoff, none⟩) 50 arc, .slice (some ⟨bb, boff, none⟩) 50 brc] (Z.drewN m) fun e w' => e = .returned (.bool (decide (strOf 50 (n.bs na).reg.id = strOf 50 (n.bs nb).reg.id))) ∧ w' = Z.drewN m) := fun m => rsame_any _ _ 50 _ 50 _ _ _ (Z.drewN m) (ra.below (below_drewN (Below.refl _ _) m)) (fun h => by cases h) (rb.below (below_drewN (Below.refl _ _) m)) (fun h => by cases h)
     have i0 : (0 : Int) ≤ (j : Int) := by omega
     have i1 : (j : Int) < (n.L : Int) := by omega
     have ia0 : (0 : Int) ≤ (na : Int) := by omega
     have ia1 : (na : Int) < (n.K : Int) := by omega
     have ib0 : (0 : Int) ≤ (nb : Int) := by omega
     have ib1 : (nb : Int) < (n.K : Int) := by omega
     have HNO : Hid (n.live j = false → ∀ W, Below Z.heap.size Z W → W.ownsRow w1.heap.size 46 6 (.slice ao (n.lvsTo (j + 1)).length cap) (n.lvsTo (j + 1)).length (lkCells n.ls (n.lvsTo (j + 1))) ∧ Below w1.heap.size w1 W) := fun hl W hW => by
      rw [hl, if_neg (by decide), List.append_nil] at hnext
      have h1 : Below wr.heap.size wr W := hZB.trans (hW.mono hZB.size)
      rw [hnext]
      exact ⟨ownsC_below hO h1, hB.trans (h1.mono hB.size)⟩
     have HLN : Hid (n.live j = false → (n.lvsTo (j + 1)).length = (n.lvsTo j).length) := fun hl => by
      rw [hl, if_neg (by decide), List.append_nil] at hnext
      rw [hnext]
     have HYE : Hid (n.live j = true → ∀ m, ∃ a1 c1' w2, (Builtin.append_ #[23, 23] 23 #[.slice ao (n.lvsTo j).length cap, .slice (some ⟨wr.heap.size + 1, 0, none⟩) 1 1]).run Tryz.prog ((Z.drewN m).alloc (.cells (lkA (n.ls j)) 46)) = .ok (.slice a1 ((n.lvsTo j).length + 1) c1') w2 ∧ Hid (w2.ownsRow w1.heap.size 46 6 (.slice a1 (n.lvsTo (j + 1)).length c1') (n.lvsTo (j + 1)).length (lkCells n.ls (n.lvsTo (j + 1))) ∧ Below w1.heap.size w1 w2) ∧ Hid ((n.lvsTo (j + 1)).length = (n.lvsTo j).length + 1)) := fun hl m => by
      rw [hl, if_pos rfl] at hnext
      have h1 : Below wr.heap.size wr (Z.drewN m) := below_drewN hZB m
      have hs : (Z.drewN m).heap.size = wr.heap.size + 1 := HZS.out
      have h2 : Below (Z.drewN m).heap.size (Z.drewN m) ((Z.drewN m).alloc (.cells (lkA (n.ls j)) 46)) := below_alloc1 _ _
      have h3 : Below wr.heap.size wr ((Z.drewN m).alloc (.cells (lkA (n.ls j)) 46)) := h1.trans (h2.mono h1.size)
      have hr : LRow ((Z.drewN m).alloc (.cells (lkA (n.ls j)) 46)) (some ⟨wr.heap.size + 1, 0, none⟩) 1 1 (fun _ => n.ls j) := by rw [← hs]; exact one_lk_row (heap_alloc_last _ _)
      obtain ⟨a1, c1', w2, r, ho2, hb2, _⟩ := append_c ((Z.drewN m).alloc (.cells (lkA (n.ls j)) 46)) 23 46 _ 6 48 Tryz.underlying23 infoLk rfl (by omega) w1.heap.size (.slice ao (n.lvsTo j).length cap) (n.lvsTo j).length (fun i => lkC (n.ls (LN (n.lvsTo j) i))) (ownsC_below hO h3) (some ⟨wr.heap.size + 1, 0, none⟩) 1 1 (fun _ => lkC (n.ls j)) (fun _ q => lkC_one _ q) hr (fun h => by cases h) (by unfold maxLen; omega) (by omega) (by have := hB.size; have := h3.size; omega)
      rw [ln_snoc] at ho2
      refine ⟨a1, c1', w2, r, ?_, ?_⟩
      ·rw [hnext, List.length_append]
       exact ⟨ho2, (hB.trans (h3.mono hB.size)).trans hb2⟩
      ·show _ = _
       rw [hnext, List.length_append]; rfl
     clear hY hO hB f1 f2 o1 o2 o3 hnext g3 ra rb xa xb eA eB hZB hZl HFR HR el hta htb
     generalize n.live j = lv at *
     generalize decide (strOf 50 (n.bs na).reg.id = strOf 50 (n.bs nb).reg.id) = D at *
     generalize n.ls j = l at *
     obtain ⟨a, pa, b, pb, c, up⟩ := l
     simp only at hna hnb c0 c1 c2 c3 c4 c5 hlv
     subst hna
     subst hnb
     simp only [lkA] at *
     rw [HZ.out] at q0 q1 q2 q3 q4 q5 ca cb
     cases up with
     | false =>
      have hl2 : lv = false := by rw [hlv, Bool.false_and]
      clear hlv
      subst hl2
      have HNN : Hid _ := HNO.out rfl
      have HNL : Hid _ := HLN.out rfl
      clear HYE HNO HLN HEQ
      go_wp2_with fail
      rw [← HZ.out] at q0 q1 q2 q3 q4 q5 ca cb ⊢
      go_quiet (fail)
      go_wp2_with fail
      exact ⟨⟨j + 1, ao, cap, by omega, by go_num, by rw [HNL.out], HNN.out _ (below_drewN (Below.refl _ _) _)⟩, by simp [intOf]; omega⟩
     | true =>
      have hl2 : lv = D := by rw [hlv, Bool.true_and]
      clear hlv
      subst hl2
      cases lv with
      | false =>
       have HNN : Hid _ := HNO.out rfl
       have HNL : Hid _ := HLN.out rfl
       clear HYE HNO HLN
       go_wp2_with fail
       rw [← HZ.out] at q0 q1 q2 q3 q4 q5 ca cb ⊢
       go_quiet (first | (go_at_call 41; exact Calls.quiet_of_same (HEQ.out _)))
       all_goals go_wp2_with fail
       all_goals exact ⟨⟨j + 1, ao, cap, by omega, by go_num, by rw [HNL.out], HNN.out _ (below_drewN (Below.refl _ _) _)⟩, by simp [intOf]; omega⟩
      | true =>
       have HYY : Hid _ := HYE.out rfl
       clear HYE HNO HLN
       have HQQ : Hid (∀ m, (Z.drewN m).cell? ⟨wr.heap.size, 0, none⟩ = some (.int .i64 na) ∧ (Z.drewN m).cell? ⟨wr.heap.size, 1, none⟩ = some (.int .i64 pa) ∧ (Z.drewN m).cell? ⟨wr.heap.size, 2, none⟩ = some (.int .i64 nb) ∧ (Z.drewN m).cell? ⟨wr.heap.size, 3, none⟩ = some (.int .i64 pb) ∧ (Z.drewN m).cell? ⟨wr.heap.size, 4, none⟩ = some (.int .i64 c) ∧ (Z.drewN m).cell? ⟨wr.heap.size, 5, none⟩ = some (.bool true)) := by
        rw [← HZ.out] at q0 q1 q2 q3 q4 q5
        exact fun m => ⟨q0, q1, q2, q3, q4, q5⟩
       go_wp2_with fail
       rw [← HZ.out] at q0 q1 q2 q3 q4 q5 ca cb ⊢
       go_quiet (first | (go_at_call 41; exact Calls.quiet_of_same (HEQ.out _)))
       generalize hgen : Z.drewN _ = Y
       obtain ⟨m, rfl⟩ : ∃ m, Y = Z.drewN m := ⟨_, hgen.symm⟩
       clear hgen
       obtain ⟨a1, c1', w2, r, HN, HLE⟩ := HYY.out m
       obtain ⟨y0, y1, y2, y3, y4, y5⟩ := HQQ.out m
       have HR2 : Hid _ := r
       have hsz : (Z.drewN m).heap.size = wr.heap.size + 1 := HZS.out
       clear r HYY HQQ HEQ q0 q1 q2 q3 q4 q5 ca cb
       generalize Z.drewN m = Y at *
       go_wp2_with (at_builtin; (try rw [hsz]); refine wpList_append_run rfl (.tmp 50) (.tmp 52) 23 rfl _ _ _ rfl rfl HR2.out ?_)
       exact ⟨⟨j + 1, a1, c1', by omega, by go_num, by rw [HLE.out], HN⟩, by simp [intOf]; omega⟩
    ·obtain hjL : j = n.L := by omega
     obtain ⟨hO, hB⟩ := hY.out
     have hnl : ¬ (j : Int) < (n.L : Int) := by omega
     have HE : Hid (LRow wr ao n.lvs.length cap (fun q => n.ls (LN n.lvs q)) ∧ NilOk ao n.lvs.length cap ∧ (∀ ad, ao = some ad → w.heap.size ≤ ad.block) ∧ Below w.heap.size w wr) := by
      have hlow := (HFR.out wr hB).2.2
      have hw1 := (HFR.out w1 (Below.refl _ _)).2.2.size
      rw [hjL] at hO
      obtain ⟨a1, c1, e1, h1, h2, h3⟩ := owns_c (by omega) hO
      injection e1 with e1 _ e2
      subst e1
      subst e2
      exact ⟨h1, h2, fun ad e => Nat.le_trans hw1 (h3 ad e), hlow⟩
     clear hY hO hB HFR
     go_wp2_with fail
     go_ret
     exact ⟨ao, cap, rfl, HE.out.1, HE.out.2.1, HE.out.2.2.1, HE.out.2.2.2⟩
end
section
open Go.RowKit
open Vc (V Of)
open Pl (Br Net Pc Lk En St)
set_option maxRecDepth 100000 in
set_option maxHeartbeats 1000000 in
theorem rid6_any (b : Br) (tree : Int) (w : World) (hb : b.at' w) (hf : b.Fine) (ht : 0 ≤ tree ∧ tree ≤ 15) :
  Calls Tryz.prog 16 #[.agg (brA b), .int .i64 tree] w fun e w' => e = .returned (.int .u64 (b.id tree)) ∧ Below w.heap.size w w' := by
 obtain ⟨X, HX⟩ : ∃ X, Hid (X = w.alloc (.cells (brA b) 40)) := ⟨_, rfl⟩
 have hXB : Below w.heap.size w X := by rw [HX.out]; exact below_alloc1 _ _
 have hp := CRow.below hb.1 hXB
 have hpr := hf.prio
 have hfew := hf.few
 have hadr := hf.addr
 clear hb hf hXB
 unfold Pl.Br.id Pl.Br.prio
 obtain ⟨addr, pao, pn, pcap, pv, ⟨s, rev, ao, n, cap, vs, ts⟩⟩ := b
 simp only [brA] at *
 by_cases h : tree ≤ (pn : Int) - 1
 ·rw [if_pos ⟨ht.1, h⟩]
  obtain ⟨k, hk⟩ : ∃ k : Nat, tree = k := ⟨tree.toNat, by omega⟩
  subst hk
  have hkn : k < pn := by omega
  obtain ⟨pb, poff, rfl, _⟩ := CRow.some hp (by omega)
  have c0 := IRow.cells hp hkn
  have hcap := hp.1
  have hv := hpr k hkn
  rw [Int.toNat_natCast]
  generalize pv k = p at *
  have i0 : (0 : Int) ≤ (k : Int) := by omega
  have i1 : (k : Int) < (pn : Int) := by omega
  have u0 : IntKind.u64.wrap p = p := wraps_u64 _ (by omega) (by omega)
  have u1 : IntKind.u64.wrap (p * 281474976710656) = p * 281474976710656 := wraps_u64 _ (by omega) (by omega)
  have u2 : IntKind.u64.wrap (p * 281474976710656 + addr) = p * 281474976710656 + addr := wraps_u64 _ (by omega) (by omega)
  rw [HX.out] at c0
  clear hp hpr
  go_enter Tryz.func16, Tryz.ntmps16
  go_wp2_with fail
  go_ret
  exact ⟨rfl, below_alloc1 _ _⟩
 ·rw [if_neg (fun q => h q.2)]
  have i1 : ¬ tree < (pn : Int) := by omega
  have u2 : IntKind.u64.wrap (32768 * 281474976710656 + addr) = 32768 * 281474976710656 + addr := wraps_u64 _ (by omega) (by omega)
  clear hp hpr
  go_enter Tryz.func16, Tryz.ntmps16
  go_wp2_with fail
  go_ret
  exact ⟨rfl, below_alloc1 _ _⟩
end
section
namespace Pl
open Vc (V Of)
section
variable {ids : Nat → Int} {ls : Nat → Lk} {lv : Nat → Bool} {K L m : Nat} {on : Nat → Nat} {b : Nat}
end
theorem Net.lives (n : Net) : Lives n.ls n.live n.L n.lvs.length (LN n.lvs) := by
 refine ⟨fun j hj => n.lvs_mem hj, fun k hk hl => ?_⟩
 have hm : k ∈ n.lvs := by
  unfold Net.lvs Net.lvsTo
  exact List.mem_filter.2 ⟨List.mem_range.2 hk, hl⟩
 obtain ⟨j, hj, e⟩ := List.getElem_of_mem hm
 exact ⟨j, hj, by rw [LN_get hj]; exact e⟩
end Pl
end
section
open Go.RowKit
open Vc (V Of)
open Pl (Br Net Pc Lk En St LN)
def IaAt (W : World) (g K : Nat) (f : Nat → Int) : Prop := W.heap[g]? = some (.cells (rowC K 1 (fun i _ => .int .i64 (f i))) 3 (0, 0))
def VaAt (W : World) (g K : Nat) (v : Nat → V) : Prop := W.heap[g]? = some (.cells (rowC K 4 (fun i => vC (v i))) 48 (0, 0))
section
variable {W : World} {g K : Nat} {f : Nat → Int} {v : Nat → V}
theorem IaAt.cell (h : IaAt W g K f) {i : Nat} (hi : i < K) : W.cell? ⟨g, i, none⟩ = some (.int .i64 (f i)) ∧ W.frozen? ⟨g, i, none⟩ = false := by
 have h1 := rowC_cell h hi (show 0 < 1 by omega)
 rw [show i * 1 + 0 = i by omega] at h1
 exact ⟨h1, frozen_of_row _ _ _ _ _ h⟩
theorem IaAt.set (h : IaAt W g K f) {i : Nat} (hi : i < K) (z : Int) : IaAt (W.setCell ⟨g, i, none⟩ (.int .i64 z)) g K (fun j => if j = i then z else f j) := by
 have h0 := rowC_set h hi (show 0 < 1 by omega) (.int .i64 z)
 rw [show i * 1 + 0 = i by omega] at h0
 unfold IaAt
 rw [h0, rowC_congr2 (d := fun j _ => .int .i64 (if j = i then z else f j)) (fun j _ m hm => ?_)]
 unfold updC
 obtain rfl : m = 0 := by omega
 by_cases e : j = i
 ·rw [if_pos ⟨e, rfl⟩, if_pos e]
 ·rw [if_neg (fun q => e q.1), if_neg e]
theorem IaAt.congr {h : Nat → Int} (hr : IaAt W g K f) (e : ∀ i, i < K → f i = h i) : IaAt W g K h := by
 unfold IaAt at hr ⊢
 rw [hr, rowC_congr2 (fun i hi j _ => by rw [e i hi])]
theorem IaAt.row (h : IaAt W g K f) : IRow W (some ⟨g, 0, none⟩) K K f :=
 ⟨Nat.le_refl _, fun _ => ⟨g, 0, rfl, plt_some h, fun i hi j hj => by rw [Nat.zero_add]; exact rowC_cell h hi hj⟩⟩
theorem VaAt.cells (h : VaAt W g K v) {i : Nat} (hi : i < K) : (W.cell? ⟨g, i * 4, none⟩ = some (.int .u64 (v i).root) ∧ W.cell? ⟨g, i * 4 + 1, none⟩ = some (.int .i64 (v i).cost) ∧ W.cell? ⟨g, i * 4 + 2, none⟩ = some (.int .u64 (v i).bridge) ∧ W.cell? ⟨g, i * 4 + 3, none⟩ = some (.int .i64 (v i).port)) ∧ ∀ j, W.frozen? ⟨g, j, none⟩ = false :=
 ⟨⟨rowC_cell h hi (show 0 < 4 by omega), rowC_cell h hi (show 1 < 4 by omega), rowC_cell h hi (show 2 < 4 by omega), rowC_cell h hi (show 3 < 4 by omega)⟩, fun _ => frozen_of_row _ _ _ _ _ h⟩
theorem VaAt.congr {u : Nat → V} (hr : VaAt W g K v) (e : ∀ i, i < K → v i = u i) : VaAt W g K u := by
 unfold VaAt at hr ⊢
 rw [hr, rowC_congr2 (fun i hi j _ => by rw [e i hi])]
theorem VaAt.root (h : VaAt W g K v) {i : Nat} (hi : i < K) (z : Int) : VaAt (W.setCell ⟨g, i * 4, none⟩ (.int .u64 z)) g K (fun j => if j = i then ⟨z, (v j).cost, (v j).bridge, (v j).port⟩ else v j) := by
 have h0 := rowC_set h hi (show 0 < 4 by omega) (.int .u64 z)
 rw [show i * 4 + 0 = i * 4 by omega] at h0
 unfold VaAt
 rw [h0, rowC_congr2 (d := fun j => vC (if j = i then ⟨z, (v j).cost, (v j).bridge, (v j).port⟩ else v j)) (fun j _ m hm => ?_)]
 unfold updC
 by_cases e : j = i
 ·subst e
  rw [if_pos rfl]
  rcases (by omega : m = 0 ∨ m = 1 ∨ m = 2 ∨ m = 3) with q | q | q | q <;> subst q
  ·rw [if_pos ⟨rfl, rfl⟩]; rfl
  ·rw [if_neg (fun z => by omega)]; rfl
  ·rw [if_neg (fun z => by omega)]; rfl
  ·rw [if_neg (fun z => by omega)]; rfl
 ·rw [if_neg (fun q => e q.1), if_neg e]
theorem VaAt.cost (h : VaAt W g K v) {i : Nat} (hi : i < K) (z : Int) : VaAt (W.setCell ⟨g, i * 4 + 1, none⟩ (.int .i64 z)) g K (fun j => if j = i then ⟨(v j).root, z, (v j).bridge, (v j).port⟩ else v j) := by
 have h0 := rowC_set h hi (show 1 < 4 by omega) (.int .i64 z)
 unfold VaAt
 rw [h0, rowC_congr2 (d := fun j => vC (if j = i then ⟨(v j).root, z, (v j).bridge, (v j).port⟩ else v j)) (fun j _ m hm => ?_)]
 unfold updC
 by_cases e : j = i
 ·subst e
  rw [if_pos rfl]
  rcases (by omega : m = 0 ∨ m = 1 ∨ m = 2 ∨ m = 3) with q | q | q | q <;> subst q
  ·rw [if_neg (fun z => by omega)]; rfl
  ·rw [if_pos ⟨rfl, rfl⟩]; rfl
  ·rw [if_neg (fun z => by omega)]; rfl
  ·rw [if_neg (fun z => by omega)]; rfl
 ·rw [if_neg (fun q => e q.1), if_neg e]
theorem VaAt.all (h : VaAt W g K v) {i : Nat} (hi : i < K) (u : V) : VaAt ((((W.setCell ⟨g, i * 4, none⟩ (.int .u64 u.root)).setCell ⟨g, i * 4 + 1, none⟩ (.int .i64 u.cost)).setCell ⟨g, i * 4 + 2, none⟩ (.int .u64 u.bridge)).setCell ⟨g, i * 4 + 3, none⟩ (.int .i64 u.port)) g K (fun j => if j = i then u else v j) := by
 have h0 := rowC_set h hi (show 0 < 4 by omega) (.int .u64 u.root)
 rw [show i * 4 + 0 = i * 4 by omega] at h0
 have h1 := rowC_set h0 hi (show 1 < 4 by omega) (.int .i64 u.cost)
 have h2 := rowC_set h1 hi (show 2 < 4 by omega) (.int .u64 u.bridge)
 have h3 := rowC_set h2 hi (show 3 < 4 by omega) (.int .i64 u.port)
 unfold VaAt
 rw [h3, rowC_congr2 (d := fun j => vC (if j = i then u else v j)) (fun j _ m hm => ?_)]
 unfold updC
 by_cases e : j = i
 ·subst e
  rw [if_pos rfl]
  rcases (by omega : m = 0 ∨ m = 1 ∨ m = 2 ∨ m = 3) with q | q | q | q <;> subst q <;> simp [vC]
 ·simp only [e, false_and, if_false]
theorem VaAt.row (h : VaAt W g K v) : VRow W (some ⟨g, 0, none⟩) K K v :=
 ⟨Nat.le_refl _, fun _ => ⟨g, 0, rfl, plt_some h, fun i hi j hj => by rw [Nat.zero_add]; exact rowC_cell h hi hj⟩⟩
theorem VaAt.other {q o : Nat} {x : Value} (h : VaAt W g K v) (hne : g ≠ q) : VaAt (W.setCell ⟨q, o, none⟩ x) g K v := pset_keep h hne
theorem IaAt.other {q o : Nat} {x : Value} (h : IaAt W g K f) (hne : g ≠ q) : IaAt (W.setCell ⟨q, o, none⟩ x) g K f := pset_keep h hne
end
theorem infoInt1 : (Tryz.prog.info? 3).map (fun i => (i.zero, i.size, i.bytes)) = some (some (.int .i64 0), 1, 8) := by kernel_rfl
theorem infoVc4 : (Tryz.prog.info? 48).map (fun i => (i.zero, i.size, i.bytes)) = some (some (.agg #[.int .u64 0, .int .i64 0, .int .u64 0, .int .i64 0]), 4, 32) := by kernel_rfl
theorem make_ia (W : World) {K : Nat} (hK : K ≤ 1000) : (Instr.makeSlice 35 (.int .i64 (K : Int)) (.int .i64 (K : Int))).run Tryz.prog W = .ok (.slice (some ⟨W.heap.size, 0, none⟩) K K) (W.alloc (.cells (rowC K 1 (fun _ _ => .int .i64 0)) 3)) := make_rowD W 35 3 (.int .i64 0) 1 8 K Tryz.underlying35 infoInt1 (by omega) rfl (by omega) (by omega) _ (fun _ j hj => by rw [show j = 0 by omega]; rfl)
theorem make_va (W : World) {K : Nat} (hK : K ≤ 1000) : (Instr.makeSlice 82 (.int .i64 (K : Int)) (.int .i64 (K : Int))).run Tryz.prog W = .ok (.slice (some ⟨W.heap.size, 0, none⟩) K K) (W.alloc (.cells (rowC K 4 (fun _ => vC Vc.v0)) 48)) := make_rowD W 82 48 _ 4 32 K Tryz.underlying82 infoVc4 (by omega) rfl (by omega) (by omega) _ (fun _ j hj => by
 rcases (by omega : j = 0 ∨ j = 1 ∨ j = 2 ∨ j = 3) with e | e | e | e <;> subst e <;> rfl)
namespace Pl
theorem fStep_bd {f : Nat → Int} {K : Nat} {l : Lk} {B : Int} (h : ∀ i, i < K → 0 ≤ f i ∧ f i ≤ B) (ha : l.a.toNat < K) (hb : l.b.toNat < K) (hc : 0 ≤ l.cost) : ∀ i, i < K → 0 ≤ fStep f l i ∧ fStep f l i ≤ B := by
 have h1 : ∀ i, i < K → 0 ≤ fB f l i ∧ fB f l i ≤ B := fun i hi => by
  have h2 := h _ ha
  have h3 := h i hi
  have h4 := fB_le f l i
  unfold fB at *
  split at * <;> omega
 intro i hi
 have h2 := h1 _ hb
 have h3 := h1 i hi
 have h4 := fA_le (fB f l) l i
 unfold fStep
 unfold fA at *
 split at * <;> omega
theorem fStep_b1 {f : Nat → Int} {l : Lk} (hne : l.a.toNat ≠ l.b.toNat) (hc : 1 ≤ l.cost) (h : f l.a.toNat + l.cost < f l.b.toNat) (i : Nat) : fStep f l i = if i = l.b.toNat then f l.a.toNat + l.cost else f i := by
 have hA : fB f l l.a.toNat = f l.a.toNat := by unfold fB; rw [if_neg (fun z => hne z.1)]
 have hB : fB f l l.b.toNat = f l.a.toNat + l.cost := by unfold fB; rw [if_pos ⟨rfl, h⟩]
 show fA (fB f l) l i = _
 unfold fA
 rw [hA, hB, if_neg (fun z => by omega)]
 unfold fB
 by_cases e : i = l.b.toNat
 ·rw [if_pos ⟨e, h⟩, if_pos e]
 ·rw [if_neg (fun z => e z.1), if_neg e]
theorem fStep_a1 {f : Nat → Int} {l : Lk} (h0 : ¬ f l.a.toNat + l.cost < f l.b.toNat) (h : f l.b.toNat + l.cost < f l.a.toNat) (i : Nat) : fStep f l i = if i = l.a.toNat then f l.b.toNat + l.cost else f i := by
 have hB : ∀ j, fB f l j = f j := fun j => by unfold fB; rw [if_neg (fun z => h0 z.2)]
 show fA (fB f l) l i = _
 unfold fA
 rw [hB, hB, hB]
 by_cases e : i = l.a.toNat
 ·rw [if_pos ⟨e, h⟩, if_pos e]
 ·rw [if_neg (fun z => e z.1), if_neg e]
theorem fStep_01 {f : Nat → Int} {l : Lk} (h0 : ¬ f l.a.toNat + l.cost < f l.b.toNat) (h : ¬ f l.b.toNat + l.cost < f l.a.toNat) (i : Nat) : fStep f l i = f i := by
 have hB : ∀ j, fB f l j = f j := fun j => by unfold fB; rw [if_neg (fun z => h0 z.2)]
 show fA (fB f l) l i = _
 unfold fA
 rw [hB, hB, hB, if_neg (fun z => h z.2)]
end Pl
def RplAt (W : World) (ao : Option Addr) (K cap : Nat) (x : Nat → St) (E : Nat → List En) : Prop :=
 ∃ c, CRow W ao K cap 7 c ∧ ∀ i, i < K → (∀ j, j < 5 → c i j = plS (x i) j) ∧ ∃ (p r : Option Addr) (pc rc : Nat), c i 5 = .slice p (E i).length pc ∧ c i 6 = .slice r (E i).length rc ∧ IRow W p (E i).length pc (fun j => (EL (E i) j).port) ∧ IRow W r (E i).length rc (fun j => Pl.roleAt (x i) (Pl.offs (E i) x) (EL (E i) j))
theorem vec_eql6 (a b : V) (W : World) : (binOp .eql 48 (.agg #[.int .u64 a.root, .int .i64 a.cost, .int .u64 a.bridge, .int .i64 a.port]) (.agg #[.int .u64 b.root, .int .i64 b.cost, .int .u64 b.bridge, .int .i64 b.port])).run Tryz.prog W = .ok (.bool (decide (a = b))) W := by
 by_cases h : a.root = b.root ∧ a.cost = b.cost ∧ a.bridge = b.bridge ∧ a.port = b.port
 ·rw [decide_eq_true (Vc.V.eq_iff.2 h)]
  go_simp
 ·rw [decide_eq_false (fun e => h (Vc.V.eq_iff.1 e))]
  go_simp
  exact fun h1 h2 h3 h4 => h ⟨h1, h2, h3, h4⟩
end
end Go.Proofs.YtcbpafpaimpfnaaGreatDoor
