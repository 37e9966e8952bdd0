/- Plain: links that forward make no ring: as the law looks for one -/
import Derived.Test.YtaneiffnhphkhaaGreatDoorQ36
import Derived.Test.YtaneiffnhphkhaaGreatDoorQ38
import Derived.Test.YtaneiffnhphkhaaGreatDoorQ32
namespace Go.Proofs.YtaneiffnhphkhaaGreatDoor
open Go.RowKit
open Vc (V Of)
open Pl (Br Net Pc Lk En St LN)
set_option maxRecDepth 100000 in
set_option maxHeartbeats 4000000 in
theorem rlive_any (n : Net) (w : World) (hat : n.at' w) (R : n.Right) :
  Calls Tryz.prog 44 #[n.val] w fun e w' => ∃ ao cap, e = .returned (.slice ao n.lvs.length cap) ∧ LRow w' ao n.lvs.length cap (fun j => n.ls (LN n.lvs j)) ∧ NilOk ao n.lvs.length cap ∧ (∀ ad, ao = some ad → w.heap.size ≤ ad.block) ∧ Below w.heap.size w w' := by
 obtain ⟨X0, HX0⟩ : ∃ X, Hid (X = w.alloc (.cells #[.slice n.bao n.K n.bcap, .slice n.lao n.L n.lcap] 25)) := ⟨_, rfl⟩
 have hXB : Below w.heap.size w X0 := by rw [HX0.out]; exact below_alloc1 _ _
 have hXs : X0.heap.size = w.heap.size + 1 := by rw [HX0.out]; simp
 have hXn : X0.heap[w.heap.size]? = some (.cells #[.slice n.bao n.K n.bcap, .slice n.lao n.L n.lcap] 25 (0, 0)) := by rw [HX0.out]; exact heap_alloc_last _ _
 have HC : Hid (∀ W, Below X0.heap.size X0 W → (W.cell? ⟨w.heap.size, 0, none⟩ = some (.slice n.bao n.K n.bcap) ∧ W.cell? ⟨w.heap.size, 1, none⟩ = some (.slice n.lao n.L n.lcap)) ∧ n.at' W ∧ Below w.heap.size w W) := fun W hW => by
  have h1 : Below w.heap.size w W := hXB.trans (hW.mono hXB.size)
  exact ⟨two_cells2 (keep hXn hW), hat.below h1, h1⟩
 have HR : Hid n.Right := R
 have hK := R.few
 have hL := R.fewL
 have hcap := hat.brs.1
 have hcapL := hat.lks.1
 obtain ⟨G, HG⟩ : ∃ G, Hid (G = w.heap.size + 1) := ⟨_, rfl⟩
 have hmk : ∀ W : World, (Instr.makeSlice 125 (.int .i64 (n.K : Int)) (.int .i64 (n.K : Int))).run Tryz.prog W = .ok (.slice (some ⟨W.heap.size, 0, none⟩) n.K n.K) (W.alloc (.cells (rowC n.K 1 (fun _ _ => .slice none 0 0)) 126)) := fun W => make_rowD W 125 126 (.slice none 0 0) 1 24 n.K Tryz.underlying125 infoBytes (by omega) rfl (by omega) (by omega) _ (fun _ j hj => by rw [show j = 0 by omega]; rfl)
 have H0 : Hid (∃ v, IdsAt (X0.alloc (.cells (rowC n.K 1 (fun _ _ => .slice none 0 0)) 126)) G n.K n.bs v 0 ∧ Below X0.heap.size X0 (X0.alloc (.cells (rowC n.K 1 (fun _ _ => .slice none 0 0)) 126))) := ⟨fun _ => .slice none 0 0, ⟨by rw [HG.out, ← hXs]; exact heap_alloc_last _ _, fun i hi => absurd hi (by omega)⟩, below_alloc1 _ _⟩
 obtain ⟨⟨n0, n1⟩, _⟩ := HC.out X0 (Below.refl _ _)
 obtain ⟨⟨m0, m1⟩, _⟩ := HC.out (X0.alloc (.cells (rowC n.K 1 (fun _ _ => .slice none 0 0)) 126)) (below_alloc1 _ _)
 rw [HX0.out] at n0 n1 m0 m1
 clear hat R hXn hXB
 simp only [Pl.Net.val]
 go_enter Tryz.func44, Tryz.ntmps44
 go_wp2_with fail
 rw [← HX0.out]
 rw [← HG.out]
 clear n0 n1 m0 m1
 go_loopw [16] (fun i wr => ∃ k : Nat, k ≤ n.K ∧ i = .int .i64 k ∧ Hid (∃ v, IdsAt wr G n.K n.bs v k ∧ Below X0.heap.size X0 wr)) (fun i _ => n.K - (intOf i).toNat)
 case atStart => exact ⟨0, by omega, rfl, H0⟩
 case round =>
  obtain ⟨k, hk, rfl, hX⟩ := hrel
  clear H0
  obtain ⟨v, hI, hB⟩ := hX.out
  by_cases hlt : k < n.K
  ·have hatW := (HC.out wr hB).2.1
   obtain ⟨b, off, eb, _⟩ := CRow.some hatW.brs (by omega)
   have hbr := hatW.brs
   rw [eb] at hbr ⊢
   obtain ⟨c0, c1, c2, c3, c4⟩ := BRow.cells hbr hlt
   obtain ⟨X, HX⟩ : ∃ X, Hid (X = wr.alloc (.cells (brA (n.bs k)) 74)) := ⟨_, rfl⟩
   have hXB : Below wr.heap.size wr X := by rw [HX.out]; exact below_alloc1 _ _
   have hX5 : X.heap[wr.heap.size]? = some (.cells (brA (n.bs k)) 74 (0, 0)) := by rw [HX.out]; exact heap_alloc_last _ _
   have hIX := hI.below hXB
   have hBX : Below X0.heap.size X0 X := hB.trans (hXB.mono hB.size)
   obtain ⟨d0, d1, d2, d3, d4⟩ := br_cells hX5
   have HCL : Hid (Calls Tryz.prog 66 #[.agg #[.string (n.bs k).reg.s, .int .i64 (n.bs k).reg.rev, .slice (n.bs k).reg.ao (n.bs k).reg.n (n.bs k).reg.cap]] X fun e w' => ∃ ro rc, e = .returned (.slice ro 50 rc) ∧ w'.cell? ⟨G, k, none⟩ = some (v k) ∧ w'.frozen? ⟨G, k, none⟩ = false ∧ Hid (∃ v, IdsAt (w'.setCell ⟨G, k, none⟩ (.slice ro 50 rc)) G n.K n.bs v (k + 1) ∧ Below X0.heap.size X0 (w'.setCell ⟨G, k, none⟩ (.slice ro 50 rc)))) := by
    obtain ⟨_, x2, _⟩ := HC.out X hBX
    have hok := (HR.out.fine k hlt).reg
    refine (rident_new (n.bs k).reg.s (n.bs k).reg.rev (n.bs k).reg.ao (n.bs k).reg.n (n.bs k).reg.cap (n.bs k).reg.vs (n.bs k).reg.ts X (Rg.isName_parts hok.1).2.1 hok.2.1 hok.2.2 (x2.each k hlt).2.1).mono ?_
    rintro e w' ⟨ro, rc, rfl, y1, y2, y3⟩
    have z1 := hIX.below y2
    have hBw : Below X0.heap.size X0 w' := hBX.trans (y2.mono hBX.size)
    have e1 : (⟨G, k, none⟩ : Addr) = ⟨G, k * 1 + 0, none⟩ := by simp
    have hGlt : G < X.heap.size := by have := (Array.getElem?_eq_some_iff.1 hIX.1).1; exact this
    obtain ⟨rb, roff, er, hrb, _⟩ := y1.2 (by omega)
    subst er
    have hne : rb ≠ G := by have := y3 _ rfl; simp only at this; omega
    refine ⟨_, rc, rfl, ?_, ?_, fun i => if i = k then .slice (some ⟨rb, roff, none⟩) 50 rc else v i, ⟨?_, fun i hi => ?_⟩, hBw.setCell (by rw [HG.out, hXs]; exact Nat.le_refl _) _⟩
    ·rw [e1]; exact rowC_cell z1.1 hlt (by omega)
    ·exact lk_free0 z1.1 _
    ·rw [e1, rowC_set z1.1 hlt (by omega), rowC_congr2 (d := fun i _ => if i = k then .slice (some ⟨rb, roff, none⟩) 50 rc else v i) (fun i _ j hj => by
      unfold updC
      by_cases q : i = k
      ·rw [if_pos ⟨q, by omega⟩, if_pos q]
      ·rw [if_neg (fun p => q p.1), if_neg q])]
    ·have oth : ∀ b, b ≠ G → (w'.setCell ⟨G, k, none⟩ (.slice (some ⟨rb, roff, none⟩) 50 rc)).heap[b]? = w'.heap[b]? := fun b hb => heap_setCell_other _ _ _ _ (by exact hb)
     by_cases q : i = k
     ·subst q
      exact ⟨rb, roff, rc, if_pos rfl, byteRow_other y1 (fun b off e _ => by cases e; exact oth _ hne) (by simp), hne⟩
     ·obtain ⟨b1, off1, rc1, q1, q2, q3⟩ := z1.2 i (by omega)
      exact ⟨b1, off1, rc1, by simp only; rw [if_neg q]; exact q1, byteRow_other q2 (fun b off e _ => by cases e; exact oth _ q3) (by simp), q3⟩
   clear hX hI hB hIX hBX hXB hX5 hbr hatW eb
   simp only [brA] at *
   generalize (n.bs k).reg.s = s at *
   have i0 : (0 : Int) ≤ (k : Int) := by omega
   have i1 : (k : Int) < (n.K : Int) := by omega
   go_wp2_with fail
   rw [← HX.out]
   refine HCL.out.mono ?_
   rintro e w1 ⟨ro, rc, rfl, k1, k2, HN⟩
   clear HCL
   go_wp2_with fail
   exact ⟨⟨k + 1, by omega, by go_num, HN⟩, by simp [intOf]; omega⟩
  ·obtain hkK : k = n.K := by omega
   rw [hkK] at hI
   have hnk : ¬ (k : Int) < (n.K : Int) := by omega
   obtain ⟨⟨m0, m1⟩, _⟩ := HC.out wr hB
   obtain ⟨w1, hw1⟩ : ∃ w1, w1 = wr := ⟨_, rfl⟩
   subst hw1
   have HFR : Hid (∀ W, Below w1.heap.size w1 W → IdsAt W G n.K n.bs v n.K ∧ LRow W n.lao n.L n.lcap n.ls ∧ Below w.heap.size w W) := fun W hW => by
    obtain ⟨_, x2, x3⟩ := HC.out W (hB.trans (hW.mono hB.size))
    exact ⟨hI.below hW, x2.lks, x3⟩
   have H1 : Hid (w1.ownsRow w1.heap.size 83 6 (.slice none (n.lvsTo 0).length 0) (n.lvsTo 0).length (lkCells n.ls (n.lvsTo 0)) ∧ Below w1.heap.size w1 w1) := ⟨ownsC_nil _ _ _ _ _, Below.refl _ _⟩
   clear hX hI hB HC hmk
   go_wp2_with fail
   clear m0 m1
   go_loopw [3, 31] (fun s3 i wr => ∃ (j : Nat) (ao : Option Addr) (cap : Nat), j ≤ n.L ∧ i = .int .i64 j ∧ s3 = .slice ao (n.lvsTo j).length cap ∧ Hid (wr.ownsRow w1.heap.size 83 6 (.slice ao (n.lvsTo j).length cap) (n.lvsTo j).length (lkCells n.ls (n.lvsTo j)) ∧ Below w1.heap.size w1 wr)) (fun _ i _ => n.L - (intOf i).toNat)
   case atStart => exact ⟨0, none, 0, by omega, rfl, rfl, H1⟩
   case round =>
    obtain ⟨j, ao, cap, hj, rfl, rfl, hY⟩ := hrel
    clear H1
    by_cases hlt2 : j < n.L
    ·obtain ⟨hO, hB⟩ := hY.out
     obtain ⟨f1, f2, _⟩ := HFR.out wr hB
     obtain ⟨lb, loff, el, _⟩ := CRow.some f2 (by omega)
     rw [el] at f2 ⊢
     obtain ⟨c0, c1, c2, c3, c4, c5⟩ := LRow.cells f2 hlt2
     obtain ⟨o1, o2, o3, _⟩ := HR.out.links.ok j hlt2
     have hnext := n.lvsTo_next j
     have hfew := n.lvsTo_few j
     have hlv : n.live j = ((n.ls j).up && decide (strOf 50 (n.bs (n.ls j).a.toNat).reg.id = strOf 50 (n.bs (n.ls j).b.toNat).reg.id)) := rfl
     obtain ⟨na, hna⟩ : ∃ na : Nat, (n.ls j).a = na := ⟨(n.ls j).a.toNat, by omega⟩
     obtain ⟨nb, hnb⟩ : ∃ nb : Nat, (n.ls j).b = nb := ⟨(n.ls j).b.toNat, by omega⟩
     have ha : na < n.K := by omega
     have hb : nb < n.K := by omega
     have hta : (n.ls j).a.toNat = na := by omega
     have htb : (n.ls j).b.toNat = nb := by omega
     rw [hta, htb] at hlv
     obtain ⟨Z, HZ⟩ : ∃ Z, Hid (Z = wr.alloc (.cells (lkA (n.ls j)) 83)) := ⟨_, rfl⟩
     have hZB : Below wr.heap.size wr Z := by rw [HZ.out]; exact below_alloc1 _ _
     have hZl : Z.heap[wr.heap.size]? = some (.cells (lkA (n.ls j)) 83 (0, 0)) := by rw [HZ.out]; exact heap_alloc_last _ _
     have HZS : Hid (Z.heap.size = wr.heap.size + 1) := by show _ = _; rw [HZ.out]; simp
     have g3 := f1.below hZB
     obtain ⟨q0, q1, q2, q3, q4, q5⟩ := lk_cells hZl
     have eA : (⟨G, na, none⟩ : Addr) = ⟨G, na * 1 + 0, none⟩ := by simp
     have eB : (⟨G, nb, none⟩ : Addr) = ⟨G, nb * 1 + 0, none⟩ := by simp
     have ca : Z.cell? ⟨G, na, none⟩ = some (v na) := by rw [eA]; exact rowC_cell g3.1 ha (by omega)
     have cb : Z.cell? ⟨G, nb, none⟩ = some (v nb) := by rw [eB]; exact rowC_cell g3.1 hb (by omega)
     obtain ⟨ab, aoff, arc, xa, ra, _⟩ := g3.2 na ha
     obtain ⟨bb, boff, brc, xb, rb, _⟩ := g3.2 nb hb
     rw [xa] at ca
     rw [xb] at cb
     have HEQ : Hid (∀ m, Calls Tryz.prog 67 #[.slice (some ⟨ab, aoff, none⟩) 50 arc, .slice (some ⟨bb, boff, none⟩) 50 brc] (Z.drewN m) fun e w' => e = .returned (.bool (decide (strOf 50 (n.bs na).reg.id = strOf 50 (n.bs nb).reg.id))) ∧ w' = Z.drewN m) := fun m => rsame_any _ _ 50 _ 50 _ _ _ (Z.drewN m) (ra.below (below_drewN (Below.refl _ _) m)) (fun h => by cases h) (rb.below (below_drewN (Below.refl _ _) m)) (fun h => by cases h)
     have i0 : (0 : Int) ≤ (j : Int) := by omega
     have i1 : (j : Int) < (n.L : Int) := by omega
     have ia0 : (0 : Int) ≤ (na : Int) := by omega
     have ia1 : (na : Int) < (n.K : Int) := by omega
     have ib0 : (0 : Int) ≤ (nb : Int) := by omega
     have ib1 : (nb : Int) < (n.K : Int) := by omega
     have HNO : Hid (n.live j = false → ∀ W, Below Z.heap.size Z W → W.ownsRow w1.heap.size 83 6 (.slice ao (n.lvsTo (j + 1)).length cap) (n.lvsTo (j + 1)).length (lkCells n.ls (n.lvsTo (j + 1))) ∧ Below w1.heap.size w1 W) := fun hl W hW => by
      rw [hl, if_neg (by decide), List.append_nil] at hnext
      have h1 : Below wr.heap.size wr W := hZB.trans (hW.mono hZB.size)
      rw [hnext]
      exact ⟨ownsC_below hO h1, hB.trans (h1.mono hB.size)⟩
     have HLN : Hid (n.live j = false → (n.lvsTo (j + 1)).length = (n.lvsTo j).length) := fun hl => by
      rw [hl, if_neg (by decide), List.append_nil] at hnext
      rw [hnext]
     have HYE : Hid (n.live j = true → ∀ m, ∃ a1 c1' w2, (Builtin.append_ #[23, 23] 23 #[.slice ao (n.lvsTo j).length cap, .slice (some ⟨wr.heap.size + 1, 0, none⟩) 1 1]).run Tryz.prog ((Z.drewN m).alloc (.cells (lkA (n.ls j)) 83)) = .ok (.slice a1 ((n.lvsTo j).length + 1) c1') w2 ∧ Hid (w2.ownsRow w1.heap.size 83 6 (.slice a1 (n.lvsTo (j + 1)).length c1') (n.lvsTo (j + 1)).length (lkCells n.ls (n.lvsTo (j + 1))) ∧ Below w1.heap.size w1 w2) ∧ Hid ((n.lvsTo (j + 1)).length = (n.lvsTo j).length + 1)) := fun hl m => by
      rw [hl, if_pos rfl] at hnext
      have h1 : Below wr.heap.size wr (Z.drewN m) := below_drewN hZB m
      have hs : (Z.drewN m).heap.size = wr.heap.size + 1 := HZS.out
      have h2 : Below (Z.drewN m).heap.size (Z.drewN m) ((Z.drewN m).alloc (.cells (lkA (n.ls j)) 83)) := below_alloc1 _ _
      have h3 : Below wr.heap.size wr ((Z.drewN m).alloc (.cells (lkA (n.ls j)) 83)) := h1.trans (h2.mono h1.size)
      have hr : LRow ((Z.drewN m).alloc (.cells (lkA (n.ls j)) 83)) (some ⟨wr.heap.size + 1, 0, none⟩) 1 1 (fun _ => n.ls j) := by rw [← hs]; exact one_lk_row (heap_alloc_last _ _)
      obtain ⟨a1, c1', w2, r, ho2, hb2, _⟩ := append_c ((Z.drewN m).alloc (.cells (lkA (n.ls j)) 83)) 23 83 _ 6 48 Tryz.underlying23 infoLk rfl (by omega) w1.heap.size (.slice ao (n.lvsTo j).length cap) (n.lvsTo j).length (fun i => lkC (n.ls (LN (n.lvsTo j) i))) (ownsC_below hO h3) (some ⟨wr.heap.size + 1, 0, none⟩) 1 1 (fun _ => lkC (n.ls j)) (fun _ q => lkC_one _ q) hr (fun h => by cases h) (by unfold maxLen; omega) (by omega) (by have := hB.size; have := h3.size; omega)
      rw [ln_snoc] at ho2
      refine ⟨a1, c1', w2, r, ?_, ?_⟩
      ·rw [hnext, List.length_append]
       exact ⟨ho2, (hB.trans (h3.mono hB.size)).trans hb2⟩
      ·show _ = _
       rw [hnext, List.length_append]; rfl
     clear hY hO hB f1 f2 o1 o2 o3 hnext g3 ra rb xa xb eA eB hZB hZl HFR HR el hta htb
     generalize n.live j = lv at *
     generalize decide (strOf 50 (n.bs na).reg.id = strOf 50 (n.bs nb).reg.id) = D at *
     generalize n.ls j = l at *
     obtain ⟨a, pa, b, pb, c, up⟩ := l
     simp only at hna hnb c0 c1 c2 c3 c4 c5 hlv
     subst hna
     subst hnb
     simp only [lkA] at *
     rw [HZ.out] at q0 q1 q2 q3 q4 q5 ca cb
     cases up with
     | false =>
      have hl2 : lv = false := by rw [hlv, Bool.false_and]
      clear hlv
      subst hl2
      have HNN : Hid _ := HNO.out rfl
      have HNL : Hid _ := HLN.out rfl
      clear HYE HNO HLN HEQ
      go_wp2_with fail
      rw [← HZ.out] at q0 q1 q2 q3 q4 q5 ca cb ⊢
      go_quiet (fail)
      go_wp2_with fail
      exact ⟨⟨j + 1, ao, cap, by omega, by go_num, by rw [HNL.out], HNN.out _ (below_drewN (Below.refl _ _) _)⟩, by simp [intOf]; omega⟩
     | true =>
      have hl2 : lv = D := by rw [hlv, Bool.true_and]
      clear hlv
      subst hl2
      cases lv with
      | false =>
       have HNN : Hid _ := HNO.out rfl
       have HNL : Hid _ := HLN.out rfl
       clear HYE HNO HLN
       go_wp2_with fail
       rw [← HZ.out] at q0 q1 q2 q3 q4 q5 ca cb ⊢
       go_quiet (first | (go_at_call 67; exact Calls.quiet_of_same (HEQ.out _)))
       all_goals go_wp2_with fail
       all_goals exact ⟨⟨j + 1, ao, cap, by omega, by go_num, by rw [HNL.out], HNN.out _ (below_drewN (Below.refl _ _) _)⟩, by simp [intOf]; omega⟩
      | true =>
       have HYY : Hid _ := HYE.out rfl
       clear HYE HNO HLN
       have HQQ : Hid (∀ m, (Z.drewN m).cell? ⟨wr.heap.size, 0, none⟩ = some (.int .i64 na) ∧ (Z.drewN m).cell? ⟨wr.heap.size, 1, none⟩ = some (.int .i64 pa) ∧ (Z.drewN m).cell? ⟨wr.heap.size, 2, none⟩ = some (.int .i64 nb) ∧ (Z.drewN m).cell? ⟨wr.heap.size, 3, none⟩ = some (.int .i64 pb) ∧ (Z.drewN m).cell? ⟨wr.heap.size, 4, none⟩ = some (.int .i64 c) ∧ (Z.drewN m).cell? ⟨wr.heap.size, 5, none⟩ = some (.bool true)) := by
        rw [← HZ.out] at q0 q1 q2 q3 q4 q5
        exact fun m => ⟨q0, q1, q2, q3, q4, q5⟩
       go_wp2_with fail
       rw [← HZ.out] at q0 q1 q2 q3 q4 q5 ca cb ⊢
       go_quiet (first | (go_at_call 67; exact Calls.quiet_of_same (HEQ.out _)))
       generalize hgen : Z.drewN _ = Y
       obtain ⟨m, rfl⟩ : ∃ m, Y = Z.drewN m := ⟨_, hgen.symm⟩
       clear hgen
       obtain ⟨a1, c1', w2, r, HN, HLE⟩ := HYY.out m
       obtain ⟨y0, y1, y2, y3, y4, y5⟩ := HQQ.out m
       have HR2 : Hid _ := r
       have hsz : (Z.drewN m).heap.size = wr.heap.size + 1 := HZS.out
       clear r HYY HQQ HEQ q0 q1 q2 q3 q4 q5 ca cb
       generalize Z.drewN m = Y at *
       go_wp2_with (at_builtin; (try rw [hsz]); refine wpList_append_run rfl (.tmp 50) (.tmp 52) 23 rfl _ _ _ rfl rfl HR2.out ?_)
       exact ⟨⟨j + 1, a1, c1', by omega, by go_num, by rw [HLE.out], HN⟩, by simp [intOf]; omega⟩
    ·obtain hjL : j = n.L := by omega
     obtain ⟨hO, hB⟩ := hY.out
     have hnl : ¬ (j : Int) < (n.L : Int) := by omega
     have HE : Hid (LRow wr ao n.lvs.length cap (fun q => n.ls (LN n.lvs q)) ∧ NilOk ao n.lvs.length cap ∧ (∀ ad, ao = some ad → w.heap.size ≤ ad.block) ∧ Below w.heap.size w wr) := by
      have hlow := (HFR.out wr hB).2.2
      have hw1 := (HFR.out w1 (Below.refl _ _)).2.2.size
      rw [hjL] at hO
      obtain ⟨a1, c1, e1, h1, h2, h3⟩ := owns_c (by omega) hO
      injection e1 with e1 _ e2
      subst e1
      subst e2
      exact ⟨h1, h2, fun ad e => Nat.le_trans hw1 (h3 ad e), hlow⟩
     clear hY hO hB HFR
     go_wp2_with fail
     go_ret
     exact ⟨ao, cap, rfl, HE.out.1, HE.out.2.1, HE.out.2.2.1, HE.out.2.2.2⟩
end Go.Proofs.YtaneiffnhphkhaaGreatDoor
namespace Go.Proofs.YtaneiffnhphkhaaGreatDoor
open Go.RowKit
open Vc (V Of)
open Pl (Br Net Pc Lk En St LN)
open Tk (Md Mnd Cn Sc Dn)
def onJ (n : Net) (t : List Tr) (tree : Int) (j : Nat) : Bool := opT t tree (n.ls j).a (n.ls j).pa && opT t tree (n.ls j).b (n.ls j).pb
def onTo (n : Net) (t : List Tr) (tree : Int) (k : Nat) : List Nat := (n.lvs.take k).filter (onJ n t tree)
def onL (n : Net) (t : List Tr) (tree : Int) : List Nat := n.lvs.filter (onJ n t tree)
theorem onTo_next (n : Net) (t : List Tr) (tree : Int) {k : Nat} (hk : k < n.lvs.length) : onTo n t tree (k + 1) = onTo n t tree k ++ if onJ n t tree (LN n.lvs k) = true then [LN n.lvs k] else [] := by
 have e : LN n.lvs k = n.lvs[k] := by simp [LN, hk]
 unfold onTo
 rw [List.take_succ_eq_append_getElem hk, List.filter_append, ← e]
 congr 1
 by_cases h : onJ n t tree (LN n.lvs k) = true
 ·rw [if_pos h]; simp [h]
 ·rw [if_neg h]; simp [h]
theorem onTo_few (n : Net) (t : List Tr) (tree : Int) (k : Nat) : (onTo n t tree k).length ≤ k := by
 unfold onTo
 have h1 := List.length_filter_le (onJ n t tree) (n.lvs.take k)
 have h2 := List.length_take_le k n.lvs
 omega
def onE (n : Net) (l : List Nat) (q : Nat) : Nat × Nat := ((n.ls (LN l q)).a.toNat, (n.ls (LN l q)).b.toNat)
theorem infoPr : (Tryz.prog.info? 98).map (fun i => (i.zero, i.size, i.bytes)) = some (some (.agg #[.int .i64 0, .int .i64 0]), 2, 16) := by kernel_rfl
theorem prC_one (es : Nat → Nat × Nat) (q j : Nat) : (prC es q j).oneCell' = true := by
 unfold prC
 split <;> rfl
theorem one_pr {W : World} {g : Nat} {e : Nat × Nat} {ty : TypeId} (h : W.heap[g]? = some (.cells #[.int .i64 (e.1 : Int), .int .i64 (e.2 : Int)] ty (0, 0))) : CRow W (some ⟨g, 0, none⟩) 1 1 2 (prC (fun _ => e)) := by
 refine ⟨Nat.le_refl _, fun _ => ⟨g, 0, rfl, (Array.getElem?_eq_some_iff.1 h).1, fun i hi j hj => ?_⟩⟩
 obtain rfl : i = 0 := by omega
 rcases (by omega : j = 0 ∨ j = 1) with e | e <;> subst e <;> exact cell_of_row W g _ _ _ _ h
set_option maxHeartbeats 1000000 in
theorem pr_more {W : World} {base g m : Nat} {v : Value} {es es' : Nat → Nat × Nat} {e : Nat × Nat} (ho : W.ownsRow base 98 2 v m (cellsL m 2 (prC es))) (hg : W.heap[g]? = some (.cells #[.int .i64 (e.1 : Int), .int .i64 (e.2 : Int)] 98 (0, 0))) (hm : m ≤ 1000) (hb : base ≤ W.heap.size) (h1 : ∀ q, q < m → es' q = es q) (h2 : es' m = e) :
  ∃ a1 c1 w', (Builtin.append_ #[51, 51] 51 #[v, .slice (some ⟨g, 0, none⟩) 1 1]).run Tryz.prog W = .ok (.slice a1 (m + 1) c1) w' ∧ w'.ownsRow base 98 2 (.slice a1 (m + 1) c1) (m + 1) (cellsL (m + 1) 2 (prC es')) ∧ Below base W w' := by
 obtain ⟨a1, c1, w', r, o, b, _⟩ := append_c W 51 98 _ 2 16 Tryz.underlying51 infoPr rfl (by omega) base v m _ ho (some ⟨g, 0, none⟩) 1 1 (prC (fun _ => e)) (fun _ _ => prC_one _ _ _) (one_pr hg) (fun h => by cases h) (by unfold maxLen; omega) (by omega) hb
 rw [cellsL_congr (m + 1) 2 _ (prC es') (fun i hi => by
  unfold catC
  by_cases h : i < m
  ·rw [if_pos h]
   funext j
   unfold prC
   rw [h1 i h]
  ·obtain rfl : i = m := by omega
   rw [if_neg h]
   funext j
   unfold prC
   rw [h2])] at o
 exact ⟨a1, c1, w', r, o, b⟩
set_option maxRecDepth 100000 in
set_option maxHeartbeats 4000000 in
theorem ton7_any (n : Net) (oao : Option Addr) (ocap : Nat) (t : List Tr) (tree : Int) (w : World) (hat : n.at' w) (R : n.Right) (ht : TrRow w oao ocap t) :
  Calls Tryz.prog 27 #[n.val, .agg #[.slice oao t.length ocap], .int .i64 tree] w fun e w' => ∃ ao cap, e = .returned (.slice ao (onL n t tree).length cap) ∧ CRow w' ao (onL n t tree).length cap 2 (prC (onE n (onL n t tree))) ∧ Below w.heap.size w w' := by
 obtain ⟨X, HX⟩ : ∃ X, Hid (X = (w.alloc (.cells #[.slice n.bao n.K n.bcap, .slice n.lao n.L n.lcap] 25)).alloc (.cells #[.slice oao t.length ocap] 29)) := ⟨_, rfl⟩
 have hXB : Below w.heap.size w X := by rw [HX.out]; exact below_alloc2 _ _ _
 have x0 : X.heap[w.heap.size]? = some (.cells #[.slice n.bao n.K n.bcap, .slice n.lao n.L n.lcap] 25 (0, 0)) := by rw [HX.out]; exact heap_alloc2_old _ _ _
 have x1 : X.heap[w.heap.size + 1]? = some (.cells #[.slice oao t.length ocap] 29 (0, 0)) := by rw [HX.out]; exact heap_alloc2_new _ _ _
 have HLV : Hid (Calls Tryz.prog 44 #[.agg #[.slice n.bao n.K n.bcap, .slice n.lao n.L n.lcap]] X fun e w' => ∃ ao cap, e = .returned (.slice ao n.lvs.length cap) ∧ LRow w' ao n.lvs.length cap (fun j => n.ls (LN n.lvs j)) ∧ NilOk ao n.lvs.length cap ∧ (∀ ad, ao = some ad → X.heap.size ≤ ad.block) ∧ Below X.heap.size X w') := rlive_any n X (hat.below hXB) R
 have HTR : Hid (∀ V, Below X.heap.size X V → TrRow V oao ocap t ∧ V.cell? ⟨w.heap.size + 1, 0, none⟩ = some (.slice oao t.length ocap) ∧ Below w.heap.size w V) := fun V hV => by
  have h := hXB.trans (hV.mono hXB.size)
  exact ⟨ht.below h, one_cell (keep x1 hV), h⟩
 obtain ⟨n0, n1⟩ := two_cells2 x0
 rw [HX.out] at n0 n1
 have HRT : Hid (Pl.RightL n.K n.L n.ls) := R.links
 have hfew := R.fewL
 have hlen : n.lvs.length ≤ 40 := by
  have := n.lvsTo_few n.L
  have h2 : n.lvs.length ≤ n.L := this
  omega
 clear hat R ht hXB x0 x1
 simp only [Pl.Net.val]
 go_enter Tryz.func27, Tryz.ntmps27
 go_wp2_with fail
 rw [← HX.out]
 refine HLV.out.mono ?_
 rintro e w1 ⟨ao, cap, rfl, hlr, hnil, hab, hb1⟩
 have hcap := hlr.1
 have HL1 : Hid (∀ V, Below w1.heap.size w1 V → LRow V ao n.lvs.length cap (fun j => n.ls (LN n.lvs j)) ∧ Below X.heap.size X V) := fun V hV => ⟨CRow.below hlr hV, hb1.trans (hV.mono hb1.size)⟩
 clear HLV hlr hab hb1 n0 n1 hnil
 go_wp2_with fail
 go_loopw [7, 13] (fun s7 s13 wr => ∃ (k : Nat) (v7 : Value), k ≤ n.lvs.length ∧ s13 = .int .i64 k ∧ v7 = s7 ∧ Hid (wr.ownsRow w1.heap.size 98 2 v7 (onTo n t tree k).length (cellsL (onTo n t tree k).length 2 (prC (onE n (onTo n t tree k)))) ∧ Below w1.heap.size w1 wr)) (fun _ s13 _ => n.lvs.length - (intOf s13).toNat)
 case atStart => exact ⟨0, _, by omega, rfl, rfl, ownsC_nil _ _ _ _ _, Below.refl _ _⟩
 case round =>
  obtain ⟨k, v7, hk, rfl, rfl, hB⟩ := hrel
  by_cases hlt : k < n.lvs.length
  ·have hi : (k : Int) < (n.lvs.length : Int) := by omega
   have hi0 : (0 : Int) ≤ (k : Int) := by omega
   obtain ⟨r0, r1⟩ := HL1.out wr hB.out.2
   obtain ⟨lb, loff, ea, _⟩ := CRow.some r0 (by omega)
   subst ea
   obtain ⟨c0, c1, c2, c3, c4, c5⟩ := LRow.cells r0 hlt
   obtain ⟨hlv1, hlv2⟩ := n.lvs_mem hlt
   obtain ⟨⟨p1, p2⟩, ⟨p3, p4⟩, _⟩ := HRT.out.ok _ hlv1
   obtain ⟨aa, haa⟩ : ∃ aa : Nat, (n.ls (LN n.lvs k)).a = (aa : Int) := ⟨(n.ls (LN n.lvs k)).a.toNat, by omega⟩
   obtain ⟨bb, hbb⟩ : ∃ bb : Nat, (n.ls (LN n.lvs k)).b = (bb : Int) := ⟨(n.ls (LN n.lvs k)).b.toNat, by omega⟩
   have HNX : Hid (onTo n t tree (k + 1) = onTo n t tree k ++ if (opT t tree (aa : Int) (n.ls (LN n.lvs k)).pa && opT t tree (bb : Int) (n.ls (LN n.lvs k)).pb) = true then [LN n.lvs k] else []) := by
    have h := onTo_next n t tree hlt
    unfold onJ at h
    rw [haa, hbb] at h
    exact h
   have HEL : Hid (((n.ls (LN n.lvs k)).a.toNat, (n.ls (LN n.lvs k)).b.toNat) = (aa, bb)) := by rw [haa, hbb]; rfl
   rw [haa] at c0
   rw [hbb] at c2
   have hfw := onTo_few n t tree k
   generalize (n.ls (LN n.lvs k)).pa = pa at *
   generalize (n.ls (LN n.lvs k)).pb = pb at *
   generalize (n.ls (LN n.lvs k)).cost = cost at *
   generalize (n.ls (LN n.lvs k)).up = up at *
   obtain ⟨Y, HY⟩ : ∃ Y, Hid (Y = wr.alloc (.cells #[.int .i64 (aa : Int), .int .i64 pa, .int .i64 (bb : Int), .int .i64 pb, .int .i64 cost, .bool up] 83)) := ⟨_, rfl⟩
   have hYB : Below wr.heap.size wr Y := by rw [HY.out]; exact below_alloc1 _ _
   have hYx : Y.heap[wr.heap.size]? = some (.cells #[.int .i64 (aa : Int), .int .i64 pa, .int .i64 (bb : Int), .int .i64 pb, .int .i64 cost, .bool up] 83 (0, 0)) := by rw [HY.out]; exact heap_alloc_last _ _
   have h1Y : Below w1.heap.size w1 Y := hB.out.2.trans (hYB.mono hB.out.2.size)
   have HAF : Hid (∀ V, Below Y.heap.size Y V → (V.cell? ⟨w.heap.size + 1, 0, none⟩ = some (.slice oao t.length ocap) ∧ V.cell? ⟨wr.heap.size, 0, none⟩ = some (.int .i64 (aa : Int)) ∧ V.cell? ⟨wr.heap.size, 2, none⟩ = some (.int .i64 (bb : Int)) ∧ V.cell? ⟨wr.heap.size, 3, none⟩ = some (.int .i64 pb)) ∧ TrRow V oao ocap t ∧ Below w1.heap.size w1 V ∧ V.ownsRow w1.heap.size 98 2 v7 (onTo n t tree k).length (cellsL (onTo n t tree k).length 2 (prC (onE n (onTo n t tree k))))) := fun V hV => by
    have h1V := h1Y.trans (hV.mono h1Y.size)
    obtain ⟨_, x2⟩ := HL1.out V h1V
    obtain ⟨y1, y2, _⟩ := HTR.out V x2
    obtain ⟨k0, _, k2, k3, _⟩ := lk_cells (keep hYx hV)
    exact ⟨⟨y2, k0, k2, k3⟩, y1, h1V, ownsC_below (ownsC_below hB.out.1 hYB) hV⟩
   obtain ⟨⟨d0, _⟩, tY, _⟩ := HAF.out Y (Below.refl _ _)
   have HO1 : Hid (Calls Tryz.prog 18 #[.agg #[.slice oao t.length ocap], .int .i64 tree, .int .i64 (aa : Int), .int .i64 pa] Y fun e w' => e = .returned (.bool (opT t tree (aa : Int) pa)) ∧ Below Y.heap.size Y w') := topens_any oao ocap t tree (aa : Int) pa Y tY
   have HO2 : Hid (∀ V, Below Y.heap.size Y V → Calls Tryz.prog 18 #[.agg #[.slice oao t.length ocap], .int .i64 tree, .int .i64 (bb : Int), .int .i64 pb] V fun e w' => e = .returned (.bool (opT t tree (bb : Int) pb)) ∧ Below V.heap.size V w') := fun V hV => topens_any oao ocap t tree (bb : Int) pb V (HAF.out V hV).2.1
   rw [HY.out] at d0
   have wk : IntKind.i64.wrap ((k : Int) + 1) = ((k + 1 : Nat) : Int) := by rw [IntKind.wrap_i64]; omega
   clear r0 r1 hYB hYx h1Y tY hB HL1 HTR haa hbb p1 p2 p3 p4 hlv1 hlv2 HRT
   generalize opT t tree (aa : Int) pa = o1 at *
   generalize opT t tree (bb : Int) pb = o2 at *
   go_wp2_with fail
   rw [← HY.out]
   refine HO1.out.mono ?_
   rintro e w4 ⟨rfl, hb4⟩
   obtain ⟨⟨d1, d1a, d2, d3⟩, _, H14, O14⟩ := HAF.out w4 hb4
   have HO : Hid (Calls Tryz.prog 18 #[.agg #[.slice oao t.length ocap], .int .i64 tree, .int .i64 (bb : Int), .int .i64 pb] w4 fun e w' => e = .returned (.bool o2) ∧ Below w4.heap.size w4 w') := HO2.out w4 hb4
   have H4 : Hid (w4.ownsRow w1.heap.size 98 2 v7 (onTo n t tree k).length (cellsL (onTo n t tree k).length 2 (prC (onE n (onTo n t tree k)))) ∧ Below w1.heap.size w1 w4) := ⟨O14, H14⟩
   have HB4 : Hid (Below Y.heap.size Y w4) := hb4
   clear HO1 HO2 H14 O14 hb4
   cases o1 with
   | false =>
    have e : onTo n t tree (k + 1) = onTo n t tree k := by rw [HNX.out]; simp
    have HN : Hid (w4.ownsRow w1.heap.size 98 2 v7 (onTo n t tree (k + 1)).length (cellsL (onTo n t tree (k + 1)).length 2 (prC (onE n (onTo n t tree (k + 1))))) ∧ Below w1.heap.size w1 w4) := by rw [e]; exact H4.out
    clear e HNX H4 HAF
    go_wp2_with fail
    exact ⟨⟨k + 1, _, by omega, by go_num, rfl, HN⟩, by simp [intOf]; omega⟩
   | true =>
    go_wp2_with fail
    refine HO.out.mono ?_
    rintro e w5 ⟨rfl, hb5⟩
    have hY5 := HB4.out.trans (hb5.mono HB4.out.size)
    obtain ⟨⟨_, e0, e2, _⟩, _, H15, O15⟩ := HAF.out w5 hY5
    clear HO hb5 d1 d1a d2 d3 H4 HB4 HAF hY5
    cases o2 with
    | false =>
     have e : onTo n t tree (k + 1) = onTo n t tree k := by rw [HNX.out]; simp
     have HN : Hid (w5.ownsRow w1.heap.size 98 2 v7 (onTo n t tree (k + 1)).length (cellsL (onTo n t tree (k + 1)).length 2 (prC (onE n (onTo n t tree (k + 1))))) ∧ Below w1.heap.size w1 w5) := by rw [e]; exact ⟨O15, H15⟩
     clear e HNX O15 H15
     go_wp2_with fail
     exact ⟨⟨k + 1, _, by omega, by go_num, rfl, HN⟩, by simp [intOf]; omega⟩
    | true =>
     have e : onTo n t tree (k + 1) = onTo n t tree k ++ [LN n.lvs k] := by rw [HNX.out]; simp
     have e6 : (onTo n t tree (k + 1)).length = (onTo n t tree k).length + 1 := by rw [e]; simp
     obtain ⟨C, HC⟩ : ∃ C, Hid (C = w5.alloc (.cells #[.int .i64 (aa : Int), .int .i64 (bb : Int)] 98)) := ⟨_, rfl⟩
     have hC5 : Below w5.heap.size w5 C := by rw [HC.out]; exact below_alloc1 _ _
     have hCx : C.heap[w5.heap.size]? = some (.cells #[.int .i64 (aa : Int), .int .i64 (bb : Int)] 98 (0, 0)) := by rw [HC.out]; exact heap_alloc_last _ _
     have h1C := H15.trans (hC5.mono H15.size)
     obtain ⟨a1, c1, w6, r, o6, b6⟩ := pr_more (es' := onE n (onTo n t tree (k + 1))) (e := (aa, bb)) (ownsC_below O15 hC5) hCx (by omega) h1C.size (fun q hq => by
      unfold onE
      rw [e]
      have : LN (onTo n t tree k ++ [LN n.lvs k]) q = LN (onTo n t tree k) q := by simp [LN, List.getElem?_append, hq]
      rw [this]) (by
      unfold onE
      rw [e]
      have : LN (onTo n t tree k ++ [LN n.lvs k]) (onTo n t tree k).length = LN n.lvs k := by simp [LN]
      rw [this]
      exact HEL.out)
     have HR6 : Hid _ := r
     have HN : Hid (w6.ownsRow w1.heap.size 98 2 (.slice a1 ((onTo n t tree k).length + 1) c1) (onTo n t tree (k + 1)).length (cellsL (onTo n t tree (k + 1)).length 2 (prC (onE n (onTo n t tree (k + 1))))) ∧ Below w1.heap.size w1 w6) := by rw [e6]; exact ⟨o6, h1C.trans b6⟩
     rw [HC.out] at HR6
     clear e e6 HNX O15 H15 hC5 hCx h1C r o6 b6
     go_wp2_with (at_builtin; refine wpList_append_run rfl (.tmp 33) (.tmp 39) 51 rfl _ _ _ rfl rfl HR6.out ?_; clear HR6)
     exact ⟨⟨k + 1, _, by omega, by go_num, rfl, HN⟩, by simp [intOf]; omega⟩
  ·obtain rfl : k = n.lvs.length := by omega
   have hi : ¬ (n.lvs.length : Int) < (n.lvs.length : Int) := by omega
   have e : onTo n t tree n.lvs.length = onL n t tree := by unfold onTo onL; rw [List.take_length]
   have h := hB.out
   rw [e] at h
   obtain ⟨a1, c1, e7, hr, _⟩ := owns_c (by omega) h.1
   subst e7
   have HF : Hid (CRow wr a1 (onL n t tree).length c1 2 (prC (onE n (onL n t tree))) ∧ Below w.heap.size w wr) := ⟨hr, (HTR.out wr (HL1.out wr h.2).2).2.2⟩
   clear hB h hr HL1 HTR
   go_wp2_with fail
   go_ret
   exact ⟨a1, c1, rfl, HF.out⟩
theorem idx_get {l : List Int} {x : Int} : ∀ k, 0 ≤ Bk.idx l x k → (Bk.idx l x k).toNat < k ∧ l.getD (Bk.idx l x k).toNat 0 = x
 | 0, h => by
  have h : (0 : Int) ≤ -1 := h
  omega
 | k + 1, h => by
  have e : Bk.idx l x (k + 1) = if 0 ≤ Bk.idx l x k then Bk.idx l x k else if x = l.getD k 0 then (k : Int) else -1 := rfl
  by_cases q : 0 ≤ Bk.idx l x k
  ·rw [if_pos q] at e
   rw [e]
   have := idx_get k q
   exact ⟨by omega, this.2⟩
  ·rw [if_neg q] at e
   by_cases q2 : x = l.getD k 0
   ·rw [if_pos q2] at e
    rw [e, Int.toNat_natCast]
    exact ⟨by omega, q2.symm⟩
   ·rw [if_neg q2] at e
    rw [e] at h
    omega
theorem sn_open {W : World} {n : Net} {T : Nat} {s : Sc} {n' : Net} {oa : Option Addr} {oc : Nat} {t' : List Tr} (h : SnOut W n T s n' oa oc t') (hp : ∀ i, n.pts i = (s.E n.cn i).map (fun e : En => e.port)) {k i : Nat} (hk : k < T) (hi : i < n.K) {port : Int} (ho : opT t' k i port = true) : Tk.Open n.cn s k i port := by
 obtain ⟨hl, hm⟩ := h.each k hk
 obtain ⟨hm1, hm2⟩ := hm i hi
 have hcalm : (mat (tat t' k).l i).calm = (s.ms k i).calm := congrArg Mnd.calm hm1
 have hlen := h.len
 unfold opT at ho
 rw [Int.toNat_natCast, Int.toNat_natCast, if_pos ⟨⟨by omega, by omega⟩, ⟨by omega, by omega⟩⟩] at ho
 unfold opM at ho
 by_cases c : 0 ≤ Bk.idx (mat (tat t' k).l i).ports port (mat (tat t' k).l i).ports.length ∧ Bk.idx (mat (tat t' k).l i).ports port (mat (tat t' k).l i).ports.length ≤ ((mat (tat t' k).l i).calm.length : Int) - 1
 ·rw [if_pos c] at ho
  obtain ⟨g1, g2⟩ := idx_get (l := (mat (tat t' k).l i).ports) (x := port) _ c.1
  obtain ⟨j, hj⟩ : ∃ j, j = (Bk.idx (mat (tat t' k).l i).ports port (mat (tat t' k).l i).ports.length).toNat := ⟨_, rfl⟩
  rw [← hj] at ho g1 g2
  rw [hm2, hp i] at g1 g2
  rw [List.length_map] at g1
  refine ⟨j, EL (s.E n.cn i) j, EL_get g1, ?_, ?_⟩
  ·rw [← pts_get g1]
   exact g2
  ·rw [← hcalm]
   exact of_decide_eq_true ho
 ·rw [if_neg c] at ho
  cases ho
theorem no_rings {W : World} {n : Net} {T : Nat} {s : Sc} {n' : Net} {oa : Option Addr} {oc : Nat} {t' : List Tr} (h : SnOut W n T s n' oa oc t') (hp : ∀ i, n.pts i = (s.E n.cn i).map (fun e : En => e.port)) {k : Nat} (hk : k < T) (hN : Tk.NoRing n.cn s k) : Tk.ring7 (onE n' (onL n' t' (k : Int))) (onL n' t' (k : Int)).length = false := by
 have hls : n'.ls = s.ls := congrArg Sc.ls h.sc
 have hK : n'.K = n.K := congrArg Cn.K h.cn
 have hL : n'.L = n.cn.L := congrArg Cn.L h.cn
 have hR := right_of h.wf h.right
 have hlv : ∀ q, n'.live q = s.lv n.cn q := fun q => by
  have := Pl.Net.sc_lv n' s.ms q
  rw [h.sc, h.cn] at this
  exact this.symm
 rw [Tk.ring7_eq]
 have he : onE n' (onL n' t' (k : Int)) = fun j => Pl.edge s.ls (LN (onL n' t' (k : Int)) j) := by
  funext j
  unfold onE Pl.edge
  rw [hls]
 rw [he]
 refine hN _ _ (fun j hj => ?_) (fun i j hij hj => ?_)
 ·have hm : LN (onL n' t' (k : Int)) j ∈ onL n' t' (k : Int) := by
   unfold LN
   rw [List.getD_eq_getElem?_getD, List.getElem?_eq_getElem hj]
   exact List.getElem_mem hj
  generalize LN (onL n' t' (k : Int)) j = q at hm ⊢
  unfold onL Pl.Net.lvs Pl.Net.lvsTo at hm
  rw [List.mem_filter, List.mem_filter, List.mem_range] at hm
  obtain ⟨⟨m1, m2⟩, m3⟩ := hm
  unfold onJ at m3
  rw [Bool.and_eq_true] at m3
  obtain ⟨⟨p1, p2⟩, ⟨p3, p4⟩, _⟩ := hR.links.ok q m1
  rw [← hls]
  refine ⟨by rw [← hL]; exact m1, by rw [← hlv]; exact m2, sn_open h hp hk (by omega) ?_, sn_open h hp hk (by omega) ?_⟩
  ·rw [Int.toNat_of_nonneg p1]
   exact m3.1
  ·rw [Int.toNat_of_nonneg p3]
   exact m3.2
 ·have hs : (onL n' t' (k : Int)).Pairwise (· < ·) := by
   unfold onL Pl.Net.lvs Pl.Net.lvsTo
   exact (List.Pairwise.filter _ (List.Pairwise.filter _ List.pairwise_lt_range))
  have := List.pairwise_iff_getElem.1 hs i j (by omega) hj hij
  have g1 : LN (onL n' t' (k : Int)) i = (onL n' t' (k : Int))[i]'(by omega) := by simp [LN, show i < (onL n' t' (k : Int)).length by omega]
  have g2 : LN (onL n' t' (k : Int)) j = (onL n' t' (k : Int))[j] := by simp [LN, hj]
  rw [g1, g2]
  omega
theorem never_at {W : World} {n : Net} {T : Nat} {ds : Nat → Dn} {dn k : Nat} {tk : Int} {n' : Net} {oa : Option Addr} {oc : Nat} {t' : List Tr} (h : SnOut W n T ((n.sc (startMs n)).all n.cn (dsT k ds tk) (k + 1)) n' oa oc t') (hw : n.Wf) (h0 : n.wrong.1 = 0) (he : ∀ q, q < k + 1 → Tk.errOf n.cn (dsT k ds tk q) = 0) (ha : apW ds dn = true) (hk : k < dn) (hl0 : (ds 0).kind = 1 ∧ 40 ≤ (ds 0).n) {i : Nat} (hi : i < T) :
  Tk.ring7 (onE n' (onL n' t' (i : Int))) (onL n' t' (i : Int)).length = false := by
 have he2 := dsT_err he
 have hp : ∀ i, n.pts i = (((n.sc (startMs n)).all n.cn (dsT k ds tk) (k + 1)).E n.cn i).map (fun e : En => e.port) := fun i => by
  have h1 := sn_pts h hw h0 he i
  rw [h1]
  unfold Pl.Net.pts
  rw [(sn_net h).2.2.1]
 refine no_rings h hp hi ?_
 rw [all_ticks]
 refine Tk.never (start_ok hw h0 T) (fun q _ i _ j => ?_) ds hl0 k (apart_of ha (by omega) (fun q hq h1 => ?_)) he2 _ hi
 ·show (zer (n.pts i).length).getD j 0 = 0
  exact zer_get _ _
 ·have := he2 q hq
  unfold Tk.errOf at this
  rw [if_pos h1] at this
  by_cases c : 0 ≤ (ds q).n ∧ (ds q).n ≤ 200
  ·exact c
  ·rw [if_neg c] at this; cases this
theorem onL_few (n : Net) (t : List Tr) (tree : Int) : (onL n t tree).length ≤ n.L := by
 unfold onL
 have h1 := List.length_filter_le (onJ n t tree) n.lvs
 have h2 : n.lvs.length ≤ n.L := n.lvsTo_few n.L
 omega
theorem onE_lt {n : Net} (hR : n.Right) (t : List Tr) (tree : Int) {q : Nat} (hq : q < (onL n t tree).length) : (onE n (onL n t tree) q).1 < n.K ∧ (onE n (onL n t tree) q).2 < n.K := by
 have hm : LN (onL n t tree) q ∈ onL n t tree := by
  unfold LN
  rw [List.getD_eq_getElem?_getD, List.getElem?_eq_getElem hq]
  exact List.getElem_mem hq
 unfold onE
 generalize LN (onL n t tree) q = j at hm ⊢
 unfold onL Pl.Net.lvs Pl.Net.lvsTo at hm
 rw [List.mem_filter, List.mem_filter, List.mem_range] at hm
 obtain ⟨⟨p1, p2⟩, ⟨p3, p4⟩, _⟩ := hR.links.ok j hm.1.1
 show (n.ls j).a.toNat < n.K ∧ (n.ls j).b.toNat < n.K
 omega
end Go.Proofs.YtaneiffnhphkhaaGreatDoor
