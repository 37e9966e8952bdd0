/- walks: the document's Plan (written by tools/gen_pql.py) -/
import Derived.Test.YtcbpafpaimpfnaaGreatDoorP32
import Derived.Test.YtcbpafpaimpfnaaGreatDoorP34
import Derived.Test.YtcbpafpaimpfnaaGreatDoorP35
import Derived.Test.YtcbpafpaimpfnaaGreatDoorP36
import Derived.Test.YtcbpafpaimpfnaaGreatDoorP37
import Derived.Test.YtcbpafpaimpfnaaGreatDoorP38
import Derived.Test.YtcbpafpaimpfnaaGreatDoorP39
import Derived.Test.YtcbpafpaimpfnaaGreatDoorP22
import Derived.BigQuiet
namespace Go.Proofs.YtcbpafpaimpfnaaGreatDoor
section
open Go.RowKit
open Vc (V Of)
open Pl (Br Net Pc Lk En St LN)
set_option maxRecDepth 100000 in
set_option maxHeartbeats 40000000 in
theorem rplan6_any (n : Net) (tree : Int) (w : World) (hat : n.at' w) (hwf : n.Wf) :
  Calls Tryz.prog 13 #[n.val, .int .i64 tree] w fun e w' => Below w.heap.size w w' ∧
   ((n.wrong.1 ≠ 0 ∧ e = .returned (.tuple #[.slice none 0 0, .agg (ftA n.wrong)])) ∨ (n.wrong.1 = 0 ∧ ¬ (0 ≤ tree ∧ tree ≤ 15) ∧ e = .returned (.tuple #[.slice none 0 0, .agg #[.int .i64 3, .int .i64 0]])) ∨
    (n.wrong.1 = 0 ∧ (0 ≤ tree ∧ tree ≤ 15) ∧ ∃ ao cap, e = .returned (.tuple #[.slice ao n.K cap, .agg #[.int .i64 0, .int .i64 0]]) ∧ RplAt w' ao n.K cap (Pl.rounds (n.ids tree) n.ends n.K n.K) n.ends ∧ NilOk ao n.K cap)) := by
 have hright : n.wrong.1 = 0 → n.Right := right_of hwf
 obtain ⟨X, HX⟩ : ∃ X, Hid (X = (w.alloc (.cells #[.slice n.bao n.K n.bcap, .slice n.lao n.L n.lcap] 25)).alloc (.cells #[.int .i64 0, .int .i64 0] 28)) := ⟨_, rfl⟩
 have hXB : Below w.heap.size w X := by rw [HX.out]; exact below_alloc2 _ _ _
 have hXn : X.heap[w.heap.size]? = some (.cells #[.slice n.bao n.K n.bcap, .slice n.lao n.L n.lcap] 25 (0, 0)) := by rw [HX.out]; exact heap_alloc2_old w _ _
 have hXf : X.heap[w.heap.size + 1]? = some (.cells #[.int .i64 0, .int .i64 0] 28 (0, 0)) := by rw [HX.out]; exact heap_alloc2_new w _ _
 obtain ⟨BN, HBN⟩ : ∃ BN, Hid (BN = w.heap.size) := ⟨_, rfl⟩
 obtain ⟨G, HG⟩ : ∃ G, Hid (G = w.heap.size + 1) := ⟨_, rfl⟩
 have HC : Hid (∀ W, Below X.heap.size X W → (W.cell? ⟨BN, 0, none⟩ = some (.slice n.bao n.K n.bcap) ∧ W.cell? ⟨BN, 1, none⟩ = some (.slice n.lao n.L n.lcap)) ∧ W.heap[G]? = some (.cells #[.int .i64 0, .int .i64 0] 28 (0, 0)) ∧ Below w.heap.size w W ∧ n.at' W) := fun W hW => by
  have h1 : Below w.heap.size w W := hXB.trans (hW.mono hXB.size)
  rw [HBN.out, HG.out]
  exact ⟨two_cells2 (keep hXn hW), keep hXf hW, h1, hat.below h1⟩
 have hGM : w.heap.size ≤ G := by rw [HG.out]; omega
 have HWR : Hid (Calls Tryz.prog 11 #[n.val] X fun e w' => e = .returned (.agg (ftA n.wrong)) ∧ Hid (Below X.heap.size X w')) := rwrong6_any n X (hat.below hXB)
 obtain ⟨⟨n0, n1⟩, _⟩ := HC.out X (Below.refl _ _)
 rw [HX.out, HBN.out] at n0 n1
 have HRI : Hid (n.wrong.1 = 0 → n.Right) := hright
 have hcap := hat.brs.1
 have hcapL := hat.lks.1
 clear hat hright hXn hXf hwf hXB
 obtain ⟨⟨E1, E2⟩, hE⟩ : ∃ E, E = n.wrong := ⟨_, rfl⟩
 rw [← hE] at HWR HRI ⊢
 clear hE
 simp only [ftA, Pl.Net.val] at *
 go_enter Tryz.func13, Tryz.ntmps13
 go_wp2_with fail
 rw [← HX.out]
 refine HWR.out.mono ?_
 rintro e w1 ⟨rfl, HB1⟩
 clear HWR n0 n1
 obtain ⟨Y, HY⟩ : ∃ Y, Hid (Y = w1.alloc (.cells #[.int .i64 E1, .int .i64 E2] 28)) := ⟨_, rfl⟩
 have HBY : Hid (Below X.heap.size X Y) := by rw [HY.out]; exact HB1.out.alloc HB1.out.size _
 have hYf : Y.heap[w1.heap.size]? = some (.cells #[.int .i64 E1, .int .i64 E2] 28 (0, 0)) := by rw [HY.out]; exact heap_alloc_last _ _
 obtain ⟨y0, y1⟩ := two_cells2 hYf
 obtain ⟨⟨m0, m1⟩, m2, m3, _⟩ := HC.out Y HBY.out
 obtain ⟨z0, z1⟩ := two_cells2 m2
 obtain ⟨f0, f1, _, _⟩ := vc_free m2
 have HM2 : Hid (Y.heap[G]? = some (.cells #[.int .i64 0, .int .i64 0] 28 (0, 0))) := m2
 have HM3 : Hid (Below w.heap.size w Y) := m3
 rw [HG.out] at z0 z1 f0 f1
 rw [HBN.out] at m0 m1
 clear hYf m2 m3
 by_cases e0 : E1 = 0
 ·subst e0
  have HR : Hid n.Right := HRI.out (by first | exact rfl | trivial)
  rw [HY.out] at y0 y1
  by_cases htr : 0 ≤ tree ∧ tree ≤ 15
  ·have t1 : ¬ tree < 0 := by omega
   have t2 : ¬ 15 < tree := by omega
   have HLV : Hid (Calls Tryz.prog 18 #[.agg #[.slice n.bao n.K n.bcap, .slice n.lao n.L n.lcap]] Y fun e w' => ∃ ao cap, e = .returned (.slice ao n.lvs.length cap) ∧ Hid (LRow w' ao n.lvs.length cap (fun j => n.ls (LN n.lvs j)) ∧ Below Y.heap.size Y w')) := by
    refine (rlive_any n Y (HC.out Y HBY.out).2.2.2 HR.out).mono ?_
    rintro e w' ⟨ao, cap, rfl, z1, _, _, z4⟩
    exact ⟨ao, cap, rfl, z1, z4⟩
   rw [HY.out] at m0 m1
   go_wp2_with fail
   rw [← HY.out]
   refine HLV.out.mono ?_
   rintro e W5 ⟨lao, lcap, rfl, H5⟩
   clear HLV y0 y1 m0 m1 z0 z1 f0 f1
   obtain ⟨es, HES⟩ : ∃ es, Hid (es = fun j => n.ls (LN n.lvs j)) := ⟨_, rfl⟩
   obtain ⟨M, HM⟩ : ∃ M, Hid (M = n.lvs.length) := ⟨_, rfl⟩
   rw [← HM.out, ← HES.out] at H5
   rw [← HM.out]
   have hK := HR.out.few
   have hL := HR.out.fewL
   have HMl : Hid (M ≤ 40) := by
    have h2 : n.lvs.length ≤ n.L := n.lvsTo_few n.L
    show M ≤ 40
    rw [HM.out]
    omega
   have hM40 := HMl.out
   have HLK : Hid (∀ j, j < M → ((es j).a.toNat < n.K ∧ (es j).b.toNat < n.K ∧ (es j).a.toNat ≠ (es j).b.toNat) ∧ ((es j).a = ((es j).a.toNat : Int) ∧ (es j).b = ((es j).b.toNat : Int)) ∧ (1 ≤ (es j).cost ∧ (es j).cost ≤ 200000)) := fun j hj => by
    rw [HM.out] at hj
    obtain ⟨h1, _⟩ := n.lvs_mem hj
    have e : es j = n.ls (LN n.lvs j) := by rw [HES.out]
    rw [e]
    obtain ⟨⟨p1, p2⟩, ⟨p3, p4⟩, p5, p6⟩ := HR.out.links.ok _ h1
    refine ⟨⟨by omega, by omega, by omega⟩, ⟨by omega, by omega⟩, ?_⟩
    omega
   have H5B : Hid (Below X.heap.size X W5) := HBY.out.trans (H5.out.2.mono HBY.out.size)
   have HST : Hid (∀ W, Below W5.heap.size W5 W → LRow W lao M lcap es ∧ ((W.cell? ⟨BN, 0, none⟩ = some (.slice n.bao n.K n.bcap) ∧ W.cell? ⟨BN, 1, none⟩ = some (.slice n.lao n.L n.lcap)) ∧ W.heap[G]? = some (.cells #[.int .i64 0, .int .i64 0] 28 (0, 0)) ∧ Below w.heap.size w W ∧ n.at' W)) := fun W hW => ⟨CRow.below H5.out.1 hW, HC.out W (H5B.out.trans (hW.mono H5B.out.size))⟩
   have hcl := H5.out.1.1
   obtain ⟨g1, HG1⟩ : ∃ g, Hid (g = W5.heap.size) := ⟨_, rfl⟩
   have hmk := make_ia W5 (K := n.K) (by omega)
   obtain ⟨V0, HV0⟩ : ∃ V, Hid (V = W5.alloc (.cells (rowC n.K 1 (fun _ _ => .int .i64 0)) 3)) := ⟨_, rfl⟩
   have H0 : Hid (IaAt V0 g1 n.K (fun i => if i < 0 then (i : Int) else 0) ∧ Below W5.heap.size W5 V0) := by
    rw [HV0.out, HG1.out]
    exact ⟨IaAt.congr (f := fun _ => 0) (heap_alloc_last _ _) (fun i _ => by rw [if_neg (by omega)]), below_alloc1 _ _⟩
   obtain ⟨_, ⟨m0, m1⟩, _⟩ := HST.out W5 (Below.refl _ _)
   rw [HBN.out] at m0 m1
   have hg1w : W5.heap.size ≤ g1 := by rw [HG1.out]; exact Nat.le_refl _
   clear HRI HBY HM2 HM3 H5 H5B HB1
   go_wp2_with fail
   rw [← HV0.out]
   rw [← HG1.out]
   rw [← HG.out]
   rw [← HBN.out]
   clear m0 m1 hmk
   go_loopw [54] (fun i wr => ∃ j : Nat, j ≤ n.K ∧ i = .int .i64 j ∧ Hid (IaAt wr g1 n.K (fun i => if i < j then (i : Int) else 0) ∧ Below W5.heap.size W5 wr)) (fun i _ => n.K - (intOf i).toNat)
   case atStart => exact ⟨0, by omega, rfl, H0⟩
   case round =>
    obtain ⟨j, hj, rfl, hB⟩ := hrel
    clear H0
    by_cases hlt : j < n.K
    ·as_aux_lemma =>
      have i1 : (j : Int) < (n.K : Int) := by omega
      have i0 : (0 : Int) ≤ (j : Int) := by omega
      obtain ⟨c0, c1⟩ := hB.out.1.cell hlt
      have wj : IntKind.i64.wrap ((j : Int) + 1) = ((j + 1 : Nat) : Int) := by rw [IntKind.wrap_i64]; omega
      have hgl : g1 < wr.heap.size := plt_some hB.out.1
      have HN : Hid (IaAt (wr.setCell ⟨g1, j, none⟩ (.int .i64 (j : Int))) g1 n.K (fun i => if i < j + 1 then (i : Int) else 0) ∧ Below W5.heap.size W5 (wr.setCell ⟨g1, j, none⟩ (.int .i64 (j : Int)))) := by
       refine ⟨(hB.out.1.set hlt (j : Int)).congr (fun i hi => ?_), hB.out.2.setCell hg1w _⟩
       by_cases e : i = j
       ·rw [if_pos e, if_pos (by omega), e]
       ·rw [if_neg e]
        by_cases e2 : i < j
        ·rw [if_pos e2, if_pos (by omega)]
        ·rw [if_neg e2, if_neg (by omega)]
      clear hB
      go_wp2_with fail
      exact ⟨⟨j + 1, by omega, by go_num, HN⟩, by simp [intOf]; omega⟩
    ·obtain rfl : j = n.K := by omega
     have i1 : ¬ (n.K : Int) < (n.K : Int) := by omega
     have H1 : Hid (IaAt wr g1 n.K (fun i => ((Pl.gRounds es M 0 i : Nat) : Int)) ∧ Below W5.heap.size W5 wr) := ⟨hB.out.1.congr (fun i hi => by rw [if_pos hi]; rfl), hB.out.2⟩
     obtain ⟨_, ⟨m0, m1⟩, _⟩ := HST.out wr hB.out.2
     clear hB
     go_wp2_with fail
     clear m0 m1
     go_loopw [65] (fun i wr => ∃ r : Nat, r ≤ n.K ∧ i = .int .i64 r ∧ Hid (IaAt wr g1 n.K (fun i => ((Pl.gRounds es M r i : Nat) : Int)) ∧ Below W5.heap.size W5 wr)) (fun i _ => n.K - (intOf i).toNat)
     case atStart => exact ⟨0, by omega, rfl, H1⟩
     case round =>
      rename World => ws
      obtain ⟨r, hr, rfl, hB⟩ := hrel
      clear H1
      by_cases hlr : r < n.K
      ·as_aux_lemma =>
        have i2 : (r : Int) < (n.K : Int) := by omega
        have wr1 : IntKind.i64.wrap ((r : Int) + 1) = ((r + 1 : Nat) : Int) := by rw [IntKind.wrap_i64]; omega
        have H2 : Hid (IaAt ws g1 n.K (fun i => ((Pl.gTo es (Pl.gRounds es M r) 0 i : Nat) : Int)) ∧ Below W5.heap.size W5 ws) := hB
        clear hB
        go_wp2_with fail
        go_loopw [69] (fun i wr => ∃ j : Nat, j ≤ M ∧ i = .int .i64 j ∧ Hid (IaAt wr g1 n.K (fun i => ((Pl.gTo es (Pl.gRounds es M r) j i : Nat) : Int)) ∧ Below W5.heap.size W5 wr)) (fun i _ => M - (intOf i).toNat)
        case atStart => exact ⟨0, by omega, rfl, H2⟩
        case round =>
         rename World => wt
         obtain ⟨j, hj, rfl, hB⟩ := hrel
         clear H2
         by_cases hlj : j < M
         ·as_aux_lemma =>
           have hj1 : (j : Int) < (M : Int) := by omega
           have hj0 : (0 : Int) ≤ (j : Int) := by omega
           have hrow := (HST.out wt hB.out.2).1
           obtain ⟨lb, loff, ea, _⟩ := CRow.some hrow (by omega)
           rw [ea] at hrow ⊢
           obtain ⟨c0, c1', c2, c3, c4, c5⟩ := LRow.cells hrow hlj
           obtain ⟨⟨q1, q2, q3⟩, ⟨ha, hb⟩, _⟩ := HLK.out j hlj
           obtain ⟨th, hth⟩ : ∃ th, th = Pl.gTo es (Pl.gRounds es M r) j := ⟨_, rfl⟩
           obtain ⟨aa, haa⟩ : ∃ aa, aa = (es j).a.toNat := ⟨_, rfl⟩
           obtain ⟨bb, hbb⟩ : ∃ bb, bb = (es j).b.toNat := ⟨_, rfl⟩
           have HSTP : Hid (∀ i, Pl.gTo es (Pl.gRounds es M r) (j + 1) i = if i = aa ∨ i = bb then min (th aa) (th bb) else th i) := fun i => by
            show Pl.gStep (Pl.gTo es (Pl.gRounds es M r) j) (es j) i = _
            unfold Pl.gStep
            rw [← haa, ← hbb, ← hth]
           have hBl := hB.out.1
           rw [← hth] at hBl
           rw [ha, ← haa] at c0
           rw [hb, ← hbb] at c2
           rw [← haa, ← hbb] at q3
           rw [← haa] at q1
           rw [← hbb] at q2
           generalize (es j).pa = pa at *
           generalize (es j).pb = pb at *
           generalize (es j).cost = cost at *
           generalize (es j).up = up at *
           obtain ⟨Z, HZ⟩ : ∃ Y, Hid (Y = wt.alloc (.cells #[.int .i64 (aa : Int), .int .i64 pa, .int .i64 (bb : Int), .int .i64 pb, .int .i64 cost, .bool up] 46)) := ⟨_, rfl⟩
           have hZB : Below wt.heap.size wt Z := by rw [HZ.out]; exact below_alloc1 _ _
           have hZx : Z.heap[wt.heap.size]? = some (.cells #[.int .i64 (aa : Int), .int .i64 pa, .int .i64 (bb : Int), .int .i64 pb, .int .i64 cost, .bool up] 46 (0, 0)) := by rw [HZ.out]; exact heap_alloc_last _ _
           obtain ⟨q, HQ⟩ : ∃ q, Hid (q = wt.heap.size) := ⟨_, rfl⟩
           have hBZ : IaAt Z g1 n.K (fun i => ((th i : Nat) : Int)) := keep hBl hZB
           have hWZ : Below W5.heap.size W5 Z := hB.out.2.trans (hZB.mono hB.out.2.size)
           obtain ⟨y0, _, y2, _⟩ := lk_cells hZx
           obtain ⟨ga, gaf⟩ := hBZ.cell q1
           obtain ⟨gb, gbf⟩ := hBZ.cell q2
           have hqG : q ≠ g1 := by rw [HQ.out]; have := plt_some hBl; omega
           have iaa : (aa : Int) < (n.K : Int) := by omega
           have ibb : (bb : Int) < (n.K : Int) := by omega
           have iaa0 : (0 : Int) ≤ (aa : Int) := by omega
           have ibb0 : (0 : Int) ≤ (bb : Int) := by omega
           have wj : IntKind.i64.wrap ((j : Int) + 1) = ((j + 1 : Nat) : Int) := by rw [IntKind.wrap_i64]; omega
           have HBZ : Hid (IaAt Z g1 n.K (fun i => ((th i : Nat) : Int)) ∧ Below W5.heap.size W5 Z) := ⟨hBZ, hWZ⟩
           have HNX : Hid (∀ k lo, lo = min (th aa) (th bb) → IaAt (((Z.drewN k).setCell ⟨g1, aa, none⟩ (.int .i64 (lo : Int))).setCell ⟨g1, bb, none⟩ (.int .i64 (lo : Int))) g1 n.K (fun i => ((Pl.gTo es (Pl.gRounds es M r) (j + 1) i : Nat) : Int)) ∧ Below W5.heap.size W5 (((Z.drewN k).setCell ⟨g1, aa, none⟩ (.int .i64 (lo : Int))).setCell ⟨g1, bb, none⟩ (.int .i64 (lo : Int)))) := fun k lo hlo => by
            have hd : Below Z.heap.size Z (Z.drewN k) := below_drewN (Below.refl _ _) k
            have h1 : IaAt (Z.drewN k) g1 n.K (fun i => ((th i : Nat) : Int)) := keep HBZ.out.1 hd
            have hz := HBZ.out.2.trans (hd.mono HBZ.out.2.size)
            refine ⟨((h1.set q1 (lo : Int)).set q2 (lo : Int)).congr (fun i hi => ?_), (hz.setCell hg1w _).setCell hg1w _⟩
            rw [HSTP.out i]
            by_cases e1 : i = bb
            ·rw [if_pos e1, if_pos (Or.inr e1), hlo]
            ·rw [if_neg e1]
             by_cases e2 : i = aa
             ·rw [if_pos e2, if_pos (Or.inl e2), hlo]
             ·rw [if_neg e2, if_neg (fun z => z.elim e2 e1)]
           clear hrow ha hb haa hbb hth hBl hZB hZx hBZ hWZ hB HBZ HSTP ea
           generalize hva : th aa = va at *
           generalize hvb : th bb = vb at *
           by_cases hlow : vb < va
           ·have hli : (vb : Int) < (va : Int) := by omega
            have HN : Hid (∀ k, _) := fun k => HNX.out k vb (by omega)
            rw [HZ.out] at y0 y2 ga gaf gb gbf
            clear HNX
            go_wp2_with fail
            rw [← HZ.out] at y0 y2 ga gaf gb gbf ⊢
            rw [← HQ.out] at y0 y2 ⊢
            go_region
            all_goals go_wp2_with fail
            all_goals exact ⟨⟨j + 1, by omega, by go_num, HN.out _⟩, by simp [intOf]; omega⟩
           ·have hli : ¬ (vb : Int) < (va : Int) := by omega
            have HN : Hid (∀ k, _) := fun k => HNX.out k va (by omega)
            rw [HZ.out] at y0 y2 ga gaf gb gbf
            clear HNX
            go_wp2_with fail
            rw [← HZ.out] at y0 y2 ga gaf gb gbf ⊢
            rw [← HQ.out] at y0 y2 ⊢
            go_region
            all_goals go_wp2_with fail
            all_goals exact ⟨⟨j + 1, by omega, by go_num, HN.out _⟩, by simp [intOf]; omega⟩
         ·obtain rfl : j = M := by omega
          have hj1 : ¬ (j : Int) < (j : Int) := by omega
          have HN : Hid (IaAt wt g1 n.K (fun i => ((Pl.gRounds es j (r + 1) i : Nat) : Int)) ∧ Below W5.heap.size W5 wt) := hB
          clear hB
          go_wp2_with fail
          exact ⟨⟨r + 1, by omega, by go_num, HN⟩, by simp [intOf]; omega⟩
      ·obtain rfl : r = n.K := by omega
       have i2 : ¬ (n.K : Int) < (n.K : Int) := by omega
       obtain ⟨Wb, HWb⟩ : ∃ Wb, Hid (Wb = ws) := ⟨_, rfl⟩
       obtain ⟨gr, hgr⟩ : ∃ gr, gr = Pl.gRounds es M n.K := ⟨_, rfl⟩
       have hB1 := hB.out.1
       rw [← hgr] at hB1
       have HBS : Hid (∀ W, Below Wb.heap.size Wb W → IaAt W g1 n.K (fun i => ((gr i : Nat) : Int)) ∧ LRow W lao M lcap es ∧ ((W.cell? ⟨BN, 0, none⟩ = some (.slice n.bao n.K n.bcap) ∧ W.cell? ⟨BN, 1, none⟩ = some (.slice n.lao n.L n.lcap)) ∧ W.heap[G]? = some (.cells #[.int .i64 0, .int .i64 0] 28 (0, 0)) ∧ Below w.heap.size w W ∧ n.at' W)) := fun W hW => by
        rw [HWb.out] at hW
        obtain ⟨s1, s2⟩ := HST.out W (hB.out.2.trans (hW.mono hB.out.2.size))
        exact ⟨keep hB1 hW, s1, s2⟩
       have HRO : Hid (∀ i, i < n.K → Pl.rootTo (n.ids tree) gr i n.K = (Pl.says (n.ids tree) n.ls n.live n.K n.L i).v.root) := fun i hi => by
        rw [hgr, HES.out, HM.out]
        exact Pl.root_same HR.out.links HR.out.few n.lives hi
       have hmv := make_va Wb (K := n.K) (by omega)
       have hmi := make_ia (Wb.alloc (.cells (rowC n.K 4 (fun _ => vC Vc.v0)) 48)) (K := n.K) (by omega)
       obtain ⟨g2, HG2⟩ : ∃ g, Hid (g = Wb.heap.size) := ⟨_, rfl⟩
       obtain ⟨V0, HV1⟩ : ∃ V, Hid (V = (Wb.alloc (.cells (rowC n.K 4 (fun _ => vC Vc.v0)) 48)).alloc (.cells (rowC n.K 1 (fun _ _ => .int .i64 0)) 3)) := ⟨_, rfl⟩
       obtain ⟨ρ, Hρ⟩ : ∃ ρ, Hid (ρ = fun i => (Pl.says (n.ids tree) n.ls n.live n.K n.L i).v.root) := ⟨_, rfl⟩
       have H3 : Hid (Below Wb.heap.size Wb V0 ∧ VaAt V0 g2 n.K (fun i => if i < 0 then ⟨ρ i, 0, n.ids tree i, 0⟩ else Vc.v0) ∧ IaAt V0 (g2 + 1) n.K (fun i => if i < 0 then Pl.far0 (n.ids tree) ρ i else 0)) := by
        rw [HV1.out, HG2.out]
        refine ⟨below_alloc2 _ _ _, VaAt.congr (v := fun _ => Vc.v0) (heap_alloc2_old _ _ _) (fun i _ => by rw [if_neg (by omega)]), IaAt.congr (f := fun _ => 0) (heap_alloc2_new _ _ _) (fun i _ => by rw [if_neg (by omega)])⟩
       obtain ⟨_, _, ⟨m0, m1⟩, _⟩ := HBS.out V0 H3.out.1
       rw [HV1.out] at m0 m1
       have hg2w : Wb.heap.size ≤ g2 := by rw [HG2.out]; exact Nat.le_refl _
       clear hB hB1 HST HG1 hg1w
       rw [← HWb.out]
       go_wp2_with fail
       rw [← HV1.out]
       rw [← HG2.out]
       clear m0 m1 hmv hmi
       go_loopw [109] (fun i wr => ∃ j : Nat, j ≤ n.K ∧ i = .int .i64 j ∧ Hid (Below Wb.heap.size Wb wr ∧ VaAt wr g2 n.K (fun i => if i < j then ⟨ρ i, 0, n.ids tree i, 0⟩ else Vc.v0) ∧ IaAt wr (g2 + 1) n.K (fun i => if i < j then Pl.far0 (n.ids tree) ρ i else 0))) (fun i _ => n.K - (intOf i).toNat)
       case atStart => exact ⟨0, by omega, rfl, H3⟩
       case round =>
        rename World => wu
        obtain ⟨j, hj, rfl, hB⟩ := hrel
        clear H3
        by_cases hlj : j < n.K
        ·as_aux_lemma =>
          have i3 : (j : Int) < (n.K : Int) := by omega
          have i4 : (0 : Int) ≤ (j : Int) := by omega
          have hatU := (HBS.out wu hB.out.1).2.2.2.2.2
          obtain ⟨bb, boff, ebb, _⟩ := CRow.some hatU.brs (by omega)
          have HEB : Hid (n.bao = some ⟨bb, boff, none⟩) := ebb
          have hbr := hatU.brs
          rw [ebb] at hbr
          obtain ⟨c0, c1, c2, c3, c4⟩ := BRow.cells hbr hlj
          obtain ⟨b, hb⟩ : ∃ b, b = n.bs j := ⟨_, rfl⟩
          rw [← hb] at c0 c1 c2 c3 c4
          obtain ⟨Z, HZ⟩ : ∃ Z, Hid (Z = wu.alloc (.cells #[.int .u64 b.addr, .slice b.pao b.pn b.pcap, .string b.reg.s, .int .i64 b.reg.rev, .slice b.reg.ao b.reg.n b.reg.cap] 40)) := ⟨_, rfl⟩
          have hZB : Below wu.heap.size wu Z := by rw [HZ.out]; exact below_alloc1 _ _
          have hZ5 : Z.heap[wu.heap.size]? = some (.cells #[.int .u64 b.addr, .slice b.pao b.pn b.pcap, .string b.reg.s, .int .i64 b.reg.rev, .slice b.reg.ao b.reg.n b.reg.cap] 40 (0, 0)) := by rw [HZ.out]; exact heap_alloc_last _ _
          have hWZ : Below Wb.heap.size Wb Z := hB.out.1.trans (hZB.mono hB.out.1.size)
          obtain ⟨d0, d1, d2, d3, d4⟩ := br_cells hZ5
          have HID : Hid (∀ (q : Nat) (W : World), q < n.K → Below Wb.heap.size Wb W → Calls Tryz.prog 16 #[.agg (brA (n.bs q)), .int .i64 tree] W fun e w' => e = .returned (.int .u64 (n.ids tree q)) ∧ Below W.heap.size W w') := fun q W hq hW => rid6_any (n.bs q) tree W ((HBS.out W hW).2.2.2.2.2.each q hq) (HR.out.fine q hq) htr
          have HI1 : Hid (Calls Tryz.prog 16 #[.agg #[.int .u64 b.addr, .slice b.pao b.pn b.pcap, .string b.reg.s, .int .i64 b.reg.rev, .slice b.reg.ao b.reg.n b.reg.cap], .int .i64 tree] Z fun e w' => e = .returned (.int .u64 (n.ids tree j)) ∧ Below Z.heap.size Z w') := by
           have h := HID.out j Z hlj hWZ
           rw [← hb] at h
           exact h
          have HZV : Hid (∀ W, Below Z.heap.size Z W → Below Wb.heap.size Wb W ∧ VaAt W g2 n.K (fun i => if i < j then ⟨ρ i, 0, n.ids tree i, 0⟩ else Vc.v0) ∧ IaAt W (g2 + 1) n.K (fun i => if i < j then Pl.far0 (n.ids tree) ρ i else 0)) := fun W hW => by
           have h := hZB.trans (hW.mono hZB.size)
           exact ⟨hB.out.1.trans (h.mono hB.out.1.size), keep hB.out.2.1 h, keep hB.out.2.2 h⟩
          have wj : IntKind.i64.wrap ((j : Int) + 1) = ((j + 1 : Nat) : Int) := by rw [IntKind.wrap_i64]; omega
          rw [HZ.out] at d0 d1 d2 d3 d4
          clear hatU hbr hb hZB hZ5 hWZ hB
          rw [ebb]
          go_wp2_with fail
          rw [← HZ.out]
          refine HI1.out.mono ?_
          rintro e w6 ⟨rfl, hb6⟩
          obtain ⟨hW6, hV6, hI6⟩ := HZV.out w6 hb6
          obtain ⟨⟨v0, v1, v2, v3⟩, vf⟩ := hV6.cells hlj
          have vf0 := vf (j * 4)
          have vf1 := vf (j * 4 + 1)
          have vf2 := vf (j * 4 + 2)
          have vf3 := vf (j * 4 + 3)
          have hgl : g2 < w6.heap.size := plt_some hV6
          obtain ⟨V1, HV2⟩ : ∃ V, Hid (V = (((w6.setCell ⟨g2, j * 4, none⟩ (.int .u64 (n.ids tree j))).setCell ⟨g2, j * 4 + 1, none⟩ (.int .i64 0)).setCell ⟨g2, j * 4 + 2, none⟩ (.int .u64 (n.ids tree j))).setCell ⟨g2, j * 4 + 3, none⟩ (.int .i64 0)) := ⟨_, rfl⟩
          have H4 : Hid (Below Wb.heap.size Wb V1 ∧ VaAt V1 g2 n.K (fun i => if i = j then ⟨Pl.rootTo (n.ids tree) gr j 0, 0, n.ids tree j, 0⟩ else if i < j then ⟨ρ i, 0, n.ids tree i, 0⟩ else Vc.v0) ∧ IaAt V1 (g2 + 1) n.K (fun i => if i < j then Pl.far0 (n.ids tree) ρ i else 0)) := by
           have h := hV6.all hlj ⟨n.ids tree j, 0, n.ids tree j, 0⟩
           rw [HV2.out]
           refine ⟨(((hW6.setCell hg2w _).setCell hg2w _).setCell hg2w _).setCell hg2w _, h, ?_⟩
           exact (((hI6.other (by omega)).other (by omega)).other (by omega)).other (by omega)
          obtain ⟨_, _, ⟨m0, m1⟩, _⟩ := HBS.out V1 H4.out.1
          rw [HV2.out] at m0 m1
          rw [HEB.out] at m0
          clear HI1 HZV hW6 hV6 hI6 vf hb6 c0 c1 c2 c3 c4 d0 d1 d2 d3 d4
          go_wp2_with fail
          rw [← HV2.out]
          clear v0 v1 v2 v3 vf0 vf1 vf2 vf3 m0 m1 hgl
          go_loopw [126] (fun i wr => ∃ q : Nat, q ≤ n.K ∧ i = .int .i64 q ∧ Hid (Below Wb.heap.size Wb wr ∧ VaAt wr g2 n.K (fun i => if i = j then ⟨Pl.rootTo (n.ids tree) gr j q, 0, n.ids tree j, 0⟩ else if i < j then ⟨ρ i, 0, n.ids tree i, 0⟩ else Vc.v0) ∧ IaAt wr (g2 + 1) n.K (fun i => if i < j then Pl.far0 (n.ids tree) ρ i else 0))) (fun i _ => n.K - (intOf i).toNat)
          case atStart => exact ⟨0, by omega, rfl, H4⟩
          case round =>
           rename World => wv
           obtain ⟨q, hq, rfl, hB⟩ := hrel
           clear H4
           by_cases hlq : q < n.K
           ·as_aux_lemma =>
             have i5 : (q : Int) < (n.K : Int) := by omega
             have i6 : (0 : Int) ≤ (q : Int) := by omega
             have hbr := (HBS.out wv hB.out.1).2.2.2.2.2.brs
             rw [HEB.out] at hbr
             obtain ⟨c0, c1, c2, c3, c4⟩ := BRow.cells hbr hlq
             obtain ⟨b, hb⟩ : ∃ b, b = n.bs q := ⟨_, rfl⟩
             rw [← hb] at c0 c1 c2 c3 c4
             obtain ⟨Z, HZ⟩ : ∃ Z, Hid (Z = wv.alloc (.cells #[.int .u64 b.addr, .slice b.pao b.pn b.pcap, .string b.reg.s, .int .i64 b.reg.rev, .slice b.reg.ao b.reg.n b.reg.cap] 40)) := ⟨_, rfl⟩
             have hZB : Below wv.heap.size wv Z := by rw [HZ.out]; exact below_alloc1 _ _
             have hZ5 : Z.heap[wv.heap.size]? = some (.cells #[.int .u64 b.addr, .slice b.pao b.pn b.pcap, .string b.reg.s, .int .i64 b.reg.rev, .slice b.reg.ao b.reg.n b.reg.cap] 40 (0, 0)) := by rw [HZ.out]; exact heap_alloc_last _ _
             have wq : IntKind.i64.wrap ((q : Int) + 1) = ((q + 1 : Nat) : Int) := by rw [IntKind.wrap_i64]; omega
             obtain ⟨rt, hrt⟩ : ∃ rt, rt = Pl.rootTo (n.ids tree) gr j q := ⟨_, rfl⟩
             have HZW : Hid (∀ W, Below Z.heap.size Z W → (Below Wb.heap.size Wb W ∧ VaAt W g2 n.K (fun i => if i = j then ⟨rt, 0, n.ids tree j, 0⟩ else if i < j then ⟨ρ i, 0, n.ids tree i, 0⟩ else Vc.v0) ∧ IaAt W (g2 + 1) n.K (fun i => if i < j then Pl.far0 (n.ids tree) ρ i else 0)) ∧ W.heap[wv.heap.size]? = some (.cells #[.int .u64 b.addr, .slice b.pao b.pn b.pcap, .string b.reg.s, .int .i64 b.reg.rev, .slice b.reg.ao b.reg.n b.reg.cap] 40 (0, 0))) := fun W hW => by
              have h := hZB.trans (hW.mono hZB.size)
              rw [hrt]
              exact ⟨⟨hB.out.1.trans (h.mono hB.out.1.size), keep hB.out.2.1 h, keep hB.out.2.2 h⟩, keep hZ5 hW⟩
             have HIQ : Hid (∀ W, Below Z.heap.size Z W → Calls Tryz.prog 16 #[.agg #[.int .u64 b.addr, .slice b.pao b.pn b.pcap, .string b.reg.s, .int .i64 b.reg.rev, .slice b.reg.ao b.reg.n b.reg.cap], .int .i64 tree] W fun e w' => e = .returned (.int .u64 (n.ids tree q)) ∧ Below W.heap.size W w') := fun W hW => by
              have h := HID.out q W hlq (HZW.out W hW).1.1
              rw [← hb] at h
              exact h
             have HC35 : Hid (∀ V, Below Z.heap.size Z V → V.cell? ⟨g1, q, none⟩ = some (.int .i64 ((gr q : Nat) : Int)) ∧ V.cell? ⟨g1, j, none⟩ = some (.int .i64 ((gr j : Nat) : Int)) ∧ (V.cell? ⟨wv.heap.size, 0, none⟩ = some (.int .u64 b.addr) ∧ V.cell? ⟨wv.heap.size, 1, none⟩ = some (.slice b.pao b.pn b.pcap) ∧ V.cell? ⟨wv.heap.size, 2, none⟩ = some (.string b.reg.s) ∧ V.cell? ⟨wv.heap.size, 3, none⟩ = some (.int .i64 b.reg.rev) ∧ V.cell? ⟨wv.heap.size, 4, none⟩ = some (.slice b.reg.ao b.reg.n b.reg.cap)) ∧ V.cell? ⟨g2, j * 4, none⟩ = some (.int .u64 rt)) := fun V hV => by
              obtain ⟨⟨z1, z2, z3⟩, z4⟩ := HZW.out V hV
              have hg := (HBS.out V z1).1
              have hv := (z2.cells hlj).1.1
              rw [if_pos rfl] at hv
              exact ⟨(hg.cell hlq).1, (hg.cell hlj).1, br_cells z4, hv⟩
             have HSAME : Hid (Pl.rootTo (n.ids tree) gr j (q + 1) = if gr q = gr j ∧ n.ids tree q < rt then n.ids tree q else rt) := by
              show Pl.rootTo (n.ids tree) gr j (q + 1) = _
              rw [hrt]
              rfl
             have HSKIP : Hid (¬ (gr q = gr j ∧ n.ids tree q < rt) → ∀ W, Below Z.heap.size Z W → Below Wb.heap.size Wb W ∧ VaAt W g2 n.K (fun i => if i = j then ⟨Pl.rootTo (n.ids tree) gr j (q + 1), 0, n.ids tree j, 0⟩ else if i < j then ⟨ρ i, 0, n.ids tree i, 0⟩ else Vc.v0) ∧ IaAt W (g2 + 1) n.K (fun i => if i < j then Pl.far0 (n.ids tree) ρ i else 0)) := fun h W hW => by
              rw [HSAME.out, if_neg h]
              exact (HZW.out W hW).1
             clear hbr hb hZB hZ5 hB hrt
             by_cases heq : gr q = gr j
             ·go_upto_region 35 with fail
              rw [← HZ.out]
              refine pz35 [] Z g1 g2 wv.heap.size n.K q j ((gr j : Nat) : Int) tree (n.ids tree q) rt (.int .u64 b.addr) (.slice b.pao b.pn b.pcap) (.string b.reg.s) (.int .i64 b.reg.rev) (.slice b.reg.ao b.reg.n b.reg.cap) _ _ _ _ _ _ _ _ _ _ _ _ _ _ _ _ _ _ _ _ _ _ _ _ _ _ _ _ _ _ _ _ _ _ _ _ _ _ _ _ _ _ _ _ _ _ _ _ _ _ _ _ _ _ _ _ _ _ _ _ _ _ _ _ _ _ _ _ _ _ _ _ _ _ _ _ _ _ _ _ _ _ _ _ _ _ _ _ _ _ _ _ _ _ _ _ _ _ _ _ _ _ _ _ _ _ _ _ _ _ _ _ _ _ _ _ _ _ _ _ _ _ _ _ _ _ _ _ _ _ _ _ _ _ _ _ _ _ _ _ _ _ _ _ _ _ _ _ _ _ _ _ _ _ _ _ _ _ _ _ _ _ _ _ _ _ _ _ _ _ _ _ _ _ _ _ _ _ _ _ _ _ _ _ _ _ _ _ _ _ _ _ _ _ _ _ _ _ _ _ _ _ _ _ _ _ _ _ _ _ _ _ _ _ _ _ _ _ _ _ _ _ _ _ _ _ _ _ _ _ _ _ _ _ _ _ _ _ _ _ _ _ _ _ _ _ _ _ _ _ _ _ _ _ _ _ _ _ _ _ _ _ _ _ _ _ _ _ _ _ _ _ _ _ _ _ _ _ _ _ _ _ _ _ _ _ _ _ _ _ _ _ _ _ _ _ _ _ _ _ _ _ _ _ _ _ _ _ _ _ _ _ _ _ _ ?hQ ?hC ?k1 ?k2 ?hI ?fin _ _ _ _ _ _ _ _ _ _ _ _ _ _ _ _ _ _ _ _
              case hQ => exact fun _ _ _ _ _ h => h
              case hC =>
               intro V hV
               have h := HC35.out V hV
               rw [heq] at h
               exact h
              case k1 => exact hlq
              case k2 => exact hlj
              case hI => exact HIQ.out
              case fin =>
               intro w7 hw7
               by_cases hless : n.ids tree q < rt
               ·have hd : decide (n.ids tree q < rt) = true := decide_eq_true hless
                rw [hd]
                obtain ⟨_, _, ⟨d0, d1, d2, d3, d4⟩, _⟩ := HC35.out w7 hw7
                have HW7 : Hid (Below Z.heap.size Z w7) := hw7
                have HUP : Hid (∀ W, Below w7.heap.size w7 W → Below Z.heap.size Z W) := fun W hW => HW7.out.trans (hW.mono HW7.out.size)
                clear HC35 HSKIP hw7
                go_wp2_with fail
                refine (HIQ.out w7 HW7.out).mono ?_
                rintro e w8 ⟨rfl, hb8⟩
                obtain ⟨⟨z1, z2, z3⟩, _⟩ := HZW.out w8 (HUP.out w8 hb8)
                obtain ⟨⟨v0, _⟩, vf⟩ := z2.cells hlj
                rw [if_pos rfl] at v0
                have vf0 := vf (j * 4)
                have HN : Hid (Below Wb.heap.size Wb (w8.setCell ⟨g2, j * 4, none⟩ (.int .u64 (n.ids tree q))) ∧ VaAt (w8.setCell ⟨g2, j * 4, none⟩ (.int .u64 (n.ids tree q))) g2 n.K (fun i => if i = j then ⟨Pl.rootTo (n.ids tree) gr j (q + 1), 0, n.ids tree j, 0⟩ else if i < j then ⟨ρ i, 0, n.ids tree i, 0⟩ else Vc.v0) ∧ IaAt (w8.setCell ⟨g2, j * 4, none⟩ (.int .u64 (n.ids tree q))) (g2 + 1) n.K (fun i => if i < j then Pl.far0 (n.ids tree) ρ i else 0)) := by
                 refine ⟨z1.setCell hg2w _, (z2.root hlj (n.ids tree q)).congr (fun i hi => ?_), z3.other (by omega)⟩
                 have hs : Pl.rootTo (n.ids tree) gr j (q + 1) = n.ids tree q := by rw [HSAME.out, if_pos ⟨heq, hless⟩]
                 rw [hs]
                 by_cases e : i = j
                 ·simp [e]
                 ·simp [e]
                clear z1 z2 z3 vf HZW HIQ
                go_wp2_with fail
                exact ⟨⟨q + 1, by omega, by go_num, HN⟩, by simp [intOf]; omega⟩
               ·have hd : decide (n.ids tree q < rt) = false := decide_eq_false hless
                rw [hd]
                have HN : Hid _ := HSKIP.out (fun z => hless z.2) w7 hw7
                clear HC35 HIQ HSKIP HZW
                go_wp2_with fail
                exact ⟨⟨q + 1, by omega, by go_num, HN⟩, by simp [intOf]; omega⟩
             ·have hni : ¬ (((gr q : Nat) : Int) = ((gr j : Nat) : Int)) := by omega
              have hnd : decide (gr q = gr j) = false := decide_eq_false heq
              have hnd2 : decide (((gr q : Nat) : Int) = ((gr j : Nat) : Int)) = false := decide_eq_false hni
              obtain ⟨e1, e2, _⟩ := HC35.out Z (Below.refl _ _)
              have HN : Hid (∀ k, _) := fun k => HSKIP.out (fun z => heq z.1) (Z.drewN k) (below_drewN (Below.refl _ _) k)
              clear HC35 HIQ HSKIP HZW HID
              generalize ((gr q : Nat) : Int) = ga at *
              generalize ((gr j : Nat) : Int) = gb at *
              rw [HZ.out] at e1 e2
              go_upto_region 35 with fail
              rw [← HZ.out] at e1 e2 ⊢
              go_quiet (fail)
              go_wp2_with fail
              exact ⟨⟨q + 1, by omega, by go_num, HN.out _⟩, by simp [intOf]; omega⟩
           ·obtain rfl : q = n.K := by omega
            have i5 : ¬ (n.K : Int) < (n.K : Int) := by omega
            obtain ⟨z1, z2, z3⟩ := hB.out
            have hrj : Pl.rootTo (n.ids tree) gr j n.K = ρ j := by rw [HRO.out j hlj, Hρ.out]
            rw [hrj] at z2
            obtain ⟨⟨v0, _⟩, _⟩ := z2.cells hlj
            rw [if_pos rfl] at v0
            obtain ⟨u0, u1⟩ := z3.cell hlj
            have hgl : g2 < wv.heap.size := plt_some z2
            have hgl2 : g2 + 1 < wv.heap.size := plt_some z3
            obtain ⟨U1, HU1⟩ : ∃ U, Hid (U = wv.setCell ⟨g2 + 1, j, none⟩ (.int .i64 1099511627776)) := ⟨_, rfl⟩
            have z3' := z3.set hlj 1099511627776
            obtain ⟨u2, u3⟩ := z3'.cell hlj
            have v0' : (wv.setCell ⟨g2 + 1, j, none⟩ (.int .i64 1099511627776)).cell? ⟨g2, j * 4, none⟩ = some (.int .u64 (ρ j)) := by
             have h := (VaAt.cells (VaAt.other (q := g2 + 1) (o := j) (x := .int .i64 1099511627776) z2 (by omega)) hlj).1.1
             rw [if_pos rfl] at h
             exact h
            have hg2w1 : Wb.heap.size ≤ g2 + 1 := by omega
            by_cases hroot : ρ j = n.ids tree j
            ·have HN : Hid (Below Wb.heap.size Wb ((wv.setCell ⟨g2 + 1, j, none⟩ (.int .i64 1099511627776)).setCell ⟨g2 + 1, j, none⟩ (.int .i64 0)) ∧ VaAt ((wv.setCell ⟨g2 + 1, j, none⟩ (.int .i64 1099511627776)).setCell ⟨g2 + 1, j, none⟩ (.int .i64 0)) g2 n.K (fun i => if i < j + 1 then ⟨ρ i, 0, n.ids tree i, 0⟩ else Vc.v0) ∧ IaAt ((wv.setCell ⟨g2 + 1, j, none⟩ (.int .i64 1099511627776)).setCell ⟨g2 + 1, j, none⟩ (.int .i64 0)) (g2 + 1) n.K (fun i => if i < j + 1 then Pl.far0 (n.ids tree) ρ i else 0)) := by
              refine ⟨(z1.setCell hg2w1 _).setCell hg2w1 _, ((z2.other (by omega)).other (by omega)).congr (fun i hi => ?_), (z3'.set hlj 0).congr (fun i hi => ?_)⟩
              ·by_cases e : i = j
               ·rw [if_pos e, if_pos (by omega), e]
               ·rw [if_neg e]
                by_cases e2 : i < j
                ·rw [if_pos e2, if_pos (by omega)]
                ·rw [if_neg e2, if_neg (by omega)]
              ·by_cases e : i = j
               ·rw [if_pos e, if_pos (by omega), e]
                unfold Pl.far0
                rw [if_pos hroot]
               ·rw [if_neg e, if_neg e]
                by_cases e2 : i < j
                ·rw [if_pos e2, if_pos (by omega)]
                ·rw [if_neg e2, if_neg (by omega)]
             clear z1 z2 z3 z3' hB HID HRO
             generalize ρ j = rj at *
             generalize n.ids tree j = ij at *
             subst hroot
             go_wp2_with fail
             exact ⟨⟨j + 1, by omega, by go_num, HN⟩, by simp [intOf]; omega⟩
            ·have HN : Hid (Below Wb.heap.size Wb (wv.setCell ⟨g2 + 1, j, none⟩ (.int .i64 1099511627776)) ∧ VaAt (wv.setCell ⟨g2 + 1, j, none⟩ (.int .i64 1099511627776)) g2 n.K (fun i => if i < j + 1 then ⟨ρ i, 0, n.ids tree i, 0⟩ else Vc.v0) ∧ IaAt (wv.setCell ⟨g2 + 1, j, none⟩ (.int .i64 1099511627776)) (g2 + 1) n.K (fun i => if i < j + 1 then Pl.far0 (n.ids tree) ρ i else 0)) := by
              refine ⟨z1.setCell hg2w1 _, (z2.other (by omega)).congr (fun i hi => ?_), z3'.congr (fun i hi => ?_)⟩
              ·by_cases e : i = j
               ·rw [if_pos e, if_pos (by omega), e]
               ·rw [if_neg e]
                by_cases e2 : i < j
                ·rw [if_pos e2, if_pos (by omega)]
                ·rw [if_neg e2, if_neg (by omega)]
              ·by_cases e : i = j
               ·rw [if_pos e, if_pos (by omega), e]
                unfold Pl.far0
                rw [if_neg hroot]
               ·rw [if_neg e]
                by_cases e2 : i < j
                ·rw [if_pos e2, if_pos (by omega)]
                ·rw [if_neg e2, if_neg (by omega)]
             clear z1 z2 z3 z3' hB HID HRO
             generalize ρ j = rj at *
             generalize n.ids tree j = ij at *
             go_wp2_with fail
             exact ⟨⟨j + 1, by omega, by go_num, HN⟩, by simp [intOf]; omega⟩
        ·obtain rfl : j = n.K := by omega
         have i3 : ¬ (n.K : Int) < (n.K : Int) := by omega
         have H5 : Hid (Below Wb.heap.size Wb wu ∧ VaAt wu g2 n.K (fun i => ⟨ρ i, 0, n.ids tree i, 0⟩) ∧ IaAt wu (g2 + 1) n.K (Pl.fRounds es M (Pl.far0 (n.ids tree) ρ) 0) ∧ ∀ i, i < n.K → 0 ≤ Pl.fRounds es M (Pl.far0 (n.ids tree) ρ) 0 i ∧ Pl.fRounds es M (Pl.far0 (n.ids tree) ρ) 0 i ≤ 1099511627776) := by
          refine ⟨hB.out.1, hB.out.2.1.congr (fun i hi => by rw [if_pos hi]), hB.out.2.2.congr (fun i hi => by rw [if_pos hi]; rfl), fun i hi => ?_⟩
          show 0 ≤ Pl.far0 (n.ids tree) ρ i ∧ Pl.far0 (n.ids tree) ρ i ≤ 1099511627776
          unfold Pl.far0
          split <;> omega
         obtain ⟨_, _, ⟨m0, m1⟩, _⟩ := HBS.out wu hB.out.1
         have hg2w1 : Wb.heap.size ≤ g2 + 1 := by omega
         clear hB HRO
         go_wp2_with fail
         clear m0 m1
         obtain ⟨F0, HF0⟩ : ∃ F, Hid (F = Pl.far0 (n.ids tree) ρ) := ⟨_, rfl⟩
         rw [← HF0.out] at H5
         go_loopw [176] (fun i wr => ∃ r : Nat, r ≤ n.K ∧ i = .int .i64 r ∧ Hid (Below Wb.heap.size Wb wr ∧ VaAt wr g2 n.K (fun i => ⟨ρ i, 0, n.ids tree i, 0⟩) ∧ IaAt wr (g2 + 1) n.K (Pl.fRounds es M F0 r) ∧ ∀ i, i < n.K → 0 ≤ Pl.fRounds es M F0 r i ∧ Pl.fRounds es M F0 r i ≤ 1099511627776)) (fun i _ => n.K - (intOf i).toNat)
         case atStart => exact ⟨0, by omega, rfl, H5⟩
         case round =>
          rename World => ws
          obtain ⟨r, hr, rfl, hB⟩ := hrel
          clear H5
          by_cases hlr : r < n.K
          ·as_aux_lemma =>
            have i6 : (r : Int) < (n.K : Int) := by omega
            have wr1 : IntKind.i64.wrap ((r : Int) + 1) = ((r + 1 : Nat) : Int) := by rw [IntKind.wrap_i64]; omega
            have H6 : Hid (Below Wb.heap.size Wb ws ∧ VaAt ws g2 n.K (fun i => ⟨ρ i, 0, n.ids tree i, 0⟩) ∧ IaAt ws (g2 + 1) n.K (Pl.fTo es (Pl.fRounds es M F0 r) 0) ∧ ∀ i, i < n.K → 0 ≤ Pl.fTo es (Pl.fRounds es M F0 r) 0 i ∧ Pl.fTo es (Pl.fRounds es M F0 r) 0 i ≤ 1099511627776) := hB
            clear hB
            go_wp2_with fail
            go_loopw [180] (fun i wr => ∃ j : Nat, j ≤ M ∧ i = .int .i64 j ∧ Hid (Below Wb.heap.size Wb wr ∧ VaAt wr g2 n.K (fun i => ⟨ρ i, 0, n.ids tree i, 0⟩) ∧ IaAt wr (g2 + 1) n.K (Pl.fTo es (Pl.fRounds es M F0 r) j) ∧ ∀ i, i < n.K → 0 ≤ Pl.fTo es (Pl.fRounds es M F0 r) j i ∧ Pl.fTo es (Pl.fRounds es M F0 r) j i ≤ 1099511627776)) (fun i _ => M - (intOf i).toNat)
            case atStart => exact ⟨0, by omega, rfl, H6⟩
            case round =>
             rename World => wt
             obtain ⟨j, hj, rfl, hB⟩ := hrel
             clear H6
             by_cases hlj : j < M
             ·as_aux_lemma =>
               have hj1 : (j : Int) < (M : Int) := by omega
               have hj0 : (0 : Int) ≤ (j : Int) := by omega
               have hrow := (HBS.out wt hB.out.1).2.1
               obtain ⟨lb, loff, ea, _⟩ := CRow.some hrow (by omega)
               rw [ea] at hrow ⊢
               obtain ⟨c0, c1', c2, c3, c4, c5⟩ := LRow.cells hrow hlj
               obtain ⟨⟨q1, q2, q3⟩, ⟨ha, hb⟩, hco⟩ := HLK.out j hlj
               obtain ⟨th, hth⟩ : ∃ th, th = Pl.fTo es (Pl.fRounds es M F0 r) j := ⟨_, rfl⟩
               obtain ⟨l, hl⟩ : ∃ l, l = es j := ⟨_, rfl⟩
               have HNEW : Hid (∀ W, Below Wb.heap.size Wb W → VaAt W g2 n.K (fun i => ⟨ρ i, 0, n.ids tree i, 0⟩) → IaAt W (g2 + 1) n.K (Pl.fStep th l) → Below Wb.heap.size Wb W ∧ VaAt W g2 n.K (fun i => ⟨ρ i, 0, n.ids tree i, 0⟩) ∧ IaAt W (g2 + 1) n.K (Pl.fTo es (Pl.fRounds es M F0 r) (j + 1)) ∧ ∀ i, i < n.K → 0 ≤ Pl.fTo es (Pl.fRounds es M F0 r) (j + 1) i ∧ Pl.fTo es (Pl.fRounds es M F0 r) (j + 1) i ≤ 1099511627776) := fun W h1 h2 h3 => by
                have e : Pl.fTo es (Pl.fRounds es M F0 r) (j + 1) = Pl.fStep th l := by rw [hth, hl]; rfl
                rw [e]
                refine ⟨h1, h2, h3, Pl.fStep_bd (by rw [hth]; exact hB.out.2.2.2) (by rw [hl]; exact q1) (by rw [hl]; exact q2) (by rw [hl]; omega)⟩
               have hbd := hB.out.2.2.2
               rw [← hth] at hbd
               rw [← hl] at c0 c1' c2 c3 c4 c5 q1 q2 q3 ha hb hco
               have hfa := hbd _ q1
               have hfb := hbd _ q2
               obtain ⟨aa, haa⟩ : ∃ aa, aa = l.a.toNat := ⟨_, rfl⟩
               obtain ⟨bb, hbb⟩ : ∃ bb, bb = l.b.toNat := ⟨_, rfl⟩
               have HS1 : Hid (th aa + l.cost < th bb → ∀ i, Pl.fStep th l i = if i = bb then th aa + l.cost else th i) := fun h i => by
                rw [haa, hbb] at *
                exact Pl.fStep_b1 q3 hco.1 h i
               have HS2 : Hid (¬ th aa + l.cost < th bb → th bb + l.cost < th aa → ∀ i, Pl.fStep th l i = if i = aa then th bb + l.cost else th i) := fun h0 h i => by
                rw [haa, hbb] at *
                exact Pl.fStep_a1 h0 h i
               have HS3 : Hid (¬ th aa + l.cost < th bb → ¬ th bb + l.cost < th aa → ∀ i, Pl.fStep th l i = th i) := fun h0 h i => by
                rw [haa, hbb] at *
                exact Pl.fStep_01 h0 h i
               have hBl := hB.out.2.2.1
               rw [← hth] at hBl
               rw [ha, ← haa] at c0
               rw [hb, ← hbb] at c2
               rw [← haa, ← hbb] at q3
               rw [← haa] at q1 hfa
               rw [← hbb] at q2 hfb
               clear ha hb haa hbb
               obtain ⟨Z, HZ⟩ : ∃ Y, Hid (Y = wt.alloc (.cells #[.int .i64 (aa : Int), .int .i64 l.pa, .int .i64 (bb : Int), .int .i64 l.pb, .int .i64 l.cost, .bool l.up] 46)) := ⟨_, rfl⟩
               have hZB : Below wt.heap.size wt Z := by rw [HZ.out]; exact below_alloc1 _ _
               have hZx : Z.heap[wt.heap.size]? = some (.cells #[.int .i64 (aa : Int), .int .i64 l.pa, .int .i64 (bb : Int), .int .i64 l.pb, .int .i64 l.cost, .bool l.up] 46 (0, 0)) := by rw [HZ.out]; exact heap_alloc_last _ _
               obtain ⟨q, HQ⟩ : ∃ q, Hid (q = wt.heap.size) := ⟨_, rfl⟩
               have HBZ : Hid (∀ W, Below Z.heap.size Z W → IaAt W (g2 + 1) n.K th ∧ VaAt W g2 n.K (fun i => ⟨ρ i, 0, n.ids tree i, 0⟩) ∧ Below Wb.heap.size Wb W ∧ W.heap[q]? = some (.cells #[.int .i64 (aa : Int), .int .i64 l.pa, .int .i64 (bb : Int), .int .i64 l.pb, .int .i64 l.cost, .bool l.up] 46 (0, 0))) := fun W hW => by
                have h := hZB.trans (hW.mono hZB.size)
                rw [HQ.out]
                exact ⟨keep hBl h, keep hB.out.2.1 h, hB.out.1.trans (h.mono hB.out.1.size), keep hZx hW⟩
               have hqG : q ≠ g2 + 1 := by rw [HQ.out]; have := plt_some hBl; omega
               obtain ⟨y0, _, y2, _, y4, _⟩ := lk_cells (HBZ.out Z (Below.refl _ _)).2.2.2
               obtain ⟨ga, gaf⟩ := (HBZ.out Z (Below.refl _ _)).1.cell q1
               obtain ⟨gb, gbf⟩ := (HBZ.out Z (Below.refl _ _)).1.cell q2
               have iaa : (aa : Int) < (n.K : Int) := by omega
               have ibb : (bb : Int) < (n.K : Int) := by omega
               have iaa0 : (0 : Int) ≤ (aa : Int) := by omega
               have ibb0 : (0 : Int) ≤ (bb : Int) := by omega
               have wj : IntKind.i64.wrap ((j : Int) + 1) = ((j + 1 : Nat) : Int) := by rw [IntKind.wrap_i64]; omega
               have HSET : Hid (∀ (k : Nat) (a : Nat) (z : Int), a < n.K → (∀ i, Pl.fStep th l i = if i = a then z else th i) → ∀ W, Below ((Z.drewN k).setCell ⟨g2 + 1, a, none⟩ (.int .i64 z)).heap.size ((Z.drewN k).setCell ⟨g2 + 1, a, none⟩ (.int .i64 z)) W → Below Wb.heap.size Wb W ∧ VaAt W g2 n.K (fun i => ⟨ρ i, 0, n.ids tree i, 0⟩) ∧ IaAt W (g2 + 1) n.K (Pl.fTo es (Pl.fRounds es M F0 r) (j + 1)) ∧ ∀ i, i < n.K → 0 ≤ Pl.fTo es (Pl.fRounds es M F0 r) (j + 1) i ∧ Pl.fTo es (Pl.fRounds es M F0 r) (j + 1) i ≤ 1099511627776) := fun k a z hak hs W hW => by
                obtain ⟨s1, s2, s3, _⟩ := HBZ.out (Z.drewN k) (below_drewN (Below.refl _ _) k)
                have b1 : Below Wb.heap.size Wb ((Z.drewN k).setCell ⟨g2 + 1, a, none⟩ (.int .i64 z)) := s3.setCell hg2w1 _
                refine HNEW.out W (b1.trans (hW.mono b1.size)) (keep (s2.other (by omega)) hW) (IaAt.congr (keep (s1.set hak z) hW) (fun i hi => ?_))
                rw [hs i]
               have HSTAY : Hid ((∀ i, Pl.fStep th l i = th i) → ∀ W, Below Z.heap.size Z W → Below Wb.heap.size Wb W ∧ VaAt W g2 n.K (fun i => ⟨ρ i, 0, n.ids tree i, 0⟩) ∧ IaAt W (g2 + 1) n.K (Pl.fTo es (Pl.fRounds es M F0 r) (j + 1)) ∧ ∀ i, i < n.K → 0 ≤ Pl.fTo es (Pl.fRounds es M F0 r) (j + 1) i ∧ Pl.fTo es (Pl.fRounds es M F0 r) (j + 1) i ≤ 1099511627776) := fun hs W hW => by
                obtain ⟨s1, s2, s3, _⟩ := HBZ.out W hW
                exact HNEW.out W s3 s2 (s1.congr (fun i hi => (hs i).symm))
               have HRD : Hid (∀ (k : Nat) (z : Int), (((Z.drewN k).setCell ⟨g2 + 1, bb, none⟩ (.int .i64 z)).cell? ⟨q, 0, none⟩ = some (.int .i64 (aa : Int)) ∧ ((Z.drewN k).setCell ⟨g2 + 1, bb, none⟩ (.int .i64 z)).cell? ⟨q, 2, none⟩ = some (.int .i64 (bb : Int)) ∧ ((Z.drewN k).setCell ⟨g2 + 1, bb, none⟩ (.int .i64 z)).cell? ⟨q, 4, none⟩ = some (.int .i64 l.cost)) ∧ ((Z.drewN k).setCell ⟨g2 + 1, bb, none⟩ (.int .i64 z)).cell? ⟨g2 + 1, aa, none⟩ = some (.int .i64 (th aa)) ∧ ((Z.drewN k).setCell ⟨g2 + 1, bb, none⟩ (.int .i64 z)).cell? ⟨g2 + 1, bb, none⟩ = some (.int .i64 z)) := fun k z => by
                obtain ⟨s1, s2, s3, s4⟩ := HBZ.out (Z.drewN k) (below_drewN (Below.refl _ _) k)
                obtain ⟨t0, _, t2, _, t4, _⟩ := lk_cells (pset_keep (o := bb) (v := .int .i64 z) s4 hqG)
                have t5 := ((s1.set q2 z).cell q1).1
                have t6 := ((s1.set q2 z).cell q2).1
                rw [if_neg q3] at t5
                rw [if_pos rfl] at t6
                exact ⟨⟨t0, t2, t4⟩, t5, t6⟩
               clear hrow hth hBl hZB hZx hB HBZ ea hbd
               generalize th aa = fa at *
               generalize th bb = fb at *
               generalize l.cost = co at *
               generalize l.pa = pa at *
               generalize l.pb = pb at *
               generalize l.up = up at *
               have w1 : IntKind.i64.wrap (fa + co) = fa + co := by rw [IntKind.wrap_i64]; omega
               have w2 : IntKind.i64.wrap (fb + co) = fb + co := by rw [IntKind.wrap_i64]; omega
               have w3 : IntKind.i64.wrap (fa + co + co) = fa + co + co := by rw [IntKind.wrap_i64]; omega
               rw [HZ.out] at y0 y2 y4 ga gaf gb gbf
               rw [HQ.out] at y0 y2 y4
               by_cases k1 : fa + co < fb
               ·have k2 : ¬ fa + co + co < fa := by omega
                have HN : Hid (∀ k W, Below ((Z.drewN k).setCell ⟨g2 + 1, bb, none⟩ (.int .i64 (fa + co))).heap.size ((Z.drewN k).setCell ⟨g2 + 1, bb, none⟩ (.int .i64 (fa + co))) W → _) := fun k W hW => HSET.out k bb (fa + co) q2 (HS1.out k1) W hW
                clear HSET HSTAY HS1 HS2 HS3 HNEW
                go_wp2_with fail
                rw [← HZ.out] at y0 y2 y4 ga gaf gb gbf ⊢
                rw [← HQ.out] at y0 y2 y4 ⊢
                go_quiet (fail)
                go_wp2_with fail
                go_region
                all_goals go_wp2_with fail
                all_goals go_quiet (fail)
                all_goals go_wp2_with fail
                all_goals exact ⟨⟨j + 1, by omega, by go_num, HN.out _ _ (below_drewN (Below.refl _ _) _)⟩, by simp [intOf]; omega⟩
               ·clear HRD
                by_cases k2 : fb + co < fa
                ·have HN : Hid (∀ k W, Below ((Z.drewN k).setCell ⟨g2 + 1, aa, none⟩ (.int .i64 (fb + co))).heap.size ((Z.drewN k).setCell ⟨g2 + 1, aa, none⟩ (.int .i64 (fb + co))) W → _) := fun k W hW => HSET.out k aa (fb + co) q1 (HS2.out k1 k2) W hW
                 clear HSET HSTAY HS1 HS2 HS3 HNEW
                 go_wp2_with fail
                 rw [← HZ.out] at y0 y2 y4 ga gaf gb gbf ⊢
                 rw [← HQ.out] at y0 y2 y4 ⊢
                 go_quiet (fail)
                 go_wp2_with fail
                 go_quiet (fail)
                 go_wp2_with fail
                 go_region
                 all_goals go_wp2_with fail
                 all_goals exact ⟨⟨j + 1, by omega, by go_num, HN.out _ _ (Below.refl _ _)⟩, by simp [intOf]; omega⟩
                ·have HN : Hid (∀ W, Below Z.heap.size Z W → _) := fun W hW => HSTAY.out (HS3.out k1 k2) W hW
                 clear HSET HSTAY HS1 HS2 HS3 HNEW
                 go_wp2_with fail
                 rw [← HZ.out] at y0 y2 y4 ga gaf gb gbf ⊢
                 rw [← HQ.out] at y0 y2 y4 ⊢
                 go_quiet (fail)
                 go_wp2_with fail
                 go_quiet (fail)
                 go_wp2_with fail
                 exact ⟨⟨j + 1, by omega, by go_num, HN.out _ (below_drewN (Below.refl _ _) _)⟩, by simp [intOf]; omega⟩
             ·obtain rfl : j = M := by omega
              have hj1 : ¬ (j : Int) < (j : Int) := by omega
              have HN : Hid (Below Wb.heap.size Wb wt ∧ VaAt wt g2 n.K (fun i => ⟨ρ i, 0, n.ids tree i, 0⟩) ∧ IaAt wt (g2 + 1) n.K (Pl.fRounds es j F0 (r + 1)) ∧ ∀ i, i < n.K → 0 ≤ Pl.fRounds es j F0 (r + 1) i ∧ Pl.fRounds es j F0 (r + 1) i ≤ 1099511627776) := hB
              clear hB
              go_wp2_with fail
              exact ⟨⟨r + 1, by omega, by go_num, HN⟩, by simp [intOf]; omega⟩
          ·obtain rfl : r = n.K := by omega
           have i6 : ¬ (n.K : Int) < (n.K : Int) := by omega
           obtain ⟨x, hx⟩ : ∃ x, x = Pl.rounds (n.ids tree) n.ends n.K n.K := ⟨_, rfl⟩
           have HX1 : Hid (∀ i, i < n.K → (x i).v = ⟨ρ i, Pl.fRounds es M F0 n.K i, n.ids tree i, 0⟩) := fun i hi => by
            have hb := Pl.fin_bridge (ids := n.ids tree) (E := n.ends) (K := n.K) i
            have hc := Pl.far_same (ids := n.ids tree) HR.out.links HR.out.few n.lives hi
            have ec : Pl.fRounds es M F0 n.K i = (x i).v.cost := by
             rw [HF0.out, Hρ.out, HES.out, HM.out, hx]
             exact hc
            have er : ρ i = (x i).v.root := by rw [Hρ.out, hx]; rfl
            rw [ec, er]
            refine Vc.V.eq rfl rfl ?_ ?_
            ·rw [hx]; exact hb.1
            ·rw [hx]; exact hb.2
           have H7 : Hid (Below Wb.heap.size Wb ws ∧ VaAt ws g2 n.K (fun i => ⟨ρ i, if i < 0 then Pl.fRounds es M F0 n.K i else 0, n.ids tree i, 0⟩) ∧ IaAt ws (g2 + 1) n.K (Pl.fRounds es M F0 n.K)) := ⟨hB.out.1, hB.out.2.1.congr (fun i hi => by rw [if_neg (Nat.not_lt_zero i)]), hB.out.2.2.1⟩
           have HXX : Hid (x = Pl.rounds (n.ids tree) n.ends n.K n.K) := hx
           have HBD : Hid (∀ i, i < n.K → 0 ≤ Pl.fRounds es M F0 n.K i ∧ Pl.fRounds es M F0 n.K i ≤ 1099511627776) := hB.out.2.2.2
           clear hB hx
           go_wp2_with fail
           go_loopw [240] (fun i wr => ∃ j : Nat, j ≤ n.K ∧ i = .int .i64 j ∧ Hid (Below Wb.heap.size Wb wr ∧ VaAt wr g2 n.K (fun i => ⟨ρ i, if i < j then Pl.fRounds es M F0 n.K i else 0, n.ids tree i, 0⟩) ∧ IaAt wr (g2 + 1) n.K (Pl.fRounds es M F0 n.K))) (fun i _ => n.K - (intOf i).toNat)
           case atStart => exact ⟨0, by omega, rfl, H7⟩
           case round =>
            rename World => wu2
            obtain ⟨j, hj, rfl, hB⟩ := hrel
            clear H7
            by_cases hlj : j < n.K
            ·as_aux_lemma =>
              have i7 : (j : Int) < (n.K : Int) := by omega
              have i8 : (0 : Int) ≤ (j : Int) := by omega
              have wj : IntKind.i64.wrap ((j : Int) + 1) = ((j + 1 : Nat) : Int) := by rw [IntKind.wrap_i64]; omega
              obtain ⟨u0, _⟩ := hB.out.2.2.cell hlj
              obtain ⟨⟨_, v1, _⟩, vf⟩ := hB.out.2.1.cells hlj
              have vf1 := vf (j * 4 + 1)
              have hgl : g2 < wu2.heap.size := plt_some hB.out.2.1
              have HN : Hid (Below Wb.heap.size Wb (wu2.setCell ⟨g2, j * 4 + 1, none⟩ (.int .i64 (Pl.fRounds es M F0 n.K j))) ∧ VaAt (wu2.setCell ⟨g2, j * 4 + 1, none⟩ (.int .i64 (Pl.fRounds es M F0 n.K j))) g2 n.K (fun i => ⟨ρ i, if i < j + 1 then Pl.fRounds es M F0 n.K i else 0, n.ids tree i, 0⟩) ∧ IaAt (wu2.setCell ⟨g2, j * 4 + 1, none⟩ (.int .i64 (Pl.fRounds es M F0 n.K j))) (g2 + 1) n.K (Pl.fRounds es M F0 n.K)) := by
               refine ⟨hB.out.1.setCell hg2w _, (hB.out.2.1.cost hlj (Pl.fRounds es M F0 n.K j)).congr (fun i hi => ?_), hB.out.2.2.other (by omega)⟩
               by_cases e : i = j
               ·subst e
                simp
               ·rw [if_neg e]
                by_cases e2 : i < j
                ·rw [if_pos e2, if_pos (by omega)]
                ·rw [if_neg e2, if_neg (by omega)]
              clear hB vf
              go_wp2_with fail
              exact ⟨⟨j + 1, by omega, by go_num, HN⟩, by simp [intOf]; omega⟩
            ·obtain rfl : j = n.K := by omega
             have i7 : ¬ (n.K : Int) < (n.K : Int) := by omega
             obtain ⟨Wc, HWc⟩ : ∃ W, Hid (W = wu2) := ⟨_, rfl⟩
             have HCS : Hid (∀ W, Below Wc.heap.size Wc W → Below Wb.heap.size Wb W ∧ VaAt W g2 n.K (fun i => (x i).v) ∧ IaAt W (g2 + 1) n.K (fun i => (x i).v.cost)) := fun W hW => by
              rw [HWc.out] at hW
              refine ⟨hB.out.1.trans (hW.mono hB.out.1.size), VaAt.congr (keep hB.out.2.1 hW) (fun i hi => ?_), IaAt.congr (keep hB.out.2.2 hW) (fun i hi => ?_)⟩
              ·rw [HX1.out i hi, if_pos hi]
              ·rw [HX1.out i hi]
             obtain ⟨_, _, ⟨m0, m1⟩, _⟩ := HBS.out wu2 hB.out.1
             have H8 : Hid (OutW Wc wu2 (.slice none 0 0) x n.ends 0) := by
              rw [HWc.out]
              exact ⟨Below.refl _ _, fun _ _ => .int .i64 0, ownsC_nil _ _ _ _ _, fun i hi => absurd hi (Nat.not_lt_zero i)⟩
             clear hB
             go_wp2_with fail
             clear m0 m1
             go_loopw [24, 255] (fun a i wr => ∃ (v : Value) (j : Nat), v = a ∧ j ≤ n.K ∧ i = .int .i64 j ∧ Hid (OutW Wc wr v x n.ends j)) (fun _ i _ => n.K - (intOf i).toNat)
             case atStart => exact ⟨_, 0, rfl, by omega, rfl, H8⟩
             case round =>
              rename World => wv
              obtain ⟨v, j, rfl, hj, rfl, hB⟩ := hrel
              clear H8
              by_cases hlj : j < n.K
              ·as_aux_lemma =>
                have i9 : (j : Int) < (n.K : Int) := by omega
                have i10 : (0 : Int) ≤ (j : Int) := by omega
                have wj : IntKind.i64.wrap ((j : Int) + 1) = ((j + 1 : Nat) : Int) := by rw [IntKind.wrap_i64]; omega
                have hmi := make_ia wv (K := n.K) (by omega)
                obtain ⟨Z1, HZ1⟩ : ∃ Z, Hid (Z = wv.alloc (.cells (rowC n.K 1 (fun _ _ => .int .i64 0)) 3)) := ⟨_, rfl⟩
                have hZ1B : Below wv.heap.size wv Z1 := by rw [HZ1.out]; exact below_alloc1 _ _
                have hZ1A : IaAt Z1 wv.heap.size n.K (fun _ => 0) := by rw [HZ1.out]; exact heap_alloc_last _ _
                obtain ⟨os, hos⟩ : ∃ os, os = roffs es j (mdS x) M := ⟨_, rfl⟩
                have HOS : Hid (os = Pl.offL n.ls (LN n.lvs) n.lvs.length j x) := by rw [hos, HES.out, HM.out]; exact roffs_offL n x j
                have HOL : Hid (os.length ≤ 80) := by
                 have h := roffs_few es j (mdS x) M
                 rw [← hos] at h
                 show os.length ≤ 80
                 omega
                have HOB : Hid (∀ q, q < os.length → (0 ≤ (Pl.lf os q).vec.cost ∧ (Pl.lf os q).vec.cost ≤ 1099511627776) ∧ (1 ≤ (Pl.lf os q).cost ∧ (Pl.lf os q).cost ≤ 200000)) := fun q hq => by
                 have hm := Pl.lf_mem hq
                 obtain ⟨o, ho⟩ : ∃ o, o = Pl.lf os q := ⟨_, rfl⟩
                 rw [← ho] at hm ⊢
                 rw [hos] at hm
                 unfold roffs at hm
                 obtain ⟨e, he, rfl⟩ := List.mem_map.1 hm
                 obtain ⟨k, hk, hh⟩ := Pl.endsTo_mem.1 he
                 obtain ⟨⟨l1, l2, _⟩, _, l4⟩ := HLK.out k hk
                 have hcst : ∀ i, i < n.K → 0 ≤ (x i).v.cost ∧ (x i).v.cost ≤ 1099511627776 := fun i hi => by
                  rw [HX1.out i hi]
                  exact HBD.out i hi
                 rcases Pl.endsAt_mem.1 hh with ⟨_, rfl⟩ | ⟨_, rfl⟩
                 ·exact ⟨hcst _ l2, l4⟩
                 ·exact ⟨hcst _ l1, l4⟩
                have hO0 : Below Wc.heap.size Wc Z1 := hB.out.1.trans (hZ1B.mono hB.out.1.size)
                have HOF : Hid (Calls Tryz.prog 34 #[.slice lao M lcap, .int .i64 (j : Int), .slice (some ⟨g2, 0, none⟩) n.K n.K, .slice (some ⟨wv.heap.size, 0, none⟩) n.K n.K] Z1 fun e w' => ∃ oa oc, e = .returned (.slice oa os.length oc) ∧ Hid (ORow w' oa os.length oc (Pl.lf os) ∧ Below Z1.heap.size Z1 w')) := by
                 obtain ⟨s1, s2, s3⟩ := HCS.out Z1 hO0
                 have h := roffers_any lao M lcap es j g2 n.K wv.heap.size n.K n.K (mdS x) Z1 (by omega) (HBS.out Z1 s1).2.1 (VaAt.row s2) (IaAt.row hZ1A) (plt_some hZ1A) (fun k hk => by
                  obtain ⟨⟨l1, l2, l3⟩, ⟨l5, l6⟩, _⟩ := HLK.out k hk
                  rw [l5, l6]
                  exact ⟨⟨by omega, by omega⟩, ⟨by omega, by omega⟩, by omega⟩)
                 rw [← hos] at h
                 refine h.mono ?_
                 rintro e w' ⟨ao, cap, rfl, z1, z2, _⟩
                 exact ⟨ao, cap, rfl, z1, z2⟩
                have HO1 : Hid (OutW Wc Z1 v x n.ends j) := hB.out.below hZ1B
                clear hZ1A hO0 hZ1B hB hos
                go_wp2_with fail
                rw [← HZ1.out]
                refine HOF.out.mono ?_
                rintro e w5 ⟨oa, oc, rfl, H9⟩
                clear HOF hmi
                have hol := HOL.out
                have hocap := H9.out.1.1
                obtain ⟨fi, HFI⟩ : ∃ fi, Hid (fi = (x j).v.cost) := ⟨_, rfl⟩
                obtain ⟨Bb, HBb⟩ : ∃ B, Hid (B = w5.heap.size) := ⟨_, rfl⟩
                obtain ⟨Z3, HZ3⟩ : ∃ Z, Hid (Z = w5.alloc (.cells #[.int .u64 0, .int .i64 0, .int .u64 0, .int .i64 0] 48)) := ⟨_, rfl⟩
                have H10 : Hid (Below w5.heap.size w5 Z3 ∧ Z3.heap[Bb]? = some (.cells (vA (Pl.rpTo fi (Pl.lf os) 0).2) 48 (0, 0))) := by
                 rw [HZ3.out, HBb.out]
                 exact ⟨below_alloc1 _ _, heap_alloc_last _ _⟩
                have HW5 : Hid (∀ W, Below w5.heap.size w5 W → OutW Wc W v x n.ends j ∧ ORow W oa os.length oc (Pl.lf os) ∧ IaAt W (g2 + 1) n.K (fun i => (x i).v.cost)) := fun W hW => by
                 have h1 := HO1.out.below (H9.out.2)
                 have h2 := h1.below hW
                 exact ⟨h2, CRow.below H9.out.1 hW, (HCS.out W h2.1).2.2⟩
                clear H9 HO1
                go_wp2_with fail
                rw [← HZ3.out]
                rw [← HBb.out]
                go_loopw [27, 266] (fun a i wr => ∃ q : Nat, q ≤ os.length ∧ i = .int .i64 q ∧ a = .int .i64 (Pl.rpTo fi (Pl.lf os) q).1 ∧ Hid (Below w5.heap.size w5 wr ∧ wr.heap[Bb]? = some (.cells (vA (Pl.rpTo fi (Pl.lf os) q).2) 48 (0, 0)))) (fun _ i _ => os.length - (intOf i).toNat)
                case atStart => exact ⟨0, by omega, rfl, rfl, H10⟩
                case round =>
                 rename World => wx
                 obtain ⟨q, hq, rfl, rfl, hB⟩ := hrel
                 clear H10
                 by_cases hlq : q < os.length
                 ·as_aux_lemma =>
                   have i11 : (q : Int) < (os.length : Int) := by omega
                   have i12 : (0 : Int) ≤ (q : Int) := by omega
                   have wq : IntKind.i64.wrap ((q : Int) + 1) = ((q + 1 : Nat) : Int) := by rw [IntKind.wrap_i64]; omega
                   obtain ⟨_, hor, _⟩ := HW5.out wx hB.out.1
                   obtain ⟨ob, ooff, eo, _⟩ := CRow.some hor (by omega)
                   rw [eo] at hor ⊢
                   obtain ⟨o0, o1, o2, o3, o4, o5, o6⟩ := ORow.cells hor hlq
                   obtain ⟨⟨hc1, hc2⟩, hc3, hc4⟩ := HOB.out q hlq
                   obtain ⟨o, ho⟩ : ∃ o, o = Pl.lf os q := ⟨_, rfl⟩
                   have HRPS : Hid (Pl.rpTo fi (Pl.lf os) (q + 1) = if Pl.cand fi o ∧ ((Pl.rpTo fi (Pl.lf os) q).1 < 0 ∨ Vc.lt o.v (Pl.rpTo fi (Pl.lf os) q).2 ∨ (o.v = (Pl.rpTo fi (Pl.lf os) q).2 ∧ o.port < (Pl.rpTo fi (Pl.lf os) q).1)) then (o.port, o.v) else Pl.rpTo fi (Pl.lf os) q) := by
                    rw [ho]
                    rfl
                   rw [← ho] at o0 o1 o2 o3 o4 o5 o6 hc1 hc2 hc3 hc4
                   obtain ⟨rb, hrb⟩ : ∃ rb, rb = Pl.rpTo fi (Pl.lf os) q := ⟨_, rfl⟩
                   have hbb := hB.out.2
                   rw [← hrb] at HRPS hbb ⊢
                   obtain ⟨rt, best⟩ := rb
                   obtain ⟨ov, hov⟩ : ∃ ov, ov = o.v := ⟨_, rfl⟩
                   have hov1 : ov = ⟨o.vec.root, o.vec.cost + o.cost, o.vec.bridge, o.vec.port⟩ := hov
                   rw [← hov] at HRPS
                   have HCD : Hid (Pl.cand fi o ↔ 0 < fi ∧ ov.cost = fi) := by rw [hov]; exact Iff.rfl
                   have wco : IntKind.i64.wrap (o.vec.cost + o.cost) = o.vec.cost + o.cost := by rw [IntKind.wrap_i64]; omega
                   obtain ⟨Z2, HZ2⟩ : ∃ Z, Hid (Z = (wx.alloc (.cells #[.int .i64 o.port, .int .i64 o.cost, .int .i64 o.age, .int .u64 o.vec.root, .int .i64 o.vec.cost, .int .u64 o.vec.bridge, .int .i64 o.vec.port] 85)).alloc (.cells #[.int .u64 o.vec.root, .int .i64 (o.vec.cost + o.cost), .int .u64 o.vec.bridge, .int .i64 o.vec.port] 48)) := ⟨_, rfl⟩
                   have hZ2B : Below wx.heap.size wx Z2 := by rw [HZ2.out]; exact below_alloc2 _ _ _
                   have hZ2o : Z2.heap[wx.heap.size]? = some (.cells #[.int .i64 o.port, .int .i64 o.cost, .int .i64 o.age, .int .u64 o.vec.root, .int .i64 o.vec.cost, .int .u64 o.vec.bridge, .int .i64 o.vec.port] 85 (0, 0)) := by rw [HZ2.out]; exact heap_alloc2_old _ _ _
                   have hZ2v : Z2.heap[wx.heap.size + 1]? = some (.cells #[.int .u64 ov.root, .int .i64 ov.cost, .int .u64 ov.bridge, .int .i64 ov.port] 48 (0, 0)) := by rw [HZ2.out, hov1]; exact heap_alloc2_new _ _ _
                   have HCV : Hid (∀ V, Below Z2.heap.size Z2 V → (V.cell? ⟨g2 + 1, j, none⟩ = some (.int .i64 fi) ∧ (V.cell? ⟨wx.heap.size + 1, 0, none⟩ = some (.int .u64 ov.root) ∧ V.cell? ⟨wx.heap.size + 1, 1, none⟩ = some (.int .i64 ov.cost) ∧ V.cell? ⟨wx.heap.size + 1, 2, none⟩ = some (.int .u64 ov.bridge) ∧ V.cell? ⟨wx.heap.size + 1, 3, none⟩ = some (.int .i64 ov.port)) ∧ (V.cell? ⟨Bb, 0, none⟩ = some (.int .u64 best.root) ∧ V.cell? ⟨Bb, 1, none⟩ = some (.int .i64 best.cost) ∧ V.cell? ⟨Bb, 2, none⟩ = some (.int .u64 best.bridge) ∧ V.cell? ⟨Bb, 3, none⟩ = some (.int .i64 best.port)) ∧ V.cell? ⟨wx.heap.size, 0, none⟩ = some (.int .i64 o.port)) ∧ (V.frozen? ⟨Bb, 0, none⟩ = false ∧ V.frozen? ⟨Bb, 1, none⟩ = false ∧ V.frozen? ⟨Bb, 2, none⟩ = false ∧ V.frozen? ⟨Bb, 3, none⟩ = false) ∧ Below w5.heap.size w5 V ∧ V.heap[Bb]? = some (.cells (vA best) 48 (0, 0))) := fun V hV => by
                    have h1 := hZ2B.trans (hV.mono hZ2B.size)
                    have h2 := hB.out.1.trans (h1.mono hB.out.1.size)
                    have h3 := keep hbb h1
                    have h4 := (HW5.out V h2).2.2.cell hlj
                    rw [HFI.out]
                    exact ⟨⟨h4.1, vc_cells (keep hZ2v hV), vc_cells h3, cell_of_row V _ 0 _ _ _ (keep hZ2o hV)⟩, ⟨frozen_of_row _ _ _ _ _ h3, frozen_of_row _ _ _ _ _ h3, frozen_of_row _ _ _ _ _ h3, frozen_of_row _ _ _ _ _ h3⟩, h2, h3⟩
                   have HNO : Hid (¬ (Pl.cand fi o ∧ (rt < 0 ∨ Vc.lt ov best ∨ (ov = best ∧ o.port < rt))) → ∀ V, Below Z2.heap.size Z2 V → rt = (Pl.rpTo fi (Pl.lf os) (q + 1)).1 ∧ (Below w5.heap.size w5 V ∧ V.heap[Bb]? = some (.cells (vA (Pl.rpTo fi (Pl.lf os) (q + 1)).2) 48 (0, 0)))) := fun h V hV => by
                    rw [HRPS.out, if_neg h]
                    exact ⟨rfl, (HCV.out V hV).2.2⟩
                   have HYES : Hid ((Pl.cand fi o ∧ (rt < 0 ∨ Vc.lt ov best ∨ (ov = best ∧ o.port < rt))) → ∀ V, Below Z2.heap.size Z2 V → ∀ W, Below ((((V.setCell ⟨Bb, 0, none⟩ (.int .u64 ov.root)).setCell ⟨Bb, 1, none⟩ (.int .i64 ov.cost)).setCell ⟨Bb, 2, none⟩ (.int .u64 ov.bridge)).setCell ⟨Bb, 3, none⟩ (.int .i64 ov.port)).heap.size ((((V.setCell ⟨Bb, 0, none⟩ (.int .u64 ov.root)).setCell ⟨Bb, 1, none⟩ (.int .i64 ov.cost)).setCell ⟨Bb, 2, none⟩ (.int .u64 ov.bridge)).setCell ⟨Bb, 3, none⟩ (.int .i64 ov.port)) W → o.port = (Pl.rpTo fi (Pl.lf os) (q + 1)).1 ∧ (Below w5.heap.size w5 W ∧ W.heap[Bb]? = some (.cells (vA (Pl.rpTo fi (Pl.lf os) (q + 1)).2) 48 (0, 0)))) := fun h V hV W hW => by
                    rw [HRPS.out, if_pos h]
                    obtain ⟨_, _, h2, h3⟩ := HCV.out V hV
                    have hb : w5.heap.size ≤ Bb := by rw [HBb.out]; exact Nat.le_refl _
                    have h4 : Below w5.heap.size w5 ((((V.setCell ⟨Bb, 0, none⟩ (.int .u64 ov.root)).setCell ⟨Bb, 1, none⟩ (.int .i64 ov.cost)).setCell ⟨Bb, 2, none⟩ (.int .u64 ov.bridge)).setCell ⟨Bb, 3, none⟩ (.int .i64 ov.port)) := (((h2.setCell hb _).setCell hb _).setCell hb _).setCell hb _
                    exact ⟨rfl, h4.trans (hW.mono h4.size), keep (vc_set4 h3) hW⟩
                   have HBET : Hid (∀ W, Below Z2.heap.size Z2 W → Calls Tryz.prog 35 #[.agg #[.int .u64 ov.root, .int .i64 ov.cost, .int .u64 ov.bridge, .int .i64 ov.port], .agg #[.int .u64 best.root, .int .i64 best.cost, .int .u64 best.bridge, .int .i64 best.port]] W fun e w' => e = .returned (.bool (decide (Vc.lt ov best))) ∧ Below W.heap.size W w') := fun W _ => rbetter_any ov best W
                   have hne1 : wx.heap.size ≠ Bb := fun e => by have := plt_some hbb; omega
                   have hne2 : wx.heap.size + 1 ≠ Bb := fun e => by have := plt_some hbb; omega
                   clear hor hbb hB hZ2B hZ2o hZ2v hrb HRPS ho
                   obtain ⟨⟨p0, ⟨p1, p2, p3, p4⟩, ⟨p5, p6, p7, p8⟩, p9⟩, ⟨f0, f1, f2, f3⟩, _⟩ := HCV.out Z2 (Below.refl _ _)
                   have HOV : Hid (ov = ⟨o.vec.root, o.vec.cost + o.cost, o.vec.bridge, o.vec.port⟩) := hov1
                   clear hov hov1
                   go_upto_region 70 with fail
                   rw [← HZ2.out]
                   clear o0 o1 o2 o3 o4 o5 o6
                   by_cases a1 : 0 < fi
                   ·have a1d : decide (0 < fi) = true := decide_eq_true a1
                    by_cases a2 : ov.cost = fi
                    ·subst a2
                     by_cases a3 : rt < 0
                     ·have HCN : Hid (Pl.cand ov.cost o ∧ (rt < 0 ∨ Vc.lt ov best ∨ (ov = best ∧ o.port < rt))) := ⟨HCD.out.2 ⟨a1, rfl⟩, Or.inl a3⟩
                      refine pz70f [] Z2 (g2 + 1) (wx.heap.size + 1) Bb wx.heap.size n.K j rt o.port ov best _ _ _ _ _ _ _ _ _ _ _ _ _ _ _ _ _ _ _ _ _ _ _ _ _ _ _ _ _ _ _ _ _ _ _ _ _ _ _ _ _ _ _ _ _ _ _ _ _ _ _ _ _ _ _ _ _ _ _ _ _ _ _ _ _ _ _ _ _ _ _ _ _ _ _ _ _ _ _ _ _ _ _ _ _ _ _ _ _ _ _ _ _ _ _ _ _ _ _ _ _ _ _ _ _ _ _ _ _ _ _ _ _ _ _ _ _ _ _ _ _ _ _ _ _ _ _ _ _ _ _ _ _ _ _ _ _ _ _ _ _ _ _ _ _ _ _ _ _ _ _ _ _ _ _ _ _ _ _ _ _ _ _ _ _ _ _ _ _ _ _ _ _ _ _ _ _ _ _ _ _ _ _ _ _ _ _ _ _ _ _ _ _ _ _ _ _ _ _ _ _ _ _ _ _ _ _ _ _ _ _ _ _ _ _ _ _ _ _ _ _ _ _ _ _ _ _ _ _ _ _ _ _ _ _ _ _ _ _ _ _ _ _ _ _ _ _ _ _ _ _ _ _ _ _ _ _ _ _ _ _ _ _ _ _ _ _ _ _ _ _ _ _ _ _ _ _ _ _ _ _ _ _ _ _ _ _ _ _ _ _ _ _ _ _ _ _ _ _ _ _ ?hQ ?hC ?k1 ?hf ?hr ?fin _ _ _ _ _ _ _ _ _ _ _ _ _ _ _ _ _ _ _ _ _ _ _ _ _ _ _ _ _ _ _ _ _ _
                      case hQ => exact fun _ _ _ _ _ h => h
                      case hC => exact fun V hV => (HCV.out V hV).1
                      case k1 => exact hlj
                      case hf => exact a1
                      case hr => exact a3
                      case fin =>
                       intro w7 hw7
                       clear p0 p1 p2 p3 p4 p5 p6 p7 p8 p9 f0 f1 f2 f3
                       obtain ⟨⟨p0, ⟨p1, p2, p3, p4⟩, ⟨p5, p6, p7, p8⟩, p9⟩, ⟨f0, f1, f2, f3⟩, _⟩ := HCV.out w7 hw7
                       have HW7 : Hid (Below Z2.heap.size Z2 w7) := hw7
                       clear HNO HBET HCV HOV HCD hw7
                       go_wp2_with fail
                       go_region
                       all_goals go_wp2_with fail
                       all_goals exact ⟨⟨q + 1, by omega, by go_num, congrArg (Value.int .i64) (HYES.out HCN.out w7 HW7.out _ (Below.refl _ _)).1, (HYES.out HCN.out w7 HW7.out _ (by first | exact Below.drew (Below.refl _ _) | exact below_drewN (Below.refl _ _) _ | exact Below.refl _ _)).2⟩, by simp [intOf]; omega⟩
                     ·have a3n : 0 ≤ rt := by omega
                      by_cases b1 : Vc.lt ov best
                      ·have HCN : Hid (Pl.cand ov.cost o ∧ (rt < 0 ∨ Vc.lt ov best ∨ (ov = best ∧ o.port < rt))) := ⟨HCD.out.2 ⟨a1, rfl⟩, Or.inr (Or.inl b1)⟩
                       refine pz70 [] Z2 (g2 + 1) (wx.heap.size + 1) Bb wx.heap.size n.K j rt o.port ov best _ _ _ _ _ _ _ _ _ _ _ _ _ _ _ _ _ _ _ _ _ _ _ _ _ _ _ _ _ _ _ _ _ _ _ _ _ _ _ _ _ _ _ _ _ _ _ _ _ _ _ _ _ _ _ _ _ _ _ _ _ _ _ _ _ _ _ _ _ _ _ _ _ _ _ _ _ _ _ _ _ _ _ _ _ _ _ _ _ _ _ _ _ _ _ _ _ _ _ _ _ _ _ _ _ _ _ _ _ _ _ _ _ _ _ _ _ _ _ _ _ _ _ _ _ _ _ _ _ _ _ _ _ _ _ _ _ _ _ _ _ _ _ _ _ _ _ _ _ _ _ _ _ _ _ _ _ _ _ _ _ _ _ _ _ _ _ _ _ _ _ _ _ _ _ _ _ _ _ _ _ _ _ _ _ _ _ _ _ _ _ _ _ _ _ _ _ _ _ _ _ _ _ _ _ _ _ _ _ _ _ _ _ _ _ _ _ _ _ _ _ _ _ _ _ _ _ _ _ _ _ _ _ _ _ _ _ _ _ _ _ _ _ _ _ _ _ _ _ _ _ _ _ _ _ _ _ _ _ _ _ _ _ _ _ _ _ _ _ _ _ _ _ _ _ _ _ _ _ _ _ _ _ _ _ _ _ _ _ _ _ _ _ _ _ _ _ _ _ _ _ ?hQ ?hC ?k1 ?hf ?hr ?hB ?fin _ _ _ _ _ _ _ _ _ _ _ _ _ _ _ _ _ _ _ _ _ _ _ _ _ _ _ _ _ _ _ _ _ _
                       case hQ => exact fun _ _ _ _ _ h => h
                       case hC => exact fun V hV => (HCV.out V hV).1
                       case k1 => exact hlj
                       case hf => exact a1
                       case hr => exact a3n
                       case hB =>
                        intro W hW
                        have h := HBET.out W hW
                        rw [decide_eq_true b1] at h
                        exact h
                       case fin =>
                        intro w7 hw7
                        clear p0 p1 p2 p3 p4 p5 p6 p7 p8 p9 f0 f1 f2 f3
                        obtain ⟨⟨p0, ⟨p1, p2, p3, p4⟩, ⟨p5, p6, p7, p8⟩, p9⟩, ⟨f0, f1, f2, f3⟩, _⟩ := HCV.out w7 hw7
                        have HW7 : Hid (Below Z2.heap.size Z2 w7) := hw7
                        clear HNO HBET HCV HOV HCD hw7
                        go_wp2_with fail
                        go_region
                        all_goals go_wp2_with fail
                        all_goals exact ⟨⟨q + 1, by omega, by go_num, congrArg (Value.int .i64) (HYES.out HCN.out w7 HW7.out _ (Below.refl _ _)).1, (HYES.out HCN.out w7 HW7.out _ (by first | exact Below.drew (Below.refl _ _) | exact below_drewN (Below.refl _ _) _ | exact Below.refl _ _)).2⟩, by simp [intOf]; omega⟩
                      ·by_cases b2 : ov = best
                       ·by_cases b3 : o.port < rt
                        ·have HCN : Hid (Pl.cand ov.cost o ∧ (rt < 0 ∨ Vc.lt ov best ∨ (ov = best ∧ o.port < rt))) := ⟨HCD.out.2 ⟨a1, rfl⟩, Or.inr (Or.inr ⟨b2, b3⟩)⟩
                         subst b2
                         refine pz70c [] Z2 (g2 + 1) (wx.heap.size + 1) Bb wx.heap.size n.K j rt o.port ov _ _ _ _ _ _ _ _ _ _ _ _ _ _ _ _ _ _ _ _ _ _ _ _ _ _ _ _ _ _ _ _ _ _ _ _ _ _ _ _ _ _ _ _ _ _ _ _ _ _ _ _ _ _ _ _ _ _ _ _ _ _ _ _ _ _ _ _ _ _ _ _ _ _ _ _ _ _ _ _ _ _ _ _ _ _ _ _ _ _ _ _ _ _ _ _ _ _ _ _ _ _ _ _ _ _ _ _ _ _ _ _ _ _ _ _ _ _ _ _ _ _ _ _ _ _ _ _ _ _ _ _ _ _ _ _ _ _ _ _ _ _ _ _ _ _ _ _ _ _ _ _ _ _ _ _ _ _ _ _ _ _ _ _ _ _ _ _ _ _ _ _ _ _ _ _ _ _ _ _ _ _ _ _ _ _ _ _ _ _ _ _ _ _ _ _ _ _ _ _ _ _ _ _ _ _ _ _ _ _ _ _ _ _ _ _ _ _ _ _ _ _ _ _ _ _ _ _ _ _ _ _ _ _ _ _ _ _ _ _ _ _ _ _ _ _ _ _ _ _ _ _ _ _ _ _ _ _ _ _ _ _ _ _ _ _ _ _ _ _ _ _ _ _ _ _ _ _ _ _ _ _ _ _ _ _ _ _ _ _ _ _ _ _ _ _ _ _ _ _ _ ?hQ ?hC ?k1 ?hf ?hr ?hB ?fin _ _ _ _ _ _ _ _ _ _ _ _ _ _ _ _ _ _ _ _ _ _ _ _ _ _ _ _ _ _ _ _ _ _
                         case hQ => exact fun _ _ _ _ _ h => h
                         case hC => exact fun V hV => (HCV.out V hV).1
                         case k1 => exact hlj
                         case hf => exact a1
                         case hr => exact a3n
                         case hB =>
                          intro W hW
                          have h := HBET.out W hW
                          rw [decide_eq_false b1] at h
                          exact h
                         case fin =>
                          intro w7 hw7
                          rw [decide_eq_true b3]
                          clear p0 p1 p2 p3 p4 p5 p6 p7 p8 p9 f0 f1 f2 f3
                          obtain ⟨⟨p0, ⟨p1, p2, p3, p4⟩, ⟨p5, p6, p7, p8⟩, p9⟩, ⟨f0, f1, f2, f3⟩, _⟩ := HCV.out w7 hw7
                          have HW7 : Hid (Below Z2.heap.size Z2 w7) := hw7
                          clear HNO HBET HCV HOV HCD hw7
                          go_wp2_with fail
                          go_region
                          all_goals go_wp2_with fail
                          all_goals exact ⟨⟨q + 1, by omega, by go_num, congrArg (Value.int .i64) (HYES.out HCN.out w7 HW7.out _ (Below.refl _ _)).1, (HYES.out HCN.out w7 HW7.out _ (by first | exact Below.drew (Below.refl _ _) | exact below_drewN (Below.refl _ _) _ | exact Below.refl _ _)).2⟩, by simp [intOf]; omega⟩
                        ·have HCN : Hid (¬ (Pl.cand ov.cost o ∧ (rt < 0 ∨ Vc.lt ov best ∨ (ov = best ∧ o.port < rt)))) := (fun z => z.2.elim a3 (fun z => z.elim b1 (fun z => b3 z.2)))
                         subst b2
                         refine pz70c [] Z2 (g2 + 1) (wx.heap.size + 1) Bb wx.heap.size n.K j rt o.port ov _ _ _ _ _ _ _ _ _ _ _ _ _ _ _ _ _ _ _ _ _ _ _ _ _ _ _ _ _ _ _ _ _ _ _ _ _ _ _ _ _ _ _ _ _ _ _ _ _ _ _ _ _ _ _ _ _ _ _ _ _ _ _ _ _ _ _ _ _ _ _ _ _ _ _ _ _ _ _ _ _ _ _ _ _ _ _ _ _ _ _ _ _ _ _ _ _ _ _ _ _ _ _ _ _ _ _ _ _ _ _ _ _ _ _ _ _ _ _ _ _ _ _ _ _ _ _ _ _ _ _ _ _ _ _ _ _ _ _ _ _ _ _ _ _ _ _ _ _ _ _ _ _ _ _ _ _ _ _ _ _ _ _ _ _ _ _ _ _ _ _ _ _ _ _ _ _ _ _ _ _ _ _ _ _ _ _ _ _ _ _ _ _ _ _ _ _ _ _ _ _ _ _ _ _ _ _ _ _ _ _ _ _ _ _ _ _ _ _ _ _ _ _ _ _ _ _ _ _ _ _ _ _ _ _ _ _ _ _ _ _ _ _ _ _ _ _ _ _ _ _ _ _ _ _ _ _ _ _ _ _ _ _ _ _ _ _ _ _ _ _ _ _ _ _ _ _ _ _ _ _ _ _ _ _ _ _ _ _ _ _ _ _ _ _ _ _ _ _ _ _ ?hQ ?hC ?k1 ?hf ?hr ?hB ?fin _ _ _ _ _ _ _ _ _ _ _ _ _ _ _ _ _ _ _ _ _ _ _ _ _ _ _ _ _ _ _ _ _ _
                         case hQ => exact fun _ _ _ _ _ h => h
                         case hC => exact fun V hV => (HCV.out V hV).1
                         case k1 => exact hlj
                         case hf => exact a1
                         case hr => exact a3n
                         case hB =>
                          intro W hW
                          have h := HBET.out W hW
                          rw [decide_eq_false b1] at h
                          exact h
                         case fin =>
                          intro w7 hw7
                          rw [decide_eq_false b3]
                          have HW7 : Hid (Below Z2.heap.size Z2 w7) := hw7
                          clear HYES HBET HCV HOV HCD hw7 p0 p1 p2 p3 p4 p5 p6 p7 p8 p9 f0 f1 f2 f3
                          go_wp2_with fail
                          exact ⟨⟨q + 1, by omega, by go_num, congrArg (Value.int .i64) (HNO.out HCN.out w7 HW7.out).1, (HNO.out HCN.out w7 HW7.out).2⟩, by simp [intOf]; omega⟩
                       ·have HCN : Hid (¬ (Pl.cand ov.cost o ∧ (rt < 0 ∨ Vc.lt ov best ∨ (ov = best ∧ o.port < rt)))) := (fun z => z.2.elim a3 (fun z => z.elim b1 (fun z => b2 z.1)))
                        refine pz70b [] Z2 (g2 + 1) (wx.heap.size + 1) Bb wx.heap.size n.K j rt o.port ov best _ _ _ _ _ _ _ _ _ _ _ _ _ _ _ _ _ _ _ _ _ _ _ _ _ _ _ _ _ _ _ _ _ _ _ _ _ _ _ _ _ _ _ _ _ _ _ _ _ _ _ _ _ _ _ _ _ _ _ _ _ _ _ _ _ _ _ _ _ _ _ _ _ _ _ _ _ _ _ _ _ _ _ _ _ _ _ _ _ _ _ _ _ _ _ _ _ _ _ _ _ _ _ _ _ _ _ _ _ _ _ _ _ _ _ _ _ _ _ _ _ _ _ _ _ _ _ _ _ _ _ _ _ _ _ _ _ _ _ _ _ _ _ _ _ _ _ _ _ _ _ _ _ _ _ _ _ _ _ _ _ _ _ _ _ _ _ _ _ _ _ _ _ _ _ _ _ _ _ _ _ _ _ _ _ _ _ _ _ _ _ _ _ _ _ _ _ _ _ _ _ _ _ _ _ _ _ _ _ _ _ _ _ _ _ _ _ _ _ _ _ _ _ _ _ _ _ _ _ _ _ _ _ _ _ _ _ _ _ _ _ _ _ _ _ _ _ _ _ _ _ _ _ _ _ _ _ _ _ _ _ _ _ _ _ _ _ _ _ _ _ _ _ _ _ _ _ _ _ _ _ _ _ _ _ _ _ _ _ _ _ _ _ _ _ _ _ _ _ _ _ ?hQ ?hC ?k1 ?hf ?hr ?hB ?hne ?fin _ _ _ _ _ _ _ _ _ _ _ _ _ _ _ _ _ _ _ _ _ _ _ _ _ _ _ _ _ _ _ _ _ _
                        case hQ => exact fun _ _ _ _ _ h => h
                        case hC => exact fun V hV => (HCV.out V hV).1
                        case k1 => exact hlj
                        case hf => exact a1
                        case hr => exact a3n
                        case hB =>
                         intro W hW
                         have h := HBET.out W hW
                         rw [decide_eq_false b1] at h
                         exact h
                        case hne => exact b2
                        case fin =>
                         intro w7 hw7
                         have HW7 : Hid (Below Z2.heap.size Z2 w7) := hw7
                         clear HYES HBET HCV HOV HCD hw7 p0 p1 p2 p3 p4 p5 p6 p7 p8 p9 f0 f1 f2 f3
                         go_wp2_with fail
                         exact ⟨⟨q + 1, by omega, by go_num, congrArg (Value.int .i64) (HNO.out HCN.out w7 HW7.out).1, (HNO.out HCN.out w7 HW7.out).2⟩, by simp [intOf]; omega⟩
                    ·have HCN : Hid (¬ (Pl.cand fi o ∧ (rt < 0 ∨ Vc.lt ov best ∨ (ov = best ∧ o.port < rt)))) := (fun z => a2 (HCD.out.1 z.1).2)
                     refine pz70e [] Z2 (g2 + 1) (wx.heap.size + 1) Bb wx.heap.size n.K j fi rt o.port ov best _ _ _ _ _ _ _ _ _ _ _ _ _ _ _ _ _ _ _ _ _ _ _ _ _ _ _ _ _ _ _ _ _ _ _ _ _ _ _ _ _ _ _ _ _ _ _ _ _ _ _ _ _ _ _ _ _ _ _ _ _ _ _ _ _ _ _ _ _ _ _ _ _ _ _ _ _ _ _ _ _ _ _ _ _ _ _ _ _ _ _ _ _ _ _ _ _ _ _ _ _ _ _ _ _ _ _ _ _ _ _ _ _ _ _ _ _ _ _ _ _ _ _ _ _ _ _ _ _ _ _ _ _ _ _ _ _ _ _ _ _ _ _ _ _ _ _ _ _ _ _ _ _ _ _ _ _ _ _ _ _ _ _ _ _ _ _ _ _ _ _ _ _ _ _ _ _ _ _ _ _ _ _ _ _ _ _ _ _ _ _ _ _ _ _ _ _ _ _ _ _ _ _ _ _ _ _ _ _ _ _ _ _ _ _ _ _ _ _ _ _ _ _ _ _ _ _ _ _ _ _ _ _ _ _ _ _ _ _ _ _ _ _ _ _ _ _ _ _ _ _ _ _ _ _ _ _ _ _ _ _ _ _ _ _ _ _ _ _ _ _ _ _ _ _ _ _ _ _ _ _ _ _ _ _ _ _ _ _ _ _ _ _ _ _ _ _ _ _ _ _ ?hQ ?hC ?k1 ?hf ?hc ?fin _ _ _ _ _ _ _ _ _ _ _ _ _ _ _ _ _ _ _ _ _ _ _ _ _ _ _ _ _ _ _ _ _ _
                     case hQ => exact fun _ _ _ _ _ h => h
                     case hC => exact fun V hV => (HCV.out V hV).1
                     case k1 => exact hlj
                     case hf => exact a1
                     case hc => exact a2
                     case fin =>
                      intro w7 hw7
                      have HW7 : Hid (Below Z2.heap.size Z2 w7) := hw7
                      clear HYES HBET HCV HOV HCD hw7 p0 p1 p2 p3 p4 p5 p6 p7 p8 p9 f0 f1 f2 f3
                      go_wp2_with fail
                      exact ⟨⟨q + 1, by omega, by go_num, congrArg (Value.int .i64) (HNO.out HCN.out w7 HW7.out).1, (HNO.out HCN.out w7 HW7.out).2⟩, by simp [intOf]; omega⟩
                   ·have HCN : Hid (¬ (Pl.cand fi o ∧ (rt < 0 ∨ Vc.lt ov best ∨ (ov = best ∧ o.port < rt)))) := (fun z => a1 (HCD.out.1 z.1).1)
                    refine pz70d [] Z2 (g2 + 1) (wx.heap.size + 1) Bb wx.heap.size n.K j fi rt o.port ov best _ _ _ _ _ _ _ _ _ _ _ _ _ _ _ _ _ _ _ _ _ _ _ _ _ _ _ _ _ _ _ _ _ _ _ _ _ _ _ _ _ _ _ _ _ _ _ _ _ _ _ _ _ _ _ _ _ _ _ _ _ _ _ _ _ _ _ _ _ _ _ _ _ _ _ _ _ _ _ _ _ _ _ _ _ _ _ _ _ _ _ _ _ _ _ _ _ _ _ _ _ _ _ _ _ _ _ _ _ _ _ _ _ _ _ _ _ _ _ _ _ _ _ _ _ _ _ _ _ _ _ _ _ _ _ _ _ _ _ _ _ _ _ _ _ _ _ _ _ _ _ _ _ _ _ _ _ _ _ _ _ _ _ _ _ _ _ _ _ _ _ _ _ _ _ _ _ _ _ _ _ _ _ _ _ _ _ _ _ _ _ _ _ _ _ _ _ _ _ _ _ _ _ _ _ _ _ _ _ _ _ _ _ _ _ _ _ _ _ _ _ _ _ _ _ _ _ _ _ _ _ _ _ _ _ _ _ _ _ _ _ _ _ _ _ _ _ _ _ _ _ _ _ _ _ _ _ _ _ _ _ _ _ _ _ _ _ _ _ _ _ _ _ _ _ _ _ _ _ _ _ _ _ _ _ _ _ _ _ _ _ _ _ _ _ _ _ _ _ _ _ ?hQ ?hC ?k1 ?hf ?fin _ _ _ _ _ _ _ _ _ _ _ _ _ _ _ _ _ _ _ _ _ _ _ _ _ _ _ _ _ _ _ _ _ _
                    case hQ => exact fun _ _ _ _ _ h => h
                    case hC => exact fun V hV => (HCV.out V hV).1
                    case k1 => exact hlj
                    case hf => exact a1
                    case fin =>
                     intro w7 hw7
                     have HW7 : Hid (Below Z2.heap.size Z2 w7) := hw7
                     clear HYES HBET HCV HOV HCD hw7 p0 p1 p2 p3 p4 p5 p6 p7 p8 p9 f0 f1 f2 f3
                     go_wp2_with fail
                     exact ⟨⟨q + 1, by omega, by go_num, congrArg (Value.int .i64) (HNO.out HCN.out w7 HW7.out).1, (HNO.out HCN.out w7 HW7.out).2⟩, by simp [intOf]; omega⟩
                 ·obtain rfl : q = os.length := by omega
                  have i11 : ¬ (os.length : Int) < (os.length : Int) := by omega
                  have hrp : (Pl.rpTo fi (Pl.lf os) os.length).1 = (x j).rp := by
                   rw [HFI.out, HOS.out, HXX.out]
                   exact Pl.rp_same HR.out.links HR.out.few n.lives hlj
                  rw [hrp]
                  obtain ⟨hOx, hox, _⟩ := HW5.out wx hB.out.1
                  have HOx : Hid (OutW Wc wx v x n.ends j) := hOx
                  have HC73 : Hid (∀ V, Below Wc.heap.size Wc V → V.cell? ⟨BN, 0, none⟩ = some (.slice n.bao n.K n.bcap) ∧ V.cell? ⟨BN, 1, none⟩ = some (.slice n.lao n.L n.lcap) ∧ (V.cell? ⟨g2, j * 4, none⟩ = some (.int .u64 (x j).v.root) ∧ V.cell? ⟨g2, j * 4 + 1, none⟩ = some (.int .i64 (x j).v.cost) ∧ V.cell? ⟨g2, j * 4 + 2, none⟩ = some (.int .u64 (x j).v.bridge) ∧ V.cell? ⟨g2, j * 4 + 3, none⟩ = some (.int .i64 (x j).v.port))) := fun V hV => by
                   obtain ⟨s1, s2, _⟩ := HCS.out V hV
                   obtain ⟨_, _, ⟨s3, s4⟩, _⟩ := HBS.out V s1
                   exact ⟨s3, s4, (s2.cells hlj).1⟩
                  have HUP : Hid (∀ W, Below wx.heap.size wx W → Below Wc.heap.size Wc W) := fun W hW => HOx.out.1.trans (hW.mono HOx.out.1.size)
                  have HBL : Hid (∀ (ad : Addr) (W : World), Below wx.heap.size wx W → W.heap.size ≤ ad.block → v.ownBlock ≠ some ad.block) := fun ad W hW h e => by
                   have := HOx.out.block _ e
                   have := hW.size
                   omega
                  have HPO : Hid (∀ W, Below wx.heap.size wx W → Calls Tryz.prog 36 #[.agg #[.slice n.bao n.K n.bcap, .slice n.lao n.L n.lcap], .int .i64 (j : Int)] W fun e w' => ∃ pa pc, e = .returned (.slice pa (n.ends j).length pc) ∧ Hid (Below W.heap.size W w' ∧ (IRow w' pa (n.ends j).length pc (fun q => (EL (n.ends j) q).port) ∧ (∀ ad : Addr, pa = some ad → v.ownBlock ≠ some ad.block)))) := fun W hW => by
                   obtain ⟨s1, _⟩ := HCS.out W (HUP.out W hW)
                   refine (rports_any n j W (HBS.out W s1).2.2.2.2.2 HR.out.fewL HR.out.links).mono ?_
                   rintro e w' ⟨ao, cap, rfl, z1, _, z3, z4⟩
                   rw [pts_len HR.out.links] at z1 ⊢
                   exact ⟨ao, cap, rfl, z4, CRow.congr z1 (fun q hq => by funext _; exact congrArg (Value.int .i64) (pts_at HR.out.links j hq)), fun ad e => HBL.out ad W hW (z3 ad e)⟩
                  have HRL : Hid (∀ W, Below wx.heap.size wx W → Calls Tryz.prog 37 #[.agg #[.slice n.bao n.K n.bcap, .slice n.lao n.L n.lcap], .slice lao M lcap, .int .i64 (j : Int), .agg #[.int .u64 (x j).v.root, .int .i64 (x j).v.cost, .int .u64 (x j).v.bridge, .int .i64 (x j).v.port], .int .i64 (x j).rp, .slice oa os.length oc] W fun e w' => ∃ ra rc, e = .returned (.slice ra (n.ends j).length rc) ∧ Hid (Below W.heap.size W w' ∧ (IRow w' ra (n.ends j).length rc (fun q => Pl.roleAt (x j) (Pl.offs (n.ends j) x) (EL (n.ends j) q)) ∧ (∀ ad : Addr, ra = some ad → v.ownBlock ≠ some ad.block)))) := fun W hW => by
                   obtain ⟨s1, _⟩ := HCS.out W (HUP.out W hW)
                   have h := rroles_any n lao M lcap es j (x j).v (x j).rp os oa oc W (HBS.out W s1).2.2.2.2.2 HR.out.fewL HR.out.links (by omega) (HBS.out W s1).2.1 (by omega) (CRow.below hox hW) (fun k hk => by
                    obtain ⟨⟨l1, l2, l3⟩, ⟨l5, l6⟩, _⟩ := HLK.out k hk
                    rw [l5, l6]
                    omega)
                   refine h.mono ?_
                   rintro e w' ⟨ao, cap, rfl, z1, z3, z4⟩
                   rw [pts_len HR.out.links] at z1 ⊢
                   refine ⟨ao, cap, rfl, z4, CRow.congr z1 (fun q hq => ?_), fun ad e => HBL.out ad W hW (z3 ad e)⟩
                   funext _
                   refine congrArg (Value.int .i64) ?_
                   rw [HOS.out, HES.out, HM.out]
                   exact roles_at HR.out.links hq
                  have HAP : Hid (∀ W pa pc ra rc, Below wx.heap.size wx W → (IRow W pa (n.ends j).length pc (fun q => (EL (n.ends j) q).port) ∧ (∀ ad : Addr, pa = some ad → v.ownBlock ≠ some ad.block)) → (IRow W ra (n.ends j).length rc (fun q => Pl.roleAt (x j) (Pl.offs (n.ends j) x) (EL (n.ends j) q)) ∧ (∀ ad : Addr, ra = some ad → v.ownBlock ≠ some ad.block)) → ∃ v' w2, (Builtin.append_ #[30, 30] 30 #[v, .slice (some ⟨W.heap.size, 0, none⟩) 1 1]).run Tryz.prog (W.alloc (.cells #[.int .u64 (x j).v.root, .int .i64 (x j).v.cost, .int .u64 (x j).v.bridge, .int .i64 (x j).v.port, .int .i64 (x j).rp, .slice pa (n.ends j).length pc, .slice ra (n.ends j).length rc] 50)) = .ok v' w2 ∧ OutW Wc w2 v' x n.ends (j + 1)) := fun W pa pc ra rc hW h1 h2 => (HOx.out.below hW).more (by omega) h1.1 h2.1 (fun _ => ⟨fun b off e => h1.2 _ e, fun b off e => h2.2 _ e⟩)
                  clear hB hOx hox hrp
                  go_upto_region 73 with fail
                  refine pz73 [] wx BN g2 n.K j M lcap os.length oc (n.ends j).length lao oa (x j).rp (.slice n.bao n.K n.bcap) (.slice n.lao n.L n.lcap) (.int .u64 (x j).v.root) (.int .i64 (x j).v.cost) (.int .u64 (x j).v.bridge) (.int .i64 (x j).v.port) v (fun W pa pc => IRow W pa (n.ends j).length pc (fun q => (EL (n.ends j) q).port) ∧ (∀ ad : Addr, pa = some ad → v.ownBlock ≠ some ad.block)) (fun W ra rc => IRow W ra (n.ends j).length rc (fun q => Pl.roleAt (x j) (Pl.offs (n.ends j) x) (EL (n.ends j) q)) ∧ (∀ ad : Addr, ra = some ad → v.ownBlock ≠ some ad.block)) (fun v' w2 => OutW Wc w2 v' x n.ends (j + 1)) _ _ _ _ _ _ _ _ _ _ _ _ _ _ _ _ _ _ _ _ _ _ _ _ _ _ _ _ _ _ _ _ _ _ _ _ _ _ _ _ _ _ _ _ _ _ _ _ _ _ _ _ _ _ _ _ _ _ _ _ _ _ _ _ _ _ _ _ _ _ _ _ _ _ _ _ _ _ _ _ _ _ _ _ _ _ _ _ _ _ _ _ _ _ _ _ _ _ _ _ _ _ _ _ _ _ _ _ _ _ _ _ _ _ _ _ _ _ _ _ _ _ _ _ _ _ _ _ _ _ _ _ _ _ _ _ _ _ _ _ _ _ _ _ _ _ _ _ _ _ _ _ _ _ _ _ _ _ _ _ _ _ _ _ _ _ _ _ _ _ _ _ _ _ _ _ _ _ _ _ _ _ _ _ _ _ _ _ _ _ _ _ _ _ _ _ _ _ _ _ _ _ _ _ _ _ _ _ _ _ _ _ _ _ _ _ _ _ _ _ _ _ _ _ _ _ _ _ _ _ _ _ _ _ _ _ _ _ _ _ _ _ _ _ _ _ _ _ _ _ _ _ _ _ _ _ _ _ _ _ _ _ _ _ _ _ _ _ _ _ _ _ _ _ _ _ _ _ _ _ _ _ _ _ _ _ _ _ _ _ _ _ _ _ _ _ _ _ _ _ _ _ _ _ _ _ _ _ _ _ _ _ ?hQ ?hC ?k1 ?hP ?hR ?hS ?hA ?fin _ _ _ _ _ _ _ _ _ _ _ _ _ _ _ _ _ _ _ _ _ _
                  case hQ => exact fun _ _ _ _ _ h => h
                  case hC => exact fun V hV => HC73.out V (HUP.out V hV)
                  case k1 => exact hlj
                  case hP => exact HPO.out
                  case hR => exact HRL.out
                  case hS => exact fun W W' pa pc h hb => ⟨CRow.below h.1 hb, h.2⟩
                  case hA =>
                   intro W pa pc ra rc hW h1 h2
                   obtain ⟨v', w2, hr, hO⟩ := HAP.out W pa pc ra rc hW h1 h2
                   exact ⟨v', w2, hr, hO, HC73.out w2 hO.1⟩
                  case fin =>
                   intro pa pc ra rc gp v' w8 hF
                   have HF8 : Hid (OutW Wc w8 v' x n.ends (j + 1)) := hF
                   clear HPO HRL HAP HC73 hF
                   go_wp2_with fail
                   exact ⟨⟨v', j + 1, rfl, by omega, by go_num, HF8⟩, by simp [intOf]; omega⟩
              ·obtain rfl : j = n.K := by omega
               have i9 : ¬ (n.K : Int) < (n.K : Int) := by omega
               obtain ⟨ao, cap, ev, hpl, hnil⟩ := hB.out.fin
               subst ev
               obtain ⟨b1, _⟩ := HCS.out wv hB.out.1
               obtain ⟨_, _, _, q2, q3, _⟩ := HBS.out wv b1
               obtain ⟨z0, z1⟩ := two_cells2 q2
               obtain ⟨f0, f1, _, _⟩ := vc_free q2
               have HQ2 : Hid (wv.heap[G]? = some (.cells #[.int .i64 0, .int .i64 0] 28 (0, 0))) := q2
               have HQ3 : Hid (Below w.heap.size w wv) := q3
               have HPA : Hid (RplAt ((wv.setCell ⟨G, 0, none⟩ (.int .i64 0)).setCell ⟨G, 1, none⟩ (.int .i64 0)) ao n.K cap (Pl.rounds (n.ids tree) n.ends n.K n.K) n.ends) := by
                rw [HXX.out] at hpl
                obtain ⟨c, h1, h2⟩ := hpl
                have hb := below_same q2
                refine ⟨c, CRow.below h1 hb, fun i hi => ?_⟩
                obtain ⟨a1, p, r, pc, rc, a2, a3, a4, a5⟩ := h2 i hi
                exact ⟨a1, p, r, pc, rc, a2, a3, CRow.below a4 hb, CRow.below a5 hb⟩
               clear hB hpl q2 q3 b1
               go_wp2_with fail
               exact bodyPost_ret (v := .tuple #[.slice ao n.K cap, .agg #[.int .i64 0, .int .i64 0]]) (results_tmp_row (u := 4) (p := 5) (ty := 28) Tryz.results13 _ _ G 28 #[.int .i64 0, .int .i64 0] (0, 0) _ rfl (set2_same HQ2.out) Tryz.underlying28 rfl (by rw [sizeFt]; rfl)) rfl ⟨(Below.setCell (HQ3.out) hGM _).setCell hGM _, by first | exact ⟨ao, cap, rfl, HPA.out, hnil⟩ | exact Or.inr (Or.inr ⟨rfl, htr, ao, cap, rfl, HPA.out, hnil⟩) | exact ⟨htr, ao, cap, rfl, HPA.out, hnil⟩⟩
  ·rw [HY.out] at z0 z1 f0 f1
   by_cases t1 : tree < 0
   ·go_wp2_with fail
    rw [← HY.out]
    rw [← HG.out]
    exact bodyPost_ret (v := .tuple #[.slice none 0 0, .agg #[.int .i64 3, .int .i64 0]]) (results_tmp_row (u := 4) (p := 5) (ty := 28) Tryz.results13 _ _ G 28 #[.int .i64 3, .int .i64 0] (0, 0) _ rfl (set2_same HM2.out) Tryz.underlying28 rfl (by rw [sizeFt]; rfl)) rfl ⟨(Below.setCell (HM3.out) hGM _).setCell hGM _, by first | exact rfl | exact Or.inl rfl | exact Or.inr (Or.inl ⟨rfl, htr, rfl⟩) | exact Or.inl ⟨htr, rfl⟩ | exact ⟨htr, rfl⟩⟩
   ·have t2 : 15 < tree := by omega
    go_wp2_with fail
    rw [← HY.out]
    rw [← HG.out]
    exact bodyPost_ret (v := .tuple #[.slice none 0 0, .agg #[.int .i64 3, .int .i64 0]]) (results_tmp_row (u := 4) (p := 5) (ty := 28) Tryz.results13 _ _ G 28 #[.int .i64 3, .int .i64 0] (0, 0) _ rfl (set2_same HM2.out) Tryz.underlying28 rfl (by rw [sizeFt]; rfl)) rfl ⟨(Below.setCell (HM3.out) hGM _).setCell hGM _, by first | exact rfl | exact Or.inl rfl | exact Or.inr (Or.inl ⟨rfl, htr, rfl⟩) | exact Or.inl ⟨htr, rfl⟩ | exact ⟨htr, rfl⟩⟩
 ·have e1 : (E1 == 0) = false := by simp [e0]
  rw [HY.out] at y0 y1 z0 z1 f0 f1
  go_wp2_with fail
  rw [← HY.out] at y0 y1 z0 z1 f0 f1 ⊢
  go_region
  all_goals go_wp2_with fail
  all_goals rw [← HG.out]
  all_goals exact bodyPost_ret (v := .tuple #[.slice none 0 0, .agg #[.int .i64 E1, .int .i64 E2]]) (results_tmp_row (u := 4) (p := 5) (ty := 28) Tryz.results13 _ _ G 28 #[.int .i64 E1, .int .i64 E2] (0, 0) _ rfl (set2_same HM2.out) Tryz.underlying28 rfl (by rw [sizeFt]; rfl)) rfl ⟨(Below.setCell (by first | exact HM3.out.drew | exact HM3.out) hGM _).setCell hGM _, by first | exact Or.inl ⟨e0, rfl⟩ | exact rfl⟩
end
end Go.Proofs.YtcbpafpaimpfnaaGreatDoor
