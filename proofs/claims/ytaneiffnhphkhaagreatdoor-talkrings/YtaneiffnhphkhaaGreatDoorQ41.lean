/- 'hedgelaw7.TalkRings' returns true for every net, every number of trees, whatever is done and every tick, and leaves it as it was: the row and its tied card. Conditions: none beyond the form's own (the tables lie as the program's text lays them: the card's tie). -/
import Derived.Test.YtaneiffnhphkhaaGreatDoorQ39
import Derived.Test.YtaneiffnhphkhaaGreatDoorQ40
import Derived.Test.YtaneiffnhphkhaaGreatDoorCards
import Derived.Test.YtaneiffnhphkhaaGreatDoorTie
import Derived.Test.YtaneiffnhphkhaaGreatDoorQ31
namespace Go.Proofs.YtaneiffnhphkhaaGreatDoor
open Go.RowKit
open Vc (V Of)
open Pl (Br Net Pc Lk En St LN)
open Tk (Md Mnd Cn Sc Dn)
structure RiG (Z w : World) (n' : Net) (oa : Option Addr) (oc : Nat) (t' : List Tr) (g7 g8 : Nat) : Prop where
 keep : ∀ V, Below Z.heap.size Z V → ((V.cell? ⟨g7, 0, none⟩ = some (.slice n'.bao n'.K n'.bcap) ∧ V.cell? ⟨g7, 1, none⟩ = some (.slice n'.lao n'.L n'.lcap)) ∧ V.cell? ⟨g8, 0, none⟩ = some (.slice oa t'.length oc)) ∧ (n'.at' V ∧ TrRow V oa oc t') ∧ Below w.heap.size w V
 right : n'.Right
 few : t'.length ≤ 4
 rings : ∀ i, i < t'.length → Tk.ring7 (onE n' (onL n' t' (i : Int))) (onL n' t' (i : Int)).length = false
theorem drow_take {w : World} {dao : Option Addr} {dn dcap k : Nat} {ds : Nat → Dn} (h : DRow w dao dn dcap ds) (hk : k ≤ dn) : DRow w dao k dcap ds :=
 ⟨Nat.le_trans hk h.1, fun h0 => by
  obtain ⟨b, off, e, hb, hc⟩ := h.2 (by omega)
  exact ⟨b, off, e, hb, fun i hi j hj => hc i (by omega) j hj⟩⟩
set_option maxRecDepth 100000 in
set_option maxHeartbeats 6000000 in
theorem trings_any (n : Net) (trees : Int) (dao : Option Addr) (dn dcap : Nat) (ds : Nat → Dn) (at0 : Int) (w : World) (hwf : n.Wf) (hat : n.at' w) (hds : DRow w dao dn dcap ds) (hm : dn * 32 ≤ 140737488355328) (htb : Tabs w) (hbt : 2 ≤ w.heap.size) :
  Calls Tryz.prog 6 #[n.val, .int .i64 trees, .slice dao dn dcap, .int .i64 at0] w fun e w' => e = .returned (.bool true) ∧ Below w.heap.size w w' := by
 obtain ⟨X, HX⟩ : ∃ X, Hid (X = w.alloc (.cells #[.slice n.bao n.K n.bcap, .slice n.lao n.L n.lcap] 25)) := ⟨_, rfl⟩
 have hXB : Below w.heap.size w X := by rw [HX.out]; exact below_alloc1 _ _
 have hX0 : X.heap[w.heap.size]? = some (.cells #[.slice n.bao n.K n.bcap, .slice n.lao n.L n.lcap] 25 (0, 0)) := by rw [HX.out]; exact heap_alloc_last _ _
 have HTB : Hid (∀ V, Below X.heap.size X V → (Tabs V ∧ 2 ≤ V.heap.size) ∧ n.at' V ∧ DRow V dao dn dcap ds ∧ (V.cell? ⟨w.heap.size, 0, none⟩ = some (.slice n.bao n.K n.bcap) ∧ V.cell? ⟨w.heap.size, 1, none⟩ = some (.slice n.lao n.L n.lcap)) ∧ Below w.heap.size w V) := fun V hV => by
  have h := hXB.trans (hV.mono hXB.size)
  exact ⟨⟨htb.below h hbt, Nat.le_trans hbt h.size⟩, hat.below h, CRow.below hds h, two_cells2 (keep hX0 hV), h⟩
 have HWF : Hid n.Wf := hwf
 have HM : Hid (dn * 32 ≤ 140737488355328) := hm
 have hdn : dn ≤ 4398046511104 := by omega
 have hcap := hds.1
 clear hwf hat hds htb hbt hXB hX0 hm
 simp only [Pl.Net.val]
 go_enter Tryz.func6, Tryz.ntmps6
 go_wp2_with fail
 rw [← HX.out]
 obtain ⟨⟨t1, t2⟩, _⟩ := HTB.out X (Below.refl _ _)
 refine (t7alive_any X t1 t2).mono ?_
 rintro e w1 ⟨rfl, HB1⟩
 have H1 : Hid (Below X.heap.size X w1) := HB1
 have HBW : Hid (Below w.heap.size w w1) := (HTB.out w1 HB1).2.2.2.2
 clear t1 t2 HB1
 by_cases q1 : dn = 0
 ·have q1i : ((dn : Int) == 0) = true := by simp; omega
  clear HTB HWF HM H1
  go_wp2_with fail
  go_ret
  exact ⟨rfl, HBW.out⟩
 have q1i : ((dn : Int) == 0) = false := by simp; omega
 by_cases q2 : at0 < 0
 ·clear HTB HWF HM H1
  go_wp2_with fail
  go_ret
  exact ⟨rfl, HBW.out⟩
 by_cases q3 : 200 < at0
 ·clear HTB HWF HM H1
  go_wp2_with fail
  go_ret
  exact ⟨rfl, HBW.out⟩
 obtain ⟨lb, loff, ea, _⟩ := CRow.some (HTB.out w1 H1.out).2.2.1 (by omega)
 subst ea
 obtain ⟨k0, k1, _⟩ := DRow.cells (HTB.out w1 H1.out).2.2.1 (show 0 < dn by omega)
 simp only [Nat.zero_mul, Nat.add_zero] at k0 k1
 have i0 : (0 : Int) < (dn : Int) := by omega
 by_cases q4 : (ds 0).kind = 1
 case neg =>
  have q4b : ((ds 0).kind != 1) = true := by simpa using q4
  clear HTB HWF HM H1
  go_wp2_with fail
  go_ret
  exact ⟨rfl, HBW.out⟩
 have HQ4 : Hid ((ds 0).kind = 1) := q4
 rw [q4] at k0
 by_cases q5 : (ds 0).n < 40
 ·clear HTB HWF HM H1 q4
  go_wp2_with fail
  go_ret
  exact ⟨rfl, HBW.out⟩
 have HL0 : Hid ((ds 0).kind = 1 ∧ 40 ≤ (ds 0).n) := ⟨HQ4.out, by omega⟩
 have HAP : Hid (Calls Tryz.prog 25 #[.slice (some ⟨lb, loff, none⟩) dn dcap] w1 fun e w' => e = .returned (.bool (apW ds dn)) ∧ Below w1.heap.size w1 w') := tapart_any _ dn dcap ds w1 (by omega) (HTB.out w1 H1.out).2.2.1
 clear q4
 go_wp2_with fail
 refine HAP.out.mono ?_
 rintro e w2 ⟨rfl, hb2⟩
 have H2 : Hid (Below X.heap.size X w2) := H1.out.trans (hb2.mono H1.out.size)
 have HBW2 : Hid (Below w.heap.size w w2) := (HTB.out w2 H2.out).2.2.2.2
 clear HAP hb2 H1 HBW k0 k1
 cases hap : apW ds dn with
 | false =>
  clear HTB HWF HM H2 hap
  go_wp2_with fail
  go_ret
  exact ⟨rfl, HBW2.out⟩
 | true =>
  have HAPT : Hid (apW ds dn = true) := hap
  clear hap
  go_wp2_with fail
  go_loopw [47] (fun i wr => ∃ k : Nat, k ≤ dn ∧ i = .int .i64 k ∧ Hid (Below X.heap.size X wr)) (fun i _ => dn - (intOf i).toNat)
  case atStart => exact ⟨0, by omega, rfl, H2⟩
  case round =>
   obtain ⟨k, hk, rfl, hB⟩ := hrel
   clear H2 HBW2
   by_cases hlt : k < dn
   ·have hi : (k : Int) < (dn : Int) := by omega
    have hi0 : (0 : Int) ≤ (k : Int) := by omega
    have hik : (k : Int) ≤ (dcap : Int) := by omega
    have hikn : k ≤ dcap := by omega
    obtain ⟨C, HC⟩ : ∃ C, Hid (C = wr.alloc (.cells #[] 45)) := ⟨_, rfl⟩
    have hwC : Below wr.heap.size wr C := by rw [HC.out]; exact below_alloc1 _ _
    have hXC : Below X.heap.size X C := hB.out.trans (hwC.mono hB.out.size)
    have hown : C.ownsRow wr.heap.size 45 4 (.slice (some ⟨wr.heap.size, 0, none⟩) 0 0) 0 (cellsL 0 4 (fun _ _ => .int .i64 0)) := by rw [HC.out]; exact own_empty wr (Nat.le_refl _)
    obtain ⟨a1, c1, w3, r, ho, hl, _⟩ := do_copy hown (drow_take (HTB.out C hXC).2.2.1 hk) (fun h => by cases h) (by have := HM.out; omega) hwC.size
    have HR : Hid ((Builtin.append_ #[26, 26] 26 #[.slice (some ⟨wr.heap.size, 0, none⟩) 0 0, .slice (some ⟨lb, loff, none⟩) k dcap]).run Tryz.prog (wr.alloc (.cells #[] 45)) = .ok (.slice a1 k c1) w3) := by
     have r' : (Builtin.append_ #[26, 26] 26 #[.slice (some ⟨wr.heap.size, 0, none⟩) 0 0, .slice (some ⟨lb, loff, none⟩) k dcap]).run Tryz.prog C = .ok (.slice a1 k c1) w3 := r
     rw [HC.out] at r'
     exact r'
    have hw3 : Below wr.heap.size wr w3 := hwC.trans hl
    have H3 : Hid (Below X.heap.size X w3) := hB.out.trans (hw3.mono hB.out.size)
    have HO : Hid (w3.ownsRow wr.heap.size 45 4 (.slice a1 k c1) k (cellsL k 4 (fun i => dnC (ds i)))) := ho
    have HLO : Hid (wr.heap.size ≤ w3.heap.size ∧ X.heap.size ≤ wr.heap.size) := ⟨hw3.size, hB.out.size⟩
    obtain ⟨c0, _⟩ := DRow.cells (HTB.out w3 H3.out).2.2.1 hlt
    have wk : IntKind.i64.wrap ((k : Int) + 1) = ((k + 1 : Nat) : Int) := by rw [IntKind.wrap_i64]; omega
    clear hB hwC hXC hown r ho hl hw3
    by_cases hkd : (ds k).kind = 1
    case neg =>
     clear HTB HO HLO HM
     go_wp2_with (at_builtin; refine wpList_append_run rfl (.tmp 50) (.tmp 53) 26 rfl _ _ _ rfl rfl HR.out ?_; clear HR)
     exact ⟨⟨k + 1, by omega, by go_num, H3⟩, by simp [intOf]; omega⟩
    rw [hkd] at c0
    clear hkd
    obtain ⟨N, hN⟩ : ∃ N, N = (ds k).n := ⟨_, rfl⟩
    obtain ⟨mx, hmx⟩ : ∃ mx, max N 0 = mx := ⟨_, rfl⟩
    obtain ⟨tk, htk⟩ : ∃ tk, min at0 mx = tk := ⟨_, rfl⟩
    have HTK : Hid (max N 0 = mx ∧ min at0 mx = tk) := ⟨hmx, htk⟩
    have HCN : Hid (∀ V, Below wr.heap.size w3 V → Below X.heap.size X V) := fun V hV => H3.out.trans (hV.mono HLO.out.2)
    have HC3 : Hid (∀ V, Below wr.heap.size w3 V → V.cell? ⟨w.heap.size, 0, none⟩ = some (.slice n.bao n.K n.bcap) ∧ V.cell? ⟨w.heap.size, 1, none⟩ = some (.slice n.lao n.L n.lcap) ∧ V.cell? ⟨lb, loff + k * 4 + 1, none⟩ = some (.int .i64 N)) := fun V hV => by
     obtain ⟨_, _, y1, y2, _⟩ := HTB.out V (HCN.out V hV)
     obtain ⟨_, z1, _⟩ := DRow.cells y1 hlt
     rw [hN]
     exact ⟨y2.1, y2.2, z1⟩
    clear hN hmx htk
    go_wp2_with (at_builtin; refine wpList_append_run rfl (.tmp 50) (.tmp 53) 26 rfl _ _ _ rfl rfl HR.out ?_; clear HR)
    refine rr12 [] w3 w.heap.size (.slice n.bao n.K n.bcap) (.slice n.lao n.L n.lcap) trees at0 N mx tk a1 k c1 ds lb loff dn dcap wr.heap.size (fun V W0 na nk nc la lk lc oa ol oc f1 f2 => PlF V W0 n trees (dsT k ds tk) (k + 1) na nk nc la lk lc oa ol oc f1 f2) _ _ _ _ _ _ _ _ _ _ _ _ _ _ _ _ _ _ _ _ _ _ _ _ _ _ _ _ _ _ _ _ _ _ _ _ _ _ _ _ _ _ _ _ _ _ _ _ _ _ _ _ _ _ _ _ _ _ _ _ _ _ _ _ _ _ _ _ _ _ _ _ _ _ _ _ _ _ _ ?hQ ?hlo ?hC ?hO ?hdn ?hmx ?hmn ?hi0 ?hT ?hP ?fin _ _ _ _ _ _ _ _ _ _ _ _ _ _
    case hQ => exact fun _ _ _ _ _ h => h
    case hlo => exact HLO.out.1
    case hC => exact HC3.out
    case hO => exact HO.out
    case hdn => have := HM.out; omega
    case hmx => exact HTK.out.1
    case hmn => exact HTK.out.2
    case hi0 => exact hi
    case hT => exact fun V tk => t7ticks_any tk V
    case hP =>
     intro V a2 c2 hV hrow
     obtain ⟨⟨t1, t2⟩, a1', _⟩ := HTB.out V (HCN.out V hV)
     exact tplay_flat n trees a2 (k + 1) c2 (dsT k ds tk) V HWF.out a1' (by omega) hrow t1 t2
    case fin =>
     intro gt a2 c2 V na nk nc la lk lc oa ol oc f1 f2 g7 g8 g9 W0 W hR hb hX ⟨k7, k8, k9⟩ ⟨l7, l8, l9⟩ ⟨z7, z8, z9⟩
     have n78 : g7 ≠ g8 := fun e => by subst e; exact absurd (cells_type k7 k8) (by decide)
     have n79 : g7 ≠ g9 := fun e => by subst e; exact absurd (cells_type k7 k9) (by decide)
     have n89 : g8 ≠ g9 := fun e => by subst e; exact absurd (cells_type k8 k9) (by decide)
     obtain ⟨Z, HZ⟩ : ∃ Z, Hid (Z = ((((W.setCell ⟨g7, 0, none⟩ (.slice na nk nc)).setCell ⟨g7, 1, none⟩ (.slice la lk lc)).setCell ⟨g8, 0, none⟩ (.slice oa ol oc)).setCell ⟨g9, 0, none⟩ (.int .i64 f1)).setCell ⟨g9, 1, none⟩ (.int .i64 f2)) := ⟨_, rfl⟩
     have zs : Z.heap.size = W.heap.size := by rw [HZ.out]; simp
     have y7 : Z.heap[g7]? = some (.cells #[.slice na nk nc, .slice la lk lc] 25 (0, 0)) := by rw [HZ.out]; exact set_keep (set_keep (set_keep (set2_same k7) n78) n79) n79
     have y8 : Z.heap[g8]? = some (.cells #[.slice oa ol oc] 29 (0, 0)) := by rw [HZ.out]; exact set_keep (set_keep (set1_same (set_keep (set_keep k8 n78.symm) n78.symm)) n89) n89
     have y9 : Z.heap[g9]? = some (.cells #[.int .i64 f1, .int .i64 f2] 32 (0, 0)) := by rw [HZ.out]; exact set2_same (set_keep (set_keep (set_keep k9 n79.symm) n79.symm) n89.symm)
     have hlo := HLO.out.1
     have hZX : Below wr.heap.size w3 Z := by rw [HZ.out]; exact ((((hX.setCell (Nat.le_trans hlo l7) _).setCell (Nat.le_trans hlo l7) _).setCell (Nat.le_trans hlo l8) _).setCell (Nat.le_trans hlo l9) _).setCell (Nat.le_trans hlo l9) _
     have hXZ : Below X.heap.size X Z := HCN.out Z hZX
     have HBZ : Hid (Below w.heap.size w Z) := (HTB.out Z hXZ).2.2.2.2
     obtain ⟨c9, _⟩ := two_cells2 y9
     rcases hR with ⟨q, ⟨rfl, rfl⟩, _⟩ | ⟨q, ⟨rfl, rfl⟩, n', t', ⟨rfl, rfl, rfl⟩, ⟨rfl, rfl, rfl⟩, rfl, b, hVb, hK⟩
     ·have q1 : ((plErr n trees (dsT k ds tk) (k + 1)).1 != 0) = true := by simpa using q
      clear HTB HWF H3 hb hX k7 k8 k9 y7 y8 y9 hZX hXZ zs z7 z8 z9 l7 l8 l9 q HC3 HCN HLO HO hlo
      rw [← HZ.out]
      go_wp2_with fail
      go_ret
      exact ⟨rfl, HBZ.out⟩
     ·obtain ⟨⟨p1, p2⟩, p3, p4⟩ := plErr_zero q
      have hS : ∀ U, Below Z.heap.size Z U → SnOut U n trees.toNat ((n.sc (startMs n)).all n.cn (dsT k ds tk) (k + 1)) n' oa oc t' := fun U hU => boxes_kept hK hVb hb z7 z8 z9 (by rw [← HZ.out, ← zs]; exact hU)
      have hS0 := hS Z (Below.refl _ _)
      have HG : Hid (RiG Z w n' oa oc t' g7 g8) := ⟨fun U hU => ⟨⟨two_cells2 (keep y7 hU), one_cell (keep y8 hU)⟩, ⟨(hS U hU).net, (hS U hU).row⟩, (HTB.out U (hXZ.trans (hU.mono hXZ.size))).2.2.2.2⟩, right_of hS0.wf hS0.right, by have := hS0.len; omega, fun i hi => never_at hS0 HWF.out p1 p4 HAPT.out hlt HL0.out (by rw [← hS0.len]; exact hi)⟩
      have HXZ : Hid (Below X.heap.size X Z) := hXZ
      have hfewT : t'.length ≤ 4 := HG.out.few
      obtain ⟨⟨_, c80⟩, _⟩ := HG.out.keep Z (Below.refl _ _)
      clear HTB HWF H3 hb hX k7 k8 k9 y7 y8 y9 hZX hXZ z7 z8 z9 l7 l8 l9 q hK hVb hS hS0 p1 p2 p3 p4 HBZ HC3 HCN HLO HO hlo
      rw [← HZ.out]
      go_wp2_with fail
      clear c9 c80
      go_loopw [86] (fun i wr => ∃ j : Nat, j ≤ t'.length ∧ i = .int .i64 j ∧ Hid (Below Z.heap.size Z wr)) (fun i _ => t'.length - (intOf i).toNat)
      case atStart => exact ⟨0, by omega, rfl, Below.refl _ _⟩
      case round =>
       obtain ⟨j, hj, rfl, hB⟩ := hrel
       by_cases hlj : j < t'.length
       ·have hj1 : (j : Int) < (t'.length : Int) := by omega
        have wj : IntKind.i64.wrap ((j : Int) + 1) = ((j + 1 : Nat) : Int) := by rw [IntKind.wrap_i64]; omega
        have hring := HG.out.rings j hlj
        have HCC : Hid (∀ V, Below wr.heap.size wr V → (V.cell? ⟨g7, 0, none⟩ = some (.slice n'.bao n'.K n'.bcap) ∧ V.cell? ⟨g7, 1, none⟩ = some (.slice n'.lao n'.L n'.lcap)) ∧ V.cell? ⟨g8, 0, none⟩ = some (.slice oa t'.length oc)) := fun V hV => (HG.out.keep V (hB.out.trans (hV.mono hB.out.size))).1
        have HON : Hid (∀ V, Below wr.heap.size wr V → Calls Tryz.prog 27 #[.agg #[.slice n'.bao n'.K n'.bcap, .slice n'.lao n'.L n'.lcap], .agg #[.slice oa t'.length oc], .int .i64 (j : Int)] V fun e w' => ∃ ao cap, e = .returned (.slice ao (onL n' t' (j : Int)).length cap) ∧ Hid (Below wr.heap.size wr w') ∧ Hid (Calls Tryz.prog 26 #[.int .i64 (n'.K : Int), .slice ao (onL n' t' (j : Int)).length cap] w' fun e w'' => e = .returned (.bool false) ∧ Hid (Below wr.heap.size wr w''))) := fun V hV => by
         obtain ⟨_, ⟨x1, x2⟩, _⟩ := HG.out.keep V (hB.out.trans (hV.mono hB.out.size))
         refine (ton7_any n' oa oc t' (j : Int) V x1 HG.out.right x2).mono ?_
         rintro e w' ⟨ao, cap, rfl, hr, hb⟩
         have hVw := hV.trans (hb.mono hV.size)
         refine ⟨ao, cap, rfl, hVw, ?_⟩
         have hf := onL_few n' t' (j : Int)
         have hL := HG.out.right.fewL
         have hK := HG.out.right.few
         refine (tring_any n'.K (onL n' t' (j : Int)).length cap ao (onE n' (onL n' t' (j : Int))) w' (by omega) (by omega) hr (fun q hq => onE_lt HG.out.right t' (j : Int) hq)).mono ?_
         rintro e w'' ⟨rfl, hb'⟩
         rw [hring]
         exact ⟨rfl, hVw.trans (hb'.mono hVw.size)⟩
        have HB0 : Hid (Below wr.heap.size wr wr.drew) := Below.drew (Below.refl _ _)
        have HWZ : Hid (∀ V, Below wr.heap.size wr V → Below Z.heap.size Z V) := fun V hV => hB.out.trans (hV.mono hB.out.size)
        generalize (onL n' t' (j : Int)).length = m at *
        clear hring hB HG
        go_wp2_with fail
        go_region_held3 (fun W => (W.cell? ⟨g7, 0, none⟩ = some (.slice n'.bao n'.K n'.bcap) ∧ W.cell? ⟨g7, 1, none⟩ = some (.slice n'.lao n'.L n'.lcap)) ∧ W.cell? ⟨g8, 0, none⟩ = some (.slice oa t'.length oc))
         (first | (exact HCC.out _ (Hid.out (by assumption))) | (exact HCC.out _ (Below.drew (Hid.out (by assumption)))))
         (first | (go_at_call 27; (with_reducible refine (HON.out _ (by first | exact (Hid.out (by assumption)) | exact Below.drew (Hid.out (by assumption)))).mono ?_); rintro e w5 ⟨ao, cap, rfl, HB5, HRG⟩) | (go_at_call 26; (with_reducible refine HRG.out.mono ?_); rintro e w6 ⟨rfl, HB6⟩))
        all_goals go_wp2_with fail
        all_goals exact ⟨⟨j + 1, by omega, by go_num, HWZ.out _ HB6.out⟩, by simp [intOf]; omega⟩
       ·obtain rfl : j = t'.length := by omega
        have hj1 : ¬ (t'.length : Int) < (t'.length : Int) := by omega
        have HF : Hid (Below X.heap.size X wr) := HXZ.out.trans (hB.out.mono HXZ.out.size)
        clear hB HG
        go_wp2_with fail
        exact ⟨⟨k + 1, by omega, by go_num, HF⟩, by simp [intOf]; omega⟩
   ·obtain rfl : k = dn := by omega
    have hi : ¬ (k : Int) < (k : Int) := by omega
    have HF : Hid (Below w.heap.size w wr) := (HTB.out wr hB.out).2.2.2.2
    clear HTB HWF HM
    go_wp2_with fail
    go_ret
    exact ⟨rfl, HF.out⟩
end Go.Proofs.YtaneiffnhphkhaaGreatDoor
namespace Go.Proofs.YtaneiffnhphkhaaGreatDoor.talkRings
open Go.ChangeShapes Go.WideShapes Go.ChangeAt Go.RowKit
set_option maxRecDepth 100000 in
theorem contract (H : Type) (enc : TypeId × Value → H) (W : World) (base : Nat) (args : Array Value) (ds gs : List (DataW H)) (before : List MemPlace)
  (hval : ∀ (j : Nat) t v, Tryz.f6.params[j]? = some t → args[j]? = some v → Value.okWide Tryz.prog W .any base t v)
  (hW : DataW.Whole enc Tryz.prog Tryz.f6.params.toList Rows.talkRingsSpec.vars false W args.toList ds gs before)
  (hsz : (DataW.weightsEach Tryz.prog (Tryz.f6.params.toList ++ (OpenSpec.ofChange Rows.talkRingsSpec).bare.plain.varTypes Tryz.prog) (ds ++ gs)).all (· ≤ reachBytes) = true)
  (hL : laidMetH Tryz.prog Rows.talkRingsRow.laid W) :
  Calls Tryz.prog 6 args W fun e W' => ∃ v, e = .returned v ∧ Rows.talkRingsSpec.post enc Tryz.prog Tryz.f6 false true false false W args v W' := by
 have hW' := hW
 obtain ⟨p, q, hA0, hV, rfl, hfz, hnd⟩ := hW
 have hA : DataW.TrodAll enc Tryz.prog W 0 (fun _ => true) true Tryz.f6.params.toList args.toList ds p := hA0
 rw [Tryz.params6] at hA hval hsz
 obtain ⟨v0, vs0, d0, ds0, p0, q0, hargs, rfl, rfl, h0, r0⟩ := trodAll_cons hA
 obtain ⟨v1, vs1, d1, ds1, p1, q1, rfl, rfl, rfl, h1, r1⟩ := trodAll_cons r0
 obtain ⟨v2, vs2, d2, ds2, p2, q2, rfl, rfl, rfl, h2, r2⟩ := trodAll_cons r1
 obtain ⟨v3, vs3, d3, ds3, p3, q3, rfl, rfl, rfl, h3, r3⟩ := trodAll_cons r2
 obtain ⟨rfl, rfl, rfl⟩ := trodAll_nil r3
 obtain rfl : args = #[v0, v1, v2, v3] := by cases args; simp_all
 obtain ⟨rfl, rfl⟩ := trodVars_none hV
 have lt0 : ∀ x ∈ p0, x.block < W.heap.size := by obtain ⟨m, hm⟩ := h0; exact DataW.trod_lt m _ _ _ hm
 obtain ⟨n0, rfl, hat0, hwf0, hz0⟩ := net_in (hval 0 25 v0 rfl rfl) h0
 have lt1 : ∀ x ∈ p1, x.block < W.heap.size := by obtain ⟨m, hm⟩ := h1; exact DataW.trod_lt m _ _ _ hm
 obtain ⟨z1, rfl⟩ := okWide_int Tryz.underlying3 (hval 1 3 v1 rfl rfl)
 have lt2 : ∀ x ∈ p2, x.block < W.heap.size := by obtain ⟨m, hm⟩ := h2; exact DataW.trod_lt m _ _ _ hm
 obtain ⟨da2, dn2, dc2, dd2, rfl, hd2, hnl2, hdn2, hdz2⟩ := dos_in (hval 2 26 v2 rfl rfl) h2
 have lt3 : ∀ x ∈ p3, x.block < W.heap.size := by obtain ⟨m, hm⟩ := h3; exact DataW.trod_lt m _ _ _ hm
 obtain ⟨z3, rfl⟩ := okWide_int Tryz.underlying3 (hval 3 3 v3 rfl rfl)
 have hall := hsz
 simp only [List.cons_append, DataW.weightsEach, List.all_append, Bool.and_eq_true] at hall
 have hm2 := hdz2 hall.2.2.1
 unfold reachBytes at hm2
 have hT := tabs_of hL
 have hG : 2 ≤ W.heap.size := hT.lt
 clear hA0 hall hsz
 refine (trings_any n0 z1 da2 dn2 dc2 dd2 z3 W hwf0 hat0 hd2 (by omega) hT hG).mono fun e W' ⟨he, bel⟩ => ?_
 subst he
 exact ⟨_, rfl, _, _, _, [], _, [], hW', trodAll_mk1 (shut_bool Tryz.underlying4 _), (trodAll_cons_mk (Below.trod laidOut (by kernel_rfl) (of_decide_eq_true (by kernel_rfl)) h0 bel lt0) (trodAll_cons_mk (Below.trod laidOut (by kernel_rfl) (of_decide_eq_true (by kernel_rfl)) h1 bel lt1) (trodAll_cons_mk (Below.trod laidOut (by kernel_rfl) (of_decide_eq_true (by kernel_rfl)) h2 bel lt2) (trodAll_cons_mk (Below.trod laidOut (by kernel_rfl) (of_decide_eq_true (by kernel_rfl)) h3 bel lt3) trodAll_mk0)))), rfl, bel.frame _, fun h => by cases h⟩
theorem laid_met (os : Os) : laidMet Tryz.prog Rows.talkRingsRow.laid ((laidW (World.holding Tryz.prog os ⟨#[], #[], []⟩)).forCall (fun _ _ => 0) ⟨#[], #[.agg #[.slice none 0 0, .slice none 0 0], .int .i64 0, .slice none 0 0, .int .i64 0], []⟩).memory :=
 laidMet_of_run' 8 (by kernel_rfl) (by kernel_rfl)
theorem reads (os : Os) {H : Type} (enc : TypeId × Value → H) : ∃ places, DataW.whole enc Tryz.prog ((laidW (World.holding Tryz.prog os ⟨#[], #[], []⟩)).forCall (fun _ _ => 0) ⟨#[], #[.agg #[.slice none 0 0, .slice none 0 0], .int .i64 0, .slice none 0 0, .int .i64 0], []⟩).memory Tryz.f6.params.toList Rows.talkRingsSpec.vars false #[Value.agg #[.slice none 0 0, .slice none 0 0], .int .i64 0, .slice none 0 0, .int .i64 0].toList 8 = some ([.agg [.nil, .nil], .lit (.int .i64 0), .nil, .lit (.int .i64 0)], [], places) :=
 ⟨[], by kernel_rfl⟩
set_option maxRecDepth 100000 in
theorem lifted (os : Os) (started : os.Started) (H : Type) (enc : TypeId × Value → H) (F : Stop.Interp) :
  ReturnsInHanded {} Tryz.checked os 6 .any ((OpenSpec.ofChange Rows.talkRingsSpec).preRow enc Tryz.prog Tryz.f6 Rows.talkRingsRow.domain false Rows.talkRingsRow.laid) (((OpenSpec.ofChange Rows.talkRingsSpec).at F).post enc Tryz.prog Tryz.f6 false true false false) := by
 obtain ⟨places, hx⟩ := reads os enc
 refine returnsInHanded_of_row (C := Tryz.checked) (s := OpenSpec.ofChange Rows.talkRingsSpec) own started (by kernel_rfl) Tryz.func6
  (witness_row_at (enc := enc) (C := Tryz.checked) false (laidW (World.holding Tryz.prog os ⟨#[], #[], []⟩)) #[.agg #[.slice none 0 0, .slice none 0 0], .int .i64 0, .slice none 0 0, .int .i64 0] rfl (by kernel_rfl) (by kernel_rfl) (by kernel_rfl)
   (OpenSpec.preRow_of_cond 8 hx (by kernel_rfl) (fun k hk => by cases hk) (by kernel_rfl) (laid_met os))) ?_
 intro W base args ds gs before hval hW _ _ hsz hL _ _
 exact contract H enc W base args ds gs before hval hW hsz hL
theorem said : Rows.TalkRingsSaid :=
 OpenClaim.holds_of_cond 6 Tryz.f6 rfl rfl rfl rfl rfl rfl rfl ⟨rfl, rfl, rfl, rfl, rfl⟩ rfl rfl rfl rfl rfl (by kernel_rfl) Tryz.func6 (by kernel_rfl)
  (of_decide_eq_true (by kernel_rfl)) (by unfold Func.isWrapper; first | (rw [if_pos (by decide +kernel)]; kernel_rfl) | (rw [if_neg (by decide +kernel)]; exact ⟨rfl, rfl⟩))
  (fun os started H enc _ F => by rw [OpenClaim.pre_eq_preRow]; exact lifted os started H enc F)
theorem plain (f : FuncId) (fn : Func) (hf : Tryz.pinned.checked.prog.funcNamed "hedgerow/hedgelaw7.TalkRings" = some f) (hfn : Tryz.pinned.checked.prog.funcs[f]? = some fn) :
  false = Tryz.pinned.checked.prog.looks [] ∧ ∀ (j : Nat) t, fn.params[j]? = some t → Tryz.pinned.checked.prog.wantsStandIn t = false := by
 obtain rfl : f = 6 := Option.some.inj ((show Tryz.prog.funcNamed "hedgerow/hedgelaw7.TalkRings" = some 6 by kernel_rfl).symm.trans hf) |>.symm
 obtain rfl : fn = Tryz.f6 := (Option.some.inj (Tryz.func6.symm.trans hfn)).symm
 refine ⟨by kernel_rfl, fun j t ht => ?_⟩
 rw [Tryz.params6] at ht
 have h1 : Tryz.prog.wantsStandIn 25 = false := by kernel_rfl
 have h2 : Tryz.prog.wantsStandIn 3 = false := by kernel_rfl
 have h3 : Tryz.prog.wantsStandIn 26 = false := by kernel_rfl
 have ht2 : t = 25 ∨ t = 3 ∨ t = 26 ∨ t = 3 := by simpa using Array.mem_of_getElem? ht
 rcases ht2 with rfl | rfl | rfl | rfl
 ·exact h1
 ·exact h2
 ·exact h3
 ·exact h2
theorem card : Rows.TalkRingsCardSaid :=
 Claim7.holds_tied_plain_at .later [] _ _ _ _ said (fun _ h => by cases h) (by kernel_rfl) (fun _ h => by cases h) talkRings_row_tie rfl ⟨rfl, rfl⟩ (by kernel_rfl) rfl plain (by kernel_rfl)
end Go.Proofs.YtaneiffnhphkhaaGreatDoor.talkRings
namespace Go.Proofs.YtaneiffnhphkhaaGreatDoor
theorem talkRings_card : Rows.TalkRingsCardSaid := talkRings.card
#print axioms talkRings_card
end Go.Proofs.YtaneiffnhphkhaaGreatDoor
