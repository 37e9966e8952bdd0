/- 'hedgetop.TopFirst' returns true for every net and every three numbers, and leaves it as it was: the row and its tied card. Conditions: none beyond the form's own (the tables lie as the program's text lays them: the card's tie). -/
import Derived.Test.YtflghpnpjmodaaaGreatDoorR36
import Derived.Test.YtflghpnpjmodaaaGreatDoorR37
import Derived.Test.YtflghpnpjmodaaaGreatDoorR38
import Derived.Test.YtflghpnpjmodaaaGreatDoorCards
import Derived.Test.YtflghpnpjmodaaaGreatDoorTie
import Derived.Test.YtflghpnpjmodaaaGreatDoorR09
import Derived.Test.YtflghpnpjmodaaaGreatDoorR08
namespace Go.Proofs.YtflghpnpjmodaaaGreatDoor
open Go.RowKit
open Vc (V Of)
open Pl (Br Net Pc Lk En St LN)
open Tk (Md Mnd Cn Sc Dn)
theorem own_emptyB (W : World) {lo : Nat} (hl : lo ≤ W.heap.size) : (W.alloc (.cells #[] 58)).ownsRow lo 58 5 (.slice (some ⟨W.heap.size, 0, none⟩) 0 0) 0 (cellsL 0 5 (fun _ _ => .int .i64 0)) :=
 ⟨cellsL_length _ _ _, Or.inr ⟨W.heap.size, 0, #[], rfl, hl, heap_alloc_last _ _, Nat.le_refl _, by unfold maxLen; omega, rfl, by simp [cellsL]⟩⟩
theorem br_copy {W : World} {lo : Nat} {v : Value} {ao : Option Addr} {K cap : Nat} {bs : Nat → Br} (ho : W.ownsRow lo 58 5 v 0 (cellsL 0 5 (fun _ _ => .int .i64 0))) (hr : BRow W ao K cap bs) (hnil : NilOk ao K cap) (hn : K * 80 ≤ 140737488355328) (hl : lo ≤ W.heap.size) :
  ∃ a1 c1 w', (Builtin.append_ #[29, 29] 29 #[v, .slice ao K cap]).run Tryz.prog W = .ok (.slice a1 K c1) w' ∧ w'.ownsRow lo 58 5 (.slice a1 K c1) K (cellsL K 5 (fun i => brC (bs i))) ∧ Below lo W w' := by
 obtain ⟨a1, c1, w', r, o, b, _⟩ := append_c W 29 58 _ 5 80 Tryz.underlying29 infoBgU rfl (by omega) lo v 0 _ ho ao K cap (fun i => brC (bs i)) (fun _ j => brC_one _ j) hr hnil (by unfold maxLen; omega) (by omega) hl
 rw [Nat.zero_add] at r o
 rw [cellsL_congr K 5 _ (fun i => brC (bs i)) (fun i hi => by unfold catC; rw [if_neg (by omega), Nat.sub_zero])] at o
 exact ⟨a1, c1, w', r, o, b⟩
theorem fst3_do {w : World} {g b t : Nat} {ty : TypeId} (h : w.heap[g]? = some (.cells #[.int .i64 1, .int .i64 40, .int .i64 0, .int .i64 0, .int .i64 5, .int .i64 (b : Int), .int .i64 (t : Int), .int .i64 0, .int .i64 1, .int .i64 40, .int .i64 0, .int .i64 0] ty (0, 0))) : DRow w (some ⟨g, 0, none⟩) 3 3 (fst3 b t) := by
 refine ⟨Nat.le_refl _, fun _ => ⟨g, 0, rfl, (Array.getElem?_eq_some_iff.1 h).1, fun i hi j hj => ?_⟩⟩
 rcases (by omega : i = 0 ∨ i = 1 ∨ i = 2) with e | e | e <;> subst e <;> rcases (by omega : j = 0 ∨ j = 1 ∨ j = 2 ∨ j = 3) with e | e | e | e <;> subst e <;> exact cell_of_row w g _ _ _ _ h
structure FiG (Z w : World) (n' : Net) (bb boff ob off oc mb moff mc : Nat) (l : List Mi) (tl b t : Nat) (g7 g8 : Nat) : Prop where
 keep : ∀ V, Below Z.heap.size Z V → ((V.cell? ⟨g7, 0, none⟩ = some (.slice (some ⟨bb, boff, none⟩) n'.K n'.bcap) ∧ V.cell? ⟨g7, 1, none⟩ = some (.slice n'.lao n'.L n'.lcap)) ∧ V.cell? ⟨g8, 0, none⟩ = some (.slice (some ⟨ob, off, none⟩) tl oc) ∧ V.cell? ⟨ob, off + t, none⟩ = some (.slice (some ⟨mb, moff, none⟩) n'.K mc)) ∧ (n'.at' V ∧ BRow V (some ⟨bb, boff, none⟩) n'.K n'.bcap n'.bs ∧ MiRow V (some ⟨mb, moff, none⟩) mc l) ∧ Below w.heap.size w V
 bao : n'.bao = some ⟨bb, boff, none⟩
 right : n'.Right
 tree : t < tl ∧ b < n'.K ∧ l.length = n'.K
 caps : tl ≤ oc ∧ n'.K ≤ mc ∧ n'.K ≤ n'.bcap
 marks : ∀ i, i < n'.K → Pl.tRounds (fun j => n'.ls (LN n'.lvs j)) n'.lvs.length b n'.K i = decide ((mat l i).md.v.root = n'.ids (t : Int) b)
set_option maxRecDepth 100000 in
set_option maxHeartbeats 8000000 in
theorem utopfirst_any (n : Net) (trees bz tz : Int) (w : World) (hat : n.at' w) (hwf : n.Wf) (hby : n.K * 80 ≤ 140737488355328) (ht : Tabs w) (hbt : 2 ≤ w.heap.size) : Calls Tryz.prog 7 #[n.val, .int .i64 trees, .int .i64 bz, .int .i64 tz] w fun e w' => e = .returned (.bool true) ∧ Below w.heap.size w w' := by
 have HT : Hid (∀ V, Below w.heap.size w V → (Tabs V ∧ 2 ≤ V.heap.size) ∧ n.at' V) := fun V hV => ⟨⟨ht.below hV hbt, Nat.le_trans hbt hV.size⟩, hat.below hV⟩
 have HAT : Hid (n.at' w) := hat
 have HWF : Hid n.Wf := hwf
 have HBY : Hid (n.K * 80 ≤ 140737488355328) := hby
 have hKs : n.K ≤ 2000000000000 := by omega
 obtain ⟨X, HX⟩ : ∃ X, Hid (X = w.alloc (.cells #[.slice n.bao n.K n.bcap, .slice n.lao n.L n.lcap] 32)) := ⟨_, rfl⟩
 have hXB : Below w.heap.size w X := by rw [HX.out]; exact below_alloc1 _ _
 have hX0 : X.heap[w.heap.size]? = some (.cells #[.slice n.bao n.K n.bcap, .slice n.lao n.L n.lcap] 32 (0, 0)) := by rw [HX.out]; exact heap_alloc_last _ _
 have HCX : Hid (∀ V, Below X.heap.size X V → V.heap[w.heap.size]? = some (.cells #[.slice n.bao n.K n.bcap, .slice n.lao n.L n.lcap] 32 (0, 0)) ∧ Below w.heap.size w V) := fun V hV => ⟨keep hX0 hV, hXB.trans (hV.mono hXB.size)⟩
 have HAL : Hid (Calls Tryz.prog 12 #[] X fun e w' => e = .returned (.bool true) ∧ Below X.heap.size X w') := ualive_any X (ht.below hXB hbt) (Nat.le_trans hbt hXB.size)
 clear ht hbt hat hwf hby hXB hX0
 simp only [Pl.Net.val]
 go_enter Tryz.func7, Tryz.ntmps7
 go_wp2_with fail
 rw [← HX.out]
 refine HAL.out.mono ?_
 rintro e w1 ⟨rfl, hb1⟩
 obtain ⟨x0, hw1⟩ := HCX.out w1 hb1
 have H1 : Hid (Below X.heap.size X w1) := hb1
 have HW1 : Hid (Below w.heap.size w w1) := hw1
 obtain ⟨n0, n1⟩ := two_cells2 x0
 have HX0 : Hid (w1.heap[w.heap.size]? = some (.cells #[.slice n.bao n.K n.bcap, .slice n.lao n.L n.lcap] 32 (0, 0))) := x0
 clear HAL hb1 hw1 x0
 by_cases q1 : bz < 0
 ·clear HT HAT HWF HBY HCX H1
  go_wp2_with fail
  go_ret
  exact ⟨rfl, HW1.out⟩
 by_cases q2 : (n.K : Int) ≤ bz
 ·clear HT HAT HWF HBY HCX H1
  go_wp2_with fail
  go_ret
  exact ⟨rfl, HW1.out⟩
 by_cases q3 : trees < 1
 ·clear HT HAT HWF HBY HCX H1
  go_wp2_with fail
  go_ret
  exact ⟨rfl, HW1.out⟩
 by_cases q4 : 4 < trees
 ·clear HT HAT HWF HBY HCX H1
  go_wp2_with fail
  go_ret
  exact ⟨rfl, HW1.out⟩
 by_cases q5 : tz < 0
 ·clear HT HAT HWF HBY HCX H1
  go_wp2_with fail
  go_ret
  exact ⟨rfl, HW1.out⟩
 by_cases q6 : trees ≤ tz
 ·clear HT HAT HWF HBY HCX H1
  go_wp2_with fail
  go_ret
  exact ⟨rfl, HW1.out⟩
 obtain ⟨b, rfl⟩ : ∃ q : Nat, bz = (q : Int) := ⟨bz.toNat, by omega⟩
 obtain ⟨t, rfl⟩ : ∃ q : Nat, tz = (q : Int) := ⟨tz.toNat, by omega⟩
 have HK : Hid (b < n.K ∧ t < 4 ∧ (t : Int) < trees ∧ 1 ≤ trees ∧ trees ≤ 4) := ⟨by omega, by omega, by omega, by omega, by omega⟩
 obtain ⟨M, HM⟩ : ∃ M, Hid (M = w1.heap.size) := ⟨_, rfl⟩
 obtain ⟨D, HD⟩ : ∃ D, Hid (D = w1.alloc (.cells #[.slice n.bao n.K n.bcap, .slice n.lao n.L n.lcap] 32)) := ⟨_, rfl⟩
 have hD1 : Below w1.heap.size w1 D := by rw [HD.out]; exact below_alloc1 _ _
 have hDs : D.heap.size = w1.heap.size + 1 := by rw [HD.out]; simp
 have hDM : D.heap[M]? = some (.cells #[.slice n.bao n.K n.bcap, .slice n.lao n.L n.lcap] 32 (0, 0)) := by rw [HD.out, HM.out]; exact heap_alloc_last _ _
 obtain ⟨C, HC⟩ : ∃ C, Hid (C = D.alloc (.cells #[] 58)) := ⟨_, rfl⟩
 have hCD : Below D.heap.size D C := by rw [HC.out]; exact below_alloc1 _ _
 have hwC : Below w.heap.size w C := by
  have h := HW1.out.trans (hD1.mono HW1.out.size)
  exact h.trans (hCD.mono h.size)
 have hown : C.ownsRow D.heap.size 58 5 (.slice (some ⟨D.heap.size, 0, none⟩) 0 0) 0 (cellsL 0 5 (fun _ _ => .int .i64 0)) := by rw [HC.out]; exact own_emptyB D (Nat.le_refl _)
 obtain ⟨p0, _⟩ := two_cells2 (keep (keep HX0.out hD1) hCD)
 rw [HC.out, HD.out] at p0
 have hbrs := (HT.out C hwC).2.brs
 obtain ⟨bb, boff, eb, _⟩ := CRow.some hbrs (show 0 < n.K by have := HK.out.1; omega)
 obtain ⟨a1, c1, w3, r, ho, hl⟩ := br_copy hown hbrs (fun h => by rw [eb] at h; cases h) HBY.out hCD.size
 have HR : Hid ((Builtin.append_ #[29, 29] 29 #[.slice (some ⟨w1.heap.size + 1, 0, none⟩) 0 0, .slice n.bao n.K n.bcap]).run Tryz.prog ((w1.alloc (.cells #[.slice n.bao n.K n.bcap, .slice n.lao n.L n.lcap] 32)).alloc (.cells #[] 58)) = .ok (.slice a1 n.K c1) w3) := by
  have r' := r
  rw [hDs, HC.out, HD.out] at r'
  exact r'
 obtain ⟨gB, sp, e1, hgB, hc1, hrow⟩ : ∃ gB sp, a1 = some ⟨gB, 0, none⟩ ∧ D.heap.size ≤ gB ∧ n.K ≤ c1 ∧ w3.heap[gB]? = some (.cells (rowS sp n.K 5 (fun i => brC (n.bs i))) 58 (0, 0)) := by
  rcases owns_rowS ho with ⟨_, q⟩ | ⟨g, cap, sp, e, h1, h2, _, _, h5⟩
  ·have := HK.out.1
   omega
  ·injection e with e1 _ e3
   exact ⟨g, sp, e1, h1, by omega, h5⟩
 subst e1
 have h3M : w3.heap[M]? = some (.cells #[.slice n.bao n.K n.bcap, .slice n.lao n.L n.lcap] 32 (0, 0)) := (hl.block M (by rw [HM.out]; omega)).trans (keep hDM hCD)
 obtain ⟨m0, m1⟩ := two_cells2 h3M
 have mf := lk_free0 h3M 0
 obtain ⟨W0, HW0⟩ : ∃ W0, Hid (W0 = w3.setCell ⟨M, 0, none⟩ (.slice (some ⟨gB, 0, none⟩) n.K c1)) := ⟨_, rfl⟩
 have hMg : gB ≠ M := by rw [HM.out]; omega
 have h0M : W0.heap[M]? = some (.cells #[.slice (some ⟨gB, 0, none⟩) n.K c1, .slice n.lao n.L n.lcap] 32 (0, 0)) := by
  rw [HW0.out, set_at (i := 0) h3M]
  rfl
 have hw3 : Below w.heap.size w w3 := hwC.trans (hl.mono (by rw [hDs]; have := HW1.out.size; omega))
 have hP0 : PrW n w W0 W0 gB (fun _ => 0) sp 0 := by
  refine ⟨?_, fun i hi => absurd hi (by omega), ?_, Kp.refl _ _⟩
  ·rw [HW0.out, rowS_congr2 (d := fun i => brC (n.bs i)) sp (fun i _ k _ => by rw [if_neg (by omega)])]
   exact set_keep hrow hMg
  ·rw [HW0.out]
   exact hw3.setCell (by rw [HM.out]; exact HW1.out.size) _
 have HP0 : Hid (PrW n w W0 W0 gB (fun _ => 0) sp 0) := hP0
 have HGB : Hid (w.heap.size ≤ gB ∧ n.K ≤ c1 ∧ gB ≠ M) := ⟨by have := HW1.out.size; omega, hc1, hMg⟩
 have HBX : Hid (∀ V f j, PrW n w W0 V gB f sp j → V.heap[M]? = some (.cells #[.slice (some ⟨gB, 0, none⟩) n.K c1, .slice n.lao n.L n.lcap] 32 (0, 0))) := fun V f j hV => (hV.kept.block M (lt_some h0M) HGB.out.2.2.symm).trans h0M
 rw [HM.out] at m0 m1 mf
 rw [HM.out] at HW0
 obtain ⟨b0, b1⟩ := two_cells2 (HBX.out W0 _ _ hP0)
 rw [HW0.out, HM.out] at b0 b1
 have hMl3 : w1.heap.size < w3.heap.size := by rw [← HM.out]; exact lt_some h3M
 clear H1 HW1 hD1 hDM hCD hwC hown hbrs eb r ho hl hrow h3M h0M hw3 hP0 hgB hc1 hMg HCX hDs
 have q2n : ¬ n.K ≤ b := by omega
 go_wp2_with (at_builtin; refine wpList_append_run rfl (.tmp 49) (.tmp 51) 29 rfl _ _ _ rfl rfl HR.out ?_; clear HR)
 rw [← HW0.out]
 rw [← HM.out]
 clear p0 HX0 m0 m1 mf b0 b1 n0 n1 q1 q2 q3 q4 q5 q6 q2n
 go_loopw [57] (fun i wr => ∃ (j : Nat) (f : Nat → Nat), j ≤ n.K ∧ i = .int .i64 j ∧ Hid (PrW n w W0 wr gB f sp j)) (fun i _ => n.K - (intOf i).toNat)
 case atStart => exact ⟨0, _, by omega, rfl, HP0⟩
 case round =>
  obtain ⟨j, f, hj, rfl, hB⟩ := hrel
  clear HP0
  by_cases hlt : j < n.K
  ·have hi : (j : Int) < (n.K : Int) := by omega
   have hi0 : (0 : Int) ≤ (j : Int) := by omega
   obtain ⟨b0, b1⟩ := two_cells2 (HBX.out wr f j hB.out)
   obtain ⟨c0, f0⟩ := hB.out.cell hlt
   have hgl : gB < wr.heap.size := lt_some hB.out.row
   have hMl : M < wr.heap.size := by
    have h := hB.out.kept.size
    have h2 : M < W0.heap.size := by rw [HW0.out]; simp; rw [HM.out]; exact hMl3
    omega
   have c1' : ∀ o, (wr.alloc o).cell? ⟨gB, j * 5 + 1, none⟩ = some (.slice (n.bs j).pao (n.bs j).pn (n.bs j).pcap) := fun o => ((below_alloc1 wr o).cell (by exact hgl)).trans c0
   have f1' : ∀ o, (wr.alloc o).frozen? ⟨gB, j * 5 + 1, none⟩ = false := fun o => frozen_of_row _ _ _ _ _ (keep hB.out.row (below_alloc1 wr o))
   have hcc := HGB.out.2.1
   have wj : IntKind.i64.wrap ((j : Int) + 1) = ((j + 1 : Nat) : Int) := by rw [IntKind.wrap_i64]; omega
   have HN : Hid _ := hB.out.step hlt HGB.out.1
   clear hB
   go_wp2_with fail
   exact ⟨⟨j + 1, _, by omega, by go_num, HN⟩, by simp [intOf]; omega⟩
  ·obtain rfl : j = n.K := by omega
   have hi : ¬ (n.K : Int) < (n.K : Int) := by omega
   have HMH : Hid (wr.heap[M]? = some (.cells #[.slice (some ⟨gB, 0, none⟩) n.K c1, .slice n.lao n.L n.lcap] 32 (0, 0))) := HBX.out wr f n.K hB.out
   obtain ⟨b0, b1⟩ := two_cells2 HMH.out
   have HPW : Hid (PrW n w W0 wr gB f sp n.K) := hB
   have HLW : Hid (∀ V, Below wr.heap.size wr V → Below w.heap.size w V) := fun V hV => HPW.out.low.trans (hV.mono HPW.out.low.size)
   clear hB
   go_wp2_with fail
   refine ur7 [] wr M (.slice (some ⟨gB, 0, none⟩) n.K c1) (.slice n.lao n.L n.lcap) trees (b : Int) (t : Int) (fun V W1 na nk nc la lk lc oa ol oc f1 f2 => PlF V W1 (mNet n gB c1 f) trees (fst3 b t) 3 na nk nc la lk lc oa ol oc f1 f2) _ _ _ _ _ _ _ _ _ _ _ _ _ _ _ _ _ _ _ _ _ _ _ _ _ _ _ _ _ _ _ _ _ _ _ _ _ _ _ _ _ _ _ _ _ _ _ _ _ _ _ _ _ _ _ _ _ _ _ _ _ _ _ _ _ _ _ _ _ _ _ _ _ _ _ _ _ _ _ _ _ _ _ _ _ _ _ _ _ _ _ _ _ _ _ _ _ _ _ _ _ _ _ _ _ _ _ _ _ _ _ _ _ _ _ _ _ _ _ _ _ _ _ _ _ _ _ _ _ _ _ _ _ _ _ _ _ _ _ _ _ ?hQ ?hC ?hT ?hP ?fin _ _ _ _ _ _ _ _
   case hQ => exact fun _ _ _ _ _ h => h
   case hC => exact fun V hV => two_cells2 (keep HMH.out hV)
   case hT => exact fun V tk => uticks_any tk V
   case hP =>
    intro V g hV hg
    obtain ⟨⟨t1, t2⟩, _⟩ := HT.out V (HLW.out V hV)
    exact tplay_flat (mNet n gB c1 f) trees (some ⟨g, 0, none⟩) 3 3 (fst3 b t) V (mNet_wf HWF.out) ((HPW.out.net HAT.out HGB.out.2.1).below hV) (by omega) (fst3_do hg) t1 t2
   case fin =>
    intro gt V na nk nc la lk lc oa ol oc f1 f2 g7 g8 g9 W1 W hR hb hX hk hl hz
    obtain ⟨Z, HZ⟩ : ∃ Z, Hid (Z = (((((W.setCell ⟨g7, 0, none⟩ (.slice na nk nc)).setCell ⟨g7, 1, none⟩ (.slice la lk lc)).setCell ⟨g8, 0, none⟩ (.slice oa ol oc)).setCell ⟨g9, 0, none⟩ (.int .i64 f1)).setCell ⟨g9, 1, none⟩ (.int .i64 f2))) := ⟨_, rfl⟩
    obtain ⟨hXZ, hc9, hcase⟩ := u_finT hR hb hX hk hl hz (Z := Z) HZ.out
    have HBZ : Hid (Below w.heap.size w Z) := HLW.out Z hXZ
    have c9 := hc9 Z (Below.refl _ _)
    rcases hcase with q | ⟨q, rfl, n', t', ⟨rfl, rfl, rfl⟩, ⟨rfl, rfl, rfl⟩, rfl, hU⟩
    ·have q1 : (f1 != 0) = true := by simpa using q
     clear HT HAT HWF HBY HPW HLW HMH hR hb hX hk hl hz hc9 hXZ HBX HGB
     rw [← HZ.out]
     go_wp2_with fail
     go_ret
     exact ⟨rfl, HBZ.out⟩
    ·obtain ⟨⟨p1, p2⟩, _, p4⟩ := plErr_zero q
     have hS0 := (hU Z (Below.refl _ _)).1
     have eK : n'.K = n.K := (sn_net hS0).1
     have hR' := right_of hS0.wf hS0.right
     have hlen := hS0.len
     have htl : t < t'.length := by have := HK.out; omega
     obtain ⟨ob, off, rfl, _⟩ := hS0.row.place (by omega)
     have hmr := hS0.row.each t htl
     have hl0 : (tat t' t).l.length = n'.K := by
      rw [eK]
      exact (hS0.each t (by have := HK.out; omega)).1
     obtain ⟨mb, moff, em, _⟩ := hmr.place (by rw [hl0]; have := HK.out.1; omega)
     obtain ⟨bb2, boff2, eb2, _⟩ := CRow.some hS0.net.brs (by have := HK.out.1; omega)
     have hcap1 := hS0.row.row.1
     have hcap2 := hmr.row.1
     have hcap3 := hS0.net.brs.1
     have HG : Hid (FiG Z w n' bb2 boff2 ob off oc mb moff (tat t' t).cap (tat t' t).l t'.length b t g7 g8) := by
      refine ⟨fun U hUU => ?_, eb2, hR', ⟨htl, ?_, hl0⟩, ⟨hcap1, by omega, hcap3⟩, fun i hi => ?_⟩
      ·obtain ⟨s1, s2, s3⟩ := hU U hUU
       obtain ⟨u1, u2⟩ := two_cells2 s2
       have u3 := s1.row.cell htl
       have u4 := s1.row.each t htl
       have u5 := s1.net.brs
       rw [eb2] at u1 u5
       rw [em, hl0] at u3
       rw [em] at u4
       exact ⟨⟨⟨u1, u2⟩, one_cell s3, u3⟩, ⟨s1.net, u5, u4⟩, HLW.out U (hXZ.trans (hUU.mono hXZ.size))⟩
      ·have := HK.out.1
       omega
      ·exact first_marks hS0 (mNet_wf HWF.out) p1 p4 (by have := HK.out; omega) (fun i _ => pr4_ls) HK.out.1 HK.out.2.1 (show i < n.K by omega)
     obtain ⟨⟨⟨d0, d1⟩, _⟩, _⟩ := HG.out.keep Z (Below.refl _ _)
     have hK12 := HG.out.right.few
     have hbK := HG.out.tree.2.1
     have hcp := HG.out.caps
     have htl2 := HG.out.tree.1
     clear HT HAT HWF HBY HPW HLW HMH hR hb hX hk hl hz hc9 hXZ HBX HGB hU hS0 eK hR' hlen p1 p2 p4 q HK hmr hl0 em eb2 hcap1 hcap2 hcap3 htl
     generalize (tat t' t).cap = mc at *
     generalize (tat t' t).l = l at *
     generalize t'.length = tl at *
     obtain ⟨G, HGG⟩ : ∃ G, Hid (G = Z.heap.size) := ⟨_, rfl⟩
     have hmk : (Instr.makeSlice 80 (.int .i64 (n'.K : Int)) (.int .i64 (n'.K : Int))).run Tryz.prog Z = .ok (.slice (some ⟨Z.heap.size, 0, none⟩) n'.K n'.K) (Z.alloc (.cells (rowC n'.K 1 (fun _ _ => .bool false)) 4)) := make_rowD Z 80 4 (.bool false) 1 1 n'.K Tryz.underlying80 (show (Tryz.prog.info? 4).map (fun i => (i.zero, i.size, i.bytes)) = some (some (.bool false), 1, 1) by kernel_rfl) (by omega) rfl (by omega) (by omega) _ (fun _ j hj => by rw [show j = 0 by omega]; rfl)
     have hYB : BlAt (Z.alloc (.cells (rowC n'.K 1 (fun _ _ => .bool false)) 4)) G n'.K (fun _ => false) := by rw [HGG.out]; exact heap_alloc_last _ _
     obtain ⟨e0, e1⟩ := hYB.cell hbK
     have ib : (b : Int) < (n'.K : Int) := by omega
     have d0' : ∀ o, (Z.alloc o).cell? ⟨g7, 0, none⟩ = some (.slice (some ⟨bb2, boff2, none⟩) n'.K n'.bcap) := fun o => (HG.out.keep _ (below_alloc1 Z o)).1.1.1
     obtain ⟨Y2, HY2⟩ : ∃ Y2, Hid (Y2 = Z.alloc (.cells ((rowC n'.K 1 (fun _ _ => .bool false)).setIfInBounds b (.bool true)) 4)) := ⟨_, rfl⟩
     have H0 : Hid (BlAt Y2 G n'.K (Pl.tRounds (fun j => n'.ls (LN n'.lvs j)) n'.lvs.length b 0) ∧ Below Z.heap.size Z Y2) := by
      refine ⟨?_, by rw [HY2.out]; exact below_alloc1 _ _⟩
      have hp := rowC_put (n := n'.K) (k := 1) (fun _ _ => Value.bool false) hbK (show 0 < 1 by omega) (.bool true)
      rw [show b * 1 + 0 = b by omega] at hp
      unfold BlAt
      rw [HY2.out, HGG.out, heap_alloc_last, hp]
      rw [rowC_congr2 (d := fun i _ => .bool (Pl.tRounds (fun j => n'.ls (LN n'.lvs j)) n'.lvs.length b 0 i)) (fun i hi j hj => ?_)]
      unfold updC
      obtain rfl : j = 0 := by omega
      show (if i = b ∧ 0 = 0 then Value.bool true else Value.bool false) = Value.bool (decide (i = b))
      by_cases e : i = b
      ·rw [if_pos ⟨e, rfl⟩, decide_eq_true e]
      ·rw [if_neg (fun z => e z.1), decide_eq_false e]
     rw [HGG.out] at e0 e1
     rw [← HZ.out]
     go_wp2_with fail
     rw [← HY2.out]
     rw [← HGG.out]
     clear e0 e1 d0 d1 d0' hmk hYB c9
     go_loopw [93] (fun i wr => ∃ r : Nat, r ≤ n'.K ∧ i = .int .i64 r ∧ Hid (BlAt wr G n'.K (Pl.tRounds (fun j => n'.ls (LN n'.lvs j)) n'.lvs.length b r) ∧ Below Z.heap.size Z wr)) (fun i _ => n'.K - (intOf i).toNat)
     case atStart => exact ⟨0, by omega, rfl, H0⟩
     case round =>
      obtain ⟨r, hr, rfl, hB⟩ := hrel
      clear H0
      by_cases hlr : r < n'.K
      ·have hr1 : (r : Int) < (n'.K : Int) := by omega
       obtain ⟨⟨⟨d0, d1⟩, _⟩, ⟨at1, _⟩, _⟩ := HG.out.keep wr hB.out.2
       have wr1 : IntKind.i64.wrap ((r : Int) + 1) = ((r + 1 : Nat) : Int) := by rw [IntKind.wrap_i64]; omega
       have HLV : Hid (Calls Tryz.prog 26 #[.agg #[.slice (some ⟨bb2, boff2, none⟩) n'.K n'.bcap, .slice n'.lao n'.L n'.lcap]] wr fun e w' => ∃ ao cap, e = .returned (.slice ao n'.lvs.length cap) ∧ Hid (LRow w' ao n'.lvs.length cap (fun j => n'.ls (LN n'.lvs j)) ∧ (∀ ad, ao = some ad → wr.heap.size ≤ ad.block) ∧ Below wr.heap.size wr w')) := by
        have h := rlive_any n' wr at1 HG.out.right
        unfold Pl.Net.val at h
        rw [HG.out.bao] at h
        refine h.mono ?_
        rintro e w' ⟨ao, cap, rfl, h1, _, h2, h3⟩
        exact ⟨ao, cap, rfl, h1, h2, h3⟩
       have hlen : n'.lvs.length ≤ 40 := by
        have h2 : n'.lvs.length ≤ n'.L := n'.lvsTo_few n'.L
        have := HG.out.right.fewL
        omega
       clear at1
       go_wp2_with fail
       refine HLV.out.mono ?_
       rintro e w5 ⟨ao, cap, rfl, H5⟩
       clear HLV
       have hcl := H5.out.1.1
       have hGw : G < wr.heap.size := lt_some hB.out.1
       have H50 : Hid (BlAt w5 G n'.K (Pl.tTo (fun j => n'.ls (LN n'.lvs j)) (Pl.tRounds (fun j => n'.ls (LN n'.lvs j)) n'.lvs.length b r) 0) ∧ Kp w5 w5 G ∧ Below Z.heap.size Z w5) := ⟨keep hB.out.1 H5.out.2.2, Kp.refl _ _, hB.out.2.trans (H5.out.2.2.mono hB.out.2.size)⟩
       have HRW : Hid (∀ V, Kp w5 V G → LRow V ao n'.lvs.length cap (fun j => n'.ls (LN n'.lvs j))) := fun V hV => hV.row H5.out.1 (fun q o e z => by
        have := H5.out.2.1 _ e
        have h2 : wr.heap.size ≤ q := this
        omega)
       clear hB d0 d1 H5 hGw
       go_wp2_with fail
       go_loopw [98] (fun i wr => ∃ j : Nat, j ≤ n'.lvs.length ∧ i = .int .i64 j ∧ Hid (BlAt wr G n'.K (Pl.tTo (fun j => n'.ls (LN n'.lvs j)) (Pl.tRounds (fun j => n'.ls (LN n'.lvs j)) n'.lvs.length b r) j) ∧ Kp w5 wr G ∧ Below Z.heap.size Z wr)) (fun i _ => n'.lvs.length - (intOf i).toNat)
       case atStart => exact ⟨0, by omega, rfl, H50⟩
       case round =>
        obtain ⟨j, hj, rfl, hB⟩ := hrel
        clear H50
        by_cases hlj : j < n'.lvs.length
        ·have hj1 : (j : Int) < (n'.lvs.length : Int) := by omega
         have hj0 : (0 : Int) ≤ (j : Int) := by omega
         have hrow := HRW.out wr hB.out.2.1
         obtain ⟨lb, loff, ea, _⟩ := CRow.some hrow (by omega)
         subst ea
         obtain ⟨c0, c1', c2, c3, c4, c5⟩ := LRow.cells hrow hlj
         obtain ⟨hlv1, _⟩ := n'.lvs_mem hlj
         obtain ⟨⟨p1, p2⟩, ⟨p3, p4⟩, p5, _⟩ := HG.out.right.links.ok _ hlv1
         obtain ⟨aa, haa⟩ : ∃ aa : Nat, (n'.ls (LN n'.lvs j)).a = (aa : Int) := ⟨(n'.ls (LN n'.lvs j)).a.toNat, by omega⟩
         obtain ⟨bb, hbb⟩ : ∃ bb : Nat, (n'.ls (LN n'.lvs j)).b = (bb : Int) := ⟨(n'.ls (LN n'.lvs j)).b.toNat, by omega⟩
         obtain ⟨th, hth⟩ : ∃ th, th = Pl.tTo (fun j => n'.ls (LN n'.lvs j)) (Pl.tRounds (fun j => n'.ls (LN n'.lvs j)) n'.lvs.length b r) j := ⟨_, rfl⟩
         have HST : Hid (∀ i, Pl.tTo (fun j => n'.ls (LN n'.lvs j)) (Pl.tRounds (fun j => n'.ls (LN n'.lvs j)) n'.lvs.length b r) (j + 1) i = if (th aa || th bb) = true then (th i || (decide (i = aa) || decide (i = bb))) else th i) := fun i => by
          show Pl.tStep (Pl.tTo (fun j => n'.ls (LN n'.lvs j)) (Pl.tRounds (fun j => n'.ls (LN n'.lvs j)) n'.lvs.length b r) j) (n'.ls (LN n'.lvs j)) i = _
          unfold Pl.tStep
          rw [haa, hbb, Int.toNat_natCast, Int.toNat_natCast, ← hth]
         have hBl := hB.out.1
         rw [← hth] at hBl
         rw [haa] at c0 p1 p2 p5
         rw [hbb] at c2 p3 p4 p5
         have haK : aa < n'.K := by omega
         have hbK' : bb < n'.K := by omega
         have hne : aa ≠ bb := by omega
         generalize (n'.ls (LN n'.lvs j)).pa = pa at *
         generalize (n'.ls (LN n'.lvs j)).pb = pb at *
         generalize (n'.ls (LN n'.lvs j)).cost = cost at *
         generalize (n'.ls (LN n'.lvs j)).up = up at *
         obtain ⟨Y, HY⟩ : ∃ Y, Hid (Y = wr.alloc (.cells #[.int .i64 (aa : Int), .int .i64 pa, .int .i64 (bb : Int), .int .i64 pb, .int .i64 cost, .bool up] 83)) := ⟨_, rfl⟩
         have hYB : Below wr.heap.size wr Y := by rw [HY.out]; exact below_alloc1 _ _
         have hYx : Y.heap[wr.heap.size]? = some (.cells #[.int .i64 (aa : Int), .int .i64 pa, .int .i64 (bb : Int), .int .i64 pb, .int .i64 cost, .bool up] 83 (0, 0)) := by rw [HY.out]; exact heap_alloc_last _ _
         obtain ⟨q, HQ⟩ : ∃ q, Hid (q = wr.heap.size) := ⟨_, rfl⟩
         have hBY : BlAt Y G n'.K th := keep hBl hYB
         have hKY : Kp w5 Y G := hB.out.2.1.below hYB
         have hZY : Below Z.heap.size Z Y := hB.out.2.2.trans (hYB.mono hB.out.2.2.size)
         obtain ⟨y0, _, y2, _⟩ := lk_cells hYx
         obtain ⟨ga, gaf⟩ := hBY.cell haK
         obtain ⟨gb, gbf⟩ := hBY.cell hbK'
         have hqG : q ≠ G := by rw [HQ.out]; have := lt_some hBl; omega
         have iaa : (aa : Int) < (n'.K : Int) := by omega
         have ibb : (bb : Int) < (n'.K : Int) := by omega
         have wj : IntKind.i64.wrap ((j : Int) + 1) = ((j + 1 : Nat) : Int) := by rw [IntKind.wrap_i64]; omega
         have HBY : Hid (BlAt Y G n'.K th ∧ Kp w5 Y G ∧ Below Z.heap.size Z Y) := ⟨hBY, hKY, hZY⟩
         have HGZ : Hid (Z.heap.size ≤ G) := by rw [HGG.out]; exact Nat.le_refl _
         clear hrow hlv1 p1 p2 p3 p4 p5 haa hbb hth hBl hYB hYx hBY hKY hZY hB
         cases hta : th aa with
         | true =>
          have HN : Hid (∀ k, BlAt (((Y.drewN k).setCell ⟨G, aa, none⟩ (.bool true)).setCell ⟨G, bb, none⟩ (.bool true)) G n'.K (Pl.tTo (fun j => n'.ls (LN n'.lvs j)) (Pl.tRounds (fun j => n'.ls (LN n'.lvs j)) n'.lvs.length b r) (j + 1)) ∧ Kp w5 (((Y.drewN k).setCell ⟨G, aa, none⟩ (.bool true)).setCell ⟨G, bb, none⟩ (.bool true)) G ∧ Below Z.heap.size Z (((Y.drewN k).setCell ⟨G, aa, none⟩ (.bool true)).setCell ⟨G, bb, none⟩ (.bool true))) := fun k => by
           have hd : Below Y.heap.size Y (Y.drewN k) := below_drewN (Below.refl _ _) k
           have h1 : BlAt (Y.drewN k) G n'.K th := keep HBY.out.1 hd
           have hz := HBY.out.2.2.trans (hd.mono HBY.out.2.2.size)
           refine ⟨((h1.set haK true).set hbK' true).congr (fun i hi => ?_), ((HBY.out.2.1.below hd).set).set, (hz.setCell HGZ.out _).setCell HGZ.out _⟩
           rw [HST.out i, hta, Bool.true_or, if_pos rfl]
           by_cases e1 : i = bb
           ·simp [e1]
           ·by_cases e2 : i = aa
            ·simp [e2]
            ·simp [e1, e2]
          rw [hta] at ga
          rw [HY.out] at y0 y2 ga gaf gb gbf
          clear HBY HST
          go_wp2_with fail
          rw [← HY.out] at y0 y2 ga gaf gb gbf ⊢
          rw [← HQ.out] at y0 y2 ⊢
          go_region
          all_goals go_wp2_with fail
          all_goals exact ⟨⟨j + 1, by omega, by go_num, HN.out _⟩, by simp [intOf]; omega⟩
         | false =>
          cases htb : th bb with
          | true =>
           have HN : Hid (∀ k, BlAt (((Y.drewN k).setCell ⟨G, aa, none⟩ (.bool true)).setCell ⟨G, bb, none⟩ (.bool true)) G n'.K (Pl.tTo (fun j => n'.ls (LN n'.lvs j)) (Pl.tRounds (fun j => n'.ls (LN n'.lvs j)) n'.lvs.length b r) (j + 1)) ∧ Kp w5 (((Y.drewN k).setCell ⟨G, aa, none⟩ (.bool true)).setCell ⟨G, bb, none⟩ (.bool true)) G ∧ Below Z.heap.size Z (((Y.drewN k).setCell ⟨G, aa, none⟩ (.bool true)).setCell ⟨G, bb, none⟩ (.bool true))) := fun k => by
            have hd : Below Y.heap.size Y (Y.drewN k) := below_drewN (Below.refl _ _) k
            have h1 : BlAt (Y.drewN k) G n'.K th := keep HBY.out.1 hd
            have hz := HBY.out.2.2.trans (hd.mono HBY.out.2.2.size)
            refine ⟨((h1.set haK true).set hbK' true).congr (fun i hi => ?_), ((HBY.out.2.1.below hd).set).set, (hz.setCell HGZ.out _).setCell HGZ.out _⟩
            rw [HST.out i, hta, htb, Bool.or_true, if_pos rfl]
            by_cases e1 : i = bb
            ·simp [e1]
            ·by_cases e2 : i = aa
             ·simp [e2]
             ·simp [e1, e2]
           rw [hta] at ga
           rw [htb] at gb
           rw [HY.out] at y0 y2 ga gaf gb gbf
           clear HBY HST
           go_wp2_with fail
           rw [← HY.out] at y0 y2 ga gaf gb gbf ⊢
           rw [← HQ.out] at y0 y2 ⊢
           go_region
           all_goals go_wp2_with fail
           all_goals exact ⟨⟨j + 1, by omega, by go_num, HN.out _⟩, by simp [intOf]; omega⟩
          | false =>
           have HN : Hid (BlAt Y G n'.K (Pl.tTo (fun j => n'.ls (LN n'.lvs j)) (Pl.tRounds (fun j => n'.ls (LN n'.lvs j)) n'.lvs.length b r) (j + 1)) ∧ Kp w5 Y G ∧ Below Z.heap.size Z Y) := ⟨HBY.out.1.congr (fun i hi => by rw [HST.out i, hta, htb, Bool.or_false, if_neg (by decide)]), HBY.out.2⟩
           rw [hta] at ga
           rw [htb] at gb
           rw [HY.out] at y0 y2 ga gaf gb gbf
           rw [HY.out] at HN
           clear HBY HST
           go_wp2_with fail
           exact ⟨⟨j + 1, by omega, by go_num, HN⟩, by simp [intOf]; omega⟩
        ·obtain rfl : j = n'.lvs.length := by omega
         have hj1 : ¬ (n'.lvs.length : Int) < (n'.lvs.length : Int) := by omega
         have HN : Hid (BlAt wr G n'.K (Pl.tRounds (fun j => n'.ls (LN n'.lvs j)) n'.lvs.length b (r + 1)) ∧ Below Z.heap.size Z wr) := ⟨hB.out.1, hB.out.2.2⟩
         clear hB HRW
         go_wp2_with fail
         exact ⟨⟨r + 1, by omega, by go_num, HN⟩, by simp [intOf]; omega⟩
      ·obtain rfl : r = n'.K := by omega
       have hr1 : ¬ (n'.K : Int) < (n'.K : Int) := by omega
       obtain ⟨th, hth⟩ : ∃ th, th = Pl.tRounds (fun j => n'.ls (LN n'.lvs j)) n'.lvs.length b n'.K := ⟨_, rfl⟩
       obtain ⟨ID, hID⟩ : ∃ ID, ID = n'.ids (t : Int) b := ⟨_, rfl⟩
       have HMK : Hid (∀ i, i < n'.K → th i = decide ((mat l i).md.v.root = ID)) := fun i hi => by rw [hth, hID]; exact HG.out.marks i hi
       have hBl := hB.out.1
       rw [← hth] at hBl
       obtain ⟨⟨⟨d0, d1⟩, d8, dm⟩, ⟨_, dbr, _⟩, _⟩ := HG.out.keep wr hB.out.2
       obtain ⟨b0, b1, b2, b3, b4⟩ := BRow.cells dbr hbK
       have HID : Hid (Calls Tryz.prog 17 #[.agg #[.int .u64 (n'.bs b).addr, .slice (n'.bs b).pao (n'.bs b).pn (n'.bs b).pcap, .string (n'.bs b).reg.s, .int .i64 (n'.bs b).reg.rev, .slice (n'.bs b).reg.ao (n'.bs b).reg.n (n'.bs b).reg.cap], .int .i64 (t : Int)] wr fun e w' => e = .returned (.int .u64 ID) ∧ Below wr.heap.size wr w') := by
        rw [hID]
        exact pident_any (n'.bs b) (t : Int) wr ((HG.out.keep wr hB.out.2).2.1.1.each b hbK) (HG.out.right.fine b hbK)
       have HW9 : Hid (∀ V, Below wr.heap.size wr V → BlAt V G n'.K th ∧ Below Z.heap.size Z V) := fun V hV => ⟨keep hBl hV, hB.out.2.trans (hV.mono hB.out.2.size)⟩
       clear hB hBl hth hID dbr
       generalize (n'.bs b).addr = x0 at *
       generalize Value.slice (n'.bs b).pao (n'.bs b).pn (n'.bs b).pcap = x1 at *
       generalize Value.string (n'.bs b).reg.s = x2 at *
       generalize Value.int .i64 (n'.bs b).reg.rev = x3 at *
       generalize Value.slice (n'.bs b).reg.ao (n'.bs b).reg.n (n'.bs b).reg.cap = x4 at *
       go_wp2_with fail
       refine HID.out.mono ?_
       rintro e w9 ⟨rfl, hb9⟩
       obtain ⟨_, hZ9⟩ := HW9.out w9 hb9
       obtain ⟨⟨_, d8', dm'⟩, _⟩ := HG.out.keep w9 hZ9
       have HW10 : Hid (∀ V, Below w9.heap.size w9 V → BlAt V G n'.K th ∧ Below Z.heap.size Z V) := fun V hV => HW9.out V (hb9.trans (hV.mono hb9.size))
       have it : (t : Int) < (tl : Int) := by omega
       clear HID HW9 hb9 hZ9 d0 d1 d8 dm b0 b1 b2 b3 b4
       go_wp2_with fail
       clear d8' dm'
       go_loopw [137] (fun i wr => ∃ j : Nat, j ≤ n'.K ∧ i = .int .i64 j ∧ Hid (Below w9.heap.size w9 wr)) (fun i _ => n'.K - (intOf i).toNat)
       case atStart => exact ⟨0, by omega, rfl, Below.refl _ _⟩
       case round =>
        obtain ⟨j, hj, rfl, hB⟩ := hrel
        by_cases hlj : j < n'.K
        ·have hj1 : (j : Int) < (n'.K : Int) := by omega
         have hj0 : (0 : Int) ≤ (j : Int) := by omega
         obtain ⟨_, hZw⟩ := HW10.out wr hB.out
         obtain ⟨_, ⟨_, _, hmi⟩, _⟩ := HG.out.keep wr hZw
         obtain ⟨m0, m1, m2, m3, m4, m5, m6, m7, m8⟩ := MiRow.cells hmi (i := j) (by rw [HG.out.tree.2.2]; exact hlj)
         have hmk := HMK.out j hlj
         have wj : IntKind.i64.wrap ((j : Int) + 1) = ((j + 1 : Nat) : Int) := by rw [IntKind.wrap_i64]; omega
         obtain ⟨R, hR⟩ : ∃ R, R = (mat l j).md.v.root := ⟨_, rfl⟩
         rw [← hR] at m0 hmk
         obtain ⟨Y, HY⟩ : ∃ Y, Hid (Y = wr.alloc (.cells #[.int .u64 R, .int .i64 (mat l j).md.v.cost, .int .u64 (mat l j).md.v.bridge, .int .i64 (mat l j).md.v.port, .int .i64 (mat l j).md.age, .int .i64 (mat l j).md.rp, .slice (mat l j).po (mat l j).ports.length (mat l j).pc, .slice (mat l j).ro (mat l j).roles.length (mat l j).rc, .slice (mat l j).co (mat l j).calm.length (mat l j).cc] 52)) := ⟨_, rfl⟩
         have hYB : Below wr.heap.size wr Y := by rw [HY.out]; exact below_alloc1 _ _
         have hYx : Y.heap[wr.heap.size]? = some (.cells #[.int .u64 R, .int .i64 (mat l j).md.v.cost, .int .u64 (mat l j).md.v.bridge, .int .i64 (mat l j).md.v.port, .int .i64 (mat l j).md.age, .int .i64 (mat l j).md.rp, .slice (mat l j).po (mat l j).ports.length (mat l j).pc, .slice (mat l j).ro (mat l j).roles.length (mat l j).rc, .slice (mat l j).co (mat l j).calm.length (mat l j).cc] 52 (0, 0)) := by rw [HY.out]; exact heap_alloc_last _ _
         have h9Y : Below w9.heap.size w9 Y := hB.out.trans (hYB.mono hB.out.size)
         obtain ⟨q, HQ⟩ : ∃ q, Hid (q = wr.heap.size) := ⟨_, rfl⟩
         have y0 : Y.cell? ⟨q, 0, none⟩ = some (.int .u64 R) := by rw [HQ.out]; exact cell_of_row _ _ 0 _ _ _ hYx
         obtain ⟨gj, _⟩ := (HW10.out Y h9Y).1.cell hlj
         rw [hmk] at gj
         have HN : Hid (∀ k, Below w9.heap.size w9 (Y.drewN k)) := fun k => below_drewN h9Y k
         clear hB hZw hmi hmk hYB hYx h9Y hR
         go_wp2_with fail
         rw [← HY.out, ← HQ.out]
         clear m0 m1 m2 m3 m4 m5 m6 m7 m8
         by_cases hRI : R = ID
         ·have r1 : (R == ID) = true := by simpa using hRI
          rw [decide_eq_true hRI] at gj
          subst hRI
          go_region
          all_goals go_wp2_with fail
          all_goals exact ⟨⟨j + 1, by omega, by go_num, by first | exact HN.out _ | exact HN.out 1⟩, by simp [intOf]; omega⟩
         ·have r1 : (R == ID) = false := by simpa using hRI
          rw [decide_eq_false hRI] at gj
          go_region
          all_goals go_wp2_with fail
          all_goals exact ⟨⟨j + 1, by omega, by go_num, by first | exact HN.out _ | exact HN.out 1⟩, by simp [intOf]; omega⟩
        ·obtain rfl : j = n'.K := by omega
         have hj1 : ¬ (n'.K : Int) < (n'.K : Int) := by omega
         have HF : Hid (Below w.heap.size w wr) := (HG.out.keep wr (HW10.out wr hB.out).2).2.2
         clear hB HG HW10
         go_wp2_with fail
         go_ret
         exact ⟨rfl, HF.out⟩
end Go.Proofs.YtflghpnpjmodaaaGreatDoor
namespace Go.Proofs.YtflghpnpjmodaaaGreatDoor.topFirst
open Go.ChangeShapes Go.WideShapes Go.ChangeAt Go.RowKit
set_option maxRecDepth 100000 in
theorem contract (H : Type) (enc : TypeId × Value → H) (W : World) (base : Nat) (args : Array Value) (ds gs : List (DataW H)) (before : List MemPlace)
  (hval : ∀ (j : Nat) t v, Tryz.f7.params[j]? = some t → args[j]? = some v → Value.okWide Tryz.prog W .any base t v)
  (hW : DataW.Whole enc Tryz.prog Tryz.f7.params.toList Rows.topFirstSpec.vars false W args.toList ds gs before)
  (hsz : (DataW.weightsEach Tryz.prog (Tryz.f7.params.toList ++ (OpenSpec.ofChange Rows.topFirstSpec).bare.plain.varTypes Tryz.prog) (ds ++ gs)).all (· ≤ reachBytes) = true)
  (hL : laidMetH Tryz.prog Rows.topFirstRow.laid W) :
  Calls Tryz.prog 7 args W fun e W' => ∃ v, e = .returned v ∧ Rows.topFirstSpec.post enc Tryz.prog Tryz.f7 false true false false W args v W' := by
 have hW' := hW
 obtain ⟨p, q, hA0, hV, rfl, hfz, hnd⟩ := hW
 have hA : DataW.TrodAll enc Tryz.prog W 0 (fun _ => true) true Tryz.f7.params.toList args.toList ds p := hA0
 rw [Tryz.params7] at hA hval hsz
 obtain ⟨v0, vs0, d0, ds0, p0, q0, hargs, rfl, rfl, h0, r0⟩ := trodAll_cons hA
 obtain ⟨v1, vs1, d1, ds1, p1, q1, rfl, rfl, rfl, h1, r1⟩ := trodAll_cons r0
 obtain ⟨v2, vs2, d2, ds2, p2, q2, rfl, rfl, rfl, h2, r2⟩ := trodAll_cons r1
 obtain ⟨v3, vs3, d3, ds3, p3, q3, rfl, rfl, rfl, h3, r3⟩ := trodAll_cons r2
 obtain ⟨rfl, rfl, rfl⟩ := trodAll_nil r3
 obtain rfl : args = #[v0, v1, v2, v3] := by cases args; simp_all
 obtain ⟨rfl, rfl⟩ := trodVars_none hV
 have lt0 : ∀ x ∈ p0, x.block < W.heap.size := by obtain ⟨m, hm⟩ := h0; exact DataW.trod_lt m _ _ _ hm
 obtain ⟨n0, rfl, hat0, hwf0, hz0⟩ := net_in2 (hval 0 32 v0 rfl rfl) h0
 have lt1 : ∀ x ∈ p1, x.block < W.heap.size := by obtain ⟨m, hm⟩ := h1; exact DataW.trod_lt m _ _ _ hm
 obtain ⟨z1, rfl⟩ := okWide_int Tryz.underlying3 (hval 1 3 v1 rfl rfl)
 have lt2 : ∀ x ∈ p2, x.block < W.heap.size := by obtain ⟨m, hm⟩ := h2; exact DataW.trod_lt m _ _ _ hm
 obtain ⟨z2, rfl⟩ := okWide_int Tryz.underlying3 (hval 2 3 v2 rfl rfl)
 have lt3 : ∀ x ∈ p3, x.block < W.heap.size := by obtain ⟨m, hm⟩ := h3; exact DataW.trod_lt m _ _ _ hm
 obtain ⟨z3, rfl⟩ := okWide_int Tryz.underlying3 (hval 3 3 v3 rfl rfl)
 have hall := hsz
 simp only [List.cons_append, DataW.weightsEach, List.all_append, Bool.and_eq_true] at hall
 have hm0 := hz0 hall.1
 unfold reachBytes at hm0
 have hT := tabs_of hL
 have hG : 2 ≤ W.heap.size := hT.lt
 clear hA0 hall hsz
 refine (utopfirst_any n0 z1 z2 z3 W hat0 hwf0 (by omega) hT hG).mono fun e W' ⟨he, bel⟩ => ?_
 subst he
 exact ⟨_, rfl, _, _, _, [], _, [], hW', trodAll_mk1 (shut_bool Tryz.underlying4 _), (trodAll_cons_mk (Below.trod laidOut (by kernel_rfl) (of_decide_eq_true (by kernel_rfl)) h0 bel lt0) (trodAll_cons_mk (Below.trod laidOut (by kernel_rfl) (of_decide_eq_true (by kernel_rfl)) h1 bel lt1) (trodAll_cons_mk (Below.trod laidOut (by kernel_rfl) (of_decide_eq_true (by kernel_rfl)) h2 bel lt2) (trodAll_cons_mk (Below.trod laidOut (by kernel_rfl) (of_decide_eq_true (by kernel_rfl)) h3 bel lt3) trodAll_mk0)))), rfl, bel.frame _, fun h => by cases h⟩
theorem laid_met (os : Os) : laidMet Tryz.prog Rows.topFirstRow.laid ((laidW (World.holding Tryz.prog os ⟨#[], #[], []⟩)).forCall (fun _ _ => 0) ⟨#[], #[.agg #[.slice none 0 0, .slice none 0 0], .int .i64 0, .int .i64 0, .int .i64 0], []⟩).memory :=
 laidMet_of_run' 8 (by kernel_rfl) (by kernel_rfl)
theorem reads (os : Os) {H : Type} (enc : TypeId × Value → H) : ∃ places, DataW.whole enc Tryz.prog ((laidW (World.holding Tryz.prog os ⟨#[], #[], []⟩)).forCall (fun _ _ => 0) ⟨#[], #[.agg #[.slice none 0 0, .slice none 0 0], .int .i64 0, .int .i64 0, .int .i64 0], []⟩).memory Tryz.f7.params.toList Rows.topFirstSpec.vars false #[Value.agg #[.slice none 0 0, .slice none 0 0], .int .i64 0, .int .i64 0, .int .i64 0].toList 8 = some ([.agg [.nil, .nil], .lit (.int .i64 0), .lit (.int .i64 0), .lit (.int .i64 0)], [], places) :=
 ⟨[], by kernel_rfl⟩
set_option maxRecDepth 100000 in
theorem lifted (os : Os) (started : os.Started) (H : Type) (enc : TypeId × Value → H) (F : Stop.Interp) :
  ReturnsInHanded {} Tryz.checked os 7 .any ((OpenSpec.ofChange Rows.topFirstSpec).preRow enc Tryz.prog Tryz.f7 Rows.topFirstRow.domain false Rows.topFirstRow.laid) (((OpenSpec.ofChange Rows.topFirstSpec).at F).post enc Tryz.prog Tryz.f7 false true false false) := by
 obtain ⟨places, hx⟩ := reads os enc
 refine returnsInHanded_of_row (C := Tryz.checked) (s := OpenSpec.ofChange Rows.topFirstSpec) own started (by kernel_rfl) Tryz.func7
  (witness_row_at (enc := enc) (C := Tryz.checked) false (laidW (World.holding Tryz.prog os ⟨#[], #[], []⟩)) #[.agg #[.slice none 0 0, .slice none 0 0], .int .i64 0, .int .i64 0, .int .i64 0] rfl (by kernel_rfl) (by kernel_rfl) (by kernel_rfl)
   (OpenSpec.preRow_of_cond 8 hx (by kernel_rfl) (fun k hk => by cases hk) (by kernel_rfl) (laid_met os))) ?_
 intro W base args ds gs before hval hW _ _ hsz hL _ _
 exact contract H enc W base args ds gs before hval hW hsz hL
theorem said : Rows.TopFirstSaid :=
 OpenClaim.holds_of_cond 7 Tryz.f7 rfl rfl rfl rfl rfl rfl rfl ⟨rfl, rfl, rfl, rfl, rfl⟩ rfl rfl rfl rfl rfl (by kernel_rfl) Tryz.func7 (by kernel_rfl)
  (of_decide_eq_true (by kernel_rfl)) (by unfold Func.isWrapper; first | (rw [if_pos (by decide +kernel)]; kernel_rfl) | (rw [if_neg (by decide +kernel)]; exact ⟨rfl, rfl⟩))
  (fun os started H enc _ F => by rw [OpenClaim.pre_eq_preRow]; exact lifted os started H enc F)
theorem plain (f : FuncId) (fn : Func) (hf : Tryz.pinned.checked.prog.funcNamed "hedgerow/hedgetop.TopFirst" = some f) (hfn : Tryz.pinned.checked.prog.funcs[f]? = some fn) :
  false = Tryz.pinned.checked.prog.looks [] ∧ ∀ (j : Nat) t, fn.params[j]? = some t → Tryz.pinned.checked.prog.wantsStandIn t = false := by
 obtain rfl : f = 7 := Option.some.inj ((show Tryz.prog.funcNamed "hedgerow/hedgetop.TopFirst" = some 7 by kernel_rfl).symm.trans hf) |>.symm
 obtain rfl : fn = Tryz.f7 := (Option.some.inj (Tryz.func7.symm.trans hfn)).symm
 refine ⟨by kernel_rfl, fun j t ht => ?_⟩
 rw [Tryz.params7] at ht
 have h1 : Tryz.prog.wantsStandIn 32 = false := by kernel_rfl
 have h2 : Tryz.prog.wantsStandIn 3 = false := by kernel_rfl
 have ht2 : t = 32 ∨ t = 3 := by simpa using Array.mem_of_getElem? ht
 rcases ht2 with rfl | rfl
 ·exact h1
 ·exact h2
theorem card : Rows.TopFirstCardSaid :=
 Claim7.holds_tied_plain_at .later [] _ _ _ _ said (fun _ h => by cases h) (by kernel_rfl) (fun _ h => by cases h) topFirst_row_tie rfl ⟨rfl, rfl⟩ (by kernel_rfl) rfl plain (by kernel_rfl)
end Go.Proofs.YtflghpnpjmodaaaGreatDoor.topFirst
namespace Go.Proofs.YtflghpnpjmodaaaGreatDoor
theorem topFirst_card : Rows.TopFirstCardSaid := topFirst.card
#print axioms topFirst_card
end Go.Proofs.YtflghpnpjmodaaaGreatDoor
