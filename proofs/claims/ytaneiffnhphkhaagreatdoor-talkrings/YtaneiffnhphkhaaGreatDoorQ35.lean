/- Regions that draw their order, in which a chain of operations runs beside allocations that wait for nothing: what is known of a state; lists of what is done, one more -/
import Derived.Test.YtaneiffnhphkhaaGreatDoorQ34
import Derived.Test.YtaneiffnhphkhaaGreatDoorQ20
import Derived.Test.YtaneiffnhphkhaaGreatDoorQ32
import Derived.Test.YtaneiffnhphkhaaGreatDoorQ25
import Derived.Test.YtaneiffnhphkhaaGreatDoorQ11
namespace Go.Proofs.YtaneiffnhphkhaaGreatDoor
open Go.RowKit
open Vc (V Of)
open Pl (En Lk Br Net)
open Tk (Md Mnd Cn Sc Dn ixM ilist lst3 ilm)
def plErr (n : Net) (trees : Int) (ds : Nat → Dn) (dn : Nat) : Int × Int := if (stErr n trees).1 ≠ 0 then stErr n trees else if 30 < dn then (5, 0) else Tk.errTo n.cn ds dn
theorem stErr_zero {n : Net} {trees : Int} (h : (stErr n trees).1 = 0) : n.wrong.1 = 0 ∧ (1 ≤ trees ∧ trees ≤ 4) := by
 unfold stErr at h
 by_cases q : n.wrong.1 = 0
 ·rw [if_neg (fun z => z q)] at h
  by_cases q2 : 1 ≤ trees ∧ trees ≤ 4
  ·exact ⟨q, q2⟩
  ·rw [if_pos q2] at h; cases h
 ·rw [if_pos q] at h
  exact absurd h q
theorem on_start {n : Net} {t0 : List Tr} {ds : Nat → Dn} {dn : Nat} (h : n.wrong.1 = 0) (hf : fitT n t0 = true) : onErr n t0 ds dn = if 30 < dn then (5, 0) else Tk.errTo n.cn ds dn := by
 have e : wrT n t0 dn = if 30 < dn then (5, 0) else (0, 0) := by
  unfold wrT
  rw [if_neg (fun z => z h), if_neg (by rw [hf]; exact Bool.noConfusion)]
 unfold onErr
 rw [e]
 by_cases q : 30 < dn
 ·rw [if_pos q, if_pos q, if_pos (by decide)]
 ·rw [if_neg q, if_neg q, if_neg (fun z => z rfl)]
theorem plErr_zero {n : Net} {trees : Int} {ds : Nat → Dn} {dn : Nat} (h : (plErr n trees ds dn).1 = 0) : (n.wrong.1 = 0 ∧ (1 ≤ trees ∧ trees ≤ 4)) ∧ dn ≤ 30 ∧ ∀ k, k < dn → Tk.errOf n.cn (ds k) = 0 := by
 unfold plErr at h
 by_cases q : (stErr n trees).1 = 0
 ·rw [if_neg (fun z => z q)] at h
  by_cases q2 : 30 < dn
  ·rw [if_pos q2] at h; cases h
  ·rw [if_neg q2] at h
   exact ⟨stErr_zero q, by omega, (Pl.firstTo_zero _ _ h).2⟩
 ·rw [if_pos q] at h
  exact absurd h q
def PlayW (w : World) (n : Net) (trees : Int) (ds : Nat → Dn) (dn : Nat) (e : Ending) (w' : World) : Prop :=
 Below w.heap.size w w' ∧ (((plErr n trees ds dn).1 ≠ 0 ∧ e = .returned (.tuple #[.agg #[.slice none 0 0, .slice none 0 0], .agg #[.slice none 0 0], .agg #[.int .i64 (plErr n trees ds dn).1, .int .i64 (plErr n trees ds dn).2]])) ∨
  ((plErr n trees ds dn).1 = 0 ∧ ∃ (n' : Net) (oao : Option Addr) (ocap : Nat) (t' : List Tr), e = .returned (.tuple #[n'.val, .agg #[.slice oao t'.length ocap], .agg #[.int .i64 0, .int .i64 0]]) ∧ ∃ b, w.heap.size ≤ b ∧ Kept w' b (fun V => SnOut V n trees.toNat ((n.sc (startMs n)).all n.cn ds dn) n' oao ocap t')))
set_option maxRecDepth 100000 in
set_option maxHeartbeats 3000000 in
theorem tplay_any (n : Net) (trees : Int) (dao : Option Addr) (dn dcap : Nat) (ds : Nat → Dn) (w : World) (hwf : n.Wf) (hat : n.at' w) (hdn : dn ≤ 9223372036854775807) (hds : DRow w dao dn dcap ds) (htb : Tabs w) (hbt : 2 ≤ w.heap.size) :
  Calls Tryz.prog 15 #[n.val, .int .i64 trees, .slice dao dn dcap] w fun e w' => PlayW w n trees ds dn e w' := by
 obtain ⟨X2, HX2⟩ : ∃ X2, Hid (X2 = (w.alloc (.cells #[.slice n.bao n.K n.bcap, .slice n.lao n.L n.lcap] 25)).alloc (.cells #[.slice none 0 0, .slice none 0 0] 25)) := ⟨_, rfl⟩
 obtain ⟨X, HX⟩ : ∃ X, Hid (X = (X2.alloc (.cells #[.slice none 0 0] 29)).alloc (.cells #[.int .i64 0, .int .i64 0] 32)) := ⟨_, rfl⟩
 have b1 : Below w.heap.size w X2 := by rw [HX2.out]; exact below_alloc2 _ _ _
 have s1 : X2.heap.size = w.heap.size + 1 + 1 := by rw [HX2.out]; simp
 have b2 : Below X2.heap.size X2 X := by rw [HX.out]; exact below_alloc2 _ _ _
 have s2 : X.heap.size = X2.heap.size + 1 + 1 := by rw [HX.out]; simp
 have hXB : Below w.heap.size w X := b1.trans (b2.mono b1.size)
 have g0 : X.heap[w.heap.size]? = some (.cells #[.slice n.bao n.K n.bcap, .slice n.lao n.L n.lcap] 25 (0, 0)) := keep (by rw [HX2.out]; exact heap_alloc2_old _ _ _) b2
 have g2 : X.heap[w.heap.size + 1]? = some (.cells #[.slice none 0 0, .slice none 0 0] 25 (0, 0)) := keep (by rw [HX2.out]; exact heap_alloc2_new _ _ _) b2
 have g3 : X.heap[w.heap.size + 1 + 1]? = some (.cells #[.slice none 0 0] 29 (0, 0)) := by
  rw [HX.out, ← s1]
  exact heap_alloc2_old _ _ _
 have g4 : X.heap[w.heap.size + 1 + 1 + 1]? = some (.cells #[.int .i64 0, .int .i64 0] 32 (0, 0)) := by
  rw [HX.out, ← s1]
  exact heap_alloc2_new _ _ _
 obtain ⟨BN, HBN⟩ : ∃ BN, Hid (BN = w.heap.size) := ⟨_, rfl⟩
 obtain ⟨RN, HRN⟩ : ∃ RN, Hid (RN = w.heap.size + 1) := ⟨_, rfl⟩
 obtain ⟨RT, HRT⟩ : ∃ RT, Hid (RT = w.heap.size + 1 + 1) := ⟨_, rfl⟩
 obtain ⟨RF, HRF⟩ : ∃ RF, Hid (RF = w.heap.size + 1 + 1 + 1) := ⟨_, rfl⟩
 rw [← HBN.out] at g0
 rw [← HRN.out] at g2
 rw [← HRT.out] at g3
 rw [← HRF.out] at g4
 have ne1 : RN ≠ RT := by have := HRN.out; have := HRT.out; omega
 have ne2 : RN ≠ RF := by have := HRN.out; have := HRF.out; omega
 have ne3 : RT ≠ RF := by have := HRT.out; have := HRF.out; omega
 have le1 : w.heap.size ≤ RN := by have := HRN.out; omega
 have le2 : w.heap.size ≤ RT := by have := HRT.out; omega
 have le3 : w.heap.size ≤ RF := by have := HRF.out; omega
 have lt1 : RN < X.heap.size := by have := HRN.out; omega
 have lt2 : RT < X.heap.size := by have := HRT.out; omega
 have lt3 : RF < X.heap.size := by have := HRF.out; omega
 have HC : Hid (∀ V, Below X.heap.size X V → (V.cell? ⟨BN, 0, none⟩ = some (.slice n.bao n.K n.bcap) ∧ V.cell? ⟨BN, 1, none⟩ = some (.slice n.lao n.L n.lcap)) ∧ (V.cell? ⟨RN, 0, none⟩ = some (.slice none 0 0) ∧ V.cell? ⟨RN, 1, none⟩ = some (.slice none 0 0)) ∧ V.cell? ⟨RT, 0, none⟩ = some (.slice none 0 0) ∧ (V.cell? ⟨RF, 0, none⟩ = some (.int .i64 0) ∧ V.cell? ⟨RF, 1, none⟩ = some (.int .i64 0)) ∧ (V.frozen? ⟨RN, 0, none⟩ = false ∧ V.frozen? ⟨RN, 1, none⟩ = false) ∧ V.frozen? ⟨RT, 0, none⟩ = false ∧ V.frozen? ⟨RF, 0, none⟩ = false ∧ V.frozen? ⟨RF, 1, none⟩ = false) := fun V hV =>
  ⟨two_cells2 (keep g0 hV), two_cells2 (keep g2 hV), one_cell (keep g3 hV), two_cells2 (keep g4 hV), ⟨frozen_of_row _ _ _ _ _ (keep g2 hV), frozen_of_row _ _ _ _ _ (keep g2 hV)⟩, frozen_of_row _ _ _ _ _ (keep g3 hV), frozen_of_row _ _ _ _ _ (keep g4 hV), frozen_of_row _ _ _ _ _ (keep g4 hV)⟩
 have HH : Hid (∀ V, Below X.heap.size X V → V.heap[RN]? = some (.cells #[.slice none 0 0, .slice none 0 0] 25 (0, 0)) ∧ V.heap[RT]? = some (.cells #[.slice none 0 0] 29 (0, 0)) ∧ V.heap[RF]? = some (.cells #[.int .i64 0, .int .i64 0] 32 (0, 0)) ∧ Below w.heap.size w V) := fun V hV => ⟨keep g2 hV, keep g3 hV, keep g4 hV, hXB.trans (hV.mono hXB.size)⟩
 have HST : Hid (Calls Tryz.prog 12 #[.agg #[.slice n.bao n.K n.bcap, .slice n.lao n.L n.lcap], .int .i64 trees] X fun e w' => ∃ oa ol oc f1 f2, e = .returned (.tuple #[.agg #[.slice oa ol oc], .agg #[.int .i64 f1, .int .i64 f2]]) ∧ Hid (Below X.heap.size X w' ∧ f1 = (stErr n trees).1 ∧ f2 = (stErr n trees).2 ∧ (f1 = 0 → ∃ t0 : List Tr, ol = t0.length ∧ StT w' n trees oa oc t0))) := by
  refine (tstart_any n trees X hwf (hat.below hXB)).mono ?_
  rintro e w' ⟨h1, ⟨h2, rfl⟩ | ⟨h2, oao, ocap, t0, rfl, h3⟩⟩
  ·exact ⟨none, 0, 0, _, _, rfl, h1, rfl, rfl, fun z => absurd z h2⟩
  ·have : stErr n trees = (0, 0) := by
    obtain ⟨z1, z2⟩ := stErr_zero h2
    unfold stErr
    rw [if_neg (fun z => z z1), if_neg (fun z => z z2)]
   exact ⟨oao, _, ocap, 0, 0, rfl, h1, by rw [this], by rw [this], fun _ => ⟨t0, rfl, h3⟩⟩
 have HON : Hid ((stErr n trees).1 = 0 → ∀ (V : World) (oa : Option Addr) (oc : Nat) (t0 : List Tr), Below X.heap.size X V → StT V n trees oa oc t0 → Calls Tryz.prog 20 #[.agg #[.slice n.bao n.K n.bcap, .slice n.lao n.L n.lcap], .agg #[.slice oa t0.length oc], .slice dao dn dcap] V fun e w' => ∃ na nk nc la lk lc oa ol oc f1 f2, e = .returned (.tuple #[.agg #[.slice na nk nc, .slice la lk lc], .agg #[.slice oa ol oc], .agg #[.int .i64 f1, .int .i64 f2]]) ∧ Hid (Below X.heap.size X w' ∧ ∀ W, w'.heap.size = W.heap.size → (∀ q, V.heap.size ≤ q → W.heap[q]? = w'.heap[q]?) → Below w.heap.size w W → PlayW w n trees ds dn (.returned (.tuple #[.agg #[.slice na nk nc, .slice la lk lc], .agg #[.slice oa ol oc], .agg #[.int .i64 f1, .int .i64 f2]])) W)) := fun h0 V oa oc t0 hV hT => by
  have hV2 := hXB.trans (hV.mono hXB.size)
  obtain ⟨z1, z2⟩ := stErr_zero h0
  have hp : plErr n trees ds dn = onErr n t0 ds dn := by
   rw [on_start z1 hT.fit]
   exact if_neg (fun z => z h0)
  have hl : t0.length = trees.toNat := by have := hT.len; omega
  refine (ton_any n oa oc t0 (startMs n) dao dn dcap ds V hwf (hat.below hV2) hT.row hdn (CRow.below hds hV2) hT.calm hT.ms (htb.below hV2 hbt) (Nat.le_trans hbt hV2.size)).mono ?_
  rintro e w' ⟨h1, ⟨h2, rfl⟩ | ⟨h2, n', oao, ocap, t', rfl, b, hb, h3⟩⟩
  ·refine ⟨none, 0, 0, none, 0, 0, none, 0, 0, _, _, rfl, hV.trans (h1.mono hV.size), fun W _ _ hW => ⟨hW, Or.inl ⟨by rw [hp]; exact h2, by rw [hp]⟩⟩⟩
  ·refine ⟨n'.bao, n'.K, n'.bcap, n'.lao, n'.L, n'.lcap, oao, t'.length, ocap, 0, 0, rfl, hV.trans (h1.mono hV.size), fun W hs hk hW => ⟨hW, Or.inr ⟨by rw [hp]; exact h2, n', oao, ocap, t', rfl, b, Nat.le_trans hV2.size hb, fun V3 hV3 => ?_⟩⟩⟩
   rw [← hl]
   exact h3 V3 (fun q q1 q2 => (hV3 q q1 (by rw [← hs]; exact q2)).trans (hk q (Nat.le_trans hb q1)))
 have g0' := HC.out X (Below.refl _ _)
 have HXS : Hid (∀ V, Below X.heap.size X V → X.heap.size ≤ V.heap.size) := fun V hV => hV.size
 clear hwf hat hds htb hbt b1 b2 s1 s2 hXB g0 g2 g3 g4
 simp only [Pl.Net.val]
 go_enter Tryz.func15, Tryz.ntmps15
 obtain ⟨⟨x0, x1⟩, _⟩ := g0'
 rw [HX.out, HX2.out, HBN.out] at x0 x1
 go_wp2_with fail
 rw [← HX2.out, ← HX.out, ← HRF.out, ← HRT.out, ← HRN.out, ← HBN.out]
 refine HST.out.mono ?_
 rintro e w1 ⟨oa, ol, oc, f1, f2, rfl, H1⟩
 clear x0 x1 HST
 obtain ⟨V1, HV1⟩ : ∃ V1, Hid (V1 = (w1.alloc (.cells #[.slice oa ol oc] 29)).alloc (.cells #[.int .i64 f1, .int .i64 f2] 32)) := ⟨_, rfl⟩
 have h11 : Below w1.heap.size w1 V1 := by rw [HV1.out]; exact below_alloc2 _ _ _
 have hV1 : Below X.heap.size X V1 := H1.out.1.trans (h11.mono H1.out.1.size)
 have e0 : V1.cell? ⟨w1.heap.size, 0, none⟩ = some (.slice oa ol oc) := one_cell (by rw [HV1.out]; exact heap_alloc2_old _ _ _)
 have e1 : V1.cell? ⟨w1.heap.size + 1, 0, none⟩ = some (.int .i64 f1) ∧ V1.cell? ⟨w1.heap.size + 1, 1, none⟩ = some (.int .i64 f2) := two_cells2 (by rw [HV1.out]; exact heap_alloc2_new _ _ _)
 obtain ⟨e1, e2⟩ := e1
 obtain ⟨⟨p0, p1⟩, ⟨p3, p4⟩, p5, ⟨p6, p7⟩, ⟨q0, q1⟩, q2, q3, q4⟩ := HC.out V1 hV1
 have y1 := e1
 rw [HV1.out] at y1
 have HV1B : Hid (Below X.heap.size X V1) := hV1
 by_cases q : f1 = 0
 ·have h0 : (stErr n trees).1 = 0 := H1.out.2.1.symm.trans q
  obtain ⟨t0, rfl, hT⟩ := H1.out.2.2.2 q
  have HOV : Hid (Calls Tryz.prog 20 #[.agg #[.slice n.bao n.K n.bcap, .slice n.lao n.L n.lcap], .agg #[.slice oa t0.length oc], .slice dao dn dcap] V1 fun e w' => ∃ na nk nc la lk lc oa ol oc f1 f2, e = .returned (.tuple #[.agg #[.slice na nk nc, .slice la lk lc], .agg #[.slice oa ol oc], .agg #[.int .i64 f1, .int .i64 f2]]) ∧ Hid (Below X.heap.size X w' ∧ ∀ W, w'.heap.size = W.heap.size → (∀ q, V1.heap.size ≤ q → W.heap[q]? = w'.heap[q]?) → Below w.heap.size w W → PlayW w n trees ds dn (.returned (.tuple #[.agg #[.slice na nk nc, .slice la lk lc], .agg #[.slice oa ol oc], .agg #[.int .i64 f1, .int .i64 f2]])) W)) := HON.out h0 V1 oa oc t0 hV1 (hT.below h11)
  have vs := hV1.size
  have lo1 : RN < V1.heap.size := by omega
  have lo2 : RT < V1.heap.size := by omega
  have lo3 : RF < V1.heap.size := by omega
  have r0 := p0
  have r1 := p1
  have r2 := e0
  rw [HV1.out] at r0 r1 r2
  subst q
  clear h0 hT p0 p1 p3 p4 p5 p6 p7 q0 q1 q2 q3 q4 HON h11 hV1 e0 e1 e2
  go_wp2_with fail
  rw [← HV1.out]
  refine HOV.out.mono ?_
  rintro e w2 ⟨na, nk, nc, la, lk, lc, oa2, ol2, oc2, f1, f2, rfl, H2⟩
  clear HOV y1 r0 r1 r2
  obtain ⟨_, ⟨p3, p4⟩, p5, ⟨p6, p7⟩, ⟨q0, q1⟩, q2, q3, q4⟩ := HC.out w2 H2.out.1
  go_wp2_with fail
  refine bodyPost_ret (v := .tuple #[.agg #[.slice na nk nc, .slice la lk lc], .agg #[.slice oa2 ol2 oc2], .agg #[.int .i64 f1, .int .i64 f2]]) (results_row3 Tryz.results15 _ _ RN RT RF 25 29 32 #[.slice na nk nc, .slice la lk lc] #[.slice oa2 ol2 oc2] #[.int .i64 f1, .int .i64 f2] (0, 0) (0, 0) (0, 0) _ _ _ rfl rfl rfl ?h1 ?h2 ?h3 Tryz.underlying25 Tryz.underlying29 Tryz.underlying32 rfl rfl rfl ?i1 ?i2 ?i3) rfl ?post
  case h1 => repeat (first | (with_reducible refine drew_keep ?_) | (with_reducible exact (HH.out _ H2.out.1).1) | (with_reducible refine set2_same (a0 := Value.slice none 0 0) (a1 := Value.slice none 0 0) ?_) | (with_reducible refine set_keep ?_ ne1) | (with_reducible refine set_keep ?_ ne2))
  case h2 => repeat (first | (with_reducible refine drew_keep ?_) | (with_reducible exact (HH.out _ H2.out.1).2.1) | (with_reducible refine set1_same (a0 := Value.slice none 0 0) ?_) | (with_reducible refine set_keep ?_ ne1.symm) | (with_reducible refine set_keep ?_ ne3))
  case h3 => repeat (first | (with_reducible refine drew_keep ?_) | (with_reducible exact (HH.out _ H2.out.1).2.2.1) | (with_reducible refine set2_same (a0 := Value.int .i64 0) (a1 := Value.int .i64 0) ?_) | (with_reducible refine set_keep ?_ ne2.symm) | (with_reducible refine set_keep ?_ ne3.symm))
  case i1 => rw [sizeNt]; try rfl
  case i2 => rw [sizeTk]; try rfl
  case i3 => rw [sizeFt]; try rfl
  case post =>
   refine H2.out.2 _ ?_ ?_ ?_
   ·simp
   ·repeat (first | (with_reducible refine out_drew ?_) | (with_reducible refine out_set ?_ lo1) | (with_reducible refine out_set ?_ lo2) | (with_reducible refine out_set ?_ lo3) | (exact (fun _ _ => rfl)))
   ·repeat (first | (with_reducible refine Below.drew ?_) | (with_reducible exact (HH.out _ H2.out.1).2.2.2) | (with_reducible refine Below.setCell ?_ le1 _) | (with_reducible refine Below.setCell ?_ le2 _) | (with_reducible refine Below.setCell ?_ le3 _))
 ·have HE : Hid ((plErr n trees ds dn).1 = f1 ∧ (plErr n trees ds dn).2 = f2) := by
   have e3 := H1.out.2.1
   have e4 := H1.out.2.2.1
   have : plErr n trees ds dn = stErr n trees := if_pos (by rw [← e3]; exact q)
   rw [this]
   exact ⟨e3.symm, e4.symm⟩
  have q1' : (f1 != 0) = true := by simpa using q
  have HNE : Hid (f1 ≠ 0) := q
  have d1 : RN ≠ w1.heap.size + 1 := by have := H1.out.1.size; omega
  have d2 : RT ≠ w1.heap.size + 1 := by have := H1.out.1.size; omega
  have d3 : RF ≠ w1.heap.size + 1 := by have := H1.out.1.size; omega
  have d4 := d1.symm
  have d5 := d2.symm
  have d6 := d3.symm
  clear p0 p1 hV1 HON HC e0
  go_wp2_with fail
  rw [← HV1.out]
  go_region
  all_goals go_wp2_with fail
  all_goals
   refine bodyPost_ret (v := .tuple #[.agg #[.slice none 0 0, .slice none 0 0], .agg #[.slice none 0 0], .agg #[.int .i64 f1, .int .i64 f2]]) (results_row3 Tryz.results15 _ _ RN RT RF 25 29 32 #[.slice none 0 0, .slice none 0 0] #[.slice none 0 0] #[.int .i64 f1, .int .i64 f2] (0, 0) (0, 0) (0, 0) _ _ _ rfl rfl rfl ?h1 ?h2 ?h3 Tryz.underlying25 Tryz.underlying29 Tryz.underlying32 rfl rfl rfl ?i1 ?i2 ?i3) rfl ?post
   case h1 => repeat (first | (with_reducible refine drew_keep ?_) | (with_reducible exact (HH.out _ HV1B.out).1) | (with_reducible exact (HH.out _ (below_drewN HV1B.out _)).1) | (with_reducible exact (HH.out _ (Below.drew HV1B.out)).1) | (with_reducible refine set2_same (a0 := Value.slice none 0 0) (a1 := Value.slice none 0 0) ?_) | (with_reducible refine set_keep ?_ ne1) | (with_reducible refine set_keep ?_ ne2))
   case h2 => repeat (first | (with_reducible refine drew_keep ?_) | (with_reducible exact (HH.out _ HV1B.out).2.1) | (with_reducible exact (HH.out _ (below_drewN HV1B.out _)).2.1) | (with_reducible exact (HH.out _ (Below.drew HV1B.out)).2.1) | (with_reducible refine set1_same (a0 := Value.slice none 0 0) ?_) | (with_reducible refine set_keep ?_ ne1.symm) | (with_reducible refine set_keep ?_ ne3))
   case h3 => repeat (first | (with_reducible refine drew_keep ?_) | (with_reducible exact (HH.out _ HV1B.out).2.2.1) | (with_reducible exact (HH.out _ (below_drewN HV1B.out _)).2.2.1) | (with_reducible exact (HH.out _ (Below.drew HV1B.out)).2.2.1) | (with_reducible refine set2_same (a0 := Value.int .i64 0) (a1 := Value.int .i64 0) ?_) | (with_reducible refine set_keep ?_ ne2.symm) | (with_reducible refine set_keep ?_ ne3.symm))
   case i1 => rw [sizeNt]; try rfl
   case i2 => rw [sizeTk]; try rfl
   case i3 => rw [sizeFt]; try rfl
   case post =>
    refine ⟨?_, Or.inl ⟨by rw [HE.out.1]; exact HNE.out, by rw [HE.out.1, HE.out.2]⟩⟩
    repeat (first | (with_reducible refine Below.drew ?_) | (with_reducible exact (HH.out _ HV1B.out).2.2.2) | (with_reducible exact (HH.out _ (below_drewN HV1B.out _)).2.2.2) | (with_reducible exact (HH.out _ (Below.drew HV1B.out)).2.2.2) | (with_reducible refine Below.setCell ?_ le1 _) | (with_reducible refine Below.setCell ?_ le2 _) | (with_reducible refine Below.setCell ?_ le3 _))
end Go.Proofs.YtaneiffnhphkhaaGreatDoor
namespace Go.Proofs.YtaneiffnhphkhaaGreatDoor
open Go.RowKit
open Vc (V Of)
open Pl (Br Net Pc Lk En St)
def regR : Rg.Reg := ⟨⟨#[114]⟩, 0, none, 0, 0, fun _ => 0, fun _ => 0⟩
def bsTwo (i : Nat) : Br := ⟨(i : Int) + 1, none, 0, 0, fun _ => 0, regR⟩
def lsTwo (_ : Nat) : Lk := ⟨0, 1, 1, 2, 5, true⟩
def netTwo (b1 b2 : Nat) : Net := ⟨some ⟨b1, 0, none⟩, 2, 2, bsTwo, some ⟨b2, 0, none⟩, 1, 1, lsTwo⟩
theorem sizeNet : (Tryz.prog.info? 25).map (·.size) = some 2 := by kernel_rfl
theorem two_at {W : World} {b1 b2 : Nat} {t1 t2 : TypeId} (h1 : W.heap[b1]? = some (.cells #[.int .u64 1, .slice none 0 0, .string ⟨#[114]⟩, .int .i64 0, .slice none 0 0, .int .u64 2, .slice none 0 0, .string ⟨#[114]⟩, .int .i64 0, .slice none 0 0] t1 (0, 0))) (h2 : W.heap[b2]? = some (.cells #[.int .i64 0, .int .i64 1, .int .i64 1, .int .i64 2, .int .i64 5, .bool true] t2 (0, 0))) : (netTwo b1 b2).at' W := by
 refine ⟨⟨Nat.le_refl _, fun _ => ⟨b1, 0, rfl, (Array.getElem?_eq_some_iff.1 h1).1, fun i hi j hj => ?_⟩⟩, fun i hi => ⟨CRow.none _ _ _ _ _, ⟨Nat.le_refl _, fun q => absurd q (Nat.lt_irrefl 0)⟩, Nat.zero_le _, Nat.zero_le _⟩, ⟨Nat.le_refl _, fun _ => ⟨b2, 0, rfl, (Array.getElem?_eq_some_iff.1 h2).1, fun i hi j hj => ?_⟩⟩, by simp [netTwo], by simp [netTwo]⟩
 ·have hi : i < 2 := hi
  rcases (by omega : i = 0 ∨ i = 1) with e | e <;> subst e <;> rcases (by omega : j = 0 ∨ j = 1 ∨ j = 2 ∨ j = 3 ∨ j = 4) with e | e | e | e | e <;> subst e <;> exact cell_of_row W b1 _ _ _ _ h1
 ·have hi : i < 1 := hi
  obtain rfl : i = 0 := by omega
  rcases (by omega : j = 0 ∨ j = 1 ∨ j = 2 ∨ j = 3 ∨ j = 4 ∨ j = 5) with e | e | e | e | e | e <;> subst e <;> exact cell_of_row W b2 _ _ _ _ h2
theorem two_wf (b1 b2 : Nat) : (netTwo b1 b2).Wf := by
 refine ⟨fun i hi => ?_, fun i _ => ⟨show (Lit.int .i64 0).wf = true by decide, show (Lit.int .i64 1).wf = true by decide, show (Lit.int .i64 1).wf = true by decide, show (Lit.int .i64 2).wf = true by decide⟩⟩
 have hi : i < 2 := hi
 rcases (by omega : i = 0 ∨ i = 1) with e | e <;> subst e
 ·show (Lit.int .u64 1).wf = true; decide
 ·show (Lit.int .u64 2).wf = true; decide
theorem two_right (b1 b2 : Nat) : (netTwo b1 b2).wrong.1 = 0 := by
 have h1 : Pl.bErr bsTwo 0 = 0 := by kernel_rfl
 have h2 : Pl.bErr bsTwo 1 = 0 := by kernel_rfl
 have h3 : Pl.lErr 2 lsTwo 0 = 0 := by kernel_rfl
 have hb : Pl.firstTo (Pl.bErr bsTwo) 2 = (0, 0) := Pl.firstTo_all _ _ (fun i hi => by rcases (by omega : i = 0 ∨ i = 1) with e | e <;> subst e; exact h1; exact h2)
 have hl : Pl.firstTo (Pl.lErr 2 lsTwo) 1 = (0, 0) := Pl.firstTo_all _ _ (fun i hi => by rw [show i = 0 by omega]; exact h3)
 show (if 12 < 2 ∨ 40 < 1 then ((5 : Int), (0 : Int)) else if (Pl.firstTo (Pl.bErr bsTwo) 2).1 ≠ 0 then Pl.firstTo (Pl.bErr bsTwo) 2 else Pl.firstTo (Pl.lErr 2 lsTwo) 1).1 = 0
 rw [hb, hl]
 rfl
def e2a : En := ⟨1, 5, 1, 2, true⟩
def e2b : En := ⟨2, 5, 0, 1, true⟩
def E2 (i : Nat) : List En := if i = 0 then [e2a] else if i = 1 then [e2b] else []
def ids2 (i : Nat) : Int := 32768 * 281474976710656 + ((i : Int) + 1)
theorem two_ids (b1 b2 : Nat) : (netTwo b1 b2).ids 0 = ids2 := by
 funext i
 show (if (0 : Int) ≤ 0 ∧ (0 : Int) ≤ ((0 : Nat) : Int) - 1 then (0 : Int) else 32768) * 281474976710656 + ((i : Int) + 1) = _
 rw [if_neg (by decide)]
 rfl
theorem two_live (b1 b2 : Nat) (k : Nat) : (netTwo b1 b2).live k = true := by
 show (true && decide (strOf 50 regR.id = strOf 50 regR.id)) = true
 simp
theorem two_ends (b1 b2 : Nat) : (netTwo b1 b2).ends = E2 := by
 funext i
 show (([] ++ Pl.endsAt (lsTwo 0) ((netTwo b1 b2).live 0) i) : List En).mergeSort Pl.leP = E2 i
 rw [two_live]
 unfold Pl.endsAt E2 lsTwo
 by_cases h0 : i = 0
 ·subst h0; simp [e2a]
 ·by_cases h1 : i = 1
  ·subst h1; simp [e2b]
  ·rw [if_neg (by show ¬ (0 : Int) = (i : Int); omega), if_neg (by show ¬ (1 : Int) = (i : Int); omega), if_neg h0, if_neg h1]
   simp
theorem two_stand : (Pl.rounds ids2 E2 2 2 1).rp = 2 ∧ (Pl.rounds ids2 E2 2 2 1).v.cost = 5 ∧ (Pl.rounds ids2 E2 2 2 0).rp = -1 ∧ Pl.roleAt (Pl.rounds ids2 E2 2 2 0) (Pl.offs (E2 0) (Pl.rounds ids2 E2 2 2)) e2a = 2 := ⟨by kernel_rfl, by kernel_rfl, by kernel_rfl, by kernel_rfl⟩
theorem infoLk : (Tryz.prog.info? 83).map (fun i => (i.zero, i.size, i.bytes)) = some (some (.agg #[.int .i64 0, .int .i64 0, .int .i64 0, .int .i64 0, .int .i64 0, .bool false]), 6, 48) := by kernel_rfl
def PlRes (n : Net) (tree : Int) (base : Nat) (w : World) (a : Option Addr) (k c : Nat) (f1 f2 : Int) : Prop :=
 (n.wrong.1 ≠ 0 ∧ (a = none ∧ k = 0 ∧ c = 0) ∧ (f1, f2) = n.wrong) ∨ (n.wrong.1 = 0 ∧ ¬ (0 ≤ tree ∧ tree ≤ 15) ∧ (a = none ∧ k = 0 ∧ c = 0) ∧ f1 = 3 ∧ f2 = 0) ∨
  (n.wrong.1 = 0 ∧ (0 ≤ tree ∧ tree ≤ 15) ∧ ∃ P, (a = some ⟨P, 0, none⟩ ∧ k = n.K ∧ c = n.K) ∧ (f1 = 0 ∧ f2 = 0) ∧ PlacesAt w P n.K (Pl.rounds (n.ids tree) n.ends n.K n.K) n.ends n.K ∧ base ≤ P)
theorem PlRes.below {n : Net} {tree : Int} {base : Nat} {w w' : World} {a : Option Addr} {k c : Nat} {f1 f2 : Int} (h : PlRes n tree base w a k c f1 f2) (hb : Below w.heap.size w w') : PlRes n tree base w' a k c f1 f2 := by
 rcases h with h | h | ⟨h1, h2, P, h3, h4, h5, h6⟩
 ·exact Or.inl h
 ·exact Or.inr (Or.inl h)
 ·exact Or.inr (Or.inr ⟨h1, h2, P, h3, h4, h5.below hb, h6⟩)
theorem PlRes.mono {n : Net} {tree : Int} {base base' : Nat} {w : World} {a : Option Addr} {k c : Nat} {f1 f2 : Int} (h : PlRes n tree base w a k c f1 f2) (hb : base' ≤ base) : PlRes n tree base' w a k c f1 f2 := by
 rcases h with h | h | ⟨h1, h2, P, h3, h4, h5, h6⟩
 ·exact Or.inl h
 ·exact Or.inr (Or.inl h)
 ·exact Or.inr (Or.inr ⟨h1, h2, P, h3, h4, h5, Nat.le_trans hb h6⟩)
theorem PlRes.told {n : Net} {tree : Int} {base : Nat} {w : World} {a : Option Addr} {k c : Nat} {f1 f2 : Int} {T : Nat} (h : PlRes n tree base w a k c f1 f2) (hT : w.heap[T]? = some (.cells #[.int .i64 0, .int .i64 0] 32 (0, 0))) : PlRes n tree base ((w.setCell ⟨T, 0, none⟩ (.int .i64 f1)).setCell ⟨T, 1, none⟩ (.int .i64 f2)) a k c f1 f2 := by
 rcases h with h | h | ⟨h1, h2, P, h3, ⟨rfl, rfl⟩, h5, h6⟩
 ·exact Or.inl h
 ·exact Or.inr (Or.inl h)
 ·exact Or.inr (Or.inr ⟨h1, h2, P, h3, ⟨rfl, rfl⟩, h5.below (below_same hT), h6⟩)
theorem pplan_res (n : Net) (tree : Int) (w : World) (hat : n.at' w) (hwf : n.Wf) (ht : Tabs w) (hbt : 2 ≤ w.heap.size) :
  Calls Tryz.prog 28 #[n.val, .int .i64 tree] w fun e w' => ∃ a k c f1 f2, e = .returned (.tuple #[.slice a k c, .agg #[.int .i64 f1, .int .i64 f2]]) ∧ Hid (Below w.heap.size w w' ∧ PlRes n tree w.heap.size w' a k c f1 f2) := by
 refine (pplan_any n tree w hat hwf ht hbt).mono ?_
 rintro e w' ⟨hb, ⟨q, rfl⟩ | ⟨q, q2, rfl⟩ | ⟨q, q2, P, rfl, q3, q4⟩⟩
 ·exact ⟨none, 0, 0, n.wrong.1, n.wrong.2, rfl, hb, Or.inl ⟨q, ⟨rfl, rfl, rfl⟩, rfl⟩⟩
 ·exact ⟨none, 0, 0, 3, 0, rfl, hb, Or.inr (Or.inl ⟨q, q2, ⟨rfl, rfl, rfl⟩, rfl, rfl⟩)⟩
 ·exact ⟨_, _, _, 0, 0, rfl, hb, Or.inr (Or.inr ⟨q, q2, P, ⟨rfl, rfl, rfl⟩, ⟨rfl, rfl⟩, q3, q4⟩)⟩
end Go.Proofs.YtaneiffnhphkhaaGreatDoor
namespace Go.Proofs.YtaneiffnhphkhaaGreatDoor
open Go.RowKit
open Vc (V Of)
open Pl (Br Net Pc Lk En St)
open Tk (Md Mnd Cn Sc Dn)
set_option maxRecDepth 100000 in
set_option maxHeartbeats 1000000 in
theorem t7two_any (w : World) : Calls Tryz.prog 46 #[] w fun e w' => ∃ b1 b2, e = .returned (netTwo b1 b2).val ∧ (netTwo b1 b2).at' w' ∧ Below w.heap.size w w' := by
 go_enter Tryz.func46, Tryz.ntmps46
 go_wp2_with fail
 obtain ⟨X, hX⟩ : ∃ X, X = (w.alloc (.cells #[.slice (some ⟨w.heap.size + 1 + 1, 0, none⟩) 2 2, .slice (some ⟨w.heap.size + 1 + 1 + 1, 0, none⟩) 1 1] 25)).alloc (.cells #[.string ⟨#[114]⟩, .int .i64 0, .slice none 0 0] 72) := ⟨_, rfl⟩
 rw [← hX]
 have hs : X.heap.size = w.heap.size + 1 + 1 := by rw [hX]; simp
 have hn : X.heap[w.heap.size]? = some (.cells #[.slice (some ⟨w.heap.size + 1 + 1, 0, none⟩) 2 2, .slice (some ⟨w.heap.size + 1 + 1 + 1, 0, none⟩) 1 1] 25 (0, 0)) := by rw [hX]; exact heap_alloc2_old w _ _
 have hb : Below w.heap.size w X := by rw [hX]; exact below_alloc2 _ _ _
 have hb2 := below_alloc2 X (.cells #[.int .u64 1, .slice none 0 0, .string ⟨#[114]⟩, .int .i64 0, .slice none 0 0, .int .u64 2, .slice none 0 0, .string ⟨#[114]⟩, .int .i64 0, .slice none 0 0] 74) (.cells #[.int .i64 0, .int .i64 1, .int .i64 1, .int .i64 2, .int .i64 5, .bool true] 83)
 have h1 := heap_alloc2_old X (.cells #[.int .u64 1, .slice none 0 0, .string ⟨#[114]⟩, .int .i64 0, .slice none 0 0, .int .u64 2, .slice none 0 0, .string ⟨#[114]⟩, .int .i64 0, .slice none 0 0] 74) (.cells #[.int .i64 0, .int .i64 1, .int .i64 1, .int .i64 2, .int .i64 5, .bool true] 83)
 have h2 := heap_alloc2_new X (.cells #[.int .u64 1, .slice none 0 0, .string ⟨#[114]⟩, .int .i64 0, .slice none 0 0, .int .u64 2, .slice none 0 0, .string ⟨#[114]⟩, .int .i64 0, .slice none 0 0] 74) (.cells #[.int .i64 0, .int .i64 1, .int .i64 1, .int .i64 2, .int .i64 5, .bool true] 83)
 rw [hs] at h1 h2
 exact bodyPost_ret (v := .agg #[.slice (some ⟨w.heap.size + 1 + 1, 0, none⟩) 2 2, .slice (some ⟨w.heap.size + 1 + 1 + 1, 0, none⟩) 1 1]) (results_row (p := 0) (ty := 25) Tryz.results46 _ _ w.heap.size 25 _ (0, 0) _ rfl (keep hn hb2) Tryz.underlying25 rfl (by rw [sizeNet]; rfl)) rfl ⟨w.heap.size + 1 + 1, w.heap.size + 1 + 1 + 1, rfl, two_at h1 h2, hb.trans (hb2.mono hb.size)⟩
theorem sizeDo : (Tryz.prog.info? 45).map (·.size) = some 4 := by kernel_rfl
set_option maxHeartbeats 1000000 in
theorem t7ticks_any (x : Int) (w : World) : Calls Tryz.prog 23 #[.int .i64 x] w fun e w' => e = .returned (.agg #[.int .i64 1, .int .i64 x, .int .i64 0, .int .i64 0]) ∧ Below w.heap.size w w' := by
 go_enter Tryz.func23, Tryz.ntmps23
 go_wp2_with fail
 exact bodyPost_ret (v := .agg #[.int .i64 1, .int .i64 x, .int .i64 0, .int .i64 0]) (results_row (p := 2) (ty := 45) Tryz.results23 _ _ w.heap.size 45 _ (0, 0) _ rfl (heap_alloc_last _ _) Tryz.underlying45 rfl (by rw [sizeDo]; rfl)) rfl ⟨rfl, below_alloc1 _ _⟩
theorem one_do {w : World} {g : Nat} {d : Dn} {ty : TypeId} (h : w.heap[g]? = some (.cells #[.int .i64 d.kind, .int .i64 d.n, .int .i64 d.tree, .int .i64 d.value] ty (0, 0))) : DRow w (some ⟨g, 0, none⟩) 1 1 (fun _ => d) := by
 refine ⟨Nat.le_refl _, fun _ => ⟨g, 0, rfl, (Array.getElem?_eq_some_iff.1 h).1, fun i hi j hj => ?_⟩⟩
 obtain rfl : i = 0 := by omega
 rcases (by omega : j = 0 ∨ j = 1 ∨ j = 2 ∨ j = 3) with e | e | e | e <;> subst e
 ·exact cell_of_row w g 0 _ _ _ h
 ·exact cell_of_row w g 1 _ _ _ h
 ·exact cell_of_row w g 2 _ _ _ h
 ·exact cell_of_row w g 3 _ _ _ h
def tickD (x : Int) : Dn := ⟨1, x, 0, 0⟩
def st2 (j : Nat) : Md := ⟨⟨ids2 j, 0, ids2 j, 0⟩, 0, -1⟩
theorem two_ticks : (Tk.ticks ids2 E2 st2 2 1).v.cost = 5 ∧ (Tk.ticks ids2 E2 st2 2 1).rp = 2 ∧ (Tk.ticks ids2 E2 st2 2 1).age = 1 := ⟨by kernel_rfl, by kernel_rfl, by kernel_rfl⟩
theorem two_said (b1 b2 : Nat) : ((((netTwo b1 b2).sc (startMs (netTwo b1 b2))).all (netTwo b1 b2).cn (fun _ => tickD 2) 1).ms 0 1).md = Tk.ticks ids2 E2 st2 2 1 := by
 show ((((netTwo b1 b2).sc (startMs (netTwo b1 b2))).one (netTwo b1 b2).cn (tickD 2)).ms 0 1).md = _
 rw [Tk.Sc.one_tick rfl]
 show (Tk.ticksF (((netTwo b1 b2).sc (startMs (netTwo b1 b2))).ids (netTwo b1 b2).cn ((0 : Nat) : Int)) (((netTwo b1 b2).sc (startMs (netTwo b1 b2))).E (netTwo b1 b2).cn) (startMs (netTwo b1 b2) 0) 2 1).md = _
 rw [Tk.ticksF_md, Pl.Net.sc_E, two_ends]
 have e1 : ((netTwo b1 b2).sc (startMs (netTwo b1 b2))).ids (netTwo b1 b2).cn ((0 : Nat) : Int) = ids2 := by
  funext i
  rw [net_ids]
  exact congrFun (two_ids b1 b2) i
 have e2 : (fun j => (startMs (netTwo b1 b2) 0 j).md) = st2 := by
  funext j
  show (⟨⟨(netTwo b1 b2).ids ((0 : Nat) : Int) j, 0, (netTwo b1 b2).ids ((0 : Nat) : Int) j, 0⟩, 0, -1⟩ : Md) = _
  have := congrFun (two_ids b1 b2) j
  rw [show ((0 : Nat) : Int) = 0 from rfl, this]
  rfl
 rw [e1, e2]
theorem two_ok (b1 b2 : Nat) (x : Int) (hx : 0 ≤ x ∧ x ≤ 200) : (plErr (netTwo b1 b2) 1 (fun _ => tickD x) 1).1 = 0 := by
 have h0 := two_right b1 b2
 have e : stErr (netTwo b1 b2) 1 = (0, 0) := by
  unfold stErr
  rw [if_neg (fun z => z h0), if_neg (fun z => z (by omega))]
 unfold plErr
 rw [e, if_neg (fun z => z rfl), if_neg (by omega)]
 have : Tk.errOf (netTwo b1 b2).cn (tickD x) = 0 := by
  unfold Tk.errOf tickD
  simp only [if_pos]
  rw [if_pos hx]
 show (Pl.firstTo (fun _ => Tk.errOf (netTwo b1 b2).cn (tickD x)) 1).1 = 0
 rw [Pl.firstTo_all _ _ (fun _ _ => this)]
def PlF (w w' : World) (n : Net) (trees : Int) (ds : Nat → Dn) (dn : Nat) (na : Option Addr) (nk nc : Nat) (la : Option Addr) (lk lc : Nat) (oa : Option Addr) (ol oc : Nat) (f1 f2 : Int) : Prop :=
 ((plErr n trees ds dn).1 ≠ 0 ∧ (f1 = (plErr n trees ds dn).1 ∧ f2 = (plErr n trees ds dn).2) ∧ (na = none ∧ nk = 0 ∧ nc = 0) ∧ (la = none ∧ lk = 0 ∧ lc = 0) ∧ oa = none ∧ ol = 0 ∧ oc = 0) ∨
  ((plErr n trees ds dn).1 = 0 ∧ (f1 = 0 ∧ f2 = 0) ∧ ∃ (n' : Net) (t' : List Tr), (na = n'.bao ∧ nk = n'.K ∧ nc = n'.bcap) ∧ (la = n'.lao ∧ lk = n'.L ∧ lc = n'.lcap) ∧ ol = t'.length ∧ ∃ b, w.heap.size ≤ b ∧ Kept w' b (fun V => SnOut V n trees.toNat ((n.sc (startMs n)).all n.cn ds dn) n' oa oc t'))
theorem tplay_flat (n : Net) (trees : Int) (dao : Option Addr) (dn dcap : Nat) (ds : Nat → Dn) (w : World) (hwf : n.Wf) (hat : n.at' w) (hdn : dn ≤ 9223372036854775807) (hds : DRow w dao dn dcap ds) (htb : Tabs w) (hbt : 2 ≤ w.heap.size) :
  Calls Tryz.prog 15 #[.agg #[.slice n.bao n.K n.bcap, .slice n.lao n.L n.lcap], .int .i64 trees, .slice dao dn dcap] w fun e w' => ∃ na nk nc la lk lc oa ol oc f1 f2, e = .returned (.tuple #[.agg #[.slice na nk nc, .slice la lk lc], .agg #[.slice oa ol oc], .agg #[.int .i64 f1, .int .i64 f2]]) ∧ Hid (Below w.heap.size w w' ∧ PlF w w' n trees ds dn na nk nc la lk lc oa ol oc f1 f2) := by
 refine (tplay_any n trees dao dn dcap ds w hwf hat hdn hds htb hbt).mono ?_
 rintro e w' ⟨h1, ⟨h2, rfl⟩ | ⟨h2, n', oao, ocap, t', rfl, b, hb, h3⟩⟩
 ·exact ⟨none, 0, 0, none, 0, 0, none, 0, 0, _, _, rfl, h1, Or.inl ⟨h2, ⟨rfl, rfl⟩, ⟨rfl, rfl, rfl⟩, ⟨rfl, rfl, rfl⟩, rfl, rfl, rfl⟩⟩
 ·exact ⟨n'.bao, n'.K, n'.bcap, n'.lao, n'.L, n'.lcap, oao, t'.length, ocap, 0, 0, rfl, h1, Or.inr ⟨h2, ⟨rfl, rfl⟩, n', t', ⟨rfl, rfl, rfl⟩, ⟨rfl, rfl, rfl⟩, rfl, b, hb, h3⟩⟩
set_option maxRecDepth 100000 in
set_option maxHeartbeats 4000000 in
theorem t7alive_any (w : World) (ht : Tabs w) (hbt : 2 ≤ w.heap.size) : Calls Tryz.prog 22 #[] w fun e w' => e = .returned (.bool true) ∧ Below w.heap.size w w' := by
 have HT : Hid (∀ V, Below w.heap.size w V → Tabs V ∧ 2 ≤ V.heap.size) := fun V hV => ⟨ht.below hV hbt, Nat.le_trans hbt hV.size⟩
 clear ht hbt
 go_enter Tryz.func22, Tryz.ntmps22
 go_wp2_with fail
 refine (t7two_any _).mono ?_
 rintro e w1 ⟨b1, b2, rfl, hat, hb1⟩
 unfold Pl.Net.val netTwo
 go_wp2_with fail
 refine (t7ticks_any 2 _).mono ?_
 rintro e w2 ⟨rfl, hb2⟩
 obtain ⟨X, HX⟩ : ∃ X, Hid (X = w2.alloc (.cells #[.int .i64 1, .int .i64 2, .int .i64 0, .int .i64 0] 45)) := ⟨_, rfl⟩
 have hX2 : Below w2.heap.size w2 X := by rw [HX.out]; exact below_alloc1 _ _
 have hXd : DRow X (some ⟨w2.heap.size, 0, none⟩) 1 1 (fun _ => tickD 2) := one_do (by rw [HX.out]; exact heap_alloc_last _ _)
 have h12 := hb2.trans (hX2.mono hb2.size)
 have h0X := hb1.trans (h12.mono hb1.size)
 have HP : Hid (Calls Tryz.prog 15 #[.agg #[.slice (some ⟨b1, 0, none⟩) 2 2, .slice (some ⟨b2, 0, none⟩) 1 1], .int .i64 1, .slice (some ⟨w2.heap.size, 0, none⟩) 1 1] X fun e w' => ∃ na nk nc la lk lc b off oc mb moff mc, e = .returned (.tuple #[.agg #[.slice na nk nc, .slice la lk lc], .agg #[.slice (some ⟨b, off, none⟩) 1 oc], .agg #[.int .i64 0, .int .i64 0]]) ∧ (1 ≤ oc ∧ 2 ≤ mc) ∧ Hid (Below w.heap.size w w' ∧ ∀ V, Below w'.heap.size w' V → V.cell? ⟨b, off, none⟩ = some (.slice (some ⟨mb, moff, none⟩) 2 mc) ∧ V.cell? ⟨mb, moff + 9 + 1, none⟩ = some (.int .i64 5) ∧ V.cell? ⟨mb, moff + 9 + 5, none⟩ = some (.int .i64 2) ∧ V.cell? ⟨mb, moff + 9 + 4, none⟩ = some (.int .i64 1))) := by
  refine (tplay_any (netTwo b1 b2) 1 _ 1 1 (fun _ => tickD 2) X (two_wf b1 b2) (hat.below h12) (by omega) hXd (HT.out X h0X).1 (HT.out X h0X).2).mono ?_
  rintro e w' ⟨z1, ⟨z2, _⟩ | ⟨_, n', oao, ocap, t', rfl, bb, _, z3⟩⟩
  ·exact absurd (two_ok b1 b2 2 (by omega)) z2
  ·have hS := z3.here
   have tl : t'.length = 1 := hS.len
   obtain ⟨el, em⟩ := hS.each 0 (by show 0 < 1; omega)
   have el : (tat t' 0).l.length = 2 := el
   obtain ⟨e1, _⟩ := em 1 (by show 1 < 2; omega)
   have e2 : (mat (tat t' 0).l 1).md = Tk.ticks ids2 E2 st2 2 1 := by
    have := congrArg Mnd.md e1
    rw [two_said] at this
    exact this
   obtain ⟨b, off, rfl, _⟩ := hS.row.place (by omega)
   have hm := hS.row.each 0 (by omega)
   obtain ⟨mb, moff, em2, _⟩ := hm.place (by omega)
   have oc1 := hS.row.row.1
   have mc1 := hm.row.1
   obtain ⟨t1, t2, t3⟩ := two_ticks
   refine ⟨_, _, _, _, _, _, b, off, ocap, mb, moff, (tat t' 0).cap, by rw [tl]; rfl, ⟨by omega, by omega⟩, h0X.trans (z1.mono h0X.size), fun V hV => ?_⟩
   have hV2 := hS.row.below hV
   have v0 := hV2.cell (i := 0) (by omega)
   have vm := hV2.each 0 (by omega)
   rw [em2] at vm
   obtain ⟨_, d1, _, _, d4, d5, _⟩ := vm.cells (i := 1) (by omega)
   rw [em2, el, Nat.add_zero] at v0
   rw [e2, t1, Nat.one_mul] at d1
   rw [e2, t3, Nat.one_mul] at d4
   rw [e2, t2, Nat.one_mul] at d5
   exact ⟨v0, d1, d5, d4⟩
 clear hat hb1 hb2 hX2 hXd h12 h0X HT
 go_wp2_with fail
 rw [← HX.out]
 refine HP.out.mono ?_
 rintro e w3 ⟨na, nk, nc, la, lk, lc, b, off, oc, mb, moff, mc, rfl, ⟨l1, l2⟩, H3⟩
 clear HP
 obtain ⟨Z, HZ⟩ : ∃ Z, Hid (Z = ((w3.alloc (.cells #[.slice na nk nc, .slice la lk lc] 25)).alloc (.cells #[.slice (some ⟨b, off, none⟩) 1 oc] 29)).alloc (.cells #[.int .i64 0, .int .i64 0] 32)) := ⟨_, rfl⟩
 have hZ3 : Below w3.heap.size w3 Z := by rw [HZ.out]; exact (below_alloc2 _ _ _).alloc (by simp; omega) _
 obtain ⟨c0, c1, c2, c3⟩ := H3.out.2 Z hZ3
 have HB : Hid (Below w.heap.size w Z) := H3.out.1.trans (hZ3.mono H3.out.1.size)
 rw [HZ.out] at c0 c1 c2 c3
 clear hZ3 H3
 go_wp2_with fail
 rw [← HZ.out]
 go_ret
 exact ⟨rfl, HB.out⟩
end Go.Proofs.YtaneiffnhphkhaaGreatDoor
namespace Go.Proofs.YtaneiffnhphkhaaGreatDoor
open Go.RowKit
open Tk (Dn)
section
variable {P : Program} {ops : Array Oper} {Q : Exit → Act → World → Prop} {md : Region.Mode} {z : Nat} {C : World → Prop}
theorem z_mem {fuel : Nat} {listed : Array Bool} {a : Act} {w : World} {rs : List Nat} (hr : Region.ready md ops listed = rs) (hne : rs ≠ [])
  (h : ∀ i, i ∈ rs → wpOp P ops Q i (fun a' w' => ((listed.setIfInBounds i true).getD z true = true ∨ C w') ∧ wpAnyZ P md ops Q z C fuel (listed.setIfInBounds i true) a' w') a w) : wpAnyZ P md ops Q z C (fuel + 1) listed a w :=
 ⟨fun h0 => absurd (hr.symm.trans h0) hne, fun i hi => h i (by rw [← hr]; exact hi)⟩
theorem z_op {i : Nat} {o : Oper} {fuel : Nat} {listed : Array Bool} {a : Act} {w : World} (ho : ops[i]? = some o)
  (h : ∀ K' : Act → World → Prop, Shut (∀ a w, ((listed.setIfInBounds i true).getD z true = true ∨ C w) → wpAnyZ P md ops Q z C fuel (listed.setIfInBounds i true) a w → K' a w) → if Region.wanted o (yielded ops a.tmps) = true then Oper.wp P o a w K' Q else K' (a.put o.dst undef) w) :
  wpOp P ops Q i (fun a' w' => ((listed.setIfInBounds i true).getD z true = true ∨ C w') ∧ wpAnyZ P md ops Q z C fuel (listed.setIfInBounds i true) a' w') a w :=
 wpOp_step ho (fun K' hK => h K' (fun a w hS hW => hK a w ⟨hS, hW⟩))
end
def cnt3 (a b c : Bool) : Nat := (if a then 0 else 1) + (if b then 0 else 1) + (if c then 0 else 1)
def AlF (W : World) (lo : Nat) (b : Bool) (s : Value) (g : Nat) (z : Array Value) (ty : TypeId) : Prop := b = true → s = .pointer (some ⟨g, 0, none⟩) ∧ W.heap[g]? = some (.cells z ty (0, 0)) ∧ lo ≤ g
theorem AlF.below {W W' : World} {lo : Nat} {b : Bool} {s : Value} {g : Nat} {z : Array Value} {ty : TypeId} (h : AlF W lo b s g z ty) (hb : Below W.heap.size W W') : AlF W' lo b s g z ty := fun e => ⟨(h e).1, keep (h e).2.1 hb, (h e).2.2⟩
theorem AlF.new (W : World) {lo : Nat} (hl : lo ≤ W.heap.size) (b : Bool) (z : Array Value) (ty : TypeId) : AlF (W.alloc (.cells z ty)) lo b (.pointer (some ⟨W.heap.size, 0, none⟩)) W.heap.size z ty := fun _ => ⟨rfl, heap_alloc_last _ _, hl⟩
theorem AlF.app {W W' : World} {lo lo2 n k e : Nat} {v : Value} {xs : List Value} {b : Bool} {s : Value} {g : Nat} {z : Array Value} {ty : TypeId} (h : AlF W lo b s g z ty) (ho : W.ownsRow lo2 e k v n xs) (hq : ∀ q, q < W.heap.size → some q ≠ v.ownBlock → W'.heap[q]? = W.heap[q]?) (hne : ty ≠ e) : AlF W' lo b s g z ty := fun eb => by
 obtain ⟨h1, h2, h3⟩ := h eb
 refine ⟨h1, (hq g (lt_some h2) (fun hv => ?_)).trans h2, h3⟩
 obtain ⟨c2, h4⟩ := owns_type ho hv.symm
 exact hne (cells_type h2 h4)
def dsT (dn : Nat) (ds : Nat → Dn) (tk : Int) (i : Nat) : Dn := if i < dn then ds i else tickD tk
theorem infoDo : (Tryz.prog.info? 45).map (fun i => (i.zero, i.size, i.bytes)) = some (some (.agg #[.int .i64 0, .int .i64 0, .int .i64 0, .int .i64 0]), 4, 32) := by kernel_rfl
theorem dnC_one (d : Dn) (j : Nat) : (dnC d j).oneCell' = true := by
 unfold dnC
 repeat' split
 all_goals rfl
abbrev runAppD (v x : Value) (w : World) (v' : Value) (w' : World) : Prop := (Builtin.append_ #[26, 26] 26 #[v, x]).run Tryz.prog w = .ok v' w'
theorem own_empty (W : World) {lo : Nat} (hl : lo ≤ W.heap.size) : (W.alloc (.cells #[] 45)).ownsRow lo 45 4 (.slice (some ⟨W.heap.size, 0, none⟩) 0 0) 0 (cellsL 0 4 (fun _ _ => .int .i64 0)) :=
 ⟨cellsL_length _ _ _, Or.inr ⟨W.heap.size, 0, #[], rfl, hl, heap_alloc_last _ _, Nat.le_refl _, by unfold maxLen; omega, rfl, by simp [cellsL]⟩⟩
theorem do_copy {W : World} {lo : Nat} {v : Value} {dao : Option Addr} {dn dcap : Nat} {ds : Nat → Dn} (ho : W.ownsRow lo 45 4 v 0 (cellsL 0 4 (fun _ _ => .int .i64 0))) (hr : DRow W dao dn dcap ds) (hnil : NilOk dao dn dcap) (hn : dn * 32 ≤ 140737488355328) (hl : lo ≤ W.heap.size) :
  ∃ a1 c1 w', runAppD v (.slice dao dn dcap) W (.slice a1 dn c1) w' ∧ w'.ownsRow lo 45 4 (.slice a1 dn c1) dn (cellsL dn 4 (fun i => dnC (ds i))) ∧ Below lo W w' ∧ (∀ q, q < W.heap.size → some q ≠ v.ownBlock → w'.heap[q]? = W.heap[q]?) := by
 obtain ⟨a1, c1, w', r, o, b, q⟩ := append_c W 26 45 _ 4 32 Tryz.underlying26 infoDo rfl (by omega) lo v 0 _ ho dao dn dcap (fun i => dnC (ds i)) (fun _ _ => dnC_one _ _) hr hnil (by unfold maxLen; omega) (by omega) hl
 rw [Nat.zero_add] at r o
 rw [cellsL_congr dn 4 _ (fun i => dnC (ds i)) (fun i hi => by unfold catC; rw [if_neg (by omega), Nat.sub_zero])] at o
 exact ⟨a1, c1, w', r, o, b, q⟩
theorem do_more {W : World} {lo : Nat} {a1 : Option Addr} {c1 dn g : Nat} {ds : Nat → Dn} {tk : Int} (ho : W.ownsRow lo 45 4 (.slice a1 dn c1) dn (cellsL dn 4 (fun i => dnC (ds i)))) (hg : W.heap[g]? = some (.cells #[.int .i64 1, .int .i64 tk, .int .i64 0, .int .i64 0] 45 (0, 0))) (hn : dn ≤ 100000) (hl : lo ≤ W.heap.size) :
  ∃ a2 c2 w', runAppD (.slice a1 dn c1) (.slice (some ⟨g, 0, none⟩) 1 1) W (.slice a2 (dn + 1) c2) w' ∧ w'.ownsRow lo 45 4 (.slice a2 (dn + 1) c2) (dn + 1) (cellsL (dn + 1) 4 (fun i => dnC (dsT dn ds tk i))) ∧ Below lo W w' ∧ (∀ q, q < W.heap.size → some q ≠ (Value.slice a1 dn c1).ownBlock → w'.heap[q]? = W.heap[q]?) := by
 obtain ⟨a2, c2, w', r, o, b, q⟩ := append_c W 26 45 _ 4 32 Tryz.underlying26 infoDo rfl (by omega) lo (.slice a1 dn c1) dn _ ho (some ⟨g, 0, none⟩) 1 1 (fun _ => dnC (tickD tk)) (fun _ _ => dnC_one _ _) (one_do (d := tickD tk) hg) (fun h => by cases h) (by unfold maxLen; omega) (by omega) hl
 rw [cellsL_congr (dn + 1) 4 _ (fun i => dnC (dsT dn ds tk i)) (fun i hi => by
  unfold catC dsT
  by_cases h : i < dn
  ·rw [if_pos h, if_pos h]
  ·rw [if_neg h, if_neg h])] at o
 exact ⟨a2, c2, w', r, o, b, q⟩
theorem own_do {W : World} {lo dn c : Nat} {a : Option Addr} {ds : Nat → Dn} (h : W.ownsRow lo 45 4 (.slice a dn c) dn (cellsL dn 4 (fun i => dnC (ds i)))) : DRow W a dn c ds := (owns_cs (by omega) h).2
end Go.Proofs.YtaneiffnhphkhaaGreatDoor
