/- Plain: the links by which bridges hear of the root make no ring, and join all -/
import Derived.Test.YtflghpnpjmodaaaGreatDoorK34
import Derived.Test.YtflghpnpjmodaaaGreatDoorK09
namespace Go.Proofs.YtflghpnpjmodaaaGreatDoor
open Go.RowKit
open Vc (V Of)
open Pl (En Lk Br Net)
open Tk (Md Mnd Cn Sc Dn ixM ilist lst3 ilm)

/-- What Play says. -/
def plErr (n : Net) (trees : Int) (ds : Nat → Dn) (dn : Nat) : Int × Int := if (stErr n trees).1 ≠ 0 then stErr n trees else if 30 < dn then (5, 0) else Tk.errTo n.cn ds dn
theorem stErr_zero {n : Net} {trees : Int} (h : (stErr n trees).1 = 0) : n.wrong.1 = 0 ∧ (1 ≤ trees ∧ trees ≤ 4) := by
  unfold stErr at h
  by_cases q : n.wrong.1 = 0
  · rw [if_neg (fun z => z q)] at h
    by_cases q2 : 1 ≤ trees ∧ trees ≤ 4
    · exact ⟨q, q2⟩
    · rw [if_pos q2] at h; cases h
  · rw [if_pos q] at h
    exact absurd h q
theorem on_start {n : Net} {t0 : List Tr} {ds : Nat → Dn} {dn : Nat} (h : n.wrong.1 = 0) (hf : fitT n t0 = true) : onErr n t0 ds dn = if 30 < dn then (5, 0) else Tk.errTo n.cn ds dn := by
  have e : wrT n t0 dn = if 30 < dn then (5, 0) else (0, 0) := by
    unfold wrT
    rw [if_neg (fun z => z h), if_neg (by rw [hf]; exact Bool.noConfusion)]
  unfold onErr
  rw [e]
  by_cases q : 30 < dn
  · rw [if_pos q, if_pos q, if_pos (by decide)]
  · rw [if_neg q, if_neg q, if_neg (fun z => z rfl)]
theorem plErr_zero {n : Net} {trees : Int} {ds : Nat → Dn} {dn : Nat} (h : (plErr n trees ds dn).1 = 0) : (n.wrong.1 = 0 ∧ (1 ≤ trees ∧ trees ≤ 4)) ∧ dn ≤ 30 ∧ ∀ k, k < dn → Tk.errOf n.cn (ds k) = 0 := by
  unfold plErr at h
  by_cases q : (stErr n trees).1 = 0
  · rw [if_neg (fun z => z q)] at h
    by_cases q2 : 30 < dn
    · rw [if_pos q2] at h; cases h
    · rw [if_neg q2] at h
      exact ⟨stErr_zero q, by omega, (Pl.firstTo_zero _ _ h).2⟩
  · rw [if_pos q] at h
    exact absurd h q
/-- What is asked of Play. -/
def PlayW (w : World) (n : Net) (trees : Int) (ds : Nat → Dn) (dn : Nat) (e : Ending) (w' : World) : Prop :=
  Below w.heap.size w w' ∧ (((plErr n trees ds dn).1 ≠ 0 ∧ e = .returned (.tuple #[.agg #[.slice none 0 0, .slice none 0 0], .agg #[.slice none 0 0], .agg #[.int .i64 (plErr n trees ds dn).1, .int .i64 (plErr n trees ds dn).2]])) ∨
    ((plErr n trees ds dn).1 = 0 ∧ ∃ (n' : Net) (oao : Option Addr) (ocap : Nat) (t' : List Tr), e = .returned (.tuple #[n'.val, .agg #[.slice oao t'.length ocap], .agg #[.int .i64 0, .int .i64 0]]) ∧ ∃ b, w.heap.size ≤ b ∧ Kept w' b (fun V => SnOut V n trees.toNat ((n.sc (startMs n)).all n.cn ds dn) n' oao ocap t')))
set_option maxRecDepth 100000 in
set_option maxHeartbeats 3000000 in
theorem tplay_any (n : Net) (trees : Int) (dao : Option Addr) (dn dcap : Nat) (ds : Nat → Dn) (w : World) (hwf : n.Wf) (hat : n.at' w) (hdn : dn ≤ 9223372036854775807) (hds : DRow w dao dn dcap ds) (htb : Tabs w) (hbt : 2 ≤ w.heap.size) :
    Calls Tryz.prog 15 #[n.val, .int .i64 trees, .slice dao dn dcap] w fun e w' => PlayW w n trees ds dn e w' := by
  obtain ⟨X2, HX2⟩ : ∃ X2, Hid (X2 = (w.alloc (.cells #[.slice n.bao n.K n.bcap, .slice n.lao n.L n.lcap] 32)).alloc (.cells #[.slice none 0 0, .slice none 0 0] 32)) := ⟨_, rfl⟩
  obtain ⟨X, HX⟩ : ∃ X, Hid (X = (X2.alloc (.cells #[.slice none 0 0] 43)).alloc (.cells #[.int .i64 0, .int .i64 0] 26)) := ⟨_, rfl⟩
  have b1 : Below w.heap.size w X2 := by rw [HX2.out]; exact below_alloc2 _ _ _
  have s1 : X2.heap.size = w.heap.size + 1 + 1 := by rw [HX2.out]; simp
  have b2 : Below X2.heap.size X2 X := by rw [HX.out]; exact below_alloc2 _ _ _
  have s2 : X.heap.size = X2.heap.size + 1 + 1 := by rw [HX.out]; simp
  have hXB : Below w.heap.size w X := b1.trans (b2.mono b1.size)
  have g0 : X.heap[w.heap.size]? = some (.cells #[.slice n.bao n.K n.bcap, .slice n.lao n.L n.lcap] 32 (0, 0)) := keep (by rw [HX2.out]; exact heap_alloc2_old _ _ _) b2
  have g2 : X.heap[w.heap.size + 1]? = some (.cells #[.slice none 0 0, .slice none 0 0] 32 (0, 0)) := keep (by rw [HX2.out]; exact heap_alloc2_new _ _ _) b2
  have g3 : X.heap[w.heap.size + 1 + 1]? = some (.cells #[.slice none 0 0] 43 (0, 0)) := by
    rw [HX.out, ← s1]
    exact heap_alloc2_old _ _ _
  have g4 : X.heap[w.heap.size + 1 + 1 + 1]? = some (.cells #[.int .i64 0, .int .i64 0] 26 (0, 0)) := by
    rw [HX.out, ← s1]
    exact heap_alloc2_new _ _ _
  obtain ⟨BN, HBN⟩ : ∃ BN, Hid (BN = w.heap.size) := ⟨_, rfl⟩
  obtain ⟨RN, HRN⟩ : ∃ RN, Hid (RN = w.heap.size + 1) := ⟨_, rfl⟩
  obtain ⟨RT, HRT⟩ : ∃ RT, Hid (RT = w.heap.size + 1 + 1) := ⟨_, rfl⟩
  obtain ⟨RF, HRF⟩ : ∃ RF, Hid (RF = w.heap.size + 1 + 1 + 1) := ⟨_, rfl⟩
  rw [← HBN.out] at g0
  rw [← HRN.out] at g2
  rw [← HRT.out] at g3
  rw [← HRF.out] at g4
  have ne1 : RN ≠ RT := by have := HRN.out; have := HRT.out; omega
  have ne2 : RN ≠ RF := by have := HRN.out; have := HRF.out; omega
  have ne3 : RT ≠ RF := by have := HRT.out; have := HRF.out; omega
  have le1 : w.heap.size ≤ RN := by have := HRN.out; omega
  have le2 : w.heap.size ≤ RT := by have := HRT.out; omega
  have le3 : w.heap.size ≤ RF := by have := HRF.out; omega
  have lt1 : RN < X.heap.size := by have := HRN.out; omega
  have lt2 : RT < X.heap.size := by have := HRT.out; omega
  have lt3 : RF < X.heap.size := by have := HRF.out; omega
  have HC : Hid (∀ V, Below X.heap.size X V → (V.cell? ⟨BN, 0, none⟩ = some (.slice n.bao n.K n.bcap) ∧ V.cell? ⟨BN, 1, none⟩ = some (.slice n.lao n.L n.lcap)) ∧ (V.cell? ⟨RN, 0, none⟩ = some (.slice none 0 0) ∧ V.cell? ⟨RN, 1, none⟩ = some (.slice none 0 0)) ∧ V.cell? ⟨RT, 0, none⟩ = some (.slice none 0 0) ∧ (V.cell? ⟨RF, 0, none⟩ = some (.int .i64 0) ∧ V.cell? ⟨RF, 1, none⟩ = some (.int .i64 0)) ∧ (V.frozen? ⟨RN, 0, none⟩ = false ∧ V.frozen? ⟨RN, 1, none⟩ = false) ∧ V.frozen? ⟨RT, 0, none⟩ = false ∧ V.frozen? ⟨RF, 0, none⟩ = false ∧ V.frozen? ⟨RF, 1, none⟩ = false) := fun V hV =>
    ⟨two_cells2 (keep g0 hV), two_cells2 (keep g2 hV), one_cell (keep g3 hV), two_cells2 (keep g4 hV), ⟨frozen_of_row _ _ _ _ _ (keep g2 hV), frozen_of_row _ _ _ _ _ (keep g2 hV)⟩, frozen_of_row _ _ _ _ _ (keep g3 hV), frozen_of_row _ _ _ _ _ (keep g4 hV), frozen_of_row _ _ _ _ _ (keep g4 hV)⟩
  have HH : Hid (∀ V, Below X.heap.size X V → V.heap[RN]? = some (.cells #[.slice none 0 0, .slice none 0 0] 32 (0, 0)) ∧ V.heap[RT]? = some (.cells #[.slice none 0 0] 43 (0, 0)) ∧ V.heap[RF]? = some (.cells #[.int .i64 0, .int .i64 0] 26 (0, 0)) ∧ Below w.heap.size w V) := fun V hV => ⟨keep g2 hV, keep g3 hV, keep g4 hV, hXB.trans (hV.mono hXB.size)⟩
  have HST : Hid (Calls Tryz.prog 38 #[.agg #[.slice n.bao n.K n.bcap, .slice n.lao n.L n.lcap], .int .i64 trees] X fun e w' => ∃ oa ol oc f1 f2, e = .returned (.tuple #[.agg #[.slice oa ol oc], .agg #[.int .i64 f1, .int .i64 f2]]) ∧ Hid (Below X.heap.size X w' ∧ f1 = (stErr n trees).1 ∧ f2 = (stErr n trees).2 ∧ (f1 = 0 → ∃ t0 : List Tr, ol = t0.length ∧ StT w' n trees oa oc t0))) := by
    refine (tstart_any n trees X hwf (hat.below hXB)).mono ?_
    rintro e w' ⟨h1, ⟨h2, rfl⟩ | ⟨h2, oao, ocap, t0, rfl, h3⟩⟩
    · exact ⟨none, 0, 0, _, _, rfl, h1, rfl, rfl, fun z => absurd z h2⟩
    · have : stErr n trees = (0, 0) := by
        obtain ⟨z1, z2⟩ := stErr_zero h2
        unfold stErr
        rw [if_neg (fun z => z z1), if_neg (fun z => z z2)]
      exact ⟨oao, _, ocap, 0, 0, rfl, h1, by rw [this], by rw [this], fun _ => ⟨t0, rfl, h3⟩⟩
  have HON : Hid ((stErr n trees).1 = 0 → ∀ (V : World) (oa : Option Addr) (oc : Nat) (t0 : List Tr), Below X.heap.size X V → StT V n trees oa oc t0 → Calls Tryz.prog 29 #[.agg #[.slice n.bao n.K n.bcap, .slice n.lao n.L n.lcap], .agg #[.slice oa t0.length oc], .slice dao dn dcap] V fun e w' => ∃ na nk nc la lk lc oa ol oc f1 f2, e = .returned (.tuple #[.agg #[.slice na nk nc, .slice la lk lc], .agg #[.slice oa ol oc], .agg #[.int .i64 f1, .int .i64 f2]]) ∧ Hid (Below X.heap.size X w' ∧ ∀ W, w'.heap.size = W.heap.size → (∀ q, V.heap.size ≤ q → W.heap[q]? = w'.heap[q]?) → Below w.heap.size w W → PlayW w n trees ds dn (.returned (.tuple #[.agg #[.slice na nk nc, .slice la lk lc], .agg #[.slice oa ol oc], .agg #[.int .i64 f1, .int .i64 f2]])) W)) := fun h0 V oa oc t0 hV hT => by
    have hV2 := hXB.trans (hV.mono hXB.size)
    obtain ⟨z1, z2⟩ := stErr_zero h0
    have hp : plErr n trees ds dn = onErr n t0 ds dn := by
      rw [on_start z1 hT.fit]
      exact if_neg (fun z => z h0)
    have hl : t0.length = trees.toNat := by have := hT.len; omega
    refine (ton_any n oa oc t0 (startMs n) dao dn dcap ds V hwf (hat.below hV2) hT.row hdn (CRow.below hds hV2) hT.calm hT.ms (htb.below hV2 hbt) (Nat.le_trans hbt hV2.size)).mono ?_
    rintro e w' ⟨h1, ⟨h2, rfl⟩ | ⟨h2, n', oao, ocap, t', rfl, b, hb, h3⟩⟩
    · refine ⟨none, 0, 0, none, 0, 0, none, 0, 0, _, _, rfl, hV.trans (h1.mono hV.size), fun W _ _ hW => ⟨hW, Or.inl ⟨by rw [hp]; exact h2, by rw [hp]⟩⟩⟩
    · refine ⟨n'.bao, n'.K, n'.bcap, n'.lao, n'.L, n'.lcap, oao, t'.length, ocap, 0, 0, rfl, hV.trans (h1.mono hV.size), fun W hs hk hW => ⟨hW, Or.inr ⟨by rw [hp]; exact h2, n', oao, ocap, t', rfl, b, Nat.le_trans hV2.size hb, fun V3 hV3 => ?_⟩⟩⟩
      rw [← hl]
      exact h3 V3 (fun q q1 q2 => (hV3 q q1 (by rw [← hs]; exact q2)).trans (hk q (Nat.le_trans hb q1)))
  have g0' := HC.out X (Below.refl _ _)
  have HXS : Hid (∀ V, Below X.heap.size X V → X.heap.size ≤ V.heap.size) := fun V hV => hV.size
  clear hwf hat hds htb hbt b1 b2 s1 s2 hXB g0 g2 g3 g4
  simp only [Pl.Net.val]
  go_enter Tryz.func15, Tryz.ntmps15
  obtain ⟨⟨x0, x1⟩, _⟩ := g0'
  rw [HX.out, HX2.out, HBN.out] at x0 x1
  go_wp2_with fail
  rw [← HX2.out, ← HX.out, ← HRF.out, ← HRT.out, ← HRN.out, ← HBN.out]
  refine HST.out.mono ?_
  rintro e w1 ⟨oa, ol, oc, f1, f2, rfl, H1⟩
  clear x0 x1 HST
  obtain ⟨V1, HV1⟩ : ∃ V1, Hid (V1 = (w1.alloc (.cells #[.slice oa ol oc] 43)).alloc (.cells #[.int .i64 f1, .int .i64 f2] 26)) := ⟨_, rfl⟩
  have h11 : Below w1.heap.size w1 V1 := by rw [HV1.out]; exact below_alloc2 _ _ _
  have hV1 : Below X.heap.size X V1 := H1.out.1.trans (h11.mono H1.out.1.size)
  have e0 : V1.cell? ⟨w1.heap.size, 0, none⟩ = some (.slice oa ol oc) := one_cell (by rw [HV1.out]; exact heap_alloc2_old _ _ _)
  have e1 : V1.cell? ⟨w1.heap.size + 1, 0, none⟩ = some (.int .i64 f1) ∧ V1.cell? ⟨w1.heap.size + 1, 1, none⟩ = some (.int .i64 f2) := two_cells2 (by rw [HV1.out]; exact heap_alloc2_new _ _ _)
  obtain ⟨e1, e2⟩ := e1
  obtain ⟨⟨p0, p1⟩, ⟨p3, p4⟩, p5, ⟨p6, p7⟩, ⟨q0, q1⟩, q2, q3, q4⟩ := HC.out V1 hV1
  have y1 := e1
  rw [HV1.out] at y1
  have HV1B : Hid (Below X.heap.size X V1) := hV1
  by_cases q : f1 = 0
  · have h0 : (stErr n trees).1 = 0 := H1.out.2.1.symm.trans q
    obtain ⟨t0, rfl, hT⟩ := H1.out.2.2.2 q
    have HOV : Hid (Calls Tryz.prog 29 #[.agg #[.slice n.bao n.K n.bcap, .slice n.lao n.L n.lcap], .agg #[.slice oa t0.length oc], .slice dao dn dcap] V1 fun e w' => ∃ na nk nc la lk lc oa ol oc f1 f2, e = .returned (.tuple #[.agg #[.slice na nk nc, .slice la lk lc], .agg #[.slice oa ol oc], .agg #[.int .i64 f1, .int .i64 f2]]) ∧ Hid (Below X.heap.size X w' ∧ ∀ W, w'.heap.size = W.heap.size → (∀ q, V1.heap.size ≤ q → W.heap[q]? = w'.heap[q]?) → Below w.heap.size w W → PlayW w n trees ds dn (.returned (.tuple #[.agg #[.slice na nk nc, .slice la lk lc], .agg #[.slice oa ol oc], .agg #[.int .i64 f1, .int .i64 f2]])) W)) := HON.out h0 V1 oa oc t0 hV1 (hT.below h11)
    have vs := hV1.size
    have lo1 : RN < V1.heap.size := by omega
    have lo2 : RT < V1.heap.size := by omega
    have lo3 : RF < V1.heap.size := by omega
    have r0 := p0
    have r1 := p1
    have r2 := e0
    rw [HV1.out] at r0 r1 r2
    subst q
    clear h0 hT p0 p1 p3 p4 p5 p6 p7 q0 q1 q2 q3 q4 HON h11 hV1 e0 e1 e2
    go_wp2_with fail
    rw [← HV1.out]
    refine HOV.out.mono ?_
    rintro e w2 ⟨na, nk, nc, la, lk, lc, oa2, ol2, oc2, f1, f2, rfl, H2⟩
    clear HOV y1 r0 r1 r2
    obtain ⟨_, ⟨p3, p4⟩, p5, ⟨p6, p7⟩, ⟨q0, q1⟩, q2, q3, q4⟩ := HC.out w2 H2.out.1
    go_wp2_with fail
    refine bodyPost_ret (v := .tuple #[.agg #[.slice na nk nc, .slice la lk lc], .agg #[.slice oa2 ol2 oc2], .agg #[.int .i64 f1, .int .i64 f2]]) (results_row3 Tryz.results15 _ _ RN RT RF 32 43 26 #[.slice na nk nc, .slice la lk lc] #[.slice oa2 ol2 oc2] #[.int .i64 f1, .int .i64 f2] (0, 0) (0, 0) (0, 0) _ _ _ rfl rfl rfl ?h1 ?h2 ?h3 Tryz.underlying32 Tryz.underlying43 Tryz.underlying26 rfl rfl rfl ?i1 ?i2 ?i3) rfl ?post
    case h1 => repeat (first | (with_reducible refine drew_keep ?_) | (with_reducible exact (HH.out _ H2.out.1).1) | (with_reducible refine set2_same (a0 := Value.slice none 0 0) (a1 := Value.slice none 0 0) ?_) | (with_reducible refine set_keep ?_ ne1) | (with_reducible refine set_keep ?_ ne2))
    case h2 => repeat (first | (with_reducible refine drew_keep ?_) | (with_reducible exact (HH.out _ H2.out.1).2.1) | (with_reducible refine set1_same (a0 := Value.slice none 0 0) ?_) | (with_reducible refine set_keep ?_ ne1.symm) | (with_reducible refine set_keep ?_ ne3))
    case h3 => repeat (first | (with_reducible refine drew_keep ?_) | (with_reducible exact (HH.out _ H2.out.1).2.2.1) | (with_reducible refine set2_same (a0 := Value.int .i64 0) (a1 := Value.int .i64 0) ?_) | (with_reducible refine set_keep ?_ ne2.symm) | (with_reducible refine set_keep ?_ ne3.symm))
    case i1 => rw [sizeNt]; try rfl
    case i2 => rw [sizeTk]; try rfl
    case i3 => rw [sizeFt]; try rfl
    case post =>
      refine H2.out.2 _ ?_ ?_ ?_
      · simp
      · repeat (first | (with_reducible refine out_drew ?_) | (with_reducible refine out_set ?_ lo1) | (with_reducible refine out_set ?_ lo2) | (with_reducible refine out_set ?_ lo3) | (exact (fun _ _ => rfl)))
      · repeat (first | (with_reducible refine Below.drew ?_) | (with_reducible exact (HH.out _ H2.out.1).2.2.2) | (with_reducible refine Below.setCell ?_ le1 _) | (with_reducible refine Below.setCell ?_ le2 _) | (with_reducible refine Below.setCell ?_ le3 _))
  · have HE : Hid ((plErr n trees ds dn).1 = f1 ∧ (plErr n trees ds dn).2 = f2) := by
      have e3 := H1.out.2.1
      have e4 := H1.out.2.2.1
      have : plErr n trees ds dn = stErr n trees := if_pos (by rw [← e3]; exact q)
      rw [this]
      exact ⟨e3.symm, e4.symm⟩
    have q1' : (f1 != 0) = true := by simpa using q
    have HNE : Hid (f1 ≠ 0) := q
    have d1 : RN ≠ w1.heap.size + 1 := by have := H1.out.1.size; omega
    have d2 : RT ≠ w1.heap.size + 1 := by have := H1.out.1.size; omega
    have d3 : RF ≠ w1.heap.size + 1 := by have := H1.out.1.size; omega
    have d4 := d1.symm
    have d5 := d2.symm
    have d6 := d3.symm
    clear p0 p1 hV1 HON HC e0
    go_wp2_with fail
    rw [← HV1.out]
    go_region
    all_goals go_wp2_with fail
    all_goals
      refine bodyPost_ret (v := .tuple #[.agg #[.slice none 0 0, .slice none 0 0], .agg #[.slice none 0 0], .agg #[.int .i64 f1, .int .i64 f2]]) (results_row3 Tryz.results15 _ _ RN RT RF 32 43 26 #[.slice none 0 0, .slice none 0 0] #[.slice none 0 0] #[.int .i64 f1, .int .i64 f2] (0, 0) (0, 0) (0, 0) _ _ _ rfl rfl rfl ?h1 ?h2 ?h3 Tryz.underlying32 Tryz.underlying43 Tryz.underlying26 rfl rfl rfl ?i1 ?i2 ?i3) rfl ?post
      case h1 => repeat (first | (with_reducible refine drew_keep ?_) | (with_reducible exact (HH.out _ HV1B.out).1) | (with_reducible exact (HH.out _ (below_drewN HV1B.out _)).1) | (with_reducible exact (HH.out _ (Below.drew HV1B.out)).1) | (with_reducible refine set2_same (a0 := Value.slice none 0 0) (a1 := Value.slice none 0 0) ?_) | (with_reducible refine set_keep ?_ ne1) | (with_reducible refine set_keep ?_ ne2))
      case h2 => repeat (first | (with_reducible refine drew_keep ?_) | (with_reducible exact (HH.out _ HV1B.out).2.1) | (with_reducible exact (HH.out _ (below_drewN HV1B.out _)).2.1) | (with_reducible exact (HH.out _ (Below.drew HV1B.out)).2.1) | (with_reducible refine set1_same (a0 := Value.slice none 0 0) ?_) | (with_reducible refine set_keep ?_ ne1.symm) | (with_reducible refine set_keep ?_ ne3))
      case h3 => repeat (first | (with_reducible refine drew_keep ?_) | (with_reducible exact (HH.out _ HV1B.out).2.2.1) | (with_reducible exact (HH.out _ (below_drewN HV1B.out _)).2.2.1) | (with_reducible exact (HH.out _ (Below.drew HV1B.out)).2.2.1) | (with_reducible refine set2_same (a0 := Value.int .i64 0) (a1 := Value.int .i64 0) ?_) | (with_reducible refine set_keep ?_ ne2.symm) | (with_reducible refine set_keep ?_ ne3.symm))
      case i1 => rw [sizeNt]; try rfl
      case i2 => rw [sizeTk]; try rfl
      case i3 => rw [sizeFt]; try rfl
      case post =>
        refine ⟨?_, Or.inl ⟨by rw [HE.out.1]; exact HNE.out, by rw [HE.out.1, HE.out.2]⟩⟩
        repeat (first | (with_reducible refine Below.drew ?_) | (with_reducible exact (HH.out _ HV1B.out).2.2.2) | (with_reducible exact (HH.out _ (below_drewN HV1B.out _)).2.2.2) | (with_reducible exact (HH.out _ (Below.drew HV1B.out)).2.2.2) | (with_reducible refine Below.setCell ?_ le1 _) | (with_reducible refine Below.setCell ?_ le2 _) | (with_reducible refine Below.setCell ?_ le3 _))
end Go.Proofs.YtflghpnpjmodaaaGreatDoor

namespace Go.Proofs.YtflghpnpjmodaaaGreatDoor
namespace Pl
open Vc (V Of)
/-- Who is joined by the first k links, told by the least one; whether one of them made a ring. -/
def lab (es : Nat → Nat × Nat) : Nat → (Nat → Nat)
  | 0 => fun i => i
  | k + 1 => fun i => if lab es k i = lab es k (es k).1 ∨ lab es k i = lab es k (es k).2 then min (lab es k (es k).1) (lab es k (es k).2) else lab es k i
def ring (es : Nat → Nat × Nat) : Nat → Bool
  | 0 => false
  | k + 1 => ring es k || decide (lab es k (es k).1 = lab es k (es k).2)
theorem lab_edge (es : Nat → Nat × Nat) : ∀ k j, j < k → lab es k (es j).1 = lab es k (es j).2
  | 0, j, h => by omega
  | k + 1, j, h => by
    simp only [lab]
    by_cases e : j = k
    · subst e
      rw [if_pos (Or.inl rfl), if_pos (Or.inr rfl)]
    · rw [lab_edge es k j (by omega)]
theorem lab_hit {es : Nat → Nat × Nat} {k i : Nat} (h : lab es k i = lab es k (es k).1 ∨ lab es k i = lab es k (es k).2) : lab es (k + 1) i = min (lab es k (es k).1) (lab es k (es k).2) := if_pos h
theorem lab_miss {es : Nat → Nat × Nat} {k i : Nat} (h : ¬ (lab es k i = lab es k (es k).1 ∨ lab es k i = lab es k (es k).2)) : lab es (k + 1) i = lab es k i := if_neg h
theorem lab_min (es : Nat → Nat × Nat) : ∀ k i, lab es k i ≤ i ∧ lab es k (lab es k i) = lab es k i
  | 0, i => ⟨Nat.le_refl _, rfl⟩
  | k + 1, i => by
    obtain ⟨h1, h2⟩ := lab_min es k i
    have ha := (lab_min es k (es k).1).2
    have hb := (lab_min es k (es k).2).2
    by_cases h : lab es k i = lab es k (es k).1 ∨ lab es k i = lab es k (es k).2
    · rw [lab_hit h]
      refine ⟨by rcases h with h | h <;> omega, lab_hit ?_⟩
      rcases Nat.le_total (lab es k (es k).1) (lab es k (es k).2) with q | q
      · rw [Nat.min_eq_left q]; exact Or.inl ha
      · rw [Nat.min_eq_right q]; exact Or.inr hb
    · rw [lab_miss h]
      exact ⟨h1, (lab_miss (by rw [h2]; exact h)).trans h2⟩
theorem lab_equiv (es : Nat → Nat × Nat) {R : Nat → Nat → Prop} (hr : ∀ u, R u u) (hs : ∀ u v, R u v → R v u) (ht : ∀ u v x, R u v → R v x → R u x) : ∀ k, (∀ j, j < k → R (es j).1 (es j).2) → ∀ u v, lab es k u = lab es k v → R u v
  | 0, _, u, v, h => by simp only [lab] at h; subst h; exact hr u
  | k + 1, hR, u, v, h => by
    have ih := lab_equiv es hr hs ht k (fun j hj => hR j (by omega))
    have hk := hR k (by omega)
    simp only [lab] at h
    have toE : ∀ x, lab es k x = lab es k (es k).1 ∨ lab es k x = lab es k (es k).2 → R x (es k).1 := fun x hx => by
      rcases hx with hx | hx
      · exact ih _ _ hx
      · exact ht _ _ _ (ih _ _ hx) (hs _ _ hk)
    by_cases h1 : lab es k u = lab es k (es k).1 ∨ lab es k u = lab es k (es k).2 <;> by_cases h2 : lab es k v = lab es k (es k).1 ∨ lab es k v = lab es k (es k).2
    · exact ht _ _ _ (toE u h1) (hs _ _ (toE v h2))
    · rw [if_pos h1, if_neg h2] at h
      exfalso
      apply h2
      rcases Nat.le_total (lab es k (es k).1) (lab es k (es k).2) with q | q
      · rw [Nat.min_eq_left q] at h; exact Or.inl h.symm
      · rw [Nat.min_eq_right q] at h; exact Or.inr h.symm
    · rw [if_neg h1, if_pos h2] at h
      exfalso
      apply h1
      rcases Nat.le_total (lab es k (es k).1) (lab es k (es k).2) with q | q
      · rw [Nat.min_eq_left q] at h; exact Or.inl h
      · rw [Nat.min_eq_right q] at h; exact Or.inr h
    · rw [if_neg h1, if_neg h2] at h
      exact ih u v h
theorem lab_same (es fs : Nat → Nat × Nat) (k m : Nat) (h1 : ∀ j, j < k → lab fs m (es j).1 = lab fs m (es j).2) (h2 : ∀ j, j < m → lab es k (fs j).1 = lab es k (fs j).2) (i : Nat) : lab es k i = lab fs m i := by
  have a : ∀ u v, lab es k u = lab es k v → lab fs m u = lab fs m v := lab_equiv es (R := fun u v => lab fs m u = lab fs m v) (fun _ => rfl) (fun _ _ h => h.symm) (fun _ _ _ h q => h.trans q) k h1
  have b : ∀ u v, lab fs m u = lab fs m v → lab es k u = lab es k v := lab_equiv fs (R := fun u v => lab es k u = lab es k v) (fun _ => rfl) (fun _ _ h => h.symm) (fun _ _ _ h q => h.trans q) m h2
  have x1 := lab_min es k i
  have x2 := lab_min fs m i
  have y1 := a _ _ x1.2
  have y2 := b _ _ x2.2
  have z1 := (lab_min fs m (lab es k i)).1
  have z2 := (lab_min es k (lab fs m i)).1
  omega
section
variable {K L : Nat} {ls : Nat → Lk} {ids : Nat → Int} {lv : Nat → Bool}
/-- A live link by which one of its two hears of the root. -/
def isOn (ids : Nat → Int) (ls : Nat → Lk) (lv : Nat → Bool) (K L k : Nat) : Prop := (ls k).pa = (says ids ls lv K L (ls k).a.toNat).rp ∨ (ls k).pb = (says ids ls lv K L (ls k).b.toNat).rp
def edge (ls : Nat → Lk) (k : Nat) : Nat × Nat := ((ls k).a.toNat, (ls k).b.toNat)
/-- Below c in the tree. -/
inductive Sub (ids : Nat → Int) (ls : Nat → Lk) (lv : Nat → Bool) (K L c : Nat) : Nat → Prop
  | self : Sub ids ls lv K L c c
  | up (v : Nat) (e : En) : v < K → e ∈ ends ls lv L v → e.live = true → e.port = (says ids ls lv K L v).rp → Sub ids ls lv K L c e.other.toNat → Sub ids ls lv K L c v
theorem up_cost (R : RightL K L ls) (hK : K ≤ 12) {v : Nat} (hv : v < K) {e : En} (he : e ∈ ends ls lv L v) (hl : e.live = true) (hp : e.port = (says ids ls lv K L v).rp) :
    (says ids ls lv K L v).v.cost = (says ids ls lv K L e.other.toNat).v.cost + e.cost ∧ (says ids ls lv K L v).v.root = (says ids ls lv K L e.other.toNat).v.root ∧ 1 ≤ e.cost ∧ e.other.toNat < K := by
  have G := good R hK ids lv
  obtain ⟨g1, g2, _⟩ := G.lt v hv e he hl
  rcases fin_port G hv with ⟨h, _⟩ | ⟨_, _, q, q1, q2, q3, q4, q5, _⟩
  · exfalso
    change (says ids ls lv K L v).rp = -1 at h
    obtain ⟨k, hk, hh⟩ := ends_mem.1 he
    obtain ⟨_, _, _, o4, o5, _⟩ := R.ok k hk
    rcases hh with ⟨_, rfl⟩ | ⟨_, rfl⟩ <;> simp only at hp <;> omega
  · have := ends_one R lv he q1 (by rw [q3]; exact hp)
    subst this
    exact ⟨q5, q4, g2.1, toNat_lt g1⟩
theorem Sub.cost (R : RightL K L ls) (hK : K ≤ 12) {c v : Nat} (h : Sub ids ls lv K L c v) : (says ids ls lv K L c).v.cost ≤ (says ids ls lv K L v).v.cost := by
  induction h with
  | self => exact Int.le_refl _
  | up v e hv he hl hp _ ih => have := up_cost R hK hv he hl hp; omega
theorem Sub.iff (R : RightL K L ls) {c v : Nat} (hv : v < K) {e : En} (he : e ∈ ends ls lv L v) (hl : e.live = true) (hp : e.port = (says ids ls lv K L v).rp) (hne : v ≠ c) : Sub ids ls lv K L c v ↔ Sub ids ls lv K L c e.other.toNat := by
  constructor
  · intro h
    cases h with
    | self => exact absurd rfl hne
    | up _ e' _ he' hl' hp' h =>
      have := ends_one R lv he he' (by rw [hp, hp'])
      rw [this]
      exact h
  · intro h
    exact Sub.up v e hv he hl hp h
/-- Two links by whose ends one and the same port hears are one. -/
theorem child_one (R : RightL K L ls) {k m : Nat} (hk : k < L) (hm : m < L) (h : isEnd (ls k) (ls m).a (ls m).pa = true ∨ isEnd (ls k) (ls m).b (ls m).pb = true) : k = m := by
  rcases Nat.lt_trichotomy k m with q | q | q
  · obtain ⟨h1, h2⟩ := R.one k m q hm
    rw [h1, h2] at h
    simp at h
  · exact q
  · obtain ⟨h1, h2⟩ := R.one m k q hk
    unfold isEnd at h h1 h2
    simp only [Bool.or_eq_false_iff, decide_eq_false_iff_not, Bool.or_eq_true, decide_eq_true_eq] at h h1 h2
    rcases h with (⟨a, b⟩ | ⟨a, b⟩) | (⟨a, b⟩ | ⟨a, b⟩)
    · exact absurd ⟨a.symm, b.symm⟩ h1.1
    · exact absurd ⟨a.symm, b.symm⟩ h2.1
    · exact absurd ⟨a.symm, b.symm⟩ h1.2
    · exact absurd ⟨a.symm, b.symm⟩ h2.2
theorem isEnd_a (l m : Lk) (h1 : l.a = m.a) (h2 : l.pa = m.pa) : isEnd l m.a m.pa = true := by simp [isEnd, h1, h2]
theorem isEnd_b (l m : Lk) (h1 : l.b = m.b) (h2 : l.pb = m.pb) : isEnd l m.b m.pb = true := by simp [isEnd, h1, h2]
/-- NO RING. -/
theorem no_ring (R : RightL K L ls) (hK : K ≤ 12) {n : Nat} {on : Nat → Nat} (hon : ∀ j, j < n → on j < L ∧ lv (on j) = true ∧ isOn ids ls lv K L (on j)) (hne : ∀ i j, i < j → j < n → on i ≠ on j) : ring (fun j => edge ls (on j)) n = false := by
  have key : ∀ j, j < n → lab (fun j => edge ls (on j)) j (edge ls (on j)).1 ≠ lab (fun j => edge ls (on j)) j (edge ls (on j)).2 := by
    intro j hj he
    obtain ⟨hk, hl, ho⟩ := hon j hj
    obtain ⟨o1, o2, o3, _⟩ := R.ok (on j) hk
    have step : ∀ c, (∀ i, i < j → (Sub ids ls lv K L c (edge ls (on i)).1 ↔ Sub ids ls lv K L c (edge ls (on i)).2)) → (Sub ids ls lv K L c (edge ls (on j)).1 ↔ Sub ids ls lv K L c (edge ls (on j)).2) := fun c hc =>
      lab_equiv (fun j => edge ls (on j)) (R := fun u v => (Sub ids ls lv K L c u ↔ Sub ids ls lv K L c v)) (fun _ => Iff.rfl) (fun _ _ h => h.symm) (fun _ _ _ h q => h.trans q) j hc _ _ he
    rcases ho with ho | ho
    · have S := step (ls (on j)).a.toNat (fun i hi => by
        obtain ⟨hk', hl', ho'⟩ := hon i (by omega)
        obtain ⟨p1, p2, p3, _⟩ := R.ok (on i) hk'
        have hd := hne i j hi hj
        rcases ho' with ho' | ho'
        · refine Sub.iff R (by omega) (eA_mem R lv hk') hl' ho' (fun e => hd ?_)
          refine child_one R hk' hk (Or.inl (isEnd_a _ _ (by omega) ?_))
          rw [ho', ho, e]
        · refine (Sub.iff R (by omega) (eB_mem R lv hk') hl' ho' (fun e => hd ?_)).symm
          refine child_one R hk' hk (Or.inl ?_)
          have : (ls (on i)).pb = (ls (on j)).pa := by rw [ho', ho, e]
          simp [isEnd, this, show (ls (on i)).b = (ls (on j)).a by omega])
      have c1 := (S.1 Sub.self).cost R hK
      have c2 := up_cost R hK (v := (ls (on j)).a.toNat) (by omega) (eA_mem R lv hk) hl ho
      simp only [edge, eA] at c1 c2
      omega
    · have S := step (ls (on j)).b.toNat (fun i hi => by
        obtain ⟨hk', hl', ho'⟩ := hon i (by omega)
        obtain ⟨p1, p2, p3, _⟩ := R.ok (on i) hk'
        have hd := hne i j hi hj
        rcases ho' with ho' | ho'
        · refine Sub.iff R (by omega) (eA_mem R lv hk') hl' ho' (fun e => hd ?_)
          refine child_one R hk' hk (Or.inr ?_)
          have : (ls (on i)).pa = (ls (on j)).pb := by rw [ho', ho, e]
          simp [isEnd, this, show (ls (on i)).a = (ls (on j)).b by omega]
        · refine (Sub.iff R (by omega) (eB_mem R lv hk') hl' ho' (fun e => hd ?_)).symm
          refine child_one R hk' hk (Or.inr (isEnd_b _ _ (by omega) ?_))
          rw [ho', ho, e])
      have c1 := (S.2 Sub.self).cost R hK
      have c2 := up_cost R hK (v := (ls (on j)).b.toNat) (by omega) (eB_mem R lv hk) hl ho
      simp only [edge, eB] at c1 c2
      omega
  have all : ∀ m, m ≤ n → ring (fun j => edge ls (on j)) m = false := by
    intro m
    induction m with
    | zero => intro _; rfl
    | succ m ih =>
      intro hm
      simp only [ring]
      rw [ih (by omega), decide_eq_false (key m (by omega))]
      rfl
  exact all n (Nat.le_refl _)
/-- ALL ARE JOINED. -/
theorem tree_joins (R : RightL K L ls) (hK : K ≤ 12) (hids : ∀ i j, i < K → j < K → ids i = ids j → i = j) {n m : Nat} {on al : Nat → Nat} (hon : ∀ j, j < n → on j < L ∧ lv (on j) = true ∧ isOn ids ls lv K L (on j)) (hall : ∀ j, j < m → al j < L ∧ lv (al j) = true)
    (on_all : ∀ k, k < L → lv k = true → isOn ids ls lv K L k → ∃ j, j < n ∧ on j = k) (all_all : ∀ k, k < L → lv k = true → ∃ j, j < m ∧ al j = k) (i : Nat) : lab (fun j => edge ls (al j)) m i = lab (fun j => edge ls (on j)) n i := by
  have G := good R hK ids lv
  have root : ∀ (c : Nat) (i : Nat), i < K → (says ids ls lv K L i).v.cost.toNat ≤ c → ∃ r, r < K ∧ ids r = (says ids ls lv K L i).v.root ∧ lab (fun j => edge ls (on j)) n i = lab (fun j => edge ls (on j)) n r := by
    intro c
    induction c with
    | zero =>
      intro i hi hc
      rcases fin_port G hi with ⟨_, h, _⟩ | ⟨_, _, q, q1, q2, q3, q4, q5, _⟩
      · exact ⟨i, hi, h.symm, rfl⟩
      · exfalso
        have := up_cost R hK hi q1 q2 q3
        have := fin_cost G this.2.2.2
        change 0 ≤ (says ids ls lv K L _).v.cost ∧ _ at this
        omega
    | succ c ih =>
      intro i hi hc
      rcases fin_port G hi with ⟨_, h, _⟩ | ⟨_, _, q, q1, q2, q3, q4, q5, _⟩
      · exact ⟨i, hi, h.symm, rfl⟩
      · obtain ⟨u1, u2, u3, u4⟩ := up_cost R hK hi q1 q2 q3
        have uc := fin_cost G u4
        change 0 ≤ (says ids ls lv K L _).v.cost ∧ _ at uc
        obtain ⟨r, r1, r2, r3⟩ := ih q.other.toNat u4 (by omega)
        refine ⟨r, r1, by rw [r2, u2], ?_⟩
        rw [← r3]
        obtain ⟨k, hk, hh⟩ := ends_mem.1 q1
        rcases hh with ⟨a1, rfl⟩ | ⟨a1, rfl⟩
        · obtain ⟨j, hj, ej⟩ := on_all k hk q2 (Or.inl (by rw [show (ls k).a.toNat = i by omega]; exact q3))
          have := lab_edge (fun j => edge ls (on j)) n j hj
          simp only [ej, edge] at this
          rw [show (ls k).a.toNat = i by omega] at this
          exact this
        · obtain ⟨j, hj, ej⟩ := on_all k hk q2 (Or.inr (by rw [show (ls k).b.toNat = i by omega]; exact q3))
          have := lab_edge (fun j => edge ls (on j)) n j hj
          simp only [ej, edge] at this
          rw [show (ls k).b.toNat = i by omega] at this
          exact this.symm
  refine lab_same _ _ m n (fun j hj => ?_) (fun j hj => ?_) i
  · obtain ⟨hk, hl⟩ := hall j hj
    obtain ⟨o1, o2, _⟩ := R.ok (al j) hk
    obtain ⟨ra, a1, a2, a3⟩ := root _ (ls (al j)).a.toNat (by omega) (Nat.le_refl _)
    obtain ⟨rb, b1, b2, b3⟩ := root _ (ls (al j)).b.toNat (by omega) (Nat.le_refl _)
    have := (says_link R hK ids lv hk hl).1
    have e := hids ra rb a1 b1 (by rw [a2, b2, this])
    show lab (fun j => edge ls (on j)) n (ls (al j)).a.toNat = lab (fun j => edge ls (on j)) n (ls (al j)).b.toNat
    rw [a3, b3, e]
  · obtain ⟨hk, hl, _⟩ := hon j hj
    obtain ⟨q, hq, eq⟩ := all_all (on j) hk hl
    have := lab_edge (fun j => edge ls (al j)) m q hq
    simp only [eq] at this
    exact this
end
end Pl
end Go.Proofs.YtflghpnpjmodaaaGreatDoor
