/- 'hedgelaw6.PlanFar' returns true for every net and every tree, and leaves it as it was: the row and its tied card. Conditions: none beyond the form's own (the tables lie as the program's text lays them: the card's tie). -/
import Derived.Test.YtcbpafpaimpfnaaGreatDoorME
import Derived.Test.YtcbpafpaimpfnaaGreatDoorMG
import Derived.Test.YtcbpafpaimpfnaaGreatDoorHT
import Derived.Test.YtcbpafpaimpfnaaGreatDoorCards
import Derived.Test.YtcbpafpaimpfnaaGreatDoorTie
import Derived.Test.YtcbpafpaimpfnaaGreatDoorMF
namespace Go.Proofs.YtcbpafpaimpfnaaGreatDoor
open Go.RowKit
open Vc (V Of)
open Pl (Br Net Pc Lk En St LN)

theorem far_says (n : Net) (tree : Int) : Pl.rounds (n.ids tree) n.ends n.K n.K = Pl.says (n.ids tree) n.ls n.live n.K n.L := rfl
theorem infoBo : (Tryz.prog.info? 4).map (fun i => (i.zero, i.size, i.bytes)) = some (some (.bool false), 1, 1) := by kernel_rfl
/-- What is read of places. -/
def FiveAt (w : World) (P K : Nat) (x : Nat → St) : Prop := ∀ i, i < K → w.cell? ⟨P, i * 7, none⟩ = some (.int .u64 (x i).v.root) ∧ w.cell? ⟨P, i * 7 + 1, none⟩ = some (.int .i64 (x i).v.cost) ∧ w.cell? ⟨P, i * 7 + 4, none⟩ = some (.int .i64 (x i).rp)
theorem PlacesAt.fives {w : World} {P K : Nat} {x : Nat → St} {E : Nat → List En} {k : Nat} (h : PlacesAt w P K x E k) : FiveAt w P K x := by
  obtain ⟨c, h1, h2, _⟩ := h
  intro i hi
  refine ⟨?_, ?_, ?_⟩
  · have := rowC_cell h1 hi (show 0 < 7 by omega); rw [h2 i hi 0 (by omega)] at this; exact this
  · have := rowC_cell h1 hi (show 1 < 7 by omega); rw [h2 i hi 1 (by omega)] at this; exact this
  · have := rowC_cell h1 hi (show 4 < 7 by omega); rw [h2 i hi 4 (by omega)] at this; exact this
/-- One is told. -/
def upJ (J : Nat → Bool) (a : Nat) (v : Bool) (i : Nat) : Bool := if i = a then (J a || v) else J i
def jA (x : Nat → St) (l : Lk) : Bool := decide (l.pa = (x l.a.toNat).rp) && decide ((x l.a.toNat).v.cost = (x l.b.toNat).v.cost + l.cost)
def jB (x : Nat → St) (l : Lk) : Bool := decide (l.pb = (x l.b.toNat).rp) && decide ((x l.b.toNat).v.cost = (x l.a.toNat).v.cost + l.cost)
def jst (x : Nat → St) (ls : Nat → Lk) (on : Nat → Nat) : Nat → (Nat → Bool)
  | 0 => fun _ => false
  | j + 1 => upJ (upJ (jst x ls on j) (ls (on j)).a.toNat (jA x (ls (on j)))) (ls (on j)).b.toNat (jB x (ls (on j)))
theorem upJ_keep {J : Nat → Bool} {a : Nat} {v : Bool} {i : Nat} (h : J i = true) : upJ J a v i = true := by
  unfold upJ
  by_cases e : i = a
  · rw [if_pos e, ← e, h, Bool.true_or]
  · rw [if_neg e]; exact h
theorem jst_keep {x : Nat → St} {ls : Nat → Lk} {on : Nat → Nat} {i : Nat} : ∀ {m j : Nat}, j ≤ m → jst x ls on j i = true → jst x ls on m i = true
  | 0, j, h, h1 => by rw [show j = 0 by omega] at h1; exact h1
  | m + 1, j, h, h1 => by
    by_cases e : j = m + 1
    · rw [← e]; exact h1
    · exact upJ_keep (upJ_keep (jst_keep (m := m) (by omega) h1))
theorem jst_a {x : Nat → St} {ls : Nat → Lk} {on : Nat → Nat} {m j : Nat} (h : j < m) (hv : jA x (ls (on j)) = true) : jst x ls on m (ls (on j)).a.toNat = true := by
  refine jst_keep (j := j + 1) h (upJ_keep ?_)
  unfold upJ
  rw [if_pos rfl, hv, Bool.or_true]
theorem jst_b {x : Nat → St} {ls : Nat → Lk} {on : Nat → Nat} {m j : Nat} (h : j < m) (hv : jB x (ls (on j)) = true) : jst x ls on m (ls (on j)).b.toNat = true := by
  refine jst_keep (j := j + 1) h ?_
  show upJ _ _ _ _ = true
  unfold upJ
  rw [if_pos rfl, hv, Bool.or_true]
/-- Who is not the root is just so far, by its root port. -/
theorem far_just {n : Net} (R : n.Right) (tree : Int) {x : Nat → St} (hx : x = Pl.rounds (n.ids tree) n.ends n.K n.K) {i : Nat} (hi : i < n.K) (hp : 0 ≤ (x i).rp) : jst x n.ls (LN n.lvs) n.lvs.length i = true := by
  have G := Pl.good R.links R.few (n.ids tree) n.live
  subst hx
  rcases Pl.fin_port G hi with ⟨h1, _⟩ | ⟨_, _, e, h1, h2, h3, _, h5, _⟩
  · have h1' : (Pl.rounds (n.ids tree) n.ends n.K n.K i).rp = -1 := h1
    omega
  · obtain ⟨k, hk, h⟩ := Pl.ends_mem.1 h1
    rcases h with ⟨q1, q2⟩ | ⟨q1, q2⟩
    · subst q2
      obtain ⟨j, hj, ej⟩ := Pl.Net.lvs_all hk h2
      have hi' : (n.ls k).a.toNat = i := by omega
      have := jst_a (x := Pl.rounds (n.ids tree) n.ends n.K n.K) (ls := n.ls) (on := LN n.lvs) hj (by
        rw [ej]
        unfold jA
        rw [hi', decide_eq_true (show (n.ls k).pa = (Pl.rounds (n.ids tree) n.ends n.K n.K i).rp from h3), decide_eq_true (show (Pl.rounds (n.ids tree) n.ends n.K n.K i).v.cost = (Pl.rounds (n.ids tree) n.ends n.K n.K (n.ls k).b.toNat).v.cost + (n.ls k).cost from h5)]
        rfl)
      rw [ej, hi'] at this
      exact this
    · subst q2
      obtain ⟨j, hj, ej⟩ := Pl.Net.lvs_all hk h2
      have hi' : (n.ls k).b.toNat = i := by omega
      have := jst_b (x := Pl.rounds (n.ids tree) n.ends n.K n.K) (ls := n.ls) (on := LN n.lvs) hj (by
        rw [ej]
        unfold jB
        rw [hi', decide_eq_true (show (n.ls k).pb = (Pl.rounds (n.ids tree) n.ends n.K n.K i).rp from h3), decide_eq_true (show (Pl.rounds (n.ids tree) n.ends n.K n.K i).v.cost = (Pl.rounds (n.ids tree) n.ends n.K n.K (n.ls k).a.toNat).v.cost + (n.ls k).cost from h5)]
        rfl)
      rw [ej, hi'] at this
      exact this
def JAt (W : World) (G K : Nat) (J : Nat → Bool) : Prop := W.heap[G]? = some (.cells (rowC K 1 (fun i _ => .bool (J i))) 4 (0, 0))
theorem JAt.cell {W : World} {G K : Nat} {J : Nat → Bool} (h : JAt W G K J) {i : Nat} (hi : i < K) : W.cell? ⟨G, i, none⟩ = some (.bool (J i)) := by
  have := rowC_cell h hi (show 0 < 1 by omega)
  rw [show i * 1 + 0 = i by omega] at this
  exact this
theorem JAt.put {W : World} {G K : Nat} {J : Nat → Bool} (h : JAt W G K J) {a : Nat} (ha : a < K) (v : Bool) : JAt (W.setCell ⟨G, a, none⟩ (.bool (J a || v))) G K (upJ J a v) := by
  have := rowC_set h ha (show 0 < 1 by omega) (.bool (J a || v))
  rw [show a * 1 + 0 = a by omega] at this
  unfold JAt
  rw [this, rowC_congr2 (d := fun i _ => .bool (upJ J a v i)) (fun i _ j hj => by
    unfold updC upJ
    by_cases q : i = a
    · rw [if_pos ⟨q, by omega⟩, if_pos q]
    · rw [if_neg (fun p => q p.1), if_neg q])]
/-- The world within a round. -/
structure FarW (w3 W : World) (G P B K : Nat) (x : Nat → St) (J : Nat → Bool) (l : Lk) : Prop where
  grown : w3.grownBy W (some G)
  just : JAt W G K J
  box : W.heap[B]? = some (.cells (lkA l) 46 (0, 0))
  five : FiveAt W P K x
  ne : B ≠ G ∧ P ≠ G ∧ G < w3.heap.size
theorem FarW.below {w3 W W' : World} {G P B K : Nat} {x : Nat → St} {J : Nat → Bool} {l : Lk} (h : FarW w3 W G P B K x J l) (hb : Below W.heap.size W W') : FarW w3 W' G P B K x J l := by
  refine ⟨h.grown.trans ⟨hb.os, hb.tape, hb.output, hb.size, fun i hi _ => hb.block i hi⟩, keep h.just hb, keep h.box hb, fun i hi => ?_, h.ne⟩
  obtain ⟨a, b, c⟩ := h.five i hi
  exact ⟨(hb.cell (by exact block_lt_of_cell a)).trans a, (hb.cell (by exact block_lt_of_cell b)).trans b, (hb.cell (by exact block_lt_of_cell c)).trans c⟩
theorem FarW.put {w3 W : World} {G P B K : Nat} {x : Nat → St} {J : Nat → Bool} {l : Lk} (h : FarW w3 W G P B K x J l) {a : Nat} (ha : a < K) (v : Bool) : FarW w3 (W.setCell ⟨G, a, none⟩ (.bool (J a || v))) G P B K x (upJ J a v) l := by
  have hoth : ∀ b, b ≠ G → (W.setCell ⟨G, a, none⟩ (.bool (J a || v))).heap[b]? = W.heap[b]? := fun b hb => heap_setCell_other _ _ _ _ (by exact hb)
  have hg : W.grownBy (W.setCell ⟨G, a, none⟩ (.bool (J a || v))) (some G) := by
    have b : Below 0 W (W.setCell ⟨G, a, none⟩ (.bool (J a || v))) := (Below.refl 0 W).setCell (Nat.zero_le _) _
    exact ⟨b.os, b.tape, b.output, b.size, fun i hi hne => hoth i (fun e => hne (by rw [e]))⟩
  refine ⟨h.grown.trans hg, h.just.put ha v, (hoth B h.ne.1).trans h.box, fun i hi => ?_, h.ne⟩
  obtain ⟨c1, c2, c3⟩ := h.five i hi
  have e := hoth P h.ne.2.1
  exact ⟨(World.cell?_of_block (w := W) e).trans c1, (World.cell?_of_block (w := W) e).trans c2, (World.cell?_of_block (w := W) e).trans c3⟩
set_option maxRecDepth 100000 in
set_option maxHeartbeats 20000000 in
theorem pfar_any (n : Net) (tree : Int) (w : World) (hat : n.at' w) (hwf : n.Wf) (ht : Tabs w) (hbt : 2 ≤ w.heap.size) :
    Calls Tryz.prog 5 #[n.val, .int .i64 tree] w fun e w' => e = .returned (.bool true) ∧ Below w.heap.size w w' := by
  obtain ⟨X, HX⟩ : ∃ X, Hid (X = w.alloc (.cells #[.slice n.bao n.K n.bcap, .slice n.lao n.L n.lcap] 25)) := ⟨_, rfl⟩
  have hXB : Below w.heap.size w X := by rw [HX.out]; exact below_alloc1 _ _
  have hXn : X.heap[w.heap.size]? = some (.cells #[.slice n.bao n.K n.bcap, .slice n.lao n.L n.lcap] 25 (0, 0)) := by rw [HX.out]; exact heap_alloc_last _ _
  have HC : Hid (∀ W, Below X.heap.size X W → (W.cell? ⟨w.heap.size, 0, none⟩ = some (.slice n.bao n.K n.bcap) ∧ W.cell? ⟨w.heap.size, 1, none⟩ = some (.slice n.lao n.L n.lcap)) ∧ n.at' W ∧ (Tabs W ∧ 2 ≤ W.heap.size) ∧ Below w.heap.size w W) := fun W hW => by
    have h1 : Below w.heap.size w W := hXB.trans (hW.mono hXB.size)
    exact ⟨two_cells2 (keep hXn hW), hat.below h1, ⟨ht.below h1 hbt, Nat.le_trans hbt h1.size⟩, h1⟩
  have HAL : Hid (Calls Tryz.prog 17 #[] X fun e w' => e = .returned (.bool true) ∧ Below X.heap.size X w') := palive_any X (ht.below hXB hbt) (Nat.le_trans hbt hXB.size)
  have HRI : Hid (n.wrong.1 = 0 → n.Right) := right_of hwf
  have HWF : Hid n.Wf := hwf
  clear hat ht hXn hXB hwf
  simp only [Pl.Net.val]
  go_enter Tryz.func5, Tryz.ntmps5
  go_wp2_with fail
  rw [← HX.out]
  refine HAL.out.mono ?_
  rintro e w1 ⟨rfl, hb1⟩
  obtain ⟨⟨d0, d1⟩, hat1, ⟨ht1, hg1⟩, _⟩ := HC.out w1 hb1
  have HP : Hid (Calls Tryz.prog 12 #[.agg #[.slice n.bao n.K n.bcap, .slice n.lao n.L n.lcap], .int .i64 tree] w1 fun e w' => ∃ a k c f1 f2, e = .returned (.tuple #[.slice a k c, .agg #[.int .i64 f1, .int .i64 f2]]) ∧ Hid (Below w1.heap.size w1 w' ∧ PlRes n tree w1.heap.size w' a k c f1 f2)) := pplan_res n tree w1 hat1 HWF.out ht1 hg1
  clear HAL hat1 ht1 hg1
  go_wp2_with fail
  refine HP.out.mono ?_
  rintro e w2 ⟨a, m, c, f1, f2, rfl, hA⟩
  obtain ⟨Y, HY⟩ : ∃ Y, Hid (Y = w2.alloc (.cells #[.int .i64 f1, .int .i64 f2] 28)) := ⟨_, rfl⟩
  have hYB : Below w2.heap.size w2 Y := by rw [HY.out]; exact below_alloc1 _ _
  have hYs : Y.heap.size = w2.heap.size + 1 := by rw [HY.out]; simp
  have hXw2 : Below X.heap.size X w2 := hb1.trans (hA.out.1.mono hb1.size)
  have hXY : Below X.heap.size X Y := hXw2.trans (hYB.mono hXw2.size)
  have hres := hA.out.2.below hYB
  have HLO : Hid (Below w.heap.size w Y) := (HC.out Y hXY).2.2.2
  clear HP hA d0 d1 hYB hXw2 hb1
  rcases hres with ⟨e0, ⟨rfl, rfl, rfl⟩, e1⟩ | ⟨_, _, ⟨rfl, rfl, rfl⟩, rfl, rfl⟩ | ⟨e0, htr, P, ⟨rfl, rfl, rfl⟩, ⟨rfl, rfl⟩, hPA, _⟩
  · obtain ⟨rfl, rfl⟩ : f1 = n.wrong.1 ∧ f2 = n.wrong.2 := by rw [← e1]; exact ⟨rfl, rfl⟩
    have g0 : (n.wrong.1 == 0) = false := by simp [e0]
    clear e1
    go_wp2_with fail
    go_ret
    exact ⟨rfl, by rw [← HY.out]; exact HLO.out⟩
  · go_wp2_with fail
    go_ret
    exact ⟨rfl, by rw [← HY.out]; exact HLO.out⟩
  · have R := HRI.out e0
    have HR : Hid n.Right := R
    have hK := R.few
    obtain ⟨x, HXX⟩ : ∃ x, Hid (x = Pl.rounds (n.ids tree) n.ends n.K n.K) := ⟨_, rfl⟩
    rw [← HXX.out] at hPA
    have hmk : ∀ W : World, (Instr.makeSlice 51 (.int .i64 (n.K : Int)) (.int .i64 (n.K : Int))).run Tryz.prog W = .ok (.slice (some ⟨W.heap.size, 0, none⟩) n.K n.K) (W.alloc (.cells (rowC n.K 1 (fun _ _ => .bool false)) 4)) := fun W => make_rowD W 51 4 (.bool false) 1 1 n.K Tryz.underlying51 infoBo (by omega) rfl (by omega) (by omega) _ (fun _ j hj => by rw [show j = 0 by omega]; rfl)
    obtain ⟨G, HG⟩ : ∃ G, Hid (G = w2.heap.size + 1) := ⟨_, rfl⟩
    obtain ⟨V, HV⟩ : ∃ V, Hid (V = Y.alloc (.cells (rowC n.K 1 (fun _ _ => .bool false)) 4)) := ⟨_, rfl⟩
    have hVB : Below Y.heap.size Y V := by rw [HV.out]; exact below_alloc1 _ _
    have hVs : V.heap.size = G + 1 := by rw [HV.out, HG.out, ← hYs]; simp
    have hVJ : V.heap[G]? = some (.cells (rowC n.K 1 (fun _ _ => .bool false)) 4 (0, 0)) := by rw [HV.out, HG.out, ← hYs]; exact heap_alloc_last _ _
    have hXV : Below X.heap.size X V := hXY.trans (hVB.mono hXY.size)
    obtain ⟨⟨m0, m1⟩, hatV, _, hwV⟩ := HC.out V hXV
    have HLV : Hid (Calls Tryz.prog 18 #[.agg #[.slice n.bao n.K n.bcap, .slice n.lao n.L n.lcap]] V fun e w' => ∃ ao cap, e = .returned (.slice ao n.lvs.length cap) ∧ LRow w' ao n.lvs.length cap (fun j => n.ls (LN n.lvs j)) ∧ NilOk ao n.lvs.length cap ∧ (∀ ad, ao = some ad → V.heap.size ≤ ad.block) ∧ Below V.heap.size V w') := rlive_any n V hatV R
    have hPV := hPA.below hVB
    have hPl : P < Y.heap.size := by
      obtain ⟨c, h1, _⟩ := hPA
      exact (Array.getElem?_eq_some_iff.1 h1).1
    rw [HV.out, HY.out] at m0 m1
    clear hPA HC hXY R HRI HWF hatV hXV
    go_wp2_with fail
    rw [← HY.out, ← HV.out, ← HG.out]
    refine HLV.out.mono ?_
    rintro e w3 ⟨ao, cap, rfl, hLR, _, hnew, hb3⟩
    have hGl : G < w3.heap.size := by have := hb3.size; omega
    have HS : Hid (∀ W, w3.grownBy W (some G) → FiveAt W P n.K x ∧ LRow W ao n.lvs.length cap (fun j => n.ls (LN n.lvs j)) ∧ Below w.heap.size w W) := fun W hW => by
      have h3 := (hPV.below hb3).fives
      have hPw : P < w3.heap.size := by have := hb3.size; have := hVB.size; omega
      have hPne : P ≠ G := by rw [HG.out]; omega
      have hb := hW.block P hPw (fun q => by injection q with q; omega)
      refine ⟨fun i hi => ?_, row_but hLR hW (fun _ b off e => ?_), (hwV.trans (hb3.mono hwV.size)).trans (below_of_grown hW (by have := hwV.size; have := hb3.size; omega) (by have := HLO.out.size; rw [HG.out]; omega))⟩
      · obtain ⟨c1, c2, c3⟩ := h3 i hi
        exact ⟨(World.cell?_of_block (w := w3) hb).trans c1, (World.cell?_of_block (w := w3) hb).trans c2, (World.cell?_of_block (w := w3) hb).trans c3⟩
      · have := hnew _ e
        simp only at this
        omega
    have HG0 : Hid (w3.grownBy w3 (some G)) := ⟨rfl, rfl, rfl, Nat.le_refl _, fun _ _ _ => rfl⟩
    have HJ0 : Hid (JAt w3 G n.K (jst x n.ls (LN n.lvs) 0)) := keep hVJ hb3
    have hPG : P ≠ G := by rw [HG.out]; omega
    have hlcap := hLR.1
    have hlfew : n.lvs.length ≤ 40 := Nat.le_trans (n.lvsTo_few n.L) HR.out.fewL
    clear HLV hLR hnew hb3 m0 m1 hVJ hVs hVB hPV hPl hwV HLO hYs hmk
    go_wp2_with fail
    clear HY HV
    go_loopw [30] (fun q wr => ∃ j : Nat, j ≤ n.lvs.length ∧ q = .int .i64 j ∧ Hid (w3.grownBy wr (some G) ∧ JAt wr G n.K (jst x n.ls (LN n.lvs) j))) (fun q _ => n.lvs.length - (intOf q).toNat)
    case atStart => exact ⟨0, by omega, rfl, HG0.out, HJ0.out⟩
    case round =>
      obtain ⟨j, hj, rfl, hW⟩ := hrel
      clear HG0 HJ0
      by_cases hlt : j < n.lvs.length
      · obtain ⟨f0, f1, _⟩ := HS.out wr hW.out.1
        obtain ⟨lb, loff, rfl, _⟩ := CRow.some f1 (by omega)
        obtain ⟨c0, c1, c2, c3, c4, c5⟩ := LRow.cells f1 hlt
        obtain ⟨hkL, hlive⟩ := Pl.Net.lvs_mem hlt
        obtain ⟨o1, o2, o3, _, _, o6⟩ := HR.out.links.ok _ hkL
        obtain ⟨_, hs1, hs2⟩ := Pl.says_link HR.out.links HR.out.few (n.ids tree) n.live hkL hlive
        rw [← far_says, ← HXX.out] at hs1 hs2
        have GG' := Pl.good HR.out.links HR.out.few (n.ids tree) n.live
        have hca := Pl.fin_cost GG' (i := (n.ls (LN n.lvs j)).a.toNat) (by omega)
        have hcb := Pl.fin_cost GG' (i := (n.ls (LN n.lvs j)).b.toNat) (by omega)
        change 0 ≤ (Pl.rounds (n.ids tree) n.ends n.K n.K _).v.cost ∧ (Pl.rounds (n.ids tree) n.ends n.K n.K _).v.cost ≤ _ at hca hcb
        rw [← HXX.out] at hca hcb
        obtain ⟨B, HB⟩ : ∃ B, Hid (B = wr.heap.size) := ⟨_, rfl⟩
        have hGw : G < wr.heap.size := by have := hW.out.1.size; omega
        have HF0 : Hid (FarW w3 (wr.alloc (.cells (lkA (n.ls (LN n.lvs j))) 46)) G P B n.K x (jst x n.ls (LN n.lvs) j) (n.ls (LN n.lvs j))) := by
          have hb := below_alloc1 wr (.cells (lkA (n.ls (LN n.lvs j))) 46)
          refine ⟨hW.out.1.trans ⟨hb.os, hb.tape, hb.output, hb.size, fun i hi _ => hb.block i hi⟩, keep hW.out.2 hb, by rw [HB.out]; exact heap_alloc_last _ _, fun i hi => ?_, ⟨by rw [HB.out]; omega, hPG, hGl⟩⟩
          obtain ⟨q1, q2, q3⟩ := f0 i hi
          exact ⟨(hb.cell (by exact block_lt_of_cell q1)).trans q1, (hb.cell (by exact block_lt_of_cell q2)).trans q2, (hb.cell (by exact block_lt_of_cell q3)).trans q3⟩
        have HEND : Hid (upJ (upJ (jst x n.ls (LN n.lvs) j) (n.ls (LN n.lvs j)).a.toNat (jA x (n.ls (LN n.lvs j)))) (n.ls (LN n.lvs j)).b.toNat (jB x (n.ls (LN n.lvs j))) = jst x n.ls (LN n.lvs) (j + 1)) := rfl
        have HVA : Hid (jA x (n.ls (LN n.lvs j)) = (decide ((n.ls (LN n.lvs j)).pa = (x (n.ls (LN n.lvs j)).a.toNat).rp) && decide ((x (n.ls (LN n.lvs j)).a.toNat).v.cost = (x (n.ls (LN n.lvs j)).b.toNat).v.cost + (n.ls (LN n.lvs j)).cost))) := rfl
        have HVB : Hid (jB x (n.ls (LN n.lvs j)) = (decide ((n.ls (LN n.lvs j)).pb = (x (n.ls (LN n.lvs j)).b.toNat).rp) && decide ((x (n.ls (LN n.lvs j)).b.toNat).v.cost = (x (n.ls (LN n.lvs j)).a.toNat).v.cost + (n.ls (LN n.lvs j)).cost))) := rfl
        clear hW f0 f1 hkL hlive GG' HR HS
        generalize jst x n.ls (LN n.lvs) j = J at *
        generalize jA x (n.ls (LN n.lvs j)) = va at *
        generalize jB x (n.ls (LN n.lvs j)) = vb at *
        generalize n.ls (LN n.lvs j) = l at *
        obtain ⟨la, pa, lb', pb, co, up⟩ := l
        simp only at c0 c1 c2 c3 c4 c5 o1 o2 o3 o6 hs1 hs2 hca hcb HEND HVA HVB
        obtain ⟨na, rfl⟩ : ∃ na : Nat, la = na := ⟨la.toNat, by omega⟩
        obtain ⟨nb, rfl⟩ : ∃ nb : Nat, lb' = nb := ⟨lb'.toNat, by omega⟩
        rw [Int.toNat_natCast] at hs1 hs2 hca hcb HEND HVA HVB
        try rw [Int.toNat_natCast] at hs1 hs2
        try rw [Int.toNat_natCast] at HEND HVA HVB
        have hna : na < n.K := by omega
        have hnb : nb < n.K := by omega
        have i0 : (0 : Int) ≤ (j : Int) := by omega
        have i1 : (j : Int) < (n.lvs.length : Int) := by omega
        have ia0 : (0 : Int) ≤ (na : Int) := by omega
        have ia1 : (na : Int) < (n.K : Int) := by omega
        have ib0 : (0 : Int) ≤ (nb : Int) := by omega
        have ib1 : (nb : Int) < (n.K : Int) := by omega
        have HCE : Hid (∀ (W : World) (J' : Nat → Bool), FarW w3 W G P B n.K x J' ⟨na, pa, nb, pb, co, up⟩ → (W.cell? ⟨B, 0, none⟩ = some (.int .i64 na) ∧ W.cell? ⟨B, 1, none⟩ = some (.int .i64 pa) ∧ W.cell? ⟨B, 2, none⟩ = some (.int .i64 nb) ∧ W.cell? ⟨B, 3, none⟩ = some (.int .i64 pb) ∧ W.cell? ⟨B, 4, none⟩ = some (.int .i64 co)) ∧ (W.cell? ⟨P, na * 7 + 1, none⟩ = some (.int .i64 (x na).v.cost) ∧ W.cell? ⟨P, nb * 7 + 1, none⟩ = some (.int .i64 (x nb).v.cost)) ∧ (W.cell? ⟨P, na * 7 + 4, none⟩ = some (.int .i64 (x na).rp) ∧ W.cell? ⟨P, nb * 7 + 4, none⟩ = some (.int .i64 (x nb).rp)) ∧ (W.cell? ⟨G, na, none⟩ = some (.bool (J' na)) ∧ W.cell? ⟨G, nb, none⟩ = some (.bool (J' nb))) ∧ (W.frozen? ⟨G, na, none⟩ = false ∧ W.frozen? ⟨G, nb, none⟩ = false)) := fun W J' h => by
          obtain ⟨q0, q1, q2, q3, q4, _⟩ := lk_cells h.box
          exact ⟨⟨q0, q1, q2, q3, q4⟩, ⟨(h.five na hna).2.1, (h.five nb hnb).2.1⟩, ⟨(h.five na hna).2.2, (h.five nb hnb).2.2⟩, ⟨h.just.cell hna, h.just.cell hnb⟩, lk_free0 h.just _, lk_free0 h.just _⟩
        have HPU : Hid (∀ (W : World) (J' : Nat → Bool) (a : Nat) (v : Bool), a < n.K → FarW w3 W G P B n.K x J' ⟨na, pa, nb, pb, co, up⟩ → FarW w3 (W.drew.setCell ⟨G, a, none⟩ (.bool (J' a || v))) G P B n.K x (upJ J' a v) ⟨na, pa, nb, pb, co, up⟩) := fun W J' a v ha h => (h.below (Below.drew (Below.refl _ _))).put ha v
        have HDR : Hid (∀ (W : World) (J' : Nat → Bool), FarW w3 W G P B n.K x J' ⟨na, pa, nb, pb, co, up⟩ → FarW w3 W.drew G P B n.K x J' ⟨na, pa, nb, pb, co, up⟩) := fun W J' h => h.below (Below.drew (Below.refl _ _))
        have HFIN : Hid (∀ W, FarW w3 W G P B n.K x (jst x n.ls (LN n.lvs) (j + 1)) ⟨na, pa, nb, pb, co, up⟩ → w3.grownBy W (some G) ∧ JAt W G n.K (jst x n.ls (LN n.lvs) (j + 1))) := fun W h => ⟨h.grown, h.just⟩
        simp only [lkA] at HF0
        generalize (x na).v.cost = ca at *
        generalize (x nb).v.cost = cb at *
        have w1 : IntKind.i64.wrap (cb + co) = cb + co := wraps_i64 _ (by omega) (by omega)
        have w2' : IntKind.i64.wrap (ca + co) = ca + co := wraps_i64 _ (by omega) (by omega)
        have g8 : ¬ (cb + co < ca) := by omega
        have g9 : ¬ (ca + co < cb) := by omega
        go_wp2_with fail
        rw [← HB.out]
        go_cut [9, 10, 11] (fun s9 s10 s11 wx => s9 = .pointer (some ⟨B, 0, none⟩) ∧ s10 = .int .i64 ca ∧ s11 = .int .i64 cb ∧ Hid (FarW w3 wx G P B n.K x J ⟨na, pa, nb, pb, co, up⟩))
        case first =>
          obtain ⟨Z, HZ⟩ : ∃ Z, Hid (Z = wr.alloc (.cells #[.int .i64 na, .int .i64 pa, .int .i64 nb, .int .i64 pb, .int .i64 co, .bool up] 46)) := ⟨_, rfl⟩
          rw [← HZ.out] at HF0 ⊢
          obtain ⟨⟨q0, q1, q2, q3, q4⟩, ⟨p0, p1⟩, _⟩ := HCE.out Z J HF0.out
          have HD : Hid (∀ q, FarW w3 (Z.drewN q) G P B n.K x J ⟨na, pa, nb, pb, co, up⟩) := fun q => HF0.out.below (below_drewN (Below.refl _ _) q)
          clear HF0 HCE HPU HDR HFIN HEND HVA HVB
          go_quiet (fail)
          go_wp2_with fail
          go_meet
          exact ⟨rfl, rfl, rfl, HD.out _⟩
        case rest =>
        obtain ⟨rfl, rfl, rfl, HM⟩ := hcut
        clear HF0 c0 c1 c2 c3 c4 c5
        obtain ⟨⟨y0, y1, y2, y3, y4⟩, _⟩ := HCE.out wc J HM.out
        go_wp2_with fail
        go_cut [9, 10, 11] (fun s9 s10 s11 wx => s9 = .pointer (some ⟨B, 0, none⟩) ∧ s10 = .int .i64 ca ∧ s11 = .int .i64 cb ∧ Hid (FarW w3 wx G P B n.K x (upJ J na va) ⟨na, pa, nb, pb, co, up⟩))
        case first =>
          as_aux_lemma =>
            obtain ⟨z0, _, ⟨z3, _⟩, ⟨z4, _⟩, ⟨z5, _⟩⟩ := HCE.out wc.drew J (HDR.out _ _ HM.out)
            obtain ⟨n0, _, ⟨n3, _⟩, _⟩ := HCE.out _ _ (HPU.out wc J na va hna HM.out)
            have HSD : Hid _ := (⟨z0, z3⟩ : _ ∧ _)
            have HSN : Hid _ := (⟨n0, n3⟩ : _ ∧ _)
            have HN : Hid _ := HPU.out wc J na va hna HM.out
            have HVV0 : Hid _ := HVA
            clear HM HCE HPU HDR HFIN HEND HVA HVB z0 z3 n0 n3 y0 y1 y2 y3 y4 g8 g9 w2'
            generalize (x na).rp = rp at *
            cases hj0 : J na with
            | true =>
              rw [hj0] at z4 HSN HN
              rw [Bool.true_or] at HSN HN
              refine wp_region_held_drew (S := fun W => (W.cell? ⟨B, 0, none⟩ = some (.int .i64 na) ∧ W.cell? ⟨B, 1, none⟩ = some (.int .i64 pa) ∧ W.cell? ⟨B, 2, none⟩ = some (.int .i64 nb) ∧ W.cell? ⟨B, 3, none⟩ = some (.int .i64 pb) ∧ W.cell? ⟨B, 4, none⟩ = some (.int .i64 co)) ∧ W.cell? ⟨P, na * 7 + 4, none⟩ = some (.int .i64 rp)) (by kernel_rfl) HSD.out (fun hHeld => ?_)
              refine held_take (i := 0) (v := ?_) (some 62) rfl rfl (by kernel_rfl) (by kernel_rfl) (by kernel_rfl) (fun _ _ _ h => h) (by rfl) ?_ hHeld ?_
              rotate_left 1
              · (intro wq hSw; go_simp; try with_reducible rfl)
              (try simp only [Act.put, List.setIfInBounds_toArray, List.set_cons_zero, List.set_cons_succ])
              refine held_take (i := 1) (v := ?_) (some 63) rfl rfl (by kernel_rfl) (by kernel_rfl) (by kernel_rfl) (fun _ _ _ h => h) (by rfl) ?_ hHeld ?_
              rotate_left 1
              · (intro wq hSw; go_simp; try with_reducible rfl)
              (try simp only [Act.put, List.setIfInBounds_toArray, List.set_cons_zero, List.set_cons_succ])
              refine held_take (i := 2) (v := ?_) (some 64) rfl rfl (by kernel_rfl) (by kernel_rfl) (by kernel_rfl) (fun _ _ _ h => h) (by rfl) ?_ hHeld ?_
              rotate_left 1
              · (intro wq hSw; go_simp; try with_reducible rfl)
              (try simp only [Act.put, List.setIfInBounds_toArray, List.set_cons_zero, List.set_cons_succ])
              refine held_take (i := 3) (v := ?_) (some 65) rfl rfl (by kernel_rfl) (by kernel_rfl) (by kernel_rfl) (fun _ _ _ h => h) (by rfl) ?_ hHeld ?_
              rotate_left 1
              · (intro wq hSw; go_simp; try with_reducible rfl)
              (try simp only [Act.put, List.setIfInBounds_toArray, List.set_cons_zero, List.set_cons_succ])
              refine held_take (i := 4) (v := ?_) (some 66) rfl rfl (by kernel_rfl) (by kernel_rfl) (by kernel_rfl) (fun _ _ _ h => h) (by rfl) ?_ hHeld ?_
              rotate_left 1
              · (intro wq hSw; go_simp; try with_reducible rfl)
              (try simp only [Act.put, List.setIfInBounds_toArray, List.set_cons_zero, List.set_cons_succ])
              refine held_take (i := 5) (v := ?_) (some 67) rfl rfl (by kernel_rfl) (by kernel_rfl) (by kernel_rfl) (fun _ _ _ h => h) (by rfl) ?_ hHeld ?_
              rotate_left 1
              · (intro wq hSw; go_simp; try with_reducible rfl)
              (try simp only [Act.put, List.setIfInBounds_toArray, List.set_cons_zero, List.set_cons_succ])
              refine held_take (i := 6) (v := ?_) (some 68) rfl rfl (by kernel_rfl) (by kernel_rfl) (by kernel_rfl) (fun _ _ _ h => h) (by rfl) ?_ hHeld ?_
              rotate_left 1
              · (intro wq hSw; go_simp; try with_reducible rfl)
              (try simp only [Act.put, List.setIfInBounds_toArray, List.set_cons_zero, List.set_cons_succ])
              refine wpAnyH_ready (rs := [7]) (by kernel_rfl) (by simp) ?_
              refine AllReadyH.cons rfl (fun K hK => ?_) AllReadyH.nil
              go_simp
              refine hK.out _ _ hHeld (fun hHeld => ?_)
              clear hK K
              (try simp only [Act.put, List.setIfInBounds_toArray, List.set_cons_zero, List.set_cons_succ])
              refine held_take (i := 8) (v := ?_) (some 70) rfl rfl (by kernel_rfl) (by kernel_rfl) (by kernel_rfl) (fun _ _ _ h => h) (by rfl) ?_ hHeld ?_
              rotate_left 1
              · (intro wq hSw; go_simp; try with_reducible rfl)
              (try simp only [Act.put, List.setIfInBounds_toArray, List.set_cons_zero, List.set_cons_succ])
              refine held_skip (i := 9) (some 71) rfl rfl (by kernel_rfl) (by kernel_rfl) (by kernel_rfl) (fun _ _ _ h => h) (by rfl) hHeld ?_
              (try simp only [Act.put, List.setIfInBounds_toArray, List.set_cons_zero, List.set_cons_succ])
              refine held_skip (i := 10) (some 72) rfl rfl (by kernel_rfl) (by kernel_rfl) (by kernel_rfl) (fun _ _ _ h => h) (by rfl) hHeld ?_
              (try simp only [Act.put, List.setIfInBounds_toArray, List.set_cons_zero, List.set_cons_succ])
              refine held_skip (i := 11) (some 73) rfl rfl (by kernel_rfl) (by kernel_rfl) (by kernel_rfl) (fun _ _ _ h => h) (by rfl) hHeld ?_
              (try simp only [Act.put, List.setIfInBounds_toArray, List.set_cons_zero, List.set_cons_succ])
              refine held_skip (i := 12) (some 74) rfl rfl (by kernel_rfl) (by kernel_rfl) (by kernel_rfl) (fun _ _ _ h => h) (by rfl) hHeld ?_
              (try simp only [Act.put, List.setIfInBounds_toArray, List.set_cons_zero, List.set_cons_succ])
              refine held_skip (i := 13) (some 75) rfl rfl (by kernel_rfl) (by kernel_rfl) (by kernel_rfl) (fun _ _ _ h => h) (by rfl) hHeld ?_
              (try simp only [Act.put, List.setIfInBounds_toArray, List.set_cons_zero, List.set_cons_succ])
              refine held_skip (i := 14) (some 76) rfl rfl (by kernel_rfl) (by kernel_rfl) (by kernel_rfl) (fun _ _ _ h => h) (by rfl) hHeld ?_
              (try simp only [Act.put, List.setIfInBounds_toArray, List.set_cons_zero, List.set_cons_succ])
              refine held_skip (i := 15) (some 77) rfl rfl (by kernel_rfl) (by kernel_rfl) (by kernel_rfl) (fun _ _ _ h => h) (by rfl) hHeld ?_
              (try simp only [Act.put, List.setIfInBounds_toArray, List.set_cons_zero, List.set_cons_succ])
              refine held_skip (i := 16) (some 78) rfl rfl (by kernel_rfl) (by kernel_rfl) (by kernel_rfl) (fun _ _ _ h => h) (by rfl) hHeld ?_
              (try simp only [Act.put, List.setIfInBounds_toArray, List.set_cons_zero, List.set_cons_succ])
              refine held_skip (i := 17) (some 79) rfl rfl (by kernel_rfl) (by kernel_rfl) (by kernel_rfl) (fun _ _ _ h => h) (by rfl) hHeld ?_
              (try simp only [Act.put, List.setIfInBounds_toArray, List.set_cons_zero, List.set_cons_succ])
              refine held_skip (i := 18) (some 80) rfl rfl (by kernel_rfl) (by kernel_rfl) (by kernel_rfl) (fun _ _ _ h => h) (by rfl) hHeld ?_
              (try simp only [Act.put, List.setIfInBounds_toArray, List.set_cons_zero, List.set_cons_succ])
              refine held_skip (i := 19) (some 81) rfl rfl (by kernel_rfl) (by kernel_rfl) (by kernel_rfl) (fun _ _ _ h => h) (by rfl) hHeld ?_
              (try simp only [Act.put, List.setIfInBounds_toArray, List.set_cons_zero, List.set_cons_succ])
              refine held_skip (i := 20) (some 82) rfl rfl (by kernel_rfl) (by kernel_rfl) (by kernel_rfl) (fun _ _ _ h => h) (by rfl) hHeld ?_
              (try simp only [Act.put, List.setIfInBounds_toArray, List.set_cons_zero, List.set_cons_succ])
              refine held_skip (i := 21) (some 83) rfl rfl (by kernel_rfl) (by kernel_rfl) (by kernel_rfl) (fun _ _ _ h => h) (by rfl) hHeld ?_
              (try simp only [Act.put, List.setIfInBounds_toArray, List.set_cons_zero, List.set_cons_succ])
              refine held_skip (i := 22) (some 84) rfl rfl (by kernel_rfl) (by kernel_rfl) (by kernel_rfl) (fun _ _ _ h => h) (by rfl) hHeld ?_
              (try simp only [Act.put, List.setIfInBounds_toArray, List.set_cons_zero, List.set_cons_succ])
              refine held_skip (i := 23) (some 85) rfl rfl (by kernel_rfl) (by kernel_rfl) (by kernel_rfl) (fun _ _ _ h => h) (by rfl) hHeld ?_
              (try simp only [Act.put, List.setIfInBounds_toArray, List.set_cons_zero, List.set_cons_succ])
              refine held_skip (i := 24) (some 86) rfl rfl (by kernel_rfl) (by kernel_rfl) (by kernel_rfl) (fun _ _ _ h => h) (by rfl) hHeld ?_
              (try simp only [Act.put, List.setIfInBounds_toArray, List.set_cons_zero, List.set_cons_succ])
              refine held_skip (i := 25) (some 87) rfl rfl (by kernel_rfl) (by kernel_rfl) (by kernel_rfl) (fun _ _ _ h => h) (by rfl) hHeld ?_
              (try simp only [Act.put, List.setIfInBounds_toArray, List.set_cons_zero, List.set_cons_succ])
              refine held_take (i := 26) (v := ?_) (some 88) rfl rfl (by kernel_rfl) (by kernel_rfl) (by kernel_rfl) (fun _ _ _ h => h) (by rfl) ?_ hHeld ?_
              rotate_left 1
              · (intro wq hSw; go_simp; try with_reducible rfl)
              (try simp only [Act.put, List.setIfInBounds_toArray, List.set_cons_zero, List.set_cons_succ])
              refine held_take (i := 27) (v := ?_) (some 89) rfl rfl (by kernel_rfl) (by kernel_rfl) (by kernel_rfl) (fun _ _ _ h => h) (by rfl) ?_ hHeld ?_
              rotate_left 1
              · (intro wq hSw; go_simp; try with_reducible rfl)
              (try simp only [Act.put, List.setIfInBounds_toArray, List.set_cons_zero, List.set_cons_succ])
              refine wpAnyH_ready (rs := [28]) (by kernel_rfl) (by simp) ?_
              refine AllReadyH.cons rfl (fun K hK => ?_) AllReadyH.nil
              go_simp
              refine hK.out _ _ HSN.out (fun hHeld => ?_)
              clear hK K
              refine wpAnyH_done (by kernel_rfl) ?_ _
              go_wp2_with fail
              go_meet
              exact ⟨rfl, rfl, rfl, HN⟩
            | false =>
              rw [hj0] at z4 HSN HN
              rw [Bool.false_or] at HSN HN
              by_cases e1 : pa = rp
              · obtain ⟨vv, HVV⟩ : ∃ vv, Hid ((ca == cb + co) = vv) := ⟨_, rfl⟩
                have g1 : (pa == rp) = true := by simp [e1]
                have ev : va = vv := by rw [HVV0.out, decide_eq_true e1, Bool.true_and, ← HVV.out]; rfl
                subst ev
                refine wp_region_held_drew (S := fun W => (W.cell? ⟨B, 0, none⟩ = some (.int .i64 na) ∧ W.cell? ⟨B, 1, none⟩ = some (.int .i64 pa) ∧ W.cell? ⟨B, 2, none⟩ = some (.int .i64 nb) ∧ W.cell? ⟨B, 3, none⟩ = some (.int .i64 pb) ∧ W.cell? ⟨B, 4, none⟩ = some (.int .i64 co)) ∧ W.cell? ⟨P, na * 7 + 4, none⟩ = some (.int .i64 rp)) (by kernel_rfl) HSD.out (fun hHeld => ?_)
                refine held_take (i := 0) (v := ?_) (some 62) rfl rfl (by kernel_rfl) (by kernel_rfl) (by kernel_rfl) (fun _ _ _ h => h) (by rfl) ?_ hHeld ?_
                rotate_left 1
                · (intro wq hSw; go_simp; try with_reducible rfl)
                (try simp only [Act.put, List.setIfInBounds_toArray, List.set_cons_zero, List.set_cons_succ])
                refine held_take (i := 1) (v := ?_) (some 63) rfl rfl (by kernel_rfl) (by kernel_rfl) (by kernel_rfl) (fun _ _ _ h => h) (by rfl) ?_ hHeld ?_
                rotate_left 1
                · (intro wq hSw; go_simp; try with_reducible rfl)
                (try simp only [Act.put, List.setIfInBounds_toArray, List.set_cons_zero, List.set_cons_succ])
                refine held_take (i := 2) (v := ?_) (some 64) rfl rfl (by kernel_rfl) (by kernel_rfl) (by kernel_rfl) (fun _ _ _ h => h) (by rfl) ?_ hHeld ?_
                rotate_left 1
                · (intro wq hSw; go_simp; try with_reducible rfl)
                (try simp only [Act.put, List.setIfInBounds_toArray, List.set_cons_zero, List.set_cons_succ])
                refine held_take (i := 3) (v := ?_) (some 65) rfl rfl (by kernel_rfl) (by kernel_rfl) (by kernel_rfl) (fun _ _ _ h => h) (by rfl) ?_ hHeld ?_
                rotate_left 1
                · (intro wq hSw; go_simp; try with_reducible rfl)
                (try simp only [Act.put, List.setIfInBounds_toArray, List.set_cons_zero, List.set_cons_succ])
                refine held_take (i := 4) (v := ?_) (some 66) rfl rfl (by kernel_rfl) (by kernel_rfl) (by kernel_rfl) (fun _ _ _ h => h) (by rfl) ?_ hHeld ?_
                rotate_left 1
                · (intro wq hSw; go_simp; try with_reducible rfl)
                (try simp only [Act.put, List.setIfInBounds_toArray, List.set_cons_zero, List.set_cons_succ])
                refine held_take (i := 5) (v := ?_) (some 67) rfl rfl (by kernel_rfl) (by kernel_rfl) (by kernel_rfl) (fun _ _ _ h => h) (by rfl) ?_ hHeld ?_
                rotate_left 1
                · (intro wq hSw; go_simp; try with_reducible rfl)
                (try simp only [Act.put, List.setIfInBounds_toArray, List.set_cons_zero, List.set_cons_succ])
                refine held_take (i := 6) (v := ?_) (some 68) rfl rfl (by kernel_rfl) (by kernel_rfl) (by kernel_rfl) (fun _ _ _ h => h) (by rfl) ?_ hHeld ?_
                rotate_left 1
                · (intro wq hSw; go_simp; try with_reducible rfl)
                (try simp only [Act.put, List.setIfInBounds_toArray, List.set_cons_zero, List.set_cons_succ])
                refine wpAnyH_ready (rs := [7]) (by kernel_rfl) (by simp) ?_
                refine AllReadyH.cons rfl (fun K hK => ?_) AllReadyH.nil
                go_simp
                refine hK.out _ _ hHeld (fun hHeld => ?_)
                clear hK K
                (try simp only [Act.put, List.setIfInBounds_toArray, List.set_cons_zero, List.set_cons_succ])
                refine held_take (i := 8) (v := ?_) (some 70) rfl rfl (by kernel_rfl) (by kernel_rfl) (by kernel_rfl) (fun _ _ _ h => h) (by rfl) ?_ hHeld ?_
                rotate_left 1
                · (intro wq hSw; go_simp; try with_reducible rfl)
                (try simp only [Act.put, List.setIfInBounds_toArray, List.set_cons_zero, List.set_cons_succ])
                refine held_take (i := 9) (v := ?_) (some 71) rfl rfl (by kernel_rfl) (by kernel_rfl) (by kernel_rfl) (fun _ _ _ h => h) (by rfl) ?_ hHeld ?_
                rotate_left 1
                · (intro wq hSw; go_simp; try with_reducible rfl)
                (try simp only [Act.put, List.setIfInBounds_toArray, List.set_cons_zero, List.set_cons_succ])
                refine held_take (i := 10) (v := ?_) (some 72) rfl rfl (by kernel_rfl) (by kernel_rfl) (by kernel_rfl) (fun _ _ _ h => h) (by rfl) ?_ hHeld ?_
                rotate_left 1
                · (intro wq hSw; go_simp; try with_reducible rfl)
                (try simp only [Act.put, List.setIfInBounds_toArray, List.set_cons_zero, List.set_cons_succ])
                refine held_take (i := 11) (v := ?_) (some 73) rfl rfl (by kernel_rfl) (by kernel_rfl) (by kernel_rfl) (fun _ _ _ h => h) (by rfl) ?_ hHeld ?_
                rotate_left 1
                · (intro wq hSw; go_simp; try with_reducible rfl)
                (try simp only [Act.put, List.setIfInBounds_toArray, List.set_cons_zero, List.set_cons_succ])
                refine held_take (i := 12) (v := ?_) (some 74) rfl rfl (by kernel_rfl) (by kernel_rfl) (by kernel_rfl) (fun _ _ _ h => h) (by rfl) ?_ hHeld ?_
                rotate_left 1
                · (intro wq hSw; go_simp; try with_reducible rfl)
                (try simp only [Act.put, List.setIfInBounds_toArray, List.set_cons_zero, List.set_cons_succ])
                refine held_take (i := 13) (v := ?_) (some 75) rfl rfl (by kernel_rfl) (by kernel_rfl) (by kernel_rfl) (fun _ _ _ h => h) (by rfl) ?_ hHeld ?_
                rotate_left 1
                · (intro wq hSw; go_simp; try with_reducible rfl)
                (try simp only [Act.put, List.setIfInBounds_toArray, List.set_cons_zero, List.set_cons_succ])
                refine held_take (i := 14) (v := ?_) (some 76) rfl rfl (by kernel_rfl) (by kernel_rfl) (by kernel_rfl) (fun _ _ _ h => h) (by rfl) ?_ hHeld ?_
                rotate_left 1
                · (intro wq hSw; go_simp; try with_reducible rfl)
                (try simp only [Act.put, List.setIfInBounds_toArray, List.set_cons_zero, List.set_cons_succ])
                refine held_take (i := 15) (v := ?_) (some 77) rfl rfl (by kernel_rfl) (by kernel_rfl) (by kernel_rfl) (fun _ _ _ h => h) (by rfl) ?_ hHeld ?_
                rotate_left 1
                · (intro wq hSw; go_simp; try with_reducible rfl)
                (try simp only [Act.put, List.setIfInBounds_toArray, List.set_cons_zero, List.set_cons_succ])
                refine held_take (i := 16) (v := ?_) (some 78) rfl rfl (by kernel_rfl) (by kernel_rfl) (by kernel_rfl) (fun _ _ _ h => h) (by rfl) ?_ hHeld ?_
                rotate_left 1
                · (intro wq hSw; go_simp; try with_reducible rfl)
                (try simp only [Act.put, List.setIfInBounds_toArray, List.set_cons_zero, List.set_cons_succ])
                refine held_take (i := 17) (v := .bool true) (some 79) rfl rfl (by kernel_rfl) (by kernel_rfl) (by kernel_rfl) (fun _ _ _ h => h) (by rfl) ?_ hHeld ?_
                · (intro wq hSw; go_simp; first | done | (simp [g1]; done))
                (try simp only [Act.put, List.setIfInBounds_toArray, List.set_cons_zero, List.set_cons_succ])
                refine held_take (i := 18) (v := ?_) (some 80) rfl rfl (by kernel_rfl) (by kernel_rfl) (by kernel_rfl) (fun _ _ _ h => h) (by rfl) ?_ hHeld ?_
                rotate_left 1
                · (intro wq hSw; go_simp; try with_reducible rfl)
                (try simp only [Act.put, List.setIfInBounds_toArray, List.set_cons_zero, List.set_cons_succ])
                refine held_take (i := 19) (v := ?_) (some 81) rfl rfl (by kernel_rfl) (by kernel_rfl) (by kernel_rfl) (fun _ _ _ h => h) (by rfl) ?_ hHeld ?_
                rotate_left 1
                · (intro wq hSw; go_simp; try with_reducible rfl)
                (try simp only [Act.put, List.setIfInBounds_toArray, List.set_cons_zero, List.set_cons_succ])
                refine held_take (i := 20) (v := ?_) (some 82) rfl rfl (by kernel_rfl) (by kernel_rfl) (by kernel_rfl) (fun _ _ _ h => h) (by rfl) ?_ hHeld ?_
                rotate_left 1
                · (intro wq hSw; go_simp; try with_reducible rfl)
                (try simp only [Act.put, List.setIfInBounds_toArray, List.set_cons_zero, List.set_cons_succ])
                refine held_take (i := 21) (v := ?_) (some 83) rfl rfl (by kernel_rfl) (by kernel_rfl) (by kernel_rfl) (fun _ _ _ h => h) (by rfl) ?_ hHeld ?_
                rotate_left 1
                · (intro wq hSw; go_simp; try with_reducible rfl)
                (try simp only [Act.put, List.setIfInBounds_toArray, List.set_cons_zero, List.set_cons_succ])
                refine held_take (i := 22) (v := ?_) (some 84) rfl rfl (by kernel_rfl) (by kernel_rfl) (by kernel_rfl) (fun _ _ _ h => h) (by rfl) ?_ hHeld ?_
                rotate_left 1
                · (intro wq hSw; go_simp; try with_reducible rfl)
                (try simp only [Act.put, List.setIfInBounds_toArray, List.set_cons_zero, List.set_cons_succ])
                refine held_take (i := 23) (v := ?_) (some 85) rfl rfl (by kernel_rfl) (by kernel_rfl) (by kernel_rfl) (fun _ _ _ h => h) (by rfl) ?_ hHeld ?_
                rotate_left 1
                · (intro wq hSw; go_simp; try with_reducible rfl)
                (try simp only [Act.put, List.setIfInBounds_toArray, List.set_cons_zero, List.set_cons_succ])
                refine held_take (i := 24) (v := .bool va) (some 86) rfl rfl (by kernel_rfl) (by kernel_rfl) (by kernel_rfl) (fun _ _ _ h => h) (by rfl) ?_ hHeld ?_
                · (intro wq hSw; go_simp; first | done | (simp [HVV.out]; done))
                (try simp only [Act.put, List.setIfInBounds_toArray, List.set_cons_zero, List.set_cons_succ])
                refine held_take (i := 25) (v := ?_) (some 87) rfl rfl (by kernel_rfl) (by kernel_rfl) (by kernel_rfl) (fun _ _ _ h => h) (by rfl) ?_ hHeld ?_
                rotate_left 1
                · (intro wq hSw; go_simp; try with_reducible rfl)
                (try simp only [Act.put, List.setIfInBounds_toArray, List.set_cons_zero, List.set_cons_succ])
                refine held_take (i := 26) (v := ?_) (some 88) rfl rfl (by kernel_rfl) (by kernel_rfl) (by kernel_rfl) (fun _ _ _ h => h) (by rfl) ?_ hHeld ?_
                rotate_left 1
                · (intro wq hSw; go_simp; try with_reducible rfl)
                (try simp only [Act.put, List.setIfInBounds_toArray, List.set_cons_zero, List.set_cons_succ])
                refine held_take (i := 27) (v := ?_) (some 89) rfl rfl (by kernel_rfl) (by kernel_rfl) (by kernel_rfl) (fun _ _ _ h => h) (by rfl) ?_ hHeld ?_
                rotate_left 1
                · (intro wq hSw; go_simp; try with_reducible rfl)
                (try simp only [Act.put, List.setIfInBounds_toArray, List.set_cons_zero, List.set_cons_succ])
                refine wpAnyH_ready (rs := [28]) (by kernel_rfl) (by simp) ?_
                refine AllReadyH.cons rfl (fun K hK => ?_) AllReadyH.nil
                go_simp
                refine hK.out _ _ HSN.out (fun hHeld => ?_)
                clear hK K
                refine wpAnyH_done (by kernel_rfl) ?_ _
                go_wp2_with fail
                go_meet
                exact ⟨rfl, rfl, rfl, HN⟩
              · have g1 : (pa == rp) = false := by simp [e1]
                have ev : va = false := by rw [HVV0.out, decide_eq_false e1, Bool.false_and]
                subst ev
                refine wp_region_held_drew (S := fun W => (W.cell? ⟨B, 0, none⟩ = some (.int .i64 na) ∧ W.cell? ⟨B, 1, none⟩ = some (.int .i64 pa) ∧ W.cell? ⟨B, 2, none⟩ = some (.int .i64 nb) ∧ W.cell? ⟨B, 3, none⟩ = some (.int .i64 pb) ∧ W.cell? ⟨B, 4, none⟩ = some (.int .i64 co)) ∧ W.cell? ⟨P, na * 7 + 4, none⟩ = some (.int .i64 rp)) (by kernel_rfl) HSD.out (fun hHeld => ?_)
                refine held_take (i := 0) (v := ?_) (some 62) rfl rfl (by kernel_rfl) (by kernel_rfl) (by kernel_rfl) (fun _ _ _ h => h) (by rfl) ?_ hHeld ?_
                rotate_left 1
                · (intro wq hSw; go_simp; try with_reducible rfl)
                (try simp only [Act.put, List.setIfInBounds_toArray, List.set_cons_zero, List.set_cons_succ])
                refine held_take (i := 1) (v := ?_) (some 63) rfl rfl (by kernel_rfl) (by kernel_rfl) (by kernel_rfl) (fun _ _ _ h => h) (by rfl) ?_ hHeld ?_
                rotate_left 1
                · (intro wq hSw; go_simp; try with_reducible rfl)
                (try simp only [Act.put, List.setIfInBounds_toArray, List.set_cons_zero, List.set_cons_succ])
                refine held_take (i := 2) (v := ?_) (some 64) rfl rfl (by kernel_rfl) (by kernel_rfl) (by kernel_rfl) (fun _ _ _ h => h) (by rfl) ?_ hHeld ?_
                rotate_left 1
                · (intro wq hSw; go_simp; try with_reducible rfl)
                (try simp only [Act.put, List.setIfInBounds_toArray, List.set_cons_zero, List.set_cons_succ])
                refine held_take (i := 3) (v := ?_) (some 65) rfl rfl (by kernel_rfl) (by kernel_rfl) (by kernel_rfl) (fun _ _ _ h => h) (by rfl) ?_ hHeld ?_
                rotate_left 1
                · (intro wq hSw; go_simp; try with_reducible rfl)
                (try simp only [Act.put, List.setIfInBounds_toArray, List.set_cons_zero, List.set_cons_succ])
                refine held_take (i := 4) (v := ?_) (some 66) rfl rfl (by kernel_rfl) (by kernel_rfl) (by kernel_rfl) (fun _ _ _ h => h) (by rfl) ?_ hHeld ?_
                rotate_left 1
                · (intro wq hSw; go_simp; try with_reducible rfl)
                (try simp only [Act.put, List.setIfInBounds_toArray, List.set_cons_zero, List.set_cons_succ])
                refine held_take (i := 5) (v := ?_) (some 67) rfl rfl (by kernel_rfl) (by kernel_rfl) (by kernel_rfl) (fun _ _ _ h => h) (by rfl) ?_ hHeld ?_
                rotate_left 1
                · (intro wq hSw; go_simp; try with_reducible rfl)
                (try simp only [Act.put, List.setIfInBounds_toArray, List.set_cons_zero, List.set_cons_succ])
                refine held_take (i := 6) (v := ?_) (some 68) rfl rfl (by kernel_rfl) (by kernel_rfl) (by kernel_rfl) (fun _ _ _ h => h) (by rfl) ?_ hHeld ?_
                rotate_left 1
                · (intro wq hSw; go_simp; try with_reducible rfl)
                (try simp only [Act.put, List.setIfInBounds_toArray, List.set_cons_zero, List.set_cons_succ])
                refine wpAnyH_ready (rs := [7]) (by kernel_rfl) (by simp) ?_
                refine AllReadyH.cons rfl (fun K hK => ?_) AllReadyH.nil
                go_simp
                refine hK.out _ _ hHeld (fun hHeld => ?_)
                clear hK K
                (try simp only [Act.put, List.setIfInBounds_toArray, List.set_cons_zero, List.set_cons_succ])
                refine held_take (i := 8) (v := ?_) (some 70) rfl rfl (by kernel_rfl) (by kernel_rfl) (by kernel_rfl) (fun _ _ _ h => h) (by rfl) ?_ hHeld ?_
                rotate_left 1
                · (intro wq hSw; go_simp; try with_reducible rfl)
                (try simp only [Act.put, List.setIfInBounds_toArray, List.set_cons_zero, List.set_cons_succ])
                refine held_take (i := 9) (v := ?_) (some 71) rfl rfl (by kernel_rfl) (by kernel_rfl) (by kernel_rfl) (fun _ _ _ h => h) (by rfl) ?_ hHeld ?_
                rotate_left 1
                · (intro wq hSw; go_simp; try with_reducible rfl)
                (try simp only [Act.put, List.setIfInBounds_toArray, List.set_cons_zero, List.set_cons_succ])
                refine held_take (i := 10) (v := ?_) (some 72) rfl rfl (by kernel_rfl) (by kernel_rfl) (by kernel_rfl) (fun _ _ _ h => h) (by rfl) ?_ hHeld ?_
                rotate_left 1
                · (intro wq hSw; go_simp; try with_reducible rfl)
                (try simp only [Act.put, List.setIfInBounds_toArray, List.set_cons_zero, List.set_cons_succ])
                refine held_take (i := 11) (v := ?_) (some 73) rfl rfl (by kernel_rfl) (by kernel_rfl) (by kernel_rfl) (fun _ _ _ h => h) (by rfl) ?_ hHeld ?_
                rotate_left 1
                · (intro wq hSw; go_simp; try with_reducible rfl)
                (try simp only [Act.put, List.setIfInBounds_toArray, List.set_cons_zero, List.set_cons_succ])
                refine held_take (i := 12) (v := ?_) (some 74) rfl rfl (by kernel_rfl) (by kernel_rfl) (by kernel_rfl) (fun _ _ _ h => h) (by rfl) ?_ hHeld ?_
                rotate_left 1
                · (intro wq hSw; go_simp; try with_reducible rfl)
                (try simp only [Act.put, List.setIfInBounds_toArray, List.set_cons_zero, List.set_cons_succ])
                refine held_take (i := 13) (v := ?_) (some 75) rfl rfl (by kernel_rfl) (by kernel_rfl) (by kernel_rfl) (fun _ _ _ h => h) (by rfl) ?_ hHeld ?_
                rotate_left 1
                · (intro wq hSw; go_simp; try with_reducible rfl)
                (try simp only [Act.put, List.setIfInBounds_toArray, List.set_cons_zero, List.set_cons_succ])
                refine held_take (i := 14) (v := ?_) (some 76) rfl rfl (by kernel_rfl) (by kernel_rfl) (by kernel_rfl) (fun _ _ _ h => h) (by rfl) ?_ hHeld ?_
                rotate_left 1
                · (intro wq hSw; go_simp; try with_reducible rfl)
                (try simp only [Act.put, List.setIfInBounds_toArray, List.set_cons_zero, List.set_cons_succ])
                refine held_take (i := 15) (v := ?_) (some 77) rfl rfl (by kernel_rfl) (by kernel_rfl) (by kernel_rfl) (fun _ _ _ h => h) (by rfl) ?_ hHeld ?_
                rotate_left 1
                · (intro wq hSw; go_simp; try with_reducible rfl)
                (try simp only [Act.put, List.setIfInBounds_toArray, List.set_cons_zero, List.set_cons_succ])
                refine held_take (i := 16) (v := ?_) (some 78) rfl rfl (by kernel_rfl) (by kernel_rfl) (by kernel_rfl) (fun _ _ _ h => h) (by rfl) ?_ hHeld ?_
                rotate_left 1
                · (intro wq hSw; go_simp; try with_reducible rfl)
                (try simp only [Act.put, List.setIfInBounds_toArray, List.set_cons_zero, List.set_cons_succ])
                refine held_take (i := 17) (v := .bool false) (some 79) rfl rfl (by kernel_rfl) (by kernel_rfl) (by kernel_rfl) (fun _ _ _ h => h) (by rfl) ?_ hHeld ?_
                · (intro wq hSw; go_simp; first | done | (simp [g1]; done))
                (try simp only [Act.put, List.setIfInBounds_toArray, List.set_cons_zero, List.set_cons_succ])
                refine held_take (i := 18) (v := ?_) (some 80) rfl rfl (by kernel_rfl) (by kernel_rfl) (by kernel_rfl) (fun _ _ _ h => h) (by rfl) ?_ hHeld ?_
                rotate_left 1
                · (intro wq hSw; go_simp; try with_reducible rfl)
                (try simp only [Act.put, List.setIfInBounds_toArray, List.set_cons_zero, List.set_cons_succ])
                refine held_skip (i := 19) (some 81) rfl rfl (by kernel_rfl) (by kernel_rfl) (by kernel_rfl) (fun _ _ _ h => h) (by rfl) hHeld ?_
                (try simp only [Act.put, List.setIfInBounds_toArray, List.set_cons_zero, List.set_cons_succ])
                refine held_skip (i := 20) (some 82) rfl rfl (by kernel_rfl) (by kernel_rfl) (by kernel_rfl) (fun _ _ _ h => h) (by rfl) hHeld ?_
                (try simp only [Act.put, List.setIfInBounds_toArray, List.set_cons_zero, List.set_cons_succ])
                refine held_skip (i := 21) (some 83) rfl rfl (by kernel_rfl) (by kernel_rfl) (by kernel_rfl) (fun _ _ _ h => h) (by rfl) hHeld ?_
                (try simp only [Act.put, List.setIfInBounds_toArray, List.set_cons_zero, List.set_cons_succ])
                refine held_skip (i := 22) (some 84) rfl rfl (by kernel_rfl) (by kernel_rfl) (by kernel_rfl) (fun _ _ _ h => h) (by rfl) hHeld ?_
                (try simp only [Act.put, List.setIfInBounds_toArray, List.set_cons_zero, List.set_cons_succ])
                refine held_skip (i := 23) (some 85) rfl rfl (by kernel_rfl) (by kernel_rfl) (by kernel_rfl) (fun _ _ _ h => h) (by rfl) hHeld ?_
                (try simp only [Act.put, List.setIfInBounds_toArray, List.set_cons_zero, List.set_cons_succ])
                refine held_skip (i := 24) (some 86) rfl rfl (by kernel_rfl) (by kernel_rfl) (by kernel_rfl) (fun _ _ _ h => h) (by rfl) hHeld ?_
                (try simp only [Act.put, List.setIfInBounds_toArray, List.set_cons_zero, List.set_cons_succ])
                refine held_take (i := 25) (v := ?_) (some 87) rfl rfl (by kernel_rfl) (by kernel_rfl) (by kernel_rfl) (fun _ _ _ h => h) (by rfl) ?_ hHeld ?_
                rotate_left 1
                · (intro wq hSw; go_simp; try with_reducible rfl)
                (try simp only [Act.put, List.setIfInBounds_toArray, List.set_cons_zero, List.set_cons_succ])
                refine held_take (i := 26) (v := ?_) (some 88) rfl rfl (by kernel_rfl) (by kernel_rfl) (by kernel_rfl) (fun _ _ _ h => h) (by rfl) ?_ hHeld ?_
                rotate_left 1
                · (intro wq hSw; go_simp; try with_reducible rfl)
                (try simp only [Act.put, List.setIfInBounds_toArray, List.set_cons_zero, List.set_cons_succ])
                refine held_take (i := 27) (v := ?_) (some 89) rfl rfl (by kernel_rfl) (by kernel_rfl) (by kernel_rfl) (fun _ _ _ h => h) (by rfl) ?_ hHeld ?_
                rotate_left 1
                · (intro wq hSw; go_simp; try with_reducible rfl)
                (try simp only [Act.put, List.setIfInBounds_toArray, List.set_cons_zero, List.set_cons_succ])
                refine wpAnyH_ready (rs := [28]) (by kernel_rfl) (by simp) ?_
                refine AllReadyH.cons rfl (fun K hK => ?_) AllReadyH.nil
                go_simp
                refine hK.out _ _ HSN.out (fun hHeld => ?_)
                clear hK K
                refine wpAnyH_done (by kernel_rfl) ?_ _
                go_wp2_with fail
                go_meet
                exact ⟨rfl, rfl, rfl, HN⟩
        case rest =>
        obtain ⟨rfl, rfl, rfl, HM2⟩ := hcut
        clear HM y0 y1 y2 y3 y4
        go_wp2_with fail
        obtain ⟨z0, _, ⟨_, z3⟩, ⟨_, z4⟩, ⟨_, z5⟩⟩ := HCE.out wc.drew _ (HDR.out _ _ HM2.out)
        obtain ⟨n0, _, ⟨_, n3⟩, _⟩ := HCE.out _ _ (HPU.out wc _ nb vb hnb HM2.out)
        have HSD : Hid _ := (⟨z0, z3⟩ : _ ∧ _)
        have HSN : Hid _ := (⟨n0, n3⟩ : _ ∧ _)
        have HN : Hid (w3.grownBy (wc.drew.setCell ⟨G, nb, none⟩ (.bool (upJ J na va nb || vb))) (some G) ∧ JAt (wc.drew.setCell ⟨G, nb, none⟩ (.bool (upJ J na va nb || vb))) G n.K (jst x n.ls (LN n.lvs) (j + 1))) := HFIN.out _ (by rw [← HEND.out]; exact HPU.out wc _ nb vb hnb HM2.out)
        have HVV0 : Hid _ := HVB
        clear HM2 HCE HPU HDR HFIN HEND HVA HVB z0 z3 n0 n3 g8 g9 w1
        generalize upJ J na va = J2 at *
        generalize (x nb).rp = rp at *
        cases hj0 : J2 nb with
        | true =>
          as_aux_lemma =>
            rw [hj0] at z4 HSN HN
            rw [Bool.true_or] at HSN HN
            refine wp_region_held_drew (S := fun W => (W.cell? ⟨B, 0, none⟩ = some (.int .i64 na) ∧ W.cell? ⟨B, 1, none⟩ = some (.int .i64 pa) ∧ W.cell? ⟨B, 2, none⟩ = some (.int .i64 nb) ∧ W.cell? ⟨B, 3, none⟩ = some (.int .i64 pb) ∧ W.cell? ⟨B, 4, none⟩ = some (.int .i64 co)) ∧ W.cell? ⟨P, nb * 7 + 4, none⟩ = some (.int .i64 rp)) (by kernel_rfl) HSD.out (fun hHeld => ?_)
            refine held_take (i := 0) (v := ?_) (some 90) rfl rfl (by kernel_rfl) (by kernel_rfl) (by kernel_rfl) (fun _ _ _ h => h) (by rfl) ?_ hHeld ?_
            rotate_left 1
            · (intro wq hSw; go_simp; try with_reducible rfl)
            (try simp only [Act.put, List.setIfInBounds_toArray, List.set_cons_zero, List.set_cons_succ])
            refine held_take (i := 1) (v := ?_) (some 91) rfl rfl (by kernel_rfl) (by kernel_rfl) (by kernel_rfl) (fun _ _ _ h => h) (by rfl) ?_ hHeld ?_
            rotate_left 1
            · (intro wq hSw; go_simp; try with_reducible rfl)
            (try simp only [Act.put, List.setIfInBounds_toArray, List.set_cons_zero, List.set_cons_succ])
            refine held_take (i := 2) (v := ?_) (some 92) rfl rfl (by kernel_rfl) (by kernel_rfl) (by kernel_rfl) (fun _ _ _ h => h) (by rfl) ?_ hHeld ?_
            rotate_left 1
            · (intro wq hSw; go_simp; try with_reducible rfl)
            (try simp only [Act.put, List.setIfInBounds_toArray, List.set_cons_zero, List.set_cons_succ])
            refine held_take (i := 3) (v := ?_) (some 93) rfl rfl (by kernel_rfl) (by kernel_rfl) (by kernel_rfl) (fun _ _ _ h => h) (by rfl) ?_ hHeld ?_
            rotate_left 1
            · (intro wq hSw; go_simp; try with_reducible rfl)
            (try simp only [Act.put, List.setIfInBounds_toArray, List.set_cons_zero, List.set_cons_succ])
            refine held_take (i := 4) (v := ?_) (some 94) rfl rfl (by kernel_rfl) (by kernel_rfl) (by kernel_rfl) (fun _ _ _ h => h) (by rfl) ?_ hHeld ?_
            rotate_left 1
            · (intro wq hSw; go_simp; try with_reducible rfl)
            (try simp only [Act.put, List.setIfInBounds_toArray, List.set_cons_zero, List.set_cons_succ])
            refine held_take (i := 5) (v := ?_) (some 95) rfl rfl (by kernel_rfl) (by kernel_rfl) (by kernel_rfl) (fun _ _ _ h => h) (by rfl) ?_ hHeld ?_
            rotate_left 1
            · (intro wq hSw; go_simp; try with_reducible rfl)
            (try simp only [Act.put, List.setIfInBounds_toArray, List.set_cons_zero, List.set_cons_succ])
            refine held_take (i := 6) (v := ?_) (some 96) rfl rfl (by kernel_rfl) (by kernel_rfl) (by kernel_rfl) (fun _ _ _ h => h) (by rfl) ?_ hHeld ?_
            rotate_left 1
            · (intro wq hSw; go_simp; try with_reducible rfl)
            (try simp only [Act.put, List.setIfInBounds_toArray, List.set_cons_zero, List.set_cons_succ])
            refine wpAnyH_ready (rs := [7]) (by kernel_rfl) (by simp) ?_
            refine AllReadyH.cons rfl (fun K hK => ?_) AllReadyH.nil
            go_simp
            refine hK.out _ _ hHeld (fun hHeld => ?_)
            clear hK K
            (try simp only [Act.put, List.setIfInBounds_toArray, List.set_cons_zero, List.set_cons_succ])
            refine held_take (i := 8) (v := ?_) (some 98) rfl rfl (by kernel_rfl) (by kernel_rfl) (by kernel_rfl) (fun _ _ _ h => h) (by rfl) ?_ hHeld ?_
            rotate_left 1
            · (intro wq hSw; go_simp; try with_reducible rfl)
            (try simp only [Act.put, List.setIfInBounds_toArray, List.set_cons_zero, List.set_cons_succ])
            refine held_skip (i := 9) (some 99) rfl rfl (by kernel_rfl) (by kernel_rfl) (by kernel_rfl) (fun _ _ _ h => h) (by rfl) hHeld ?_
            (try simp only [Act.put, List.setIfInBounds_toArray, List.set_cons_zero, List.set_cons_succ])
            refine held_skip (i := 10) (some 100) rfl rfl (by kernel_rfl) (by kernel_rfl) (by kernel_rfl) (fun _ _ _ h => h) (by rfl) hHeld ?_
            (try simp only [Act.put, List.setIfInBounds_toArray, List.set_cons_zero, List.set_cons_succ])
            refine held_skip (i := 11) (some 101) rfl rfl (by kernel_rfl) (by kernel_rfl) (by kernel_rfl) (fun _ _ _ h => h) (by rfl) hHeld ?_
            (try simp only [Act.put, List.setIfInBounds_toArray, List.set_cons_zero, List.set_cons_succ])
            refine held_skip (i := 12) (some 102) rfl rfl (by kernel_rfl) (by kernel_rfl) (by kernel_rfl) (fun _ _ _ h => h) (by rfl) hHeld ?_
            (try simp only [Act.put, List.setIfInBounds_toArray, List.set_cons_zero, List.set_cons_succ])
            refine held_skip (i := 13) (some 103) rfl rfl (by kernel_rfl) (by kernel_rfl) (by kernel_rfl) (fun _ _ _ h => h) (by rfl) hHeld ?_
            (try simp only [Act.put, List.setIfInBounds_toArray, List.set_cons_zero, List.set_cons_succ])
            refine held_skip (i := 14) (some 104) rfl rfl (by kernel_rfl) (by kernel_rfl) (by kernel_rfl) (fun _ _ _ h => h) (by rfl) hHeld ?_
            (try simp only [Act.put, List.setIfInBounds_toArray, List.set_cons_zero, List.set_cons_succ])
            refine held_skip (i := 15) (some 105) rfl rfl (by kernel_rfl) (by kernel_rfl) (by kernel_rfl) (fun _ _ _ h => h) (by rfl) hHeld ?_
            (try simp only [Act.put, List.setIfInBounds_toArray, List.set_cons_zero, List.set_cons_succ])
            refine held_skip (i := 16) (some 106) rfl rfl (by kernel_rfl) (by kernel_rfl) (by kernel_rfl) (fun _ _ _ h => h) (by rfl) hHeld ?_
            (try simp only [Act.put, List.setIfInBounds_toArray, List.set_cons_zero, List.set_cons_succ])
            refine held_skip (i := 17) (some 107) rfl rfl (by kernel_rfl) (by kernel_rfl) (by kernel_rfl) (fun _ _ _ h => h) (by rfl) hHeld ?_
            (try simp only [Act.put, List.setIfInBounds_toArray, List.set_cons_zero, List.set_cons_succ])
            refine held_skip (i := 18) (some 108) rfl rfl (by kernel_rfl) (by kernel_rfl) (by kernel_rfl) (fun _ _ _ h => h) (by rfl) hHeld ?_
            (try simp only [Act.put, List.setIfInBounds_toArray, List.set_cons_zero, List.set_cons_succ])
            refine held_skip (i := 19) (some 109) rfl rfl (by kernel_rfl) (by kernel_rfl) (by kernel_rfl) (fun _ _ _ h => h) (by rfl) hHeld ?_
            (try simp only [Act.put, List.setIfInBounds_toArray, List.set_cons_zero, List.set_cons_succ])
            refine held_skip (i := 20) (some 110) rfl rfl (by kernel_rfl) (by kernel_rfl) (by kernel_rfl) (fun _ _ _ h => h) (by rfl) hHeld ?_
            (try simp only [Act.put, List.setIfInBounds_toArray, List.set_cons_zero, List.set_cons_succ])
            refine held_skip (i := 21) (some 111) rfl rfl (by kernel_rfl) (by kernel_rfl) (by kernel_rfl) (fun _ _ _ h => h) (by rfl) hHeld ?_
            (try simp only [Act.put, List.setIfInBounds_toArray, List.set_cons_zero, List.set_cons_succ])
            refine held_skip (i := 22) (some 112) rfl rfl (by kernel_rfl) (by kernel_rfl) (by kernel_rfl) (fun _ _ _ h => h) (by rfl) hHeld ?_
            (try simp only [Act.put, List.setIfInBounds_toArray, List.set_cons_zero, List.set_cons_succ])
            refine held_skip (i := 23) (some 113) rfl rfl (by kernel_rfl) (by kernel_rfl) (by kernel_rfl) (fun _ _ _ h => h) (by rfl) hHeld ?_
            (try simp only [Act.put, List.setIfInBounds_toArray, List.set_cons_zero, List.set_cons_succ])
            refine held_skip (i := 24) (some 114) rfl rfl (by kernel_rfl) (by kernel_rfl) (by kernel_rfl) (fun _ _ _ h => h) (by rfl) hHeld ?_
            (try simp only [Act.put, List.setIfInBounds_toArray, List.set_cons_zero, List.set_cons_succ])
            refine held_skip (i := 25) (some 115) rfl rfl (by kernel_rfl) (by kernel_rfl) (by kernel_rfl) (fun _ _ _ h => h) (by rfl) hHeld ?_
            (try simp only [Act.put, List.setIfInBounds_toArray, List.set_cons_zero, List.set_cons_succ])
            refine held_take (i := 26) (v := ?_) (some 116) rfl rfl (by kernel_rfl) (by kernel_rfl) (by kernel_rfl) (fun _ _ _ h => h) (by rfl) ?_ hHeld ?_
            rotate_left 1
            · (intro wq hSw; go_simp; try with_reducible rfl)
            (try simp only [Act.put, List.setIfInBounds_toArray, List.set_cons_zero, List.set_cons_succ])
            refine held_take (i := 27) (v := ?_) (some 117) rfl rfl (by kernel_rfl) (by kernel_rfl) (by kernel_rfl) (fun _ _ _ h => h) (by rfl) ?_ hHeld ?_
            rotate_left 1
            · (intro wq hSw; go_simp; try with_reducible rfl)
            (try simp only [Act.put, List.setIfInBounds_toArray, List.set_cons_zero, List.set_cons_succ])
            refine wpAnyH_ready (rs := [28]) (by kernel_rfl) (by simp) ?_
            refine AllReadyH.cons rfl (fun K hK => ?_) AllReadyH.nil
            go_simp
            refine hK.out _ _ HSN.out (fun hHeld => ?_)
            clear hK K
            refine wpAnyH_done (by kernel_rfl) ?_ _
            go_wp2_with fail
            exact ⟨⟨j + 1, by omega, by go_num, HN⟩, by simp [intOf]; omega⟩
        | false =>
          rw [hj0] at z4 HSN HN
          rw [Bool.false_or] at HSN HN
          by_cases e1 : pb = rp
          · as_aux_lemma =>
              obtain ⟨vv, HVV⟩ : ∃ vv, Hid ((cb == ca + co) = vv) := ⟨_, rfl⟩
              have g1 : (pb == rp) = true := by simp [e1]
              have ev : vb = vv := by rw [HVV0.out, decide_eq_true e1, Bool.true_and, ← HVV.out]; rfl
              subst ev
              refine wp_region_held_drew (S := fun W => (W.cell? ⟨B, 0, none⟩ = some (.int .i64 na) ∧ W.cell? ⟨B, 1, none⟩ = some (.int .i64 pa) ∧ W.cell? ⟨B, 2, none⟩ = some (.int .i64 nb) ∧ W.cell? ⟨B, 3, none⟩ = some (.int .i64 pb) ∧ W.cell? ⟨B, 4, none⟩ = some (.int .i64 co)) ∧ W.cell? ⟨P, nb * 7 + 4, none⟩ = some (.int .i64 rp)) (by kernel_rfl) HSD.out (fun hHeld => ?_)
              refine held_take (i := 0) (v := ?_) (some 90) rfl rfl (by kernel_rfl) (by kernel_rfl) (by kernel_rfl) (fun _ _ _ h => h) (by rfl) ?_ hHeld ?_
              rotate_left 1
              · (intro wq hSw; go_simp; try with_reducible rfl)
              (try simp only [Act.put, List.setIfInBounds_toArray, List.set_cons_zero, List.set_cons_succ])
              refine held_take (i := 1) (v := ?_) (some 91) rfl rfl (by kernel_rfl) (by kernel_rfl) (by kernel_rfl) (fun _ _ _ h => h) (by rfl) ?_ hHeld ?_
              rotate_left 1
              · (intro wq hSw; go_simp; try with_reducible rfl)
              (try simp only [Act.put, List.setIfInBounds_toArray, List.set_cons_zero, List.set_cons_succ])
              refine held_take (i := 2) (v := ?_) (some 92) rfl rfl (by kernel_rfl) (by kernel_rfl) (by kernel_rfl) (fun _ _ _ h => h) (by rfl) ?_ hHeld ?_
              rotate_left 1
              · (intro wq hSw; go_simp; try with_reducible rfl)
              (try simp only [Act.put, List.setIfInBounds_toArray, List.set_cons_zero, List.set_cons_succ])
              refine held_take (i := 3) (v := ?_) (some 93) rfl rfl (by kernel_rfl) (by kernel_rfl) (by kernel_rfl) (fun _ _ _ h => h) (by rfl) ?_ hHeld ?_
              rotate_left 1
              · (intro wq hSw; go_simp; try with_reducible rfl)
              (try simp only [Act.put, List.setIfInBounds_toArray, List.set_cons_zero, List.set_cons_succ])
              refine held_take (i := 4) (v := ?_) (some 94) rfl rfl (by kernel_rfl) (by kernel_rfl) (by kernel_rfl) (fun _ _ _ h => h) (by rfl) ?_ hHeld ?_
              rotate_left 1
              · (intro wq hSw; go_simp; try with_reducible rfl)
              (try simp only [Act.put, List.setIfInBounds_toArray, List.set_cons_zero, List.set_cons_succ])
              refine held_take (i := 5) (v := ?_) (some 95) rfl rfl (by kernel_rfl) (by kernel_rfl) (by kernel_rfl) (fun _ _ _ h => h) (by rfl) ?_ hHeld ?_
              rotate_left 1
              · (intro wq hSw; go_simp; try with_reducible rfl)
              (try simp only [Act.put, List.setIfInBounds_toArray, List.set_cons_zero, List.set_cons_succ])
              refine held_take (i := 6) (v := ?_) (some 96) rfl rfl (by kernel_rfl) (by kernel_rfl) (by kernel_rfl) (fun _ _ _ h => h) (by rfl) ?_ hHeld ?_
              rotate_left 1
              · (intro wq hSw; go_simp; try with_reducible rfl)
              (try simp only [Act.put, List.setIfInBounds_toArray, List.set_cons_zero, List.set_cons_succ])
              refine wpAnyH_ready (rs := [7]) (by kernel_rfl) (by simp) ?_
              refine AllReadyH.cons rfl (fun K hK => ?_) AllReadyH.nil
              go_simp
              refine hK.out _ _ hHeld (fun hHeld => ?_)
              clear hK K
              (try simp only [Act.put, List.setIfInBounds_toArray, List.set_cons_zero, List.set_cons_succ])
              refine held_take (i := 8) (v := ?_) (some 98) rfl rfl (by kernel_rfl) (by kernel_rfl) (by kernel_rfl) (fun _ _ _ h => h) (by rfl) ?_ hHeld ?_
              rotate_left 1
              · (intro wq hSw; go_simp; try with_reducible rfl)
              (try simp only [Act.put, List.setIfInBounds_toArray, List.set_cons_zero, List.set_cons_succ])
              refine held_take (i := 9) (v := ?_) (some 99) rfl rfl (by kernel_rfl) (by kernel_rfl) (by kernel_rfl) (fun _ _ _ h => h) (by rfl) ?_ hHeld ?_
              rotate_left 1
              · (intro wq hSw; go_simp; try with_reducible rfl)
              (try simp only [Act.put, List.setIfInBounds_toArray, List.set_cons_zero, List.set_cons_succ])
              refine held_take (i := 10) (v := ?_) (some 100) rfl rfl (by kernel_rfl) (by kernel_rfl) (by kernel_rfl) (fun _ _ _ h => h) (by rfl) ?_ hHeld ?_
              rotate_left 1
              · (intro wq hSw; go_simp; try with_reducible rfl)
              (try simp only [Act.put, List.setIfInBounds_toArray, List.set_cons_zero, List.set_cons_succ])
              refine held_take (i := 11) (v := ?_) (some 101) rfl rfl (by kernel_rfl) (by kernel_rfl) (by kernel_rfl) (fun _ _ _ h => h) (by rfl) ?_ hHeld ?_
              rotate_left 1
              · (intro wq hSw; go_simp; try with_reducible rfl)
              (try simp only [Act.put, List.setIfInBounds_toArray, List.set_cons_zero, List.set_cons_succ])
              refine held_take (i := 12) (v := ?_) (some 102) rfl rfl (by kernel_rfl) (by kernel_rfl) (by kernel_rfl) (fun _ _ _ h => h) (by rfl) ?_ hHeld ?_
              rotate_left 1
              · (intro wq hSw; go_simp; try with_reducible rfl)
              (try simp only [Act.put, List.setIfInBounds_toArray, List.set_cons_zero, List.set_cons_succ])
              refine held_take (i := 13) (v := ?_) (some 103) rfl rfl (by kernel_rfl) (by kernel_rfl) (by kernel_rfl) (fun _ _ _ h => h) (by rfl) ?_ hHeld ?_
              rotate_left 1
              · (intro wq hSw; go_simp; try with_reducible rfl)
              (try simp only [Act.put, List.setIfInBounds_toArray, List.set_cons_zero, List.set_cons_succ])
              refine held_take (i := 14) (v := ?_) (some 104) rfl rfl (by kernel_rfl) (by kernel_rfl) (by kernel_rfl) (fun _ _ _ h => h) (by rfl) ?_ hHeld ?_
              rotate_left 1
              · (intro wq hSw; go_simp; try with_reducible rfl)
              (try simp only [Act.put, List.setIfInBounds_toArray, List.set_cons_zero, List.set_cons_succ])
              refine held_take (i := 15) (v := ?_) (some 105) rfl rfl (by kernel_rfl) (by kernel_rfl) (by kernel_rfl) (fun _ _ _ h => h) (by rfl) ?_ hHeld ?_
              rotate_left 1
              · (intro wq hSw; go_simp; try with_reducible rfl)
              (try simp only [Act.put, List.setIfInBounds_toArray, List.set_cons_zero, List.set_cons_succ])
              refine held_take (i := 16) (v := ?_) (some 106) rfl rfl (by kernel_rfl) (by kernel_rfl) (by kernel_rfl) (fun _ _ _ h => h) (by rfl) ?_ hHeld ?_
              rotate_left 1
              · (intro wq hSw; go_simp; try with_reducible rfl)
              (try simp only [Act.put, List.setIfInBounds_toArray, List.set_cons_zero, List.set_cons_succ])
              refine held_take (i := 17) (v := .bool true) (some 107) rfl rfl (by kernel_rfl) (by kernel_rfl) (by kernel_rfl) (fun _ _ _ h => h) (by rfl) ?_ hHeld ?_
              · (intro wq hSw; go_simp; first | done | (simp [g1]; done))
              (try simp only [Act.put, List.setIfInBounds_toArray, List.set_cons_zero, List.set_cons_succ])
              refine held_take (i := 18) (v := ?_) (some 108) rfl rfl (by kernel_rfl) (by kernel_rfl) (by kernel_rfl) (fun _ _ _ h => h) (by rfl) ?_ hHeld ?_
              rotate_left 1
              · (intro wq hSw; go_simp; try with_reducible rfl)
              (try simp only [Act.put, List.setIfInBounds_toArray, List.set_cons_zero, List.set_cons_succ])
              refine held_take (i := 19) (v := ?_) (some 109) rfl rfl (by kernel_rfl) (by kernel_rfl) (by kernel_rfl) (fun _ _ _ h => h) (by rfl) ?_ hHeld ?_
              rotate_left 1
              · (intro wq hSw; go_simp; try with_reducible rfl)
              (try simp only [Act.put, List.setIfInBounds_toArray, List.set_cons_zero, List.set_cons_succ])
              refine held_take (i := 20) (v := ?_) (some 110) rfl rfl (by kernel_rfl) (by kernel_rfl) (by kernel_rfl) (fun _ _ _ h => h) (by rfl) ?_ hHeld ?_
              rotate_left 1
              · (intro wq hSw; go_simp; try with_reducible rfl)
              (try simp only [Act.put, List.setIfInBounds_toArray, List.set_cons_zero, List.set_cons_succ])
              refine held_take (i := 21) (v := ?_) (some 111) rfl rfl (by kernel_rfl) (by kernel_rfl) (by kernel_rfl) (fun _ _ _ h => h) (by rfl) ?_ hHeld ?_
              rotate_left 1
              · (intro wq hSw; go_simp; try with_reducible rfl)
              (try simp only [Act.put, List.setIfInBounds_toArray, List.set_cons_zero, List.set_cons_succ])
              refine held_take (i := 22) (v := ?_) (some 112) rfl rfl (by kernel_rfl) (by kernel_rfl) (by kernel_rfl) (fun _ _ _ h => h) (by rfl) ?_ hHeld ?_
              rotate_left 1
              · (intro wq hSw; go_simp; try with_reducible rfl)
              (try simp only [Act.put, List.setIfInBounds_toArray, List.set_cons_zero, List.set_cons_succ])
              refine held_take (i := 23) (v := ?_) (some 113) rfl rfl (by kernel_rfl) (by kernel_rfl) (by kernel_rfl) (fun _ _ _ h => h) (by rfl) ?_ hHeld ?_
              rotate_left 1
              · (intro wq hSw; go_simp; try with_reducible rfl)
              (try simp only [Act.put, List.setIfInBounds_toArray, List.set_cons_zero, List.set_cons_succ])
              refine held_take (i := 24) (v := .bool vb) (some 114) rfl rfl (by kernel_rfl) (by kernel_rfl) (by kernel_rfl) (fun _ _ _ h => h) (by rfl) ?_ hHeld ?_
              · (intro wq hSw; go_simp; first | done | (simp [HVV.out]; done))
              (try simp only [Act.put, List.setIfInBounds_toArray, List.set_cons_zero, List.set_cons_succ])
              refine held_take (i := 25) (v := ?_) (some 115) rfl rfl (by kernel_rfl) (by kernel_rfl) (by kernel_rfl) (fun _ _ _ h => h) (by rfl) ?_ hHeld ?_
              rotate_left 1
              · (intro wq hSw; go_simp; try with_reducible rfl)
              (try simp only [Act.put, List.setIfInBounds_toArray, List.set_cons_zero, List.set_cons_succ])
              refine held_take (i := 26) (v := ?_) (some 116) rfl rfl (by kernel_rfl) (by kernel_rfl) (by kernel_rfl) (fun _ _ _ h => h) (by rfl) ?_ hHeld ?_
              rotate_left 1
              · (intro wq hSw; go_simp; try with_reducible rfl)
              (try simp only [Act.put, List.setIfInBounds_toArray, List.set_cons_zero, List.set_cons_succ])
              refine held_take (i := 27) (v := ?_) (some 117) rfl rfl (by kernel_rfl) (by kernel_rfl) (by kernel_rfl) (fun _ _ _ h => h) (by rfl) ?_ hHeld ?_
              rotate_left 1
              · (intro wq hSw; go_simp; try with_reducible rfl)
              (try simp only [Act.put, List.setIfInBounds_toArray, List.set_cons_zero, List.set_cons_succ])
              refine wpAnyH_ready (rs := [28]) (by kernel_rfl) (by simp) ?_
              refine AllReadyH.cons rfl (fun K hK => ?_) AllReadyH.nil
              go_simp
              refine hK.out _ _ HSN.out (fun hHeld => ?_)
              clear hK K
              refine wpAnyH_done (by kernel_rfl) ?_ _
              go_wp2_with fail
              exact ⟨⟨j + 1, by omega, by go_num, HN⟩, by simp [intOf]; omega⟩
          · as_aux_lemma =>
              have g1 : (pb == rp) = false := by simp [e1]
              have ev : vb = false := by rw [HVV0.out, decide_eq_false e1, Bool.false_and]
              subst ev
              refine wp_region_held_drew (S := fun W => (W.cell? ⟨B, 0, none⟩ = some (.int .i64 na) ∧ W.cell? ⟨B, 1, none⟩ = some (.int .i64 pa) ∧ W.cell? ⟨B, 2, none⟩ = some (.int .i64 nb) ∧ W.cell? ⟨B, 3, none⟩ = some (.int .i64 pb) ∧ W.cell? ⟨B, 4, none⟩ = some (.int .i64 co)) ∧ W.cell? ⟨P, nb * 7 + 4, none⟩ = some (.int .i64 rp)) (by kernel_rfl) HSD.out (fun hHeld => ?_)
              refine held_take (i := 0) (v := ?_) (some 90) rfl rfl (by kernel_rfl) (by kernel_rfl) (by kernel_rfl) (fun _ _ _ h => h) (by rfl) ?_ hHeld ?_
              rotate_left 1
              · (intro wq hSw; go_simp; try with_reducible rfl)
              (try simp only [Act.put, List.setIfInBounds_toArray, List.set_cons_zero, List.set_cons_succ])
              refine held_take (i := 1) (v := ?_) (some 91) rfl rfl (by kernel_rfl) (by kernel_rfl) (by kernel_rfl) (fun _ _ _ h => h) (by rfl) ?_ hHeld ?_
              rotate_left 1
              · (intro wq hSw; go_simp; try with_reducible rfl)
              (try simp only [Act.put, List.setIfInBounds_toArray, List.set_cons_zero, List.set_cons_succ])
              refine held_take (i := 2) (v := ?_) (some 92) rfl rfl (by kernel_rfl) (by kernel_rfl) (by kernel_rfl) (fun _ _ _ h => h) (by rfl) ?_ hHeld ?_
              rotate_left 1
              · (intro wq hSw; go_simp; try with_reducible rfl)
              (try simp only [Act.put, List.setIfInBounds_toArray, List.set_cons_zero, List.set_cons_succ])
              refine held_take (i := 3) (v := ?_) (some 93) rfl rfl (by kernel_rfl) (by kernel_rfl) (by kernel_rfl) (fun _ _ _ h => h) (by rfl) ?_ hHeld ?_
              rotate_left 1
              · (intro wq hSw; go_simp; try with_reducible rfl)
              (try simp only [Act.put, List.setIfInBounds_toArray, List.set_cons_zero, List.set_cons_succ])
              refine held_take (i := 4) (v := ?_) (some 94) rfl rfl (by kernel_rfl) (by kernel_rfl) (by kernel_rfl) (fun _ _ _ h => h) (by rfl) ?_ hHeld ?_
              rotate_left 1
              · (intro wq hSw; go_simp; try with_reducible rfl)
              (try simp only [Act.put, List.setIfInBounds_toArray, List.set_cons_zero, List.set_cons_succ])
              refine held_take (i := 5) (v := ?_) (some 95) rfl rfl (by kernel_rfl) (by kernel_rfl) (by kernel_rfl) (fun _ _ _ h => h) (by rfl) ?_ hHeld ?_
              rotate_left 1
              · (intro wq hSw; go_simp; try with_reducible rfl)
              (try simp only [Act.put, List.setIfInBounds_toArray, List.set_cons_zero, List.set_cons_succ])
              refine held_take (i := 6) (v := ?_) (some 96) rfl rfl (by kernel_rfl) (by kernel_rfl) (by kernel_rfl) (fun _ _ _ h => h) (by rfl) ?_ hHeld ?_
              rotate_left 1
              · (intro wq hSw; go_simp; try with_reducible rfl)
              (try simp only [Act.put, List.setIfInBounds_toArray, List.set_cons_zero, List.set_cons_succ])
              refine wpAnyH_ready (rs := [7]) (by kernel_rfl) (by simp) ?_
              refine AllReadyH.cons rfl (fun K hK => ?_) AllReadyH.nil
              go_simp
              refine hK.out _ _ hHeld (fun hHeld => ?_)
              clear hK K
              (try simp only [Act.put, List.setIfInBounds_toArray, List.set_cons_zero, List.set_cons_succ])
              refine held_take (i := 8) (v := ?_) (some 98) rfl rfl (by kernel_rfl) (by kernel_rfl) (by kernel_rfl) (fun _ _ _ h => h) (by rfl) ?_ hHeld ?_
              rotate_left 1
              · (intro wq hSw; go_simp; try with_reducible rfl)
              (try simp only [Act.put, List.setIfInBounds_toArray, List.set_cons_zero, List.set_cons_succ])
              refine held_take (i := 9) (v := ?_) (some 99) rfl rfl (by kernel_rfl) (by kernel_rfl) (by kernel_rfl) (fun _ _ _ h => h) (by rfl) ?_ hHeld ?_
              rotate_left 1
              · (intro wq hSw; go_simp; try with_reducible rfl)
              (try simp only [Act.put, List.setIfInBounds_toArray, List.set_cons_zero, List.set_cons_succ])
              refine held_take (i := 10) (v := ?_) (some 100) rfl rfl (by kernel_rfl) (by kernel_rfl) (by kernel_rfl) (fun _ _ _ h => h) (by rfl) ?_ hHeld ?_
              rotate_left 1
              · (intro wq hSw; go_simp; try with_reducible rfl)
              (try simp only [Act.put, List.setIfInBounds_toArray, List.set_cons_zero, List.set_cons_succ])
              refine held_take (i := 11) (v := ?_) (some 101) rfl rfl (by kernel_rfl) (by kernel_rfl) (by kernel_rfl) (fun _ _ _ h => h) (by rfl) ?_ hHeld ?_
              rotate_left 1
              · (intro wq hSw; go_simp; try with_reducible rfl)
              (try simp only [Act.put, List.setIfInBounds_toArray, List.set_cons_zero, List.set_cons_succ])
              refine held_take (i := 12) (v := ?_) (some 102) rfl rfl (by kernel_rfl) (by kernel_rfl) (by kernel_rfl) (fun _ _ _ h => h) (by rfl) ?_ hHeld ?_
              rotate_left 1
              · (intro wq hSw; go_simp; try with_reducible rfl)
              (try simp only [Act.put, List.setIfInBounds_toArray, List.set_cons_zero, List.set_cons_succ])
              refine held_take (i := 13) (v := ?_) (some 103) rfl rfl (by kernel_rfl) (by kernel_rfl) (by kernel_rfl) (fun _ _ _ h => h) (by rfl) ?_ hHeld ?_
              rotate_left 1
              · (intro wq hSw; go_simp; try with_reducible rfl)
              (try simp only [Act.put, List.setIfInBounds_toArray, List.set_cons_zero, List.set_cons_succ])
              refine held_take (i := 14) (v := ?_) (some 104) rfl rfl (by kernel_rfl) (by kernel_rfl) (by kernel_rfl) (fun _ _ _ h => h) (by rfl) ?_ hHeld ?_
              rotate_left 1
              · (intro wq hSw; go_simp; try with_reducible rfl)
              (try simp only [Act.put, List.setIfInBounds_toArray, List.set_cons_zero, List.set_cons_succ])
              refine held_take (i := 15) (v := ?_) (some 105) rfl rfl (by kernel_rfl) (by kernel_rfl) (by kernel_rfl) (fun _ _ _ h => h) (by rfl) ?_ hHeld ?_
              rotate_left 1
              · (intro wq hSw; go_simp; try with_reducible rfl)
              (try simp only [Act.put, List.setIfInBounds_toArray, List.set_cons_zero, List.set_cons_succ])
              refine held_take (i := 16) (v := ?_) (some 106) rfl rfl (by kernel_rfl) (by kernel_rfl) (by kernel_rfl) (fun _ _ _ h => h) (by rfl) ?_ hHeld ?_
              rotate_left 1
              · (intro wq hSw; go_simp; try with_reducible rfl)
              (try simp only [Act.put, List.setIfInBounds_toArray, List.set_cons_zero, List.set_cons_succ])
              refine held_take (i := 17) (v := .bool false) (some 107) rfl rfl (by kernel_rfl) (by kernel_rfl) (by kernel_rfl) (fun _ _ _ h => h) (by rfl) ?_ hHeld ?_
              · (intro wq hSw; go_simp; first | done | (simp [g1]; done))
              (try simp only [Act.put, List.setIfInBounds_toArray, List.set_cons_zero, List.set_cons_succ])
              refine held_take (i := 18) (v := ?_) (some 108) rfl rfl (by kernel_rfl) (by kernel_rfl) (by kernel_rfl) (fun _ _ _ h => h) (by rfl) ?_ hHeld ?_
              rotate_left 1
              · (intro wq hSw; go_simp; try with_reducible rfl)
              (try simp only [Act.put, List.setIfInBounds_toArray, List.set_cons_zero, List.set_cons_succ])
              refine held_skip (i := 19) (some 109) rfl rfl (by kernel_rfl) (by kernel_rfl) (by kernel_rfl) (fun _ _ _ h => h) (by rfl) hHeld ?_
              (try simp only [Act.put, List.setIfInBounds_toArray, List.set_cons_zero, List.set_cons_succ])
              refine held_skip (i := 20) (some 110) rfl rfl (by kernel_rfl) (by kernel_rfl) (by kernel_rfl) (fun _ _ _ h => h) (by rfl) hHeld ?_
              (try simp only [Act.put, List.setIfInBounds_toArray, List.set_cons_zero, List.set_cons_succ])
              refine held_skip (i := 21) (some 111) rfl rfl (by kernel_rfl) (by kernel_rfl) (by kernel_rfl) (fun _ _ _ h => h) (by rfl) hHeld ?_
              (try simp only [Act.put, List.setIfInBounds_toArray, List.set_cons_zero, List.set_cons_succ])
              refine held_skip (i := 22) (some 112) rfl rfl (by kernel_rfl) (by kernel_rfl) (by kernel_rfl) (fun _ _ _ h => h) (by rfl) hHeld ?_
              (try simp only [Act.put, List.setIfInBounds_toArray, List.set_cons_zero, List.set_cons_succ])
              refine held_skip (i := 23) (some 113) rfl rfl (by kernel_rfl) (by kernel_rfl) (by kernel_rfl) (fun _ _ _ h => h) (by rfl) hHeld ?_
              (try simp only [Act.put, List.setIfInBounds_toArray, List.set_cons_zero, List.set_cons_succ])
              refine held_skip (i := 24) (some 114) rfl rfl (by kernel_rfl) (by kernel_rfl) (by kernel_rfl) (fun _ _ _ h => h) (by rfl) hHeld ?_
              (try simp only [Act.put, List.setIfInBounds_toArray, List.set_cons_zero, List.set_cons_succ])
              refine held_take (i := 25) (v := ?_) (some 115) rfl rfl (by kernel_rfl) (by kernel_rfl) (by kernel_rfl) (fun _ _ _ h => h) (by rfl) ?_ hHeld ?_
              rotate_left 1
              · (intro wq hSw; go_simp; try with_reducible rfl)
              (try simp only [Act.put, List.setIfInBounds_toArray, List.set_cons_zero, List.set_cons_succ])
              refine held_take (i := 26) (v := ?_) (some 116) rfl rfl (by kernel_rfl) (by kernel_rfl) (by kernel_rfl) (fun _ _ _ h => h) (by rfl) ?_ hHeld ?_
              rotate_left 1
              · (intro wq hSw; go_simp; try with_reducible rfl)
              (try simp only [Act.put, List.setIfInBounds_toArray, List.set_cons_zero, List.set_cons_succ])
              refine held_take (i := 27) (v := ?_) (some 117) rfl rfl (by kernel_rfl) (by kernel_rfl) (by kernel_rfl) (fun _ _ _ h => h) (by rfl) ?_ hHeld ?_
              rotate_left 1
              · (intro wq hSw; go_simp; try with_reducible rfl)
              (try simp only [Act.put, List.setIfInBounds_toArray, List.set_cons_zero, List.set_cons_succ])
              refine wpAnyH_ready (rs := [28]) (by kernel_rfl) (by simp) ?_
              refine AllReadyH.cons rfl (fun K hK => ?_) AllReadyH.nil
              go_simp
              refine hK.out _ _ HSN.out (fun hHeld => ?_)
              clear hK K
              refine wpAnyH_done (by kernel_rfl) ?_ _
              go_wp2_with fail
              exact ⟨⟨j + 1, by omega, by go_num, HN⟩, by simp [intOf]; omega⟩
      · have hnk : ¬ (j : Int) < (n.lvs.length : Int) := by omega
        have hjL : j = n.lvs.length := by omega
        rw [hjL] at hW
        obtain ⟨hg4, hJ4⟩ := hW.out
        obtain ⟨f0, _, hlow⟩ := HS.out wr hg4
        have HFJ : Hid (∀ i, i < n.K → 0 ≤ (x i).rp → jst x n.ls (LN n.lvs) n.lvs.length i = true) := fun i hi hp => far_just HR.out tree HXX.out hi hp
        have HJ4 : Hid (JAt wr G n.K (jst x n.ls (LN n.lvs) n.lvs.length)) := hJ4
        have HF4 : Hid (FiveAt wr P n.K x) := f0
        have HLW : Hid (Below w.heap.size w wr) := hlow
        obtain ⟨w4, hw4⟩ : ∃ w4, w4 = wr := ⟨_, rfl⟩
        subst hw4
        clear hW hg4 hJ4 f0 hlow HS HR
        go_wp2_with fail
        go_loopw [121] (fun q wr => ∃ i : Nat, i ≤ n.K ∧ q = .int .i64 i ∧ wr = w4) (fun q _ => n.K - (intOf q).toNat)
        case atStart => exact ⟨0, by omega, rfl, rfl⟩
        case round =>
          obtain ⟨i, hi, rfl, rfl⟩ := hrel
          by_cases hik : i < n.K
          · have y0 := (HF4.out i hik).2.2
            have y1 := HJ4.out.cell hik
            have hj := HFJ.out i hik
            have i0 : (0 : Int) ≤ (i : Int) := by omega
            have i1 : (i : Int) < (n.K : Int) := by omega
            clear HFJ HJ4 HF4 HXX HX
            generalize jst x n.ls (LN n.lvs) n.lvs.length i = ji at *
            generalize (x i).rp = rp at *
            by_cases hp : 0 ≤ rp
            · have hj1 := hj hp
              subst hj1
              go_wp2_with fail
              exact ⟨⟨i + 1, by omega, by go_num, by first | rfl | trivial⟩, by simp [intOf]; omega⟩
            · have hp2 : decide (0 ≤ rp) = false := decide_eq_false hp
              clear hj
              go_wp2_with fail
              exact ⟨⟨i + 1, by omega, by go_num, by first | rfl | trivial⟩, by simp [intOf]; omega⟩
          · have hnk2 : ¬ (i : Int) < (n.K : Int) := by omega
            go_wp2_with fail
            go_ret
            exact ⟨rfl, HLW.out⟩
end Go.Proofs.YtcbpafpaimpfnaaGreatDoor

namespace Go.Proofs.YtcbpafpaimpfnaaGreatDoor.planFar
open Go.ChangeShapes Go.WideShapes Go.ChangeAt Go.RowKit

set_option maxRecDepth 100000 in
theorem contract (H : Type) (enc : TypeId × Value → H) (W : World) (base : Nat) (args : Array Value) (ds gs : List (DataW H)) (before : List MemPlace)
    (hval : ∀ (j : Nat) t v, Tryz.f5.params[j]? = some t → args[j]? = some v → Value.okWide Tryz.prog W .any base t v)
    (hW : DataW.Whole enc Tryz.prog Tryz.f5.params.toList Rows.planFarSpec.vars false W args.toList ds gs before)
    (hsz : (DataW.weightsEach Tryz.prog (Tryz.f5.params.toList ++ (OpenSpec.ofChange Rows.planFarSpec).bare.plain.varTypes Tryz.prog) (ds ++ gs)).all (· ≤ reachBytes) = true)
    (hL : laidMetH Tryz.prog Rows.planFarRow.laid W) :
    Calls Tryz.prog 5 args W fun e W' => ∃ v, e = .returned v ∧ Rows.planFarSpec.post enc Tryz.prog Tryz.f5 false true false false W args v W' := by
  have hW' := hW
  obtain ⟨p, q, hA0, hV, rfl, hfz, hnd⟩ := hW
  have hA : DataW.TrodAll enc Tryz.prog W 0 (fun _ => true) true Tryz.f5.params.toList args.toList ds p := hA0
  rw [Tryz.params5] at hA hval hsz
  obtain ⟨v0, vs0, d0, ds0, p0, q0, hargs, rfl, rfl, h0, r0⟩ := trodAll_cons hA
  obtain ⟨v1, vs1, d1, ds1, p1, q1, rfl, rfl, rfl, h1, r1⟩ := trodAll_cons r0
  obtain ⟨rfl, rfl, rfl⟩ := trodAll_nil r1
  obtain rfl : args = #[v0, v1] := by cases args; simp_all
  obtain ⟨rfl, rfl⟩ := trodVars_none hV
  have lt0 : ∀ x ∈ p0, x.block < W.heap.size := by obtain ⟨m, hm⟩ := h0; exact DataW.trod_lt m _ _ _ hm
  obtain ⟨n0, rfl, hat0, hwf0, hz0⟩ := net_in (hval 0 25 v0 rfl rfl) h0
  have lt1 : ∀ x ∈ p1, x.block < W.heap.size := by obtain ⟨m, hm⟩ := h1; exact DataW.trod_lt m _ _ _ hm
  obtain ⟨z1, rfl⟩ := okWide_int Tryz.underlying3 (hval 1 3 v1 rfl rfl)
  have hall := hsz
  simp only [List.cons_append, DataW.weightsEach, List.all_append, Bool.and_eq_true] at hall
  have hm0 := hz0 hall.1
  unfold reachBytes at hm0
  have hT := tabs_of hL
  have hG : 2 ≤ W.heap.size := hT.lt
  clear hA0 hall hsz
  refine (pfar_any n0 z1 W hat0 hwf0 hT hG).mono fun e W' ⟨he, bel⟩ => ?_
  subst he
  exact ⟨_, rfl, _, _, _, [], _, [], hW', trodAll_mk1 (shut_bool Tryz.underlying4 _), (trodAll_cons_mk (Below.trod laidOut (by kernel_rfl) (of_decide_eq_true (by kernel_rfl)) h0 bel lt0) (trodAll_cons_mk (Below.trod laidOut (by kernel_rfl) (of_decide_eq_true (by kernel_rfl)) h1 bel lt1) trodAll_mk0)), rfl, bel.frame _, fun h => by cases h⟩

theorem laid_met (os : Os) : laidMet Tryz.prog Rows.planFarRow.laid ((laidW (World.holding Tryz.prog os ⟨#[], #[], []⟩)).forCall (fun _ _ => 0) ⟨#[], #[.agg #[.slice none 0 0, .slice none 0 0], .int .i64 0], []⟩).memory :=
  laidMet_of_run' 8 (by kernel_rfl) (by kernel_rfl)
theorem reads (os : Os) {H : Type} (enc : TypeId × Value → H) : ∃ places, DataW.whole enc Tryz.prog ((laidW (World.holding Tryz.prog os ⟨#[], #[], []⟩)).forCall (fun _ _ => 0) ⟨#[], #[.agg #[.slice none 0 0, .slice none 0 0], .int .i64 0], []⟩).memory Tryz.f5.params.toList Rows.planFarSpec.vars false #[Value.agg #[.slice none 0 0, .slice none 0 0], .int .i64 0].toList 8 = some ([.agg [.nil, .nil], .lit (.int .i64 0)], [], places) :=
  ⟨[], by kernel_rfl⟩

set_option maxRecDepth 100000 in
theorem lifted (os : Os) (started : os.Started) (H : Type) (enc : TypeId × Value → H) (F : Stop.Interp) :
    ReturnsInHanded {} Tryz.checked os 5 .any ((OpenSpec.ofChange Rows.planFarSpec).preRow enc Tryz.prog Tryz.f5 Rows.planFarRow.domain false Rows.planFarRow.laid) (((OpenSpec.ofChange Rows.planFarSpec).at F).post enc Tryz.prog Tryz.f5 false true false false) := by
  obtain ⟨places, hx⟩ := reads os enc
  refine returnsInHanded_of_row (C := Tryz.checked) (s := OpenSpec.ofChange Rows.planFarSpec) own started (by kernel_rfl) Tryz.func5
    (witness_row_at (enc := enc) (C := Tryz.checked) false (laidW (World.holding Tryz.prog os ⟨#[], #[], []⟩)) #[.agg #[.slice none 0 0, .slice none 0 0], .int .i64 0] rfl (by kernel_rfl) (by kernel_rfl) (by kernel_rfl)
      (OpenSpec.preRow_of_cond 8 hx (by kernel_rfl) (fun k hk => by cases hk) (by kernel_rfl) (laid_met os))) ?_
  intro W base args ds gs before hval hW _ _ hsz hL _ _
  exact contract H enc W base args ds gs before hval hW hsz hL

theorem said : Rows.PlanFarSaid :=
  OpenClaim.holds_of_cond 5 Tryz.f5 rfl rfl rfl rfl rfl rfl rfl ⟨rfl, rfl, rfl, rfl, rfl⟩ rfl rfl rfl rfl rfl (by kernel_rfl) Tryz.func5 (by kernel_rfl)
    (of_decide_eq_true (by kernel_rfl)) (by unfold Func.isWrapper; first | (rw [if_pos (by decide +kernel)]; kernel_rfl) | (rw [if_neg (by decide +kernel)]; exact ⟨rfl, rfl⟩))
    (fun os started H enc _ F => by rw [OpenClaim.pre_eq_preRow]; exact lifted os started H enc F)

theorem plain (f : FuncId) (fn : Func) (hf : Tryz.pinned.checked.prog.funcNamed "hedgerow/hedgelaw6.PlanFar" = some f) (hfn : Tryz.pinned.checked.prog.funcs[f]? = some fn) :
    false = Tryz.pinned.checked.prog.looks [] ∧ ∀ (j : Nat) t, fn.params[j]? = some t → Tryz.pinned.checked.prog.wantsStandIn t = false := by
  obtain rfl : f = 5 := Option.some.inj ((show Tryz.prog.funcNamed "hedgerow/hedgelaw6.PlanFar" = some 5 by kernel_rfl).symm.trans hf) |>.symm
  obtain rfl : fn = Tryz.f5 := (Option.some.inj (Tryz.func5.symm.trans hfn)).symm
  refine ⟨by kernel_rfl, fun j t ht => ?_⟩
  rw [Tryz.params5] at ht
  have h1 : Tryz.prog.wantsStandIn 25 = false := by kernel_rfl
  have h2 : Tryz.prog.wantsStandIn 3 = false := by kernel_rfl
  have ht2 : t = 25 ∨ t = 3 := by simpa using Array.mem_of_getElem? ht
  rcases ht2 with rfl | rfl
  · exact h1
  · exact h2

/-- ████ THE CARD ████ -/
theorem card : Rows.PlanFarCardSaid :=
  Claim7.holds_tied_plain_at .later [] _ _ _ _ said (fun _ h => by cases h) (by kernel_rfl) (fun _ h => by cases h) planFar_row_tie rfl ⟨rfl, rfl⟩ (by kernel_rfl) rfl plain (by kernel_rfl)
end Go.Proofs.YtcbpafpaimpfnaaGreatDoor.planFar
namespace Go.Proofs.YtcbpafpaimpfnaaGreatDoor
/-- NO WAY IS SHORTER: the statement, as it was given. -/
theorem planFar_card : Rows.PlanFarCardSaid := planFar.card
#print axioms planFar_card
end Go.Proofs.YtcbpafpaimpfnaaGreatDoor
