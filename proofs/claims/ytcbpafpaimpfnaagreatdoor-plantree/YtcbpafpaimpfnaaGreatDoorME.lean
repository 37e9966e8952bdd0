/- What the laws of plans ask: live links, as a list; identities are apart; places, cell by cell -/
import Derived.Test.YtcbpafpaimpfnaaGreatDoorMB
import Derived.Test.YtcbpafpaimpfnaaGreatDoorMC
import Derived.Test.YtcbpafpaimpfnaaGreatDoorMD
import Derived.Test.YtcbpafpaimpfnaaGreatDoorMA
import Derived.Laws.EntriesVeiled
import Derived.Deep.RegionHeld3
import Derived.Deep.DeepCutAuto
namespace Go.Proofs.YtcbpafpaimpfnaaGreatDoor
open Go.RowKit
open Pl (Br Net Pc Lk En St)

/-- A link is live. -/
def lvF (bs : Nat → Br) (ls : Nat → Lk) (k : Nat) : Bool := (ls k).up && decide (strOf 50 (bs (ls k).a.toNat).reg.id = strOf 50 (bs (ls k).b.toNat).reg.id)
theorem endsTo_few (ls : Nat → Lk) (lv : Nat → Bool) (i : Nat) : ∀ k, (Pl.endsTo ls lv i k).length ≤ 2 * k
  | 0 => by simp [Pl.endsTo]
  | k + 1 => by
    have := endsTo_few ls lv i k
    simp only [Pl.endsTo, List.length_append, Pl.endsAt]
    split <;> split <;> simp <;> omega
/-- Behind the first of a link's two ends. -/
def endsMid (ls : Nat → Lk) (lv : Nat → Bool) (k i : Nat) : List En := Pl.endsTo ls lv i k ++ if (ls k).a = (i : Int) then [⟨(ls k).pa, (ls k).cost, (ls k).b, (ls k).pb, lv k⟩] else []
theorem ends_next (ls : Nat → Lk) (lv : Nat → Bool) (k i : Nat) : Pl.endsTo ls lv i (k + 1) = endsMid ls lv k i ++ if (ls k).b = (i : Int) then [⟨(ls k).pb, (ls k).cost, (ls k).a, (ls k).pa, lv k⟩] else [] := by
  simp only [Pl.endsTo, Pl.endsAt, endsMid, List.append_assoc]
theorem bool_row {w : World} {g : Nat} {a0 a1 a2 a3 a4 a5 : Value} {ty : TypeId} (h : w.heap[g]? = some (.cells #[a0, a1, a2, a3, a4, a5] ty (0, 0))) : w.cell? ⟨g, 5, none⟩ = some a5 := cell_of_row w g 5 _ _ _ h
/-- The world in the midst of a round. -/
def MidW (w1 W : World) (G K B : Nat) (l : Lk) (L : Nat → List En) : Prop :=
  Below G w1 W ∧ W.heap[B]? = some (.cells (lkA l) 46 (0, 0)) ∧ B ≠ G ∧ ∃ v, EnAt W G K v L ∧ ∀ i, i < K → (v i).ownBlock ≠ some B
theorem EnAt.congr {w : World} {G K : Nat} {v : Nat → Value} {L M : Nat → List En} (h : EnAt w G K v L) (e : ∀ i, i < K → L i = M i) : EnAt w G K v M :=
  ⟨h.blk, fun i hi => by rw [← e i hi]; exact h.own i hi, h.apart⟩
theorem MidW.below {w1 Z W : World} {G K B : Nat} {l : Lk} {L : Nat → List En} (h : MidW w1 Z G K B l L) (hb : Below Z.heap.size Z W) : MidW w1 W G K B l L := by
  obtain ⟨h1, h2, h3, v, h4, h5⟩ := h
  have hG : G < Z.heap.size := (Array.getElem?_eq_some_iff.1 h4.blk).1
  exact ⟨h1.trans (hb.mono (Nat.le_of_lt hG)), keep h2 hb, h3, v, h4.below hb, h5⟩
theorem MidW.congr {w1 Z : World} {G K B : Nat} {l : Lk} {L M : Nat → List En} (h : MidW w1 Z G K B l L) (e : ∀ i, L i = M i) : MidW w1 Z G K B l M := by
  obtain ⟨h1, h2, h3, v, h4, h5⟩ := h
  exact ⟨h1, h2, h3, v, h4.congr (fun i _ => e i), h5⟩
/-- One end more, in the midst of a round: what the region wants, and what is left. -/
theorem mid_append {w1 Z : World} {G K B : Nat} {l : Lk} {L : Nat → List En} (h : MidW w1 Z G K B l L) (i : Nat) (hi : i < K) (e : En) (hlen : (L i).length ≤ 1000) :
    ∃ (x : Value) (vo : Option Addr) (vn vc : Nat) (w2 : World), (∀ W, Below Z.heap.size Z W → W.cell? ⟨G, i, none⟩ = some x ∧ W.heap[B]? = some (.cells (lkA l) 46 (0, 0))) ∧
      (Builtin.append_ #[79, 79] 79 #[x, .slice (some ⟨Z.heap.size, 0, none⟩) 1 1]).run Tryz.prog (Z.drew.alloc (.cells #[.int .i64 e.port, .int .i64 e.cost, .int .i64 e.other, .int .i64 e.oport, .bool e.live] 111)) = .ok (.slice vo vn vc) w2 ∧
      w2.cell? ⟨G, i, none⟩ = some x ∧ w2.frozen? ⟨G, i, none⟩ = false ∧ w2.heap[B]? = some (.cells (lkA l) 46 (0, 0)) ∧ (w2.setCell ⟨G, i, none⟩ (.slice vo vn vc)).heap[B]? = some (.cells (lkA l) 46 (0, 0)) ∧ ((w2.setCell ⟨G, i, none⟩ (.slice vo vn vc)).cell? ⟨G, i, none⟩).isSome = true ∧
      MidW w1 (w2.setCell ⟨G, i, none⟩ (.slice vo vn vc)) G K B l (fun j => L j ++ if j = i then [e] else []) := by
  obtain ⟨hB, hb, hBG, v, hE, hown⟩ := h
  obtain ⟨v', w2, r1, r2, r3, r4, r5, r6, r7, r8⟩ := en_append hE i hi e hlen
  have hBl : B < Z.heap.size := (Array.getElem?_eq_some_iff.1 hb).1
  have hw2 : w2.heap[B]? = some (.cells (lkA l) 46 (0, 0)) := (r7 B hBl (hown i hi)).trans hb
  have hw3 : (w2.setCell ⟨G, i, none⟩ v').heap[B]? = some (.cells (lkA l) 46 (0, 0)) := (heap_setCell_other _ _ _ _ (by exact hBG)).trans hw2
  have eC : (⟨G, i, none⟩ : Addr) = ⟨G, i * 1 + 0, none⟩ := by simp
  have hsl : ∃ vo vn vc, v' = .slice vo vn vc := by
    have := r4.own i hi
    simp only [if_true] at this
    obtain ⟨ao, cap, e1, _⟩ := owns_c (by omega) this
    exact ⟨ao, _, cap, e1⟩
  obtain ⟨vo, vn, vc, rfl⟩ := hsl
  refine ⟨v i, vo, vn, vc, w2, fun W hW => ⟨by rw [eC]; exact rowC_cell (keep hE.blk hW) hi (by omega), keep hb hW⟩, r1, r2, r3, hw2, hw3, ?_, hB.trans r5, hw3, hBG, _, r4.congr (fun j hj => ?_), fun j hj => ?_⟩
  · rw [eC, show (⟨G, i * 1 + 0, none⟩ : Addr) = ⟨G, i * 1 + 0, none⟩ from rfl, ← eC]
    have := rowC_cell r4.blk hi (show 0 < 1 by omega)
    rw [← eC] at this
    rw [this]; rfl
  · by_cases q : j = i
    · rw [if_pos q, if_pos q, q]
    · rw [if_neg q, if_neg q, List.append_nil]
  · by_cases q : j = i
    · simp only [if_pos q]
      rcases r6 with r6 | r6
      · rw [r6]; exact hown i hi
      · rw [r6]; intro p; injection p with p; omega
    · simp only [if_neg q]
      exact hown j hj
/-- What EndsAmong's answer keeps: the identities, and what tells whether there is such a bridge. -/
def AmongAt (w : World) (K : Nat) (bs : Nat → Br) (B1 B2 : Nat) : Prop :=
  ∃ IB vI, IdsAt w IB K bs vI K ∧ w.heap[B1]? = some (.cells #[.slice (some ⟨IB, 0, none⟩) K K] 92 (0, 0)) ∧ w.heap[B2]? = some (.cells #[.func (.func 52) #[] #[.pointer (some ⟨B1, 0, none⟩)]] 58 (0, 0))
theorem AmongAt.below {w w' : World} {K : Nat} {bs : Nat → Br} {B1 B2 : Nat} (h : AmongAt w K bs B1 B2) (hb : Below w.heap.size w w') : AmongAt w' K bs B1 B2 := by
  obtain ⟨IB, vI, h1, h2, h3⟩ := h
  exact ⟨IB, vI, h1.below hb, keep h2 hb, keep h3 hb⟩
set_option maxHeartbeats 400000 in
theorem pisb_any (i : Int) (B1 IB K : Nat) (w : World) (hK : K ≤ 12) (h : w.cell? ⟨B1, 0, none⟩ = some (.slice (some ⟨IB, 0, none⟩) K K)) :
    Calls Tryz.prog 52 #[.int .i64 i, .pointer (some ⟨B1, 0, none⟩)] w fun e w' => e = .returned (.bool (decide (0 ≤ i ∧ i ≤ (K : Int) - 1))) ∧ w' = w := by
  have HW : Hid (∀ W, Calls Tryz.prog 28 #[.int .i64 i, .int .i64 0, .int .i64 ((K : Int) - 1)] W fun e w' => e = .returned (.bool (decide (0 ≤ i ∧ i ≤ (K : Int) - 1))) ∧ w' = W) := fun W => gwithin_any _ _ _ W
  have wk : IntKind.i64.wrap ((K : Int) - 1) = (K : Int) - 1 := by rw [IntKind.wrap_i64]; omega
  generalize decide (0 ≤ i ∧ i ≤ (K : Int) - 1) = b at *
  go_enter Tryz.func52, Tryz.ntmps52
  go_wp2_with (go_at_call 28; refine (HW.out _).mono ?_; rintro e w1 ⟨rfl, rfl⟩)
  go_ret
  exact ⟨rfl, rfl⟩
set_option maxHeartbeats 1000000 in
theorem pamong_any (bao : Option Addr) (K bcap : Nat) (bs : Nat → Br) (w : World) (hK : K ≤ 12) (hbr : BRow w bao K bcap bs) (hbat : ∀ i, i < K → (bs i).at' w) (hf : ∀ i, i < K → (bs i).Fine) (ht : Tabs w) (hbt : 2 ≤ w.heap.size) :
    Calls Tryz.prog 29 #[.slice bao K bcap] w fun e w' => ∃ B1 B2, e = .returned (.func (.func 53) #[] #[.pointer (some ⟨B1, 0, none⟩), .pointer (some ⟨B2, 0, none⟩)]) ∧ AmongAt w' K bs B1 B2 ∧ Below w.heap.size w w' := by
  have HID : Hid (Calls Tryz.prog 51 #[.slice bao K bcap] w fun e w' => ∃ v, e = .returned (.slice (some ⟨w.heap.size, 0, none⟩) K K) ∧ IdsAt w' w.heap.size K bs v K ∧ Below w.heap.size w w') := pidents_any bao K bcap bs w hK hbr hbat hf ht hbt
  clear hbr hbat hf ht hbt
  go_enter Tryz.func29, Tryz.ntmps29
  go_wp2_with fail
  refine HID.out.mono ?_
  rintro e w1 ⟨v, rfl, hI, hb⟩
  obtain ⟨IB, HIB⟩ : ∃ IB, Hid (IB = w.heap.size) := ⟨_, rfl⟩
  rw [← HIB.out] at hI ⊢
  have HI : Hid (IdsAt w1 IB K bs v K) := hI
  have HB : Hid (Below w.heap.size w w1) := hb
  clear hI hb HID
  go_wp2_with fail
  go_ret
  refine ⟨w1.heap.size, w1.heap.size + 1, rfl, ⟨IB, v, HI.out.below (below_alloc2 _ _ _), ?_, ?_⟩, HB.out.trans ((below_alloc2 _ _ _).mono HB.out.size)⟩
  · exact heap_alloc2_old w1 _ _
  · exact heap_alloc2_new w1 _ _
set_option maxRecDepth 100000 in
set_option maxHeartbeats 60000000 in
theorem pends_any (K : Nat) (bs : Nat → Br) (B1 B2 : Nat) (lao : Option Addr) (L lcap : Nat) (ls : Nat → Lk) (w : World) (hK : K ≤ 12) (hL : L ≤ 40) (hA : AmongAt w K bs B1 B2) (hlk : LRow w lao L lcap ls) (R : Pl.RightL K L ls) :
    Calls Tryz.prog 53 #[.slice lao L lcap, .pointer (some ⟨B1, 0, none⟩), .pointer (some ⟨B2, 0, none⟩)] w fun e w' => ∃ G v, e = .returned (.slice (some ⟨G, 0, none⟩) K K) ∧ EndsOk w' G K v (fun i => Pl.ends ls (lvF bs ls) L i) ∧ w.heap.size ≤ G ∧ Below w.heap.size w w' := by
  obtain ⟨IB, vI, hI, hb1, hb2⟩ := hA
  have hcap := hlk.1
  have HR : Hid (Pl.RightL K L ls) := R
  have hmk : ∀ W : World, (Instr.makeSlice 69 (.int .i64 (K : Int)) (.int .i64 (K : Int))).run Tryz.prog W = .ok (.slice (some ⟨W.heap.size, 0, none⟩) K K) (W.alloc (.cells (rowC K 1 (fun _ _ => .slice none 0 0)) 79)) := fun W => make_rowD W 69 79 (.slice none 0 0) 1 24 K Tryz.underlying69 infoEs (by omega) rfl (by omega) (by omega) _ (fun _ j hj => by rw [show j = 0 by omega]; rfl)
  obtain ⟨G, HG⟩ : ∃ G, Hid (G = w.heap.size) := ⟨_, rfl⟩
  have hGw : w.heap.size ≤ G := by rw [HG.out]; exact Nat.le_refl _
  have HFR : Hid (∀ W, Below G w W → (W.cell? ⟨B1, 0, none⟩ = some (.slice (some ⟨IB, 0, none⟩) K K) ∧ W.cell? ⟨B2, 0, none⟩ = some (.func (.func 52) #[] #[.pointer (some ⟨B1, 0, none⟩)])) ∧ LRow W lao L lcap ls ∧ IdsAt W IB K bs vI K ∧ Below w.heap.size w W) := fun W hW => by
    rw [HG.out] at hW
    exact ⟨⟨cell_of_row W B1 0 _ _ _ (keep hb1 hW), cell_of_row W B2 0 _ _ _ (keep hb2 hW)⟩, CRow.below hlk hW, hI.below hW, hW⟩
  obtain ⟨⟨m0, _⟩, _⟩ := HFR.out w (by rw [HG.out]; exact Below.refl _ _)
  have H0 : Hid (Below G w (w.alloc (.cells (rowC K 1 (fun _ _ => .slice none 0 0)) 79)) ∧ ∃ v, EnAt (w.alloc (.cells (rowC K 1 (fun _ _ => .slice none 0 0)) 79)) G K v (fun i => Pl.endsTo ls (lvF bs ls) i 0)) := by
    rw [HG.out]
    exact ⟨below_alloc1 _ _, fun _ => .slice none 0 0, heap_alloc_last _ _, fun i hi => ownsC_nil _ _ _ _ _, fun i j _ _ _ q hq => by cases hq⟩
  have HGS : Hid (G ≤ w.heap.size) := by rw [HG.out]; exact Nat.le_refl _
  have HIS : Hid (∀ (W : World) (q : Nat), q < K → W.cell? ⟨B1, 0, none⟩ = some (.slice (some ⟨IB, 0, none⟩) K K) → Calls Tryz.prog 52 #[.int .i64 q, .pointer (some ⟨B1, 0, none⟩)] W fun e w' => e = .returned (.bool true) ∧ w' = W) := fun W q hq hc => by
    have := pisb_any (q : Int) B1 IB K W hK hc
    rw [decide_eq_true (by omega)] at this
    exact this
  clear hlk R hI hb1 hb2
  go_enter Tryz.func53, Tryz.ntmps53
  go_wp2_with fail
  rw [← HG.out]
  clear m0
  go_loopw [16] (fun i wr => ∃ k : Nat, k ≤ L ∧ i = .int .i64 k ∧ Hid (Below G w wr ∧ ∃ v, EnAt wr G K v (fun i => Pl.endsTo ls (lvF bs ls) i k))) (fun i _ => L - (intOf i).toNat)
  case atStart => exact ⟨0, by omega, rfl, H0⟩
  case round =>
    obtain ⟨k, hk, rfl, hX⟩ := hrel
    clear H0
    by_cases hlt : k < L
    · obtain ⟨hB, v, hE⟩ := hX.out
      obtain ⟨_, f2, f3, _⟩ := HFR.out wr hB
      obtain ⟨lb, loff, rfl, _⟩ := CRow.some f2 (by omega)
      obtain ⟨c0, c1, c2, c3, c4, c5⟩ := LRow.cells f2 hlt
      obtain ⟨o1, o2, o3, _⟩ := HR.out.ok k hlt
      obtain ⟨na, hna⟩ : ∃ na : Nat, (ls k).a = na := ⟨(ls k).a.toNat, by omega⟩
      obtain ⟨nb, hnb⟩ : ∃ nb : Nat, (ls k).b = nb := ⟨(ls k).b.toNat, by omega⟩
      have ha : na < K := by omega
      have hb : nb < K := by omega
      obtain ⟨B, HBB⟩ : ∃ B, Hid (B = wr.heap.size) := ⟨_, rfl⟩
      have hGlt : G < wr.heap.size := (Array.getElem?_eq_some_iff.1 hE.blk).1
      have HM0 : Hid (MidW w (wr.alloc (.cells (lkA (ls k)) 46)) G K B (ls k) (fun i => Pl.endsTo ls (lvF bs ls) i k)) := by
        refine ⟨hB.trans ((below_alloc1 wr _).mono (Nat.le_of_lt hGlt)), by rw [HBB.out]; exact heap_alloc_last _ _, by rw [HBB.out]; omega, v, hE.below (below_alloc1 _ _), fun i hi p => ?_⟩
        have := (ownsC_block (hE.own i hi) B p).2
        rw [HBB.out] at this
        omega
      have HLV : Hid (lvF bs ls k = ((ls k).up && decide (strOf 50 (bs na).reg.id = strOf 50 (bs nb).reg.id))) := by unfold lvF; rw [hna, hnb]; rfl
      have HLA : Hid (∀ i, (Pl.endsTo ls (lvF bs ls) i k).length ≤ 100) := fun i => by have := endsTo_few ls (lvF bs ls) i k; omega
      have HMA : Hid (∀ i, (fun j => (fun i => Pl.endsTo ls (lvF bs ls) i k) j ++ if j = na then [(⟨(ls k).pa, (ls k).cost, (ls k).b, (ls k).pb, lvF bs ls k⟩ : En)] else []) i = endsMid ls (lvF bs ls) k i) := fun i => by
        show _ ++ _ = _ ++ _
        congr 1
        by_cases q : i = na
        · rw [if_pos q, if_pos (by rw [hna, q])]
        · rw [if_neg q, if_neg (by rw [hna]; omega)]
      have HMB : Hid (∀ i, (fun j => endsMid ls (lvF bs ls) k j ++ if j = nb then [(⟨(ls k).pb, (ls k).cost, (ls k).a, (ls k).pa, lvF bs ls k⟩ : En)] else []) i = Pl.endsTo ls (lvF bs ls) i (k + 1)) := fun i => by
        rw [ends_next]
        show _ ++ _ = _ ++ _
        congr 1
        by_cases q : i = nb
        · rw [if_pos q, if_pos (by rw [hnb, q])]
        · rw [if_neg q, if_neg (by rw [hnb]; omega)]
      have HLB : Hid (∀ i, (endsMid ls (lvF bs ls) k i).length ≤ 200) := fun i => by
        have := endsTo_few ls (lvF bs ls) i k
        unfold endsMid
        rw [List.length_append]
        split <;> simp <;> omega
      have ia0 : (0 : Int) ≤ (na : Int) := by omega
      have ia1 : (na : Int) < (K : Int) := by omega
      have ib0 : (0 : Int) ≤ (nb : Int) := by omega
      have ib1 : (nb : Int) < (K : Int) := by omega
      have HSP : Hid (∀ W, MidW w W G K B (ls k) (fun i => Pl.endsTo ls (lvF bs ls) i k) → Below G w W) := fun W h => h.1
      clear hX hB hE f2 f3 o1 o2 o3 hGlt
      generalize lvF bs ls k = lv at *
      generalize ls k = l at *
      obtain ⟨a, pa, b, pb, c, up⟩ := l
      simp only at hna hnb c0 c1 c2 c3 c4 c5 HLV HMA HMB
      subst hna
      subst hnb
      simp only [lkA] at HM0
      obtain ⟨⟨zb1, zb2⟩, _⟩ := HFR.out _ HM0.out.1
      have HI1 : Hid (Calls Tryz.prog 52 #[.int .i64 na, .pointer (some ⟨B1, 0, none⟩)] (wr.alloc (.cells #[.int .i64 na, .int .i64 pa, .int .i64 nb, .int .i64 pb, .int .i64 c, .bool up] 46)) fun e w' => e = .returned (.bool true) ∧ w' = (wr.alloc (.cells #[.int .i64 na, .int .i64 pa, .int .i64 nb, .int .i64 pb, .int .i64 c, .bool up] 46))) := HIS.out _ na ha zb1
      have HI2 : Hid (Calls Tryz.prog 52 #[.int .i64 nb, .pointer (some ⟨B1, 0, none⟩)] (wr.alloc (.cells #[.int .i64 na, .int .i64 pa, .int .i64 nb, .int .i64 pb, .int .i64 c, .bool up] 46)) fun e w' => e = .returned (.bool true) ∧ w' = (wr.alloc (.cells #[.int .i64 na, .int .i64 pa, .int .i64 nb, .int .i64 pb, .int .i64 c, .bool up] 46))) := HIS.out _ nb hb zb1
      obtain ⟨y0, y1, y2, y3, y4, y5⟩ := lk_cells HM0.out.2.1
      rw [HBB.out] at y0 y1 y2 y3 y4 y5
      go_wp2_with (go_at_call 52; (first | (with_reducible refine HI1.out.mono ?_) | (with_reducible refine HI2.out.mono ?_)); rintro e w3 ⟨rfl, rfl⟩)
      rw [← HBB.out]
      clear y0 y1 y2 y3 y4 y5 zb1 zb2 HI1 HI2 HIS
      go_cut [7, 8] (fun s6 s7 wx => s6 = .pointer (some ⟨B, 0, none⟩) ∧ s7 = .bool lv ∧ Hid (MidW w wx G K B ⟨na, pa, nb, pb, c, up⟩ (fun i => Pl.endsTo ls (lvF bs ls) i k)))
      case first =>
        obtain ⟨Z, HZ⟩ : ∃ Z, Hid (Z = wr.alloc (.cells #[.int .i64 na, .int .i64 pa, .int .i64 nb, .int .i64 pb, .int .i64 c, .bool up] 46)) := ⟨_, rfl⟩
        rw [← HZ.out] at HM0 ⊢
        have hm0 := HM0.out
        obtain ⟨⟨zb1, _⟩, _, g3, _⟩ := HFR.out Z hm0.1
        obtain ⟨q0, q1, q2, q3, q4, q5⟩ := lk_cells hm0.2.1
        have HMD : Hid (∀ j, MidW w (Z.drewN j) G K B ⟨na, pa, nb, pb, c, up⟩ (fun i => Pl.endsTo ls (lvF bs ls) i k)) := fun j => hm0.below (below_drewN (Below.refl _ _) j)
        have eA : (⟨IB, na, none⟩ : Addr) = ⟨IB, na * 1 + 0, none⟩ := by simp
        have eB : (⟨IB, nb, none⟩ : Addr) = ⟨IB, nb * 1 + 0, none⟩ := by simp
        have ca : Z.cell? ⟨IB, na, none⟩ = some (vI na) := by rw [eA]; exact rowC_cell g3.1 ha (by omega)
        have cb : Z.cell? ⟨IB, nb, none⟩ = some (vI nb) := by rw [eB]; exact rowC_cell g3.1 hb (by omega)
        obtain ⟨ab, aoff, arc, xa, ra, _⟩ := g3.2 na ha
        obtain ⟨bb, boff, brc, xb, rb, _⟩ := g3.2 nb hb
        rw [xa] at ca
        rw [xb] at cb
        have HEQ : Hid (∀ m, Calls Tryz.prog 54 #[.slice (some ⟨ab, aoff, none⟩) 50 arc, .slice (some ⟨bb, boff, none⟩) 50 brc] (Z.drewN m) fun e w' => e = .returned (.bool (decide (strOf 50 (bs na).reg.id = strOf 50 (bs nb).reg.id))) ∧ w' = Z.drewN m) := fun m => gequal_any _ _ 50 _ 50 _ _ _ (Z.drewN m) (ra.below (below_drewN (Below.refl _ _) m)) (fun h => by cases h) (rb.below (below_drewN (Below.refl _ _) m)) (fun h => by cases h)
        clear hm0 g3 ra rb xa xb eA eB HM0 HFR
        generalize decide (strOf 50 (bs na).reg.id = strOf 50 (bs nb).reg.id) = D at *
        cases up with
        | true =>
          have HL2 : lv = D := by rw [HLV.out, Bool.true_and]
          go_quiet (first | (go_at_call 54; exact Calls.quiet_of_same (HEQ.out _)))
          all_goals go_wp2_with fail
          all_goals go_meet
          all_goals (refine ⟨rfl, ?_, ?_⟩; (rw [HL2]); exact HMD.out _)
        | false =>
          have HL2 : lv = false := by rw [HLV.out, Bool.false_and]
          go_quiet (fail)
          go_wp2_with fail
          go_meet
          refine ⟨rfl, ?_, ?_⟩
          · rw [HL2]
          · exact HMD.out _
      case rest =>
      obtain ⟨rfl, rfl, HM⟩ := hcut
      clear HM0 c0 c1 c2 c3 c4 c5 HBB HLV
      have HSB : Hid (∀ W : World, W.heap[B]? = some (.cells (lkA ⟨na, pa, nb, pb, c, up⟩) 46 (0, 0)) → (W.cell? ⟨B, 0, none⟩ = some (.int .i64 na) ∧ W.cell? ⟨B, 1, none⟩ = some (.int .i64 pa) ∧ W.cell? ⟨B, 2, none⟩ = some (.int .i64 nb) ∧ W.cell? ⟨B, 3, none⟩ = some (.int .i64 pb)) ∧ W.cell? ⟨B, 4, none⟩ = some (.int .i64 c)) := fun W h => by
        obtain ⟨q0, q1, q2, q3, q4, q5⟩ := lk_cells h
        exact ⟨⟨q0, q1, q2, q3⟩, q4⟩
      go_wp2_with fail
      go_cut [7, 8] (fun s6 s7 wx => s6 = .pointer (some ⟨B, 0, none⟩) ∧ s7 = .bool lv ∧ Hid (MidW w wx G K B ⟨na, pa, nb, pb, c, up⟩ (endsMid ls (lvF bs ls) k)))
      case first =>
        obtain ⟨x, vo, vn, vc, w2, hW, r, s1, s2, hb2, hb3, hs3, hN⟩ := mid_append HM.out na ha ⟨pa, c, nb, pb, lv⟩ (by have := HLA.out na; omega)
        have HN : Hid (MidW w (w2.setCell ⟨G, na, none⟩ (.slice vo vn vc)) G K B ⟨na, pa, nb, pb, c, up⟩ (endsMid ls (lvF bs ls) k)) := hN.congr HMA.out
        have HW : Hid (∀ W, Below wc.heap.size wc W → W.cell? ⟨G, na, none⟩ = some x ∧ ((W.cell? ⟨B, 0, none⟩ = some (.int .i64 na) ∧ W.cell? ⟨B, 1, none⟩ = some (.int .i64 pa) ∧ W.cell? ⟨B, 2, none⟩ = some (.int .i64 nb) ∧ W.cell? ⟨B, 3, none⟩ = some (.int .i64 pb)) ∧ W.cell? ⟨B, 4, none⟩ = some (.int .i64 c))) := fun W h => ⟨(hW W h).1, HSB.out W (hW W h).2⟩
        have HB2 : Hid _ := HSB.out w2 hb2
        have HB3 : Hid _ := HSB.out _ hb3
        have g0 := (hW wc (Below.refl _ _)).1
        have g1 : ∀ o, (wc.alloc o).cell? ⟨G, na, none⟩ = some x := fun o => (hW _ ((Below.refl _ _).alloc (Nat.le_refl _) o)).1
        simp only at r
        have HRR : Hid _ := r
        clear r hN hW hb2 hb3 hs3 HM HMA HMB HLA HLB HFR HSP HR HSB
        clear hmk HG HGS hGw
        refine wp_region_held_drew (S := fun W => (W.cell? ⟨B, 0, none⟩ = some (.int .i64 na) ∧ W.cell? ⟨B, 1, none⟩ = some (.int .i64 pa) ∧ W.cell? ⟨B, 2, none⟩ = some (.int .i64 nb) ∧ W.cell? ⟨B, 3, none⟩ = some (.int .i64 pb)) ∧ W.cell? ⟨B, 4, none⟩ = some (.int .i64 c)) (by kernel_rfl) (HW.out _ (Below.drew (Below.refl _ _))).2 (fun hHeld => ?_)
        refine heldT 0 47 hHeld ?_
        (try simp only [Act.put, List.setIfInBounds_toArray, List.set_cons_zero, List.set_cons_succ])
        refine heldT 1 48 hHeld ?_
        (try simp only [Act.put, List.setIfInBounds_toArray, List.set_cons_zero, List.set_cons_succ])
        refine heldT 2 49 hHeld ?_
        (try simp only [Act.put, List.setIfInBounds_toArray, List.set_cons_zero, List.set_cons_succ])
        refine heldT 3 50 hHeld ?_
        (try simp only [Act.put, List.setIfInBounds_toArray, List.set_cons_zero, List.set_cons_succ])
        refine heldT 4 51 hHeld ?_
        (try simp only [Act.put, List.setIfInBounds_toArray, List.set_cons_zero, List.set_cons_succ])
        refine heldT 5 52 hHeld ?_
        (try simp only [Act.put, List.setIfInBounds_toArray, List.set_cons_zero, List.set_cons_succ])
        refine heldT 6 53 hHeld ?_
        (try simp only [Act.put, List.setIfInBounds_toArray, List.set_cons_zero, List.set_cons_succ])
        refine heldT 8 55 hHeld ?_
        (try simp only [Act.put, List.setIfInBounds_toArray, List.set_cons_zero, List.set_cons_succ])
        refine heldT 9 56 hHeld ?_
        (try simp only [Act.put, List.setIfInBounds_toArray, List.set_cons_zero, List.set_cons_succ])
        refine heldT 10 57 hHeld ?_
        (try simp only [Act.put, List.setIfInBounds_toArray, List.set_cons_zero, List.set_cons_succ])
        refine heldT 11 58 hHeld ?_
        (try simp only [Act.put, List.setIfInBounds_toArray, List.set_cons_zero, List.set_cons_succ])
        refine heldT 12 59 hHeld ?_
        (try simp only [Act.put, List.setIfInBounds_toArray, List.set_cons_zero, List.set_cons_succ])
        refine heldT 13 60 hHeld ?_
        (try simp only [Act.put, List.setIfInBounds_toArray, List.set_cons_zero, List.set_cons_succ])
        refine heldT 14 61 hHeld ?_
        (try simp only [Act.put, List.setIfInBounds_toArray, List.set_cons_zero, List.set_cons_succ])
        refine heldT 15 62 hHeld ?_
        (try simp only [Act.put, List.setIfInBounds_toArray, List.set_cons_zero, List.set_cons_succ])
        refine heldT 16 63 hHeld ?_
        (try simp only [Act.put, List.setIfInBounds_toArray, List.set_cons_zero, List.set_cons_succ])
        refine heldT 17 64 hHeld ?_
        (try simp only [Act.put, List.setIfInBounds_toArray, List.set_cons_zero, List.set_cons_succ])
        refine wpAnyH_ready (rs := [7, 18]) (by kernel_rfl) (by simp) ?_
        refine AllReadyH.cons rfl (fun K hK => ?_) (AllReadyH.cons rfl (fun K hK => ?_) AllReadyH.nil)
        · go_simp
          refine hK.out _ _ hHeld (fun hHeld => ?_)
          clear hK K
          (try simp only [Act.put, List.setIfInBounds_toArray, List.set_cons_zero, List.set_cons_succ])
          refine wpAnyH_ready (rs := [18]) (by kernel_rfl) (by simp) ?_
          refine AllReadyH.cons rfl (fun K hK => ?_) AllReadyH.nil
          go_simp
          refine hK.out _ _ (HW.out _ ((Below.drew (Below.refl _ _)).alloc (Nat.le_refl _) _)).2 (fun hHeld => ?_)
          clear hK K
          (try simp only [Act.put, List.setIfInBounds_toArray, List.set_cons_zero, List.set_cons_succ])
          refine wpAnyH_ready (rs := [19]) (by kernel_rfl) (by simp) ?_
          refine AllReadyH.cons rfl (fun K hK => ?_) AllReadyH.nil
          refine step_append_d (some 66) rfl rfl (.tmp 54) (.tmp 65) 79 rfl _ _ _ rfl rfl HRR.out ?_
          refine hK.out _ _ HB2.out (fun hHeld => ?_)
          clear hK K
          (try simp only [Act.put, List.setIfInBounds_toArray, List.set_cons_zero, List.set_cons_succ])
          refine heldT 20 67 hHeld ?_
          (try simp only [Act.put, List.setIfInBounds_toArray, List.set_cons_zero, List.set_cons_succ])
          refine wpAnyH_ready (rs := [21]) (by kernel_rfl) (by simp) ?_
          refine AllReadyH.cons rfl (fun K hK => ?_) AllReadyH.nil
          go_simp
          refine hK.out _ _ HB3.out (fun hHeld => ?_)
          clear hK K
          refine wpAnyH_done (by kernel_rfl) ?_ _
          go_wp2_with fail
          go_meet
          exact ⟨rfl, rfl, HN⟩
        · go_simp
          refine hK.out _ _ (HW.out _ ((Below.drew (Below.refl _ _)).alloc (Nat.le_refl _) _)).2 (fun hHeld => ?_)
          clear hK K
          (try simp only [Act.put, List.setIfInBounds_toArray, List.set_cons_zero, List.set_cons_succ])
          refine wpAnyH_ready (rs := [7]) (by kernel_rfl) (by simp) ?_
          refine AllReadyH.cons rfl (fun K hK => ?_) AllReadyH.nil
          go_simp
          refine hK.out _ _ hHeld (fun hHeld => ?_)
          clear hK K
          (try simp only [Act.put, List.setIfInBounds_toArray, List.set_cons_zero, List.set_cons_succ])
          refine wpAnyH_ready (rs := [19]) (by kernel_rfl) (by simp) ?_
          refine AllReadyH.cons rfl (fun K hK => ?_) AllReadyH.nil
          refine step_append_d (some 66) rfl rfl (.tmp 54) (.tmp 65) 79 rfl _ _ _ rfl rfl HRR.out ?_
          refine hK.out _ _ HB2.out (fun hHeld => ?_)
          clear hK K
          (try simp only [Act.put, List.setIfInBounds_toArray, List.set_cons_zero, List.set_cons_succ])
          refine heldT 20 67 hHeld ?_
          (try simp only [Act.put, List.setIfInBounds_toArray, List.set_cons_zero, List.set_cons_succ])
          refine wpAnyH_ready (rs := [21]) (by kernel_rfl) (by simp) ?_
          refine AllReadyH.cons rfl (fun K hK => ?_) AllReadyH.nil
          go_simp
          refine hK.out _ _ HB3.out (fun hHeld => ?_)
          clear hK K
          refine wpAnyH_done (by kernel_rfl) ?_ _
          go_wp2_with fail
          go_meet
          exact ⟨rfl, rfl, HN⟩
      case rest =>
      obtain ⟨rfl, rfl, HM2⟩ := hcut
      clear HM HMA HLA
      go_wp2_with fail
      obtain ⟨x, vo, vn, vc, w2, hW, r, s1, s2, hb2, hb3, hs3, hN⟩ := mid_append HM2.out nb hb ⟨pb, c, na, pa, lv⟩ (by have := HLB.out nb; omega)
      have HN : Hid (Below G w (w2.setCell ⟨G, nb, none⟩ (.slice vo vn vc)) ∧ ∃ v, EnAt (w2.setCell ⟨G, nb, none⟩ (.slice vo vn vc)) G K v (fun i => Pl.endsTo ls (lvF bs ls) i (k + 1))) := by
        obtain ⟨h1, _, _, v, h4, _⟩ := hN.congr HMB.out
        exact ⟨h1, v, h4⟩
      have HW : Hid (∀ W, Below wc.heap.size wc W → W.cell? ⟨G, nb, none⟩ = some x ∧ ((W.cell? ⟨B, 0, none⟩ = some (.int .i64 na) ∧ W.cell? ⟨B, 1, none⟩ = some (.int .i64 pa) ∧ W.cell? ⟨B, 2, none⟩ = some (.int .i64 nb) ∧ W.cell? ⟨B, 3, none⟩ = some (.int .i64 pb)) ∧ W.cell? ⟨B, 4, none⟩ = some (.int .i64 c))) := fun W h => ⟨(hW W h).1, HSB.out W (hW W h).2⟩
      have HB2 : Hid _ := HSB.out w2 hb2
      have HB3 : Hid _ := HSB.out _ hb3
      have g0 := (hW wc (Below.refl _ _)).1
      have g1 : ∀ o, (wc.alloc o).cell? ⟨G, nb, none⟩ = some x := fun o => (hW _ ((Below.refl _ _).alloc (Nat.le_refl _) o)).1
      simp only at r
      have HRR : Hid _ := r
      clear r hN hW hb2 hb3 hs3 HM2 HMB HLB HFR HSP HR HSB
      clear hmk HG HGS hGw
      refine wp_region_held_drew (S := fun W => (W.cell? ⟨B, 0, none⟩ = some (.int .i64 na) ∧ W.cell? ⟨B, 1, none⟩ = some (.int .i64 pa) ∧ W.cell? ⟨B, 2, none⟩ = some (.int .i64 nb) ∧ W.cell? ⟨B, 3, none⟩ = some (.int .i64 pb)) ∧ W.cell? ⟨B, 4, none⟩ = some (.int .i64 c)) (by kernel_rfl) (HW.out _ (Below.drew (Below.refl _ _))).2 (fun hHeld => ?_)
      refine heldT 0 68 hHeld ?_
      (try simp only [Act.put, List.setIfInBounds_toArray, List.set_cons_zero, List.set_cons_succ])
      refine heldT 1 69 hHeld ?_
      (try simp only [Act.put, List.setIfInBounds_toArray, List.set_cons_zero, List.set_cons_succ])
      refine heldT 2 70 hHeld ?_
      (try simp only [Act.put, List.setIfInBounds_toArray, List.set_cons_zero, List.set_cons_succ])
      refine heldT 3 71 hHeld ?_
      (try simp only [Act.put, List.setIfInBounds_toArray, List.set_cons_zero, List.set_cons_succ])
      refine heldT 4 72 hHeld ?_
      (try simp only [Act.put, List.setIfInBounds_toArray, List.set_cons_zero, List.set_cons_succ])
      refine heldT 5 73 hHeld ?_
      (try simp only [Act.put, List.setIfInBounds_toArray, List.set_cons_zero, List.set_cons_succ])
      refine heldT 6 74 hHeld ?_
      (try simp only [Act.put, List.setIfInBounds_toArray, List.set_cons_zero, List.set_cons_succ])
      refine heldT 8 76 hHeld ?_
      (try simp only [Act.put, List.setIfInBounds_toArray, List.set_cons_zero, List.set_cons_succ])
      refine heldT 9 77 hHeld ?_
      (try simp only [Act.put, List.setIfInBounds_toArray, List.set_cons_zero, List.set_cons_succ])
      refine heldT 10 78 hHeld ?_
      (try simp only [Act.put, List.setIfInBounds_toArray, List.set_cons_zero, List.set_cons_succ])
      refine heldT 11 79 hHeld ?_
      (try simp only [Act.put, List.setIfInBounds_toArray, List.set_cons_zero, List.set_cons_succ])
      refine heldT 12 80 hHeld ?_
      (try simp only [Act.put, List.setIfInBounds_toArray, List.set_cons_zero, List.set_cons_succ])
      refine heldT 13 81 hHeld ?_
      (try simp only [Act.put, List.setIfInBounds_toArray, List.set_cons_zero, List.set_cons_succ])
      refine heldT 14 82 hHeld ?_
      (try simp only [Act.put, List.setIfInBounds_toArray, List.set_cons_zero, List.set_cons_succ])
      refine heldT 15 83 hHeld ?_
      (try simp only [Act.put, List.setIfInBounds_toArray, List.set_cons_zero, List.set_cons_succ])
      refine heldT 16 84 hHeld ?_
      (try simp only [Act.put, List.setIfInBounds_toArray, List.set_cons_zero, List.set_cons_succ])
      refine heldT 17 85 hHeld ?_
      (try simp only [Act.put, List.setIfInBounds_toArray, List.set_cons_zero, List.set_cons_succ])
      refine wpAnyH_ready (rs := [7, 18]) (by kernel_rfl) (by simp) ?_
      refine AllReadyH.cons rfl (fun K hK => ?_) (AllReadyH.cons rfl (fun K hK => ?_) AllReadyH.nil)
      · go_simp
        refine hK.out _ _ hHeld (fun hHeld => ?_)
        clear hK K
        (try simp only [Act.put, List.setIfInBounds_toArray, List.set_cons_zero, List.set_cons_succ])
        refine wpAnyH_ready (rs := [18]) (by kernel_rfl) (by simp) ?_
        refine AllReadyH.cons rfl (fun K hK => ?_) AllReadyH.nil
        go_simp
        refine hK.out _ _ (HW.out _ ((Below.drew (Below.refl _ _)).alloc (Nat.le_refl _) _)).2 (fun hHeld => ?_)
        clear hK K
        (try simp only [Act.put, List.setIfInBounds_toArray, List.set_cons_zero, List.set_cons_succ])
        refine wpAnyH_ready (rs := [19]) (by kernel_rfl) (by simp) ?_
        refine AllReadyH.cons rfl (fun K hK => ?_) AllReadyH.nil
        refine step_append_d (some 87) rfl rfl (.tmp 75) (.tmp 86) 79 rfl _ _ _ rfl rfl HRR.out ?_
        refine hK.out _ _ HB2.out (fun hHeld => ?_)
        clear hK K
        (try simp only [Act.put, List.setIfInBounds_toArray, List.set_cons_zero, List.set_cons_succ])
        refine heldT 20 88 hHeld ?_
        (try simp only [Act.put, List.setIfInBounds_toArray, List.set_cons_zero, List.set_cons_succ])
        refine wpAnyH_ready (rs := [21]) (by kernel_rfl) (by simp) ?_
        refine AllReadyH.cons rfl (fun K hK => ?_) AllReadyH.nil
        go_simp
        refine hK.out _ _ HB3.out (fun hHeld => ?_)
        clear hK K
        refine wpAnyH_done (by kernel_rfl) ?_ _
        go_wp2_with fail
        exact ⟨⟨k + 1, by omega, by go_num, HN⟩, by simp [intOf]; omega⟩
      · go_simp
        refine hK.out _ _ (HW.out _ ((Below.drew (Below.refl _ _)).alloc (Nat.le_refl _) _)).2 (fun hHeld => ?_)
        clear hK K
        (try simp only [Act.put, List.setIfInBounds_toArray, List.set_cons_zero, List.set_cons_succ])
        refine wpAnyH_ready (rs := [7]) (by kernel_rfl) (by simp) ?_
        refine AllReadyH.cons rfl (fun K hK => ?_) AllReadyH.nil
        go_simp
        refine hK.out _ _ hHeld (fun hHeld => ?_)
        clear hK K
        (try simp only [Act.put, List.setIfInBounds_toArray, List.set_cons_zero, List.set_cons_succ])
        refine wpAnyH_ready (rs := [19]) (by kernel_rfl) (by simp) ?_
        refine AllReadyH.cons rfl (fun K hK => ?_) AllReadyH.nil
        refine step_append_d (some 87) rfl rfl (.tmp 75) (.tmp 86) 79 rfl _ _ _ rfl rfl HRR.out ?_
        refine hK.out _ _ HB2.out (fun hHeld => ?_)
        clear hK K
        (try simp only [Act.put, List.setIfInBounds_toArray, List.set_cons_zero, List.set_cons_succ])
        refine heldT 20 88 hHeld ?_
        (try simp only [Act.put, List.setIfInBounds_toArray, List.set_cons_zero, List.set_cons_succ])
        refine wpAnyH_ready (rs := [21]) (by kernel_rfl) (by simp) ?_
        refine AllReadyH.cons rfl (fun K hK => ?_) AllReadyH.nil
        go_simp
        refine hK.out _ _ HB3.out (fun hHeld => ?_)
        clear hK K
        refine wpAnyH_done (by kernel_rfl) ?_ _
        go_wp2_with fail
        exact ⟨⟨k + 1, by omega, by go_num, HN⟩, by simp [intOf]; omega⟩
    · obtain rfl : k = L := by omega
      obtain ⟨hB, v, hE⟩ := hX.out
      have HS0 : Hid (Below G w wr ∧ SrtAt wr G K v (fun i => Pl.endsTo ls (lvF bs ls) i k) (fun i => Pl.ends ls (lvF bs ls) k i) 0) := ⟨hB, hE.blk, fun i hi _ => hE.own i hi, fun i hi => absurd hi (by omega), fun i hi => absurd hi (by omega), hE.apart⟩
      have HFW : Hid (∀ j, (Pl.endsTo ls (lvF bs ls) j k).length ≤ 1000) := fun j => by have := endsTo_few ls (lvF bs ls) j k; omega
      clear hX hB hE
      go_wp2_with fail
      go_loopw [92] (fun i wr => ∃ j : Nat, j ≤ K ∧ i = .int .i64 j ∧ Hid (Below G w wr ∧ SrtAt wr G K v (fun i => Pl.endsTo ls (lvF bs ls) i k) (fun i => Pl.ends ls (lvF bs ls) k i) j)) (fun i _ => K - (intOf i).toNat)
      case atStart => exact ⟨0, by omega, rfl, HS0⟩
      case round =>
        obtain ⟨j, hj, rfl, hY⟩ := hrel
        clear HS0
        by_cases hlt2 : j < K
        · obtain ⟨hB, hS⟩ := hY.out
          have eA : (⟨G, j, none⟩ : Addr) = ⟨G, j * 1 + 0, none⟩ := by simp
          have ca : wr.cell? ⟨G, j, none⟩ = some (v j) := by rw [eA]; exact rowC_cell hS.blk hlt2 (by omega)
          have HSO : Hid (Calls Tryz.prog 55 #[v j, .func (.func 56) #[] #[]] wr fun e w' => e = .returned (.tuple #[]) ∧ Hid (Below G w w' ∧ SrtAt w' G K v (fun i => Pl.endsTo ls (lvF bs ls) i k) (fun i => Pl.ends ls (lvF bs ls) k i) (j + 1))) := by
            have hGl : G < wr.heap.size := (Array.getElem?_eq_some_iff.1 hS.blk).1
            refine (psort_any (G + 1) (v j) (Pl.endsTo ls (lvF bs ls) j k) wr (HFW.out j) (hS.own j hlt2 (Nat.le_refl _))).mono ?_
            rintro e w' ⟨rfl, l', z1, z2, z3, z4, z6⟩
            have z5 := Pl.ends_unique HR.out (lvF bs ls) j z1 z2
            rw [z5] at z3
            refine ⟨rfl, hB.grown z4 (Nat.le_of_lt hGl) (fun q hq => ?_), srt_next hS hlt2 z4 z3 z6⟩
            have := (ownsC_block (hS.own j hlt2 (Nat.le_refl _)) q hq).1
            omega
          have i0 : (0 : Int) ≤ (j : Int) := by omega
          have i1 : (j : Int) < (K : Int) := by omega
          clear hY hB hS eA HR HFW
          go_wp2_with fail
          refine HSO.out.mono ?_
          rintro e w2 ⟨rfl, HN⟩
          clear HSO
          go_wp2_with fail
          exact ⟨⟨j + 1, by omega, by go_num, HN⟩, by simp [intOf]; omega⟩
        · obtain rfl : j = K := by omega
          obtain ⟨hB, hS⟩ := hY.out
          have HFI : Hid (Below w.heap.size w wr) := (HFR.out wr hB).2.2.2
          go_wp2_with fail
          go_ret
          exact ⟨G, v, rfl, ⟨hS.blk, hS.row, hS.ty⟩, hGw, HFI.out⟩
end Go.Proofs.YtcbpafpaimpfnaaGreatDoor

namespace Go.Proofs.YtcbpafpaimpfnaaGreatDoor
open Go.RowKit
open Vc (V Of)
open Pl (Br Net Pc Lk En St)

theorem infoPl : (Tryz.prog.info? 50).map (fun i => (i.zero, i.size, i.bytes)) = some (some (.agg #[.int .u64 0, .int .i64 0, .int .u64 0, .int .i64 0, .int .i64 0, .slice none 0 0, .slice none 0 0]), 7, 88) := by kernel_rfl
theorem row_but {w W : World} {P : Nat} {ao : Option Addr} {n cap k : Nat} {c : Nat → Nat → Value} (h : CRow w ao n cap k c) (hW : w.grownBy W (some P)) (hne : 0 < n → ∀ b off, ao = some ⟨b, off, none⟩ → b ≠ P) : CRow W ao n cap k c := by
  rcases Nat.eq_zero_or_pos n with e | e
  · subst e; exact ⟨h.1, fun q => absurd q (by omega)⟩
  · exact CRow.other h (fun b off e1 hlt => hW.block b hlt (fun q => hne e b off e1 (by injection q))) hW.size
/-- A place without ports. -/
def plS (s : St) (j : Nat) : Value := if j < 4 then vC s.v j else if j = 4 then .int .i64 s.rp else .slice none 0 0
/-- Ports and roles of places lie there. -/
def PortsAt (w : World) (P : Nat) (x : St) (es : List En) (os : List Of) (v5 v6 : Value) : Prop :=
  ∃ (pao rao : Option Addr) (pcap rcap : Nat), v5 = .slice pao es.length pcap ∧ v6 = .slice rao es.length rcap ∧ IRow w pao es.length pcap (fun j => (EL es j).port) ∧ IRow w rao es.length rcap (fun j => Pl.roleAt x os (EL es j)) ∧ (∀ b off, pao = some ⟨b, off, none⟩ → b ≠ P) ∧ (∀ b off, rao = some ⟨b, off, none⟩ → b ≠ P)
theorem PortsAt.grown {w W : World} {P : Nat} {x : St} {es : List En} {os : List Of} {v5 v6 : Value} (h : PortsAt w P x es os v5 v6) (hW : w.grownBy W (some P)) : PortsAt W P x es os v5 v6 := by
  obtain ⟨pao, rao, pcap, rcap, e5, e6, h1, h2, h3, h4⟩ := h
  exact ⟨pao, rao, pcap, rcap, e5, e6, row_but h1 hW (fun _ => h3), row_but h2 hW (fun _ => h4), h3, h4⟩
/-- The places of K bridges, as they lie in block P; the first k have their ports. -/
def PlacesAt (w : World) (P K : Nat) (x : Nat → St) (E : Nat → List En) (k : Nat) : Prop :=
  ∃ c, w.heap[P]? = some (.cells (rowC K 7 c) 50 (0, 0)) ∧ (∀ i, i < K → ∀ j, j < 5 → c i j = plS (x i) j) ∧ (∀ i, i < K → k ≤ i → c i 5 = .slice none 0 0 ∧ c i 6 = .slice none 0 0) ∧ ∀ i, i < k → PortsAt w P (x i) (E i) (Pl.offs (E i) x) (c i 5) (c i 6)
theorem PlacesAt.below {w w' : World} {P K : Nat} {x : Nat → St} {E : Nat → List En} {k : Nat} (h : PlacesAt w P K x E k) (hb : Below w.heap.size w w') : PlacesAt w' P K x E k := by
  obtain ⟨c, h1, h2, h3, h4⟩ := h
  exact ⟨c, keep h1 hb, h2, h3, fun i hi => (h4 i hi).grown ⟨hb.os, hb.tape, hb.output, hb.size, fun j hj _ => hb.block j hj⟩⟩
/-- While they are laid: the first k are. -/
def PlacW (w : World) (P K : Nat) (x : Nat → St) (E : Nat → List En) (k : Nat) : Prop :=
  ∃ c, w.heap[P]? = some (.cells (rowC K 7 c) 50 (0, 0)) ∧ (∀ i, i < k → ∀ j, j < 5 → c i j = plS (x i) j) ∧ ∀ i, i < k → PortsAt w P (x i) (E i) (Pl.offs (E i) x) (c i 5) (c i 6)
theorem PlacW.all {w : World} {P K : Nat} {x : Nat → St} {E : Nat → List En} (h : PlacW w P K x E K) : PlacesAt w P K x E K := by
  obtain ⟨c, h1, h2, h3⟩ := h
  exact ⟨c, h1, h2, fun i hi hk => absurd hi (by omega), h3⟩
/-- One place more: seven stores. -/
def set7 (w : World) (P i : Nat) (a b c d e f g : Value) : World := ((((((w.setCell ⟨P, i * 7, none⟩ a).setCell ⟨P, i * 7 + 1, none⟩ b).setCell ⟨P, i * 7 + 2, none⟩ c).setCell ⟨P, i * 7 + 3, none⟩ d).setCell ⟨P, i * 7 + 4, none⟩ e).setCell ⟨P, i * 7 + 5, none⟩ f).setCell ⟨P, i * 7 + 6, none⟩ g
theorem set7_other (w : World) (P i : Nat) (a b c d e f g : Value) {q : Nat} (hq : q ≠ P) : (set7 w P i a b c d e f g).heap[q]? = w.heap[q]? := by
  unfold set7
  have o : ∀ (W : World) (k : Nat) (u : Value), (W.setCell ⟨P, k, none⟩ u).heap[q]? = W.heap[q]? := fun W k u => heap_setCell_other _ _ _ _ (by exact hq)
  rw [o, o, o, o, o, o, o]
theorem set7_grown (w : World) (P i : Nat) (a b c d e f g : Value) : w.grownBy (set7 w P i a b c d e f g) (some P) :=
  ((((((((Es.But.refl P w).setCell (i * 7) a).setCell (i * 7 + 1) b).setCell (i * 7 + 2) c).setCell (i * 7 + 3) d).setCell (i * 7 + 4) e).setCell (i * 7 + 5) f).setCell (i * 7 + 6) g)
theorem PlacW.next {w W : World} {P K : Nat} {x : Nat → St} {E : Nat → List En} {i : Nat} (h : PlacW w P K x E i) (hi : i < K) (hg : w.grownBy W (some P)) (hP : W.heap[P]? = w.heap[P]?) {v5 v6 : Value} (hp : PortsAt W P (x i) (E i) (Pl.offs (E i) x) v5 v6) :
    PlacW (set7 W P i (.int .u64 (x i).v.root) (.int .i64 (x i).v.cost) (.int .u64 (x i).v.bridge) (.int .i64 (x i).v.port) (.int .i64 (x i).rp) v5 v6) P K x E (i + 1) := by
  obtain ⟨c, h1, h2, h3⟩ := h
  have g := set7_grown W P i (.int .u64 (x i).v.root) (.int .i64 (x i).v.cost) (.int .u64 (x i).v.bridge) (.int .i64 (x i).v.port) (.int .i64 (x i).rp) v5 v6
  have a0 := rowC_set (hP.trans h1) hi (show 0 < 7 by omega) (.int .u64 (x i).v.root)
  rw [Nat.add_zero] at a0
  have a1 := rowC_set a0 hi (show 1 < 7 by omega) (.int .i64 (x i).v.cost)
  have a2 := rowC_set a1 hi (show 2 < 7 by omega) (.int .u64 (x i).v.bridge)
  have a3 := rowC_set a2 hi (show 3 < 7 by omega) (.int .i64 (x i).v.port)
  have a4 := rowC_set a3 hi (show 4 < 7 by omega) (.int .i64 (x i).rp)
  have a5 := rowC_set a4 hi (show 5 < 7 by omega) v5
  have a6 := rowC_set a5 hi (show 6 < 7 by omega) v6
  refine ⟨_, a6, fun q hq j hj => ?_, fun q hq => ?_⟩
  · by_cases e : q = i
    · subst e
      rcases (by omega : j = 0 ∨ j = 1 ∨ j = 2 ∨ j = 3 ∨ j = 4) with e | e | e | e | e <;> subst e <;> simp [updC, plS, vC]
    · simp only [updC, e, false_and, if_false]
      exact h2 q (by omega) j hj
  · by_cases e : q = i
    · subst e
      have : PortsAt W P (x q) (E q) (Pl.offs (E q) x) v5 v6 := hp
      simpa [updC] using this.grown g
    · simp only [updC, e, false_and, if_false]
      exact ((h3 q (by omega)).grown hg).grown g
theorem EndsOk.grown {w W : World} {G K P : Nat} {v : Nat → Value} {E : Nat → List En} (h : EndsOk w G K v E) (hW : w.grownBy W (some P)) (hP : w.heap.size ≤ P) : EndsOk W G K v E := by
  have hl := (Array.getElem?_eq_some_iff.1 h.blk).1
  refine ⟨(hW.block G hl (fun q => by injection q with q; omega)).trans h.blk, fun i hi => ?_, fun i hi q hq => ?_⟩
  rotate_left
  · obtain ⟨cur, hc⟩ := h.ty i hi q hq
    have hq2 := (Array.getElem?_eq_some_iff.1 hc).1
    exact ⟨cur, (hW.block q hq2 (fun p => by injection p with p; omega)).trans hc⟩
  obtain ⟨ao, cap, e, h1⟩ := h.row i hi
  exact ⟨ao, cap, e, CRow.other h1 (fun b off _ hlt => hW.block b hlt (fun q => by injection q with q; omega)) hW.size⟩
/-- Noughts over noughts. -/
theorem below_same {w : World} {T : Nat} (h : w.heap[T]? = some (.cells #[.int .i64 0, .int .i64 0] 28 (0, 0))) : Below w.heap.size w ((w.setCell ⟨T, 0, none⟩ (.int .i64 0)).setCell ⟨T, 1, none⟩ (.int .i64 0)) := by
  have b : Below 0 w ((w.setCell ⟨T, 0, none⟩ (.int .i64 0)).setCell ⟨T, 1, none⟩ (.int .i64 0)) := ((Below.refl 0 w).setCell (Nat.zero_le _) _).setCell (Nat.zero_le _) _
  refine ⟨b.os, b.tape, b.output, b.size, fun j _ => ?_⟩
  by_cases e : j = T
  · subst e
    rw [set2_same h, h]
  · exact (heap_setCell_other _ _ _ _ (by exact e)).trans (heap_setCell_other _ _ _ _ (by exact e))
theorem ends_few (n : Net) (i : Nat) (h : n.L ≤ 40) : (n.ends i).length ≤ 1000 := by
  have h1 := (Pl.ends_perm n.ls n.live n.L i).length_eq
  have h2 := endsTo_few n.ls n.live i n.L
  show (Pl.ends n.ls n.live n.L i).length ≤ 1000
  omega
/-- A net with nothing wrong. -/
structure Pl.Net.Right (n : Net) : Prop where
  few : n.K ≤ 12
  fewL : n.L ≤ 40
  fine : ∀ i, i < n.K → (n.bs i).Fine
  links : Pl.RightL n.K n.L n.ls
  apart : ∀ i j, i < n.K → j < n.K → (n.bs i).addr = (n.bs j).addr → i = j
theorem right_of {n : Net} (hw : n.Wf) (h : n.wrong.1 = 0) : n.Right := by
  unfold Pl.Net.wrong at h
  by_cases c1 : 12 < n.K ∨ 40 < n.L
  · rw [if_pos c1] at h; cases h
  · rw [if_neg c1] at h
    by_cases c2 : (Pl.firstTo (Pl.bErr n.bs) n.K).1 = 0
    · rw [if_neg (fun q => q c2)] at h
      have hb := (Pl.firstTo_zero _ _ c2).2
      have hl := (Pl.firstTo_zero _ _ h).2
      refine ⟨by omega, by omega, fun i hi => ?_, Pl.rightL hl, fun i j hi hj e => ?_⟩
      · have h0 := bErr_zero (hb i hi)
        have ha := wf_u64 (hw.addr i hi)
        unfold Pl.brErr at h0
        split at h0
        · omega
        · split at h0
          · omega
          · split at h0
            · omega
            · rename_i q1 q2 q3
              refine ⟨by omega, by omega, fun t ht => ?_, Rg.wrong_zero h0⟩
              have := Pl.someTo_false (by simpa using q3) t ht
              unfold Pl.oddP at this
              simp only [Bool.or_eq_false_iff, Bool.not_eq_false', decide_eq_true_eq] at this
              exact this.1
      · have key : ∀ a b, a < b → b < n.K → (n.bs a).addr ≠ (n.bs b).addr := fun a b hab hb' e2 => by
          have h7 := hb b hb'
          unfold Pl.bErr at h7
          rw [if_neg (fun q => q (bErr_zero (hb b hb'))), if_pos (Pl.someTo_iff.2 ⟨a, hab, decide_eq_true e2⟩)] at h7
          cases h7
        rcases Nat.lt_trichotomy i j with q | q | q
        · exact absurd e (key i j q hj)
        · exact q
        · exact absurd e.symm (key j i q hi)
    · rw [if_pos c2] at h; exact absurd h c2
set_option maxRecDepth 100000 in
set_option maxHeartbeats 4000000 in
theorem pplan_any (n : Net) (tree : Int) (w : World) (hat : n.at' w) (hwf : n.Wf) (ht : Tabs w) (hbt : 2 ≤ w.heap.size) :
    Calls Tryz.prog 12 #[n.val, .int .i64 tree] w fun e w' => Below w.heap.size w w' ∧
      ((n.wrong.1 ≠ 0 ∧ e = .returned (.tuple #[.slice none 0 0, .agg (ftA n.wrong)])) ∨ (n.wrong.1 = 0 ∧ ¬ (0 ≤ tree ∧ tree ≤ 15) ∧ e = .returned (.tuple #[.slice none 0 0, .agg #[.int .i64 3, .int .i64 0]])) ∨
        (n.wrong.1 = 0 ∧ (0 ≤ tree ∧ tree ≤ 15) ∧ ∃ P, e = .returned (.tuple #[.slice (some ⟨P, 0, none⟩) n.K n.K, .agg #[.int .i64 0, .int .i64 0]]) ∧ PlacesAt w' P n.K (Pl.rounds (n.ids tree) n.ends n.K n.K) n.ends n.K ∧ w.heap.size ≤ P)) := by
  have hright : n.wrong.1 = 0 → n.Right := right_of hwf
  have hplc : Hid (∀ i, Pl.ends n.ls (lvF n.bs n.ls) n.L i = n.ends i) := fun i => rfl
  obtain ⟨X, HX⟩ : ∃ X, Hid (X = (w.alloc (.cells #[.slice n.bao n.K n.bcap, .slice n.lao n.L n.lcap] 25)).alloc (.cells #[.int .i64 0, .int .i64 0] 28)) := ⟨_, rfl⟩
  have hXB : Below w.heap.size w X := by rw [HX.out]; exact below_alloc2 _ _ _
  have hXn : X.heap[w.heap.size]? = some (.cells #[.slice n.bao n.K n.bcap, .slice n.lao n.L n.lcap] 25 (0, 0)) := by rw [HX.out]; exact heap_alloc2_old w _ _
  have hXf : X.heap[w.heap.size + 1]? = some (.cells #[.int .i64 0, .int .i64 0] 28 (0, 0)) := by rw [HX.out]; exact heap_alloc2_new w _ _
  have hXs : X.heap.size = w.heap.size + 2 := by rw [HX.out]; simp
  have HC : Hid (∀ W, Below X.heap.size X W → (W.cell? ⟨w.heap.size, 0, none⟩ = some (.slice n.bao n.K n.bcap) ∧ W.cell? ⟨w.heap.size, 1, none⟩ = some (.slice n.lao n.L n.lcap)) ∧ W.heap[w.heap.size + 1]? = some (.cells #[.int .i64 0, .int .i64 0] 28 (0, 0)) ∧ Below w.heap.size w W) := fun W hW => ⟨two_cells2 (keep hXn hW), keep hXf hW, hXB.trans (hW.mono hXB.size)⟩
  have HWR : Hid (Calls Tryz.prog 10 #[n.val] X fun e w' => e = .returned (.agg (ftA n.wrong)) ∧ Hid (Below X.heap.size X w')) := pwrong_any n X (hat.below hXB) hwf
  obtain ⟨⟨n0, n1⟩, _, _⟩ := HC.out X (Below.refl _ _)
  rw [HX.out] at n0 n1
  have HAT : Hid (n.at' w) := hat
  have HT : Hid (Tabs w) := ht
  have HRI : Hid (n.wrong.1 = 0 → n.Right) := hright
  have HXN : Hid (X.heap[w.heap.size]? = some (.cells #[.slice n.bao n.K n.bcap, .slice n.lao n.L n.lcap] 25 (0, 0))) := hXn
  have HXS : Hid (X.heap.size = w.heap.size + 2) := hXs
  clear hat ht hright hXn hXf hwf
  obtain ⟨⟨E1, E2⟩, hE⟩ : ∃ E, E = n.wrong := ⟨_, rfl⟩
  rw [← hE] at HWR HRI ⊢
  have HEE : Hid ((E1, E2) = n.wrong) := hE
  clear hE
  simp only [ftA, Pl.Net.val] at *
  go_enter Tryz.func12, Tryz.ntmps12
  go_wp2_with fail
  rw [← HX.out]
  refine HWR.out.mono ?_
  rintro e w1 ⟨rfl, HB1⟩
  clear HWR n0 n1
  obtain ⟨Y, HY⟩ : ∃ Y, Hid (Y = w1.alloc (.cells #[.int .i64 E1, .int .i64 E2] 28)) := ⟨_, rfl⟩
  have HBY : Hid (Below X.heap.size X Y) := by rw [HY.out]; exact HB1.out.alloc HB1.out.size _
  have hYf : Y.heap[w1.heap.size]? = some (.cells #[.int .i64 E1, .int .i64 E2] 28 (0, 0)) := by rw [HY.out]; exact heap_alloc_last _ _
  obtain ⟨y0, y1⟩ := two_cells2 hYf
  obtain ⟨⟨m0, m1⟩, m2, m3⟩ := HC.out Y HBY.out
  obtain ⟨z0, z1⟩ := two_cells2 m2
  obtain ⟨f0, f1, _, _⟩ := vc_free m2
  have HM2 : Hid (Y.heap[w.heap.size + 1]? = some (.cells #[.int .i64 0, .int .i64 0] 28 (0, 0))) := m2
  have HM3 : Hid (Below w.heap.size w Y) := m3
  clear hYf m2 m3
  by_cases e0 : E1 = 0
  · subst e0
    have HR : Hid n.Right := HRI.out (by first | exact rfl | trivial)
    have HWI : Hid (∀ W, Calls Tryz.prog 28 #[.int .i64 tree, .int .i64 0, .int .i64 15] W fun e w' => e = .returned (.bool (decide (0 ≤ tree ∧ tree ≤ 15))) ∧ w' = W) := fun W => gwithin_any _ _ _ W
    rw [HY.out] at y0 y1
    by_cases htr : 0 ≤ tree ∧ tree ≤ 15
    · rw [decide_eq_true htr] at HWI
      have HEA : Hid (∀ W, Below Y.heap.size Y W → Calls Tryz.prog 29 #[.slice n.bao n.K n.bcap] W fun e w' => ∃ B1 B2, e = .returned (.func (.func 53) #[] #[.pointer (some ⟨B1, 0, none⟩), .pointer (some ⟨B2, 0, none⟩)]) ∧ Hid (AmongAt w' n.K n.bs B1 B2 ∧ Below Y.heap.size Y w')) := fun W hW => by
        have hB := HM3.out.trans (hW.mono HM3.out.size)
        have hn := HAT.out.below hB
        refine (pamong_any n.bao n.K n.bcap n.bs W HR.out.few hn.brs hn.each HR.out.fine (HT.out.below hB (by omega)) (by have := hB.size; omega)).mono ?_
        rintro e w' ⟨B1, B2, rfl, z1, z2⟩
        exact ⟨B1, B2, rfl, z1, hW.trans (z2.mono hW.size)⟩
      have HEN : Hid (∀ (W : World) (B1 B2 : Nat), Hid (AmongAt W n.K n.bs B1 B2 ∧ Below Y.heap.size Y W) → Calls Tryz.prog 53 #[.slice n.lao n.L n.lcap, .pointer (some ⟨B1, 0, none⟩), .pointer (some ⟨B2, 0, none⟩)] W fun e w' => ∃ G v, e = .returned (.slice (some ⟨G, 0, none⟩) n.K n.K) ∧ Hid (EndsOk w' G n.K v n.ends ∧ Y.heap.size ≤ G ∧ Below Y.heap.size Y w')) := fun W B1 B2 hh => by
        obtain ⟨h1, h2⟩ := hh.out
        have hn := HAT.out.below (HM3.out.trans (h2.mono HM3.out.size))
        refine (pends_any n.K n.bs B1 B2 n.lao n.L n.lcap n.ls W HR.out.few HR.out.fewL h1 hn.lks HR.out.links).mono ?_
        rintro e w' ⟨G, v, rfl, z1, z2, z3⟩
        exact ⟨G, v, rfl, z1, Nat.le_trans h2.size z2, h2.trans (z3.mono h2.size)⟩
      have HSN : Hid (∀ W, Below Y.heap.size Y W → W.cell? ⟨w.heap.size, 0, none⟩ = some (.slice n.bao n.K n.bcap) ∧ W.cell? ⟨w.heap.size, 1, none⟩ = some (.slice n.lao n.L n.lcap)) := fun W hW => (HC.out W (HBY.out.trans (hW.mono HBY.out.size))).1
      have HB0 : Hid (Below Y.heap.size Y Y.drew) := Below.drew (Below.refl _ _)
      rw [HY.out] at m0 m1
      go_wp2_with fail
      rw [← HY.out]
      refine (HWI.out _).mono ?_
      rintro e w' ⟨rfl, rfl⟩
      rw [← HY.out] at m0 m1
      go_wp2_with fail
      go_region_held3 (fun W => W.cell? ⟨w.heap.size, 0, none⟩ = some (.slice n.bao n.K n.bcap) ∧ W.cell? ⟨w.heap.size, 1, none⟩ = some (.slice n.lao n.L n.lcap))
        (first | (with_reducible exact HSN.out _ HB0.out) | (with_reducible exact HSN.out _ HA1.out.2) | (with_reducible exact HSN.out _ HA2.out.2.2))
        (first | (go_at_call 29; (with_reducible refine (HEA.out _ HB0.out).mono ?_); rintro e wa ⟨B1, B2, rfl, HA1⟩) | (go_at_call 53; (with_reducible refine (HEN.out _ _ _ HA1).mono ?_); rintro e w2 ⟨G, v, rfl, HA2⟩))
      obtain ⟨hEn, _, hb2⟩ := HA2.out
      have HB2 : Hid (Below X.heap.size X w2) := HBY.out.trans (hb2.mono HBY.out.size)
      obtain ⟨⟨k0, k1⟩, k2, k3⟩ := HC.out w2 HB2.out
      have HIN : Hid (SetIn w2 n.bao n.K n.bcap n.bs G v n.ends) := by
        have hn := HAT.out.below k3
        exact ⟨HR.out.few, hn.brs, hn.each, HR.out.fine, hEn, fun i _ => ends_few n i HR.out.fewL, fun i hi e he hl => ((Pl.good HR.out.links HR.out.few (n.ids tree) n.live).lt i hi e he hl).1⟩
      have HSE : Hid (Calls Tryz.prog 30 #[.slice n.bao n.K n.bcap, .int .i64 tree, .slice (some ⟨G, 0, none⟩) n.K n.K] w2 fun e w' => e = .returned (.tuple #[.slice (some ⟨w2.heap.size, 0, none⟩) n.K n.K, .slice (some ⟨w2.heap.size + 1, 0, none⟩) n.K n.K]) ∧ PlAt w' w2.heap.size n.K (Pl.rounds (fun i => (n.bs i).id tree) n.ends n.K n.K) ∧ Below w2.heap.size w2 w') := psettled_any n.bao n.K n.bcap n.bs G v n.ends tree w2 HIN.out
      clear HEA HEN HSN HB0 HA1 HA2 HWI y0 y1 m0 m1 hEn hb2 k2 k3
      go_wp2_with fail
      refine HSE.out.mono ?_
      rintro e w3 ⟨rfl, hPl, hb3⟩
      obtain ⟨Q, HQ⟩ : ∃ Q, Hid (Q = w2.heap.size) := ⟨_, rfl⟩
      rw [← HQ.out] at hPl ⊢
      obtain ⟨x, HXX⟩ : ∃ x, Hid (x = Pl.rounds (n.ids tree) n.ends n.K n.K) := ⟨_, rfl⟩
      have hPx : PlAt w3 Q n.K x := by rw [HXX.out]; exact hPl
      have hfK := HR.out.few
      have hmk : ∀ W : World, (Instr.makeSlice 30 (.int .i64 (n.K : Int)) (.int .i64 (n.K : Int))).run Tryz.prog W = .ok (.slice (some ⟨W.heap.size, 0, none⟩) n.K n.K) (W.alloc (.cells (rowC n.K 7 (fun _ => plS ⟨Vc.v0, 0⟩)) 50)) := fun W => make_rowD W 30 50 _ 7 88 n.K Tryz.underlying30 infoPl (by omega) rfl (by omega) (by omega) _ (fun _ j hj => by
        rcases (by omega : j = 0 ∨ j = 1 ∨ j = 2 ∨ j = 3 ∨ j = 4 ∨ j = 5 ∨ j = 6) with e | e | e | e | e | e | e <;> subst e <;> rfl)
      obtain ⟨P, HP⟩ : ∃ P, Hid (P = w3.heap.size) := ⟨_, rfl⟩
      have hB3 : Below X.heap.size X w3 := HB2.out.trans (hb3.mono HB2.out.size)
      have H0 : Hid (PlacW (w3.alloc (.cells (rowC n.K 7 (fun _ => plS ⟨Vc.v0, 0⟩)) 50)) P n.K x n.ends 0 ∧ w3.grownBy (w3.alloc (.cells (rowC n.K 7 (fun _ => plS ⟨Vc.v0, 0⟩)) 50)) (some P)) := by
        rw [HP.out]
        exact ⟨⟨_, heap_alloc_last _ _, fun i hi => absurd hi (by omega), fun i hi => absurd hi (by omega)⟩, grown_of_below (below_alloc1 _ _)⟩
      -- what stays through the rounds
      have HST : Hid (∀ W, w3.grownBy W (some P) → PlAt W Q n.K x ∧ EndsOk W G n.K v n.ends ∧ LRow W n.lao n.L n.lcap n.ls ∧ W.heap[w.heap.size]? = some (.cells #[.slice n.bao n.K n.bcap, .slice n.lao n.L n.lcap] 25 (0, 0)) ∧ W.heap[w.heap.size + 1]? = some (.cells #[.int .i64 0, .int .i64 0] 28 (0, 0)) ∧ Below w.heap.size w W) := fun W hW => by
        have hlow : Below w3.heap.size w3 W := below_of_grown hW (Nat.le_refl _) (by rw [HP.out]; exact Nat.le_refl _)
        have hBW := hB3.trans (hlow.mono hB3.size)
        obtain ⟨_, q2, q3⟩ := HC.out W hBW
        refine ⟨hPx.below hlow, (HIN.out.ends.below hb3).below hlow, (HAT.out.below q3).lks, ?_, q2, q3⟩
        exact keep HXN.out hBW
      have HLT : Hid (w.heap.size + 1 < P ∧ Q + 1 < P ∧ G < P) := by
        have h1 := hB3.size
        have h2 := (Array.getElem?_eq_some_iff.1 hPx.2).1
        have h3 := (Array.getElem?_eq_some_iff.1 (HIN.out.ends.below hb3).blk).1
        have h4 := HXS.out
        show _ ∧ _ ∧ _
        rw [HP.out]
        omega
      have HRT : Hid n.Right := HR.out
      have HLN : Hid (∀ i, i < n.K → (n.ends i).length ≤ 1000 ∧ ∀ e, e ∈ n.ends i → e.live = true → 0 ≤ e.other ∧ e.other < n.K) := fun i hi => ⟨HIN.out.len i hi, HIN.out.oth i hi⟩
      clear HSE hPl hb3 HIN HC HB2 k0 k1 HR HAT HT HRI HBY HM2 HM3 HY HX hplc hPx hB3 HXN HXS
      go_wp2_with fail
      rw [← HP.out]
      go_loopw [42] (fun q wr => ∃ k : Nat, k ≤ n.K ∧ q = .int .i64 k ∧ Hid (PlacW wr P n.K x n.ends k ∧ w3.grownBy wr (some P))) (fun q _ => n.K - (intOf q).toNat)
      case atStart => exact ⟨0, by omega, rfl, H0⟩
      case round =>
        obtain ⟨k, hk, rfl, hZ⟩ := hrel
        clear H0
        by_cases hlt : k < n.K
        · obtain ⟨hPW, hg⟩ := hZ.out
          obtain ⟨s1, s2, s3, s4, s5, s6⟩ := HST.out wr hg
          obtain ⟨eao, ecap, ev, hrow⟩ := s2.row k hlt
          obtain ⟨hlen, hoth⟩ := HLN.out k hlt
          have hPl : P < wr.heap.size := by
            obtain ⟨c, h1, _⟩ := hPW
            exact (Array.getElem?_eq_some_iff.1 h1).1
          obtain ⟨tl0, tl5⟩ := s1.1.head hlt
          obtain ⟨⟨t1, t2, t3, t4, _⟩, _⟩ := s1.cells hlt
          obtain ⟨B, HB⟩ : ∃ B, Hid (B = wr.heap.size) := ⟨_, rfl⟩
          obtain ⟨Z, HZ⟩ : ∃ Z, Hid (Z = wr.alloc (.cells #[.int .i64 0, .int .u64 (x k).v.root, .int .i64 (x k).v.cost, .int .u64 (x k).v.bridge, .int .i64 (x k).v.port, .int .i64 0] 76)) := ⟨_, rfl⟩
          have hZB : Below wr.heap.size wr Z := by rw [HZ.out]; exact below_alloc1 _ _
          have hZb : Z.heap[B]? = some (.cells #[.int .i64 0, .int .u64 (x k).v.root, .int .i64 (x k).v.cost, .int .u64 (x k).v.bridge, .int .i64 (x k).v.port, .int .i64 0] 76 (0, 0)) := by rw [HZ.out, HB.out]; exact heap_alloc_last _ _
          have eA : (⟨G, k, none⟩ : Addr) = ⟨G, k * 1 + 0, none⟩ := by simp
          have HS : Hid (∀ W, Below Z.heap.size Z W → ((W.cell? ⟨B, 1, none⟩ = some (.int .u64 (x k).v.root) ∧ W.cell? ⟨B, 2, none⟩ = some (.int .i64 (x k).v.cost) ∧ W.cell? ⟨B, 3, none⟩ = some (.int .u64 (x k).v.bridge) ∧ W.cell? ⟨B, 4, none⟩ = some (.int .i64 (x k).v.port)) ∧ W.cell? ⟨Q + 1, k, none⟩ = some (.int .i64 (x k).rp) ∧ W.cell? ⟨w.heap.size, 1, none⟩ = some (.slice n.lao n.L n.lcap) ∧ W.cell? ⟨G, k, none⟩ = some (.slice eao (n.ends k).length ecap))) := fun W hW => by
            have hW2 := hZB.trans (hW.mono hZB.size)
            have q1 := keep hZb hW
            have q2 := ((s1.below hW2).cells hlt).1.2.2.2.2
            have q3 := rowC_cell (s2.below hW2).blk hlt (show 0 < 1 by omega)
            rw [← eA, ev] at q3
            exact ⟨⟨cell_of_row W B 1 _ _ _ q1, cell_of_row W B 2 _ _ _ q1, cell_of_row W B 3 _ _ _ q1, cell_of_row W B 4 _ _ _ q1⟩, q2, cell_of_row W _ 1 _ _ _ (keep s4 hW2), q3⟩
          have hne : B ≠ P ∧ Q + 1 ≠ P ∧ w.heap.size ≠ P ∧ G ≠ P := by
            have := HLT.out
            rw [HB.out]
            omega
          have HS7 : Hid (∀ W (v5 v6 : Value), Below Z.heap.size Z W → (((set7 W P k (.int .u64 (x k).v.root) (.int .i64 (x k).v.cost) (.int .u64 (x k).v.bridge) (.int .i64 (x k).v.port) (.int .i64 (x k).rp) v5 v6).cell? ⟨B, 1, none⟩ = some (.int .u64 (x k).v.root) ∧ (set7 W P k (.int .u64 (x k).v.root) (.int .i64 (x k).v.cost) (.int .u64 (x k).v.bridge) (.int .i64 (x k).v.port) (.int .i64 (x k).rp) v5 v6).cell? ⟨B, 2, none⟩ = some (.int .i64 (x k).v.cost) ∧ (set7 W P k (.int .u64 (x k).v.root) (.int .i64 (x k).v.cost) (.int .u64 (x k).v.bridge) (.int .i64 (x k).v.port) (.int .i64 (x k).rp) v5 v6).cell? ⟨B, 3, none⟩ = some (.int .u64 (x k).v.bridge) ∧ (set7 W P k (.int .u64 (x k).v.root) (.int .i64 (x k).v.cost) (.int .u64 (x k).v.bridge) (.int .i64 (x k).v.port) (.int .i64 (x k).rp) v5 v6).cell? ⟨B, 4, none⟩ = some (.int .i64 (x k).v.port)) ∧ (set7 W P k (.int .u64 (x k).v.root) (.int .i64 (x k).v.cost) (.int .u64 (x k).v.bridge) (.int .i64 (x k).v.port) (.int .i64 (x k).rp) v5 v6).cell? ⟨Q + 1, k, none⟩ = some (.int .i64 (x k).rp) ∧ (set7 W P k (.int .u64 (x k).v.root) (.int .i64 (x k).v.cost) (.int .u64 (x k).v.bridge) (.int .i64 (x k).v.port) (.int .i64 (x k).rp) v5 v6).cell? ⟨w.heap.size, 1, none⟩ = some (.slice n.lao n.L n.lcap) ∧ (set7 W P k (.int .u64 (x k).v.root) (.int .i64 (x k).v.cost) (.int .u64 (x k).v.bridge) (.int .i64 (x k).v.port) (.int .i64 (x k).rp) v5 v6).cell? ⟨G, k, none⟩ = some (.slice eao (n.ends k).length ecap))) := fun W v5 v6 hW => by
            obtain ⟨⟨a1, a2, a3, a4⟩, a5, a6, a7⟩ := HS.out W hW
            have o := fun (q : Nat) (j : Nat) (hq : q ≠ P) => World.cell?_of_block (a := ⟨q, j, none⟩) (set7_other W P k (.int .u64 (x k).v.root) (.int .i64 (x k).v.cost) (.int .u64 (x k).v.bridge) (.int .i64 (x k).v.port) (.int .i64 (x k).rp) v5 v6 hq)
            exact ⟨⟨(o B 1 hne.1).trans a1, (o B 2 hne.1).trans a2, (o B 3 hne.1).trans a3, (o B 4 hne.1).trans a4⟩, (o (Q + 1) k hne.2.1).trans a5, (o _ 1 hne.2.2.1).trans a6, (o G k hne.2.2.2).trans a7⟩
          have HPO : Hid (∀ W, Below Z.heap.size Z W → Calls Tryz.prog 31 #[.slice n.lao n.L n.lcap, .int .i64 k] W fun e w' => ∃ ao cap, e = .returned (.slice ao (n.ends k).length cap) ∧ Hid (IRow w' ao (n.ends k).length cap (fun j => (EL (n.ends k) j).port) ∧ (∀ ad, ao = some ad → Z.heap.size ≤ ad.block) ∧ Below Z.heap.size Z w')) := fun W hW => by
            have hW2 := hZB.trans (hW.mono hZB.size)
            refine (pports_any n.lao n.K n.L n.lcap n.ls n.live k W HRT.out.fewL (CRow.below s3 hW2) HRT.out.links).mono ?_
            rintro e w' ⟨ao, cap, rfl, z1, z2, z3⟩
            have el : ((Pl.ends n.ls n.live n.L k).map (·.port)).length = (n.ends k).length := List.length_map _
            rw [el] at z1 ⊢
            refine ⟨ao, cap, rfl, CRow.congr z1 (fun i hi => ?_), fun ad e => Nat.le_trans hW.size (z3 ad e), hW.trans (z2.mono hW.size)⟩
            funext _
            have hi' : i < (Pl.ends n.ls n.live n.L k).length := hi
            simp only [IL, EL, List.getD_eq_getElem?_getD, List.getElem?_map, Pl.Net.ends, List.getElem?_eq_getElem hi']
            rfl
          have HHE : Hid (∀ W, Below Z.heap.size Z W → Calls Tryz.prog 33 #[.slice eao (n.ends k).length ecap, .slice (some ⟨Q, 0, none⟩) n.K n.K] W fun e w' => ∃ ao cap, e = .returned (.slice ao (Pl.offs (n.ends k) x).length cap) ∧ Hid (ORow w' ao (Pl.offs (n.ends k) x).length cap (Pl.lf (Pl.offs (n.ends k) x)) ∧ Below W.heap.size W w' ∧ Below Z.heap.size Z w')) := fun W hW => by
            have hW2 := hZB.trans (hW.mono hZB.size)
            refine (pheard_any (n.ends k) eao ecap Q n.K (mdS x) W (by omega) hlen (CRow.below hrow hW2) ((s1.below hW2).told) hoth).mono ?_
            rintro e w' ⟨ao, cap, rfl, z1, z2, _⟩
            exact ⟨ao, cap, rfl, z1, z2, hW.trans (z2.mono hW.size)⟩
          have hfew : (Pl.offs (n.ends k) x).length ≤ 1000 := Nat.le_trans (heard_few (n.ends k) (mdS x)) hlen
          have HRO : Hid (∀ (W1 W : World) (oao : Option Addr) (ocap : Nat), Hid (ORow W oao (Pl.offs (n.ends k) x).length ocap (Pl.lf (Pl.offs (n.ends k) x)) ∧ Below W1.heap.size W1 W ∧ Below Z.heap.size Z W) → Calls Tryz.prog 32 #[.slice eao (n.ends k).length ecap, .agg #[.int .u64 (x k).v.root, .int .i64 (x k).v.cost, .int .u64 (x k).v.bridge, .int .i64 (x k).v.port], .int .i64 (x k).rp, .slice oao (Pl.offs (n.ends k) x).length ocap] W fun e w' => ∃ R, e = .returned (.slice (some ⟨R, 0, none⟩) (n.ends k).length (n.ends k).length) ∧ Hid (RlAt w' R (n.ends k).length (fun j => Pl.roleAt (x k) (Pl.offs (n.ends k) x) (EL (n.ends k) j)) ∧ Z.heap.size ≤ R ∧ Below W1.heap.size W1 w' ∧ Below Z.heap.size Z w')) := fun W1 W oao ocap hh => by
            obtain ⟨z1, z2, z3⟩ := hh.out
            have hW2 := hZB.trans (z3.mono hZB.size)
            refine (proles_any (mdS x k) (n.ends k) eao ecap (Pl.offs (n.ends k) x) oao ocap W hlen hfew (CRow.below hrow hW2) z1).mono ?_
            rintro e w' ⟨R, rfl, y1, y2, y3⟩
            exact ⟨R, rfl, y1, Nat.le_trans z3.size y3, z2.trans (y2.mono z2.size), z3.trans (y2.mono z3.size)⟩
          have HNX : Hid (∀ (W4 W6 : World) (pao : Option Addr) (pcap R : Nat), Hid (IRow W4 pao (n.ends k).length pcap (fun j => (EL (n.ends k) j).port) ∧ (∀ ad, pao = some ad → Z.heap.size ≤ ad.block) ∧ Below Z.heap.size Z W4) → Hid (RlAt W6 R (n.ends k).length (fun j => Pl.roleAt (x k) (Pl.offs (n.ends k) x) (EL (n.ends k) j)) ∧ Z.heap.size ≤ R ∧ Below W4.heap.size W4 W6 ∧ Below Z.heap.size Z W6) →
              PlacW (set7 W6 P k (.int .u64 (x k).v.root) (.int .i64 (x k).v.cost) (.int .u64 (x k).v.bridge) (.int .i64 (x k).v.port) (.int .i64 (x k).rp) (.slice pao (n.ends k).length pcap) (.slice (some ⟨R, 0, none⟩) (n.ends k).length (n.ends k).length)) P n.K x n.ends (k + 1) ∧ w3.grownBy (set7 W6 P k (.int .u64 (x k).v.root) (.int .i64 (x k).v.cost) (.int .u64 (x k).v.bridge) (.int .i64 (x k).v.port) (.int .i64 (x k).rp) (.slice pao (n.ends k).length pcap) (.slice (some ⟨R, 0, none⟩) (n.ends k).length (n.ends k).length)) (some P)) := fun W4 W6 pao pcap R h4 h6 => by
            obtain ⟨a1, a2, a3⟩ := h4.out
            obtain ⟨b1, b2, b3, b4⟩ := h6.out
            have hW2 : Below wr.heap.size wr W6 := hZB.trans (b4.mono hZB.size)
            have zs := hZB.size
            refine ⟨hPW.next hlt (grown_of_below hW2) (hW2.block P hPl) ⟨pao, some ⟨R, 0, none⟩, pcap, (n.ends k).length, rfl, rfl, CRow.below a1 b3, rowC_crow b1, fun b off e => ?_, fun b off e => ?_⟩, (hg.trans (grown_of_below hW2)).trans (set7_grown _ _ _ _ _ _ _ _ _ _)⟩
            · have := a2 _ e; simp only at this; omega
            · cases e; omega
          obtain ⟨cc, hcc, _⟩ := id hPW
          obtain ⟨u0, hu0⟩ : ∃ u, cc k 0 = u := ⟨_, rfl⟩
          obtain ⟨u1, hu1⟩ : ∃ u, cc k 1 = u := ⟨_, rfl⟩
          obtain ⟨u2, hu2⟩ : ∃ u, cc k 2 = u := ⟨_, rfl⟩
          obtain ⟨u3, hu3⟩ : ∃ u, cc k 3 = u := ⟨_, rfl⟩
          obtain ⟨u4, hu4⟩ : ∃ u, cc k 4 = u := ⟨_, rfl⟩
          obtain ⟨u5, hu5⟩ : ∃ u, cc k 5 = u := ⟨_, rfl⟩
          obtain ⟨u6, hu6⟩ : ∃ u, cc k 6 = u := ⟨_, rfl⟩
          have HPC : Hid (∀ W, Below Z.heap.size Z W → (W.cell? ⟨P, k * 7, none⟩ = some u0 ∧ W.cell? ⟨P, k * 7 + 1, none⟩ = some u1 ∧ W.cell? ⟨P, k * 7 + 2, none⟩ = some u2 ∧ W.cell? ⟨P, k * 7 + 3, none⟩ = some u3 ∧ W.cell? ⟨P, k * 7 + 4, none⟩ = some u4 ∧ W.cell? ⟨P, k * 7 + 5, none⟩ = some u5 ∧ W.cell? ⟨P, k * 7 + 6, none⟩ = some u6) ∧ (W.frozen? ⟨P, k * 7, none⟩ = false ∧ W.frozen? ⟨P, k * 7 + 1, none⟩ = false ∧ W.frozen? ⟨P, k * 7 + 2, none⟩ = false ∧ W.frozen? ⟨P, k * 7 + 3, none⟩ = false ∧ W.frozen? ⟨P, k * 7 + 4, none⟩ = false ∧ W.frozen? ⟨P, k * 7 + 5, none⟩ = false ∧ W.frozen? ⟨P, k * 7 + 6, none⟩ = false)) := fun W hW => by
            have h2 := keep hcc (hZB.trans (hW.mono hZB.size))
            rw [← hu0, ← hu1, ← hu2, ← hu3, ← hu4, ← hu5, ← hu6]
            exact ⟨⟨rowC_cell h2 hlt (show 0 < 7 by omega), rowC_cell h2 hlt (show 1 < 7 by omega), rowC_cell h2 hlt (show 2 < 7 by omega), rowC_cell h2 hlt (show 3 < 7 by omega), rowC_cell h2 hlt (show 4 < 7 by omega), rowC_cell h2 hlt (show 5 < 7 by omega), rowC_cell h2 hlt (show 6 < 7 by omega)⟩, frozen_of_row _ _ _ _ _ h2, frozen_of_row _ _ _ _ _ h2, frozen_of_row _ _ _ _ _ h2, frozen_of_row _ _ _ _ _ h2, frozen_of_row _ _ _ _ _ h2, frozen_of_row _ _ _ _ _ h2, frozen_of_row _ _ _ _ _ h2⟩
          have HB0 : Hid (Below Z.heap.size Z Z.drew) := Below.drew (Below.refl _ _)
          obtain ⟨⟨b1, b2, b3, b4⟩, b5, b6, b7⟩ := HS.out Z (Below.refl _ _)
          have i0 : (0 : Int) ≤ (k : Int) := by omega
          have i1 : (k : Int) < (n.K : Int) := by omega
          generalize (Pl.offs (n.ends k) x).length = m at *
          generalize (n.ends k).length = en at *
          clear hcc hu0 hu1 hu2 hu3 hu4 hu5 hu6 hZ hPW hg s1 s2 s3 s4 s5 s6 ev hrow hlen hoth hPl hZB hZb eA hne hfew HST HLN HRT
          generalize (x k).rp = rp at *
          generalize (x k).v = vk at *
          obtain ⟨vr, vc, vb, vp⟩ := vk
          simp only at t1 t2 t3 t4 HZ HS HS7 HRO HNX b1 b2 b3 b4
          go_wp2_with fail
          rw [← HZ.out, ← HB.out]
          go_region_held3 (fun W => (W.cell? ⟨B, 1, none⟩ = some (.int .u64 vr) ∧ W.cell? ⟨B, 2, none⟩ = some (.int .i64 vc) ∧ W.cell? ⟨B, 3, none⟩ = some (.int .u64 vb) ∧ W.cell? ⟨B, 4, none⟩ = some (.int .i64 vp)) ∧ W.cell? ⟨Q + 1, k, none⟩ = some (.int .i64 rp) ∧ W.cell? ⟨w.heap.size, 1, none⟩ = some (.slice n.lao n.L n.lcap) ∧ W.cell? ⟨G, k, none⟩ = some (.slice eao en ecap))
            (first | (with_reducible exact HS.out _ HB0.out) | (with_reducible exact HS.out _ HP1.out.2.2) | (with_reducible exact HS.out _ HO1.out.2.2) | (with_reducible exact HS.out _ HR1.out.2.2.2) | (exact HS7.out _ _ _ HR1.out.2.2.2))
            (first | (go_at_call 31; (with_reducible refine (HPO.out _ HB0.out).mono ?_); rintro e w4 ⟨pao, pcap, rfl, HP1⟩) | (go_at_call 33; (with_reducible refine (HHE.out _ HP1.out.2.2).mono ?_); rintro e w5 ⟨oao, ocap, rfl, HO1⟩) | (go_at_call 32; (with_reducible refine (HRO.out w4 _ _ _ HO1).mono ?_); rintro e w6 ⟨R, rfl, HR1⟩; obtain ⟨⟨g0, g1, g2, g3, g4, g5, g6⟩, f0, f1, f2, f3, f4, f5, f6⟩ := HPC.out w6 HR1.out.2.2.2))
          all_goals go_wp2_with fail
          all_goals exact ⟨⟨k + 1, by omega, by go_num, HNX.out _ _ _ _ _ HP1 HR1⟩, by simp [intOf]; omega⟩
        · obtain hkK : k = n.K := by omega
          obtain ⟨hPA, hg⟩ := hZ.out
          obtain ⟨_, _, _, _, q2, q3⟩ := HST.out wr hg
          obtain ⟨z0, z1⟩ := two_cells2 q2
          obtain ⟨f0, f1, _, _⟩ := vc_free q2
          have HQ2 : Hid (wr.heap[w.heap.size + 1]? = some (.cells #[.int .i64 0, .int .i64 0] 28 (0, 0))) := q2
          have HQ3 : Hid (Below w.heap.size w wr) := q3
          have HPA : Hid (PlacesAt ((wr.setCell ⟨w.heap.size + 1, 0, none⟩ (.int .i64 0)).setCell ⟨w.heap.size + 1, 1, none⟩ (.int .i64 0)) P n.K (Pl.rounds (n.ids tree) n.ends n.K n.K) n.ends n.K) := by
            rw [hkK, HXX.out] at hPA
            exact hPA.all.below (below_same q2)
          have hnk : ¬ (k : Int) < (n.K : Int) := by omega
          have hPw : w.heap.size + 1 < P := HLT.out.1
          clear hZ hPA hg q2 q3 HST HLN HRT HLT
          go_wp2_with fail
          exact bodyPost_ret (v := .tuple #[.slice (some ⟨P, 0, none⟩) n.K n.K, .agg #[.int .i64 0, .int .i64 0]]) (results_tmp_row (u := 4) (p := 5) (ty := 28) Tryz.results12 _ _ (w.heap.size + 1) 28 #[.int .i64 0, .int .i64 0] (0, 0) _ rfl (set2_same HQ2.out) Tryz.underlying28 rfl (by rw [sizeFt]; rfl)) rfl ⟨(HQ3.out.setCell (Nat.le_add_right _ _) _).setCell (Nat.le_add_right _ _) _, by first | exact ⟨P, rfl, HPA.out, by omega⟩ | exact Or.inr (Or.inr ⟨rfl, htr, P, rfl, HPA.out, by omega⟩)⟩
    · rw [decide_eq_false htr] at HWI
      rw [HY.out] at z0 z1 f0 f1
      go_wp2_with fail
      rw [← HY.out]
      refine (HWI.out _).mono ?_
      rintro e w' ⟨rfl, rfl⟩
      rw [← HY.out] at z0 z1 f0 f1
      go_wp2_with fail
      exact bodyPost_ret (v := .tuple #[.slice none 0 0, .agg #[.int .i64 3, .int .i64 0]]) (results_tmp_row (u := 4) (p := 5) (ty := 28) Tryz.results12 _ _ (w.heap.size + 1) 28 #[.int .i64 3, .int .i64 0] (0, 0) _ rfl (set2_same HM2.out) Tryz.underlying28 rfl (by rw [sizeFt]; rfl)) rfl ⟨(HM3.out.setCell (Nat.le_add_right _ _) _).setCell (Nat.le_add_right _ _) _, by first | exact rfl | exact Or.inr (Or.inl ⟨rfl, htr, rfl⟩)⟩
  · have e1 : (E1 == 0) = false := by simp [e0]
    rw [HY.out] at y0 y1 z0 z1 f0 f1
    go_wp2_with fail
    rw [← HY.out] at y0 y1 z0 z1 f0 f1 ⊢
    go_region
    all_goals go_wp2_with fail
    all_goals exact bodyPost_ret (v := .tuple #[.slice none 0 0, .agg #[.int .i64 E1, .int .i64 E2]]) (results_tmp_row (u := 4) (p := 5) (ty := 28) Tryz.results12 _ _ (w.heap.size + 1) 28 #[.int .i64 E1, .int .i64 E2] (0, 0) _ rfl (set2_same HM2.out) Tryz.underlying28 rfl (by rw [sizeFt]; rfl)) rfl ⟨(Below.setCell (by first | exact HM3.out.drew | exact HM3.out) (Nat.le_add_right _ _) _).setCell (Nat.le_add_right _ _) _, by first | exact Or.inl ⟨e0, rfl⟩ | exact rfl⟩
end Go.Proofs.YtcbpafpaimpfnaaGreatDoor

namespace Go.Proofs.YtcbpafpaimpfnaaGreatDoor
open Go.RowKit
open Vc (V Of)
open Pl (Br Net Pc Lk En St)

def regR : Rg.Reg := ⟨⟨#[114]⟩, 0, none, 0, 0, fun _ => 0, fun _ => 0⟩
def bsTwo (i : Nat) : Br := ⟨(i : Int) + 1, none, 0, 0, fun _ => 0, regR⟩
def lsTwo (_ : Nat) : Lk := ⟨0, 1, 1, 2, 5, true⟩
/-- The net of two bridges. -/
def netTwo (b1 b2 : Nat) : Net := ⟨some ⟨b1, 0, none⟩, 2, 2, bsTwo, some ⟨b2, 0, none⟩, 1, 1, lsTwo⟩
theorem sizeNet : (Tryz.prog.info? 25).map (·.size) = some 2 := by kernel_rfl
theorem two_at {W : World} {b1 b2 : Nat} {t1 t2 : TypeId} (h1 : W.heap[b1]? = some (.cells #[.int .u64 1, .slice none 0 0, .string ⟨#[114]⟩, .int .i64 0, .slice none 0 0, .int .u64 2, .slice none 0 0, .string ⟨#[114]⟩, .int .i64 0, .slice none 0 0] t1 (0, 0))) (h2 : W.heap[b2]? = some (.cells #[.int .i64 0, .int .i64 1, .int .i64 1, .int .i64 2, .int .i64 5, .bool true] t2 (0, 0))) : (netTwo b1 b2).at' W := by
  refine ⟨⟨Nat.le_refl _, fun _ => ⟨b1, 0, rfl, (Array.getElem?_eq_some_iff.1 h1).1, fun i hi j hj => ?_⟩⟩, fun i hi => ⟨CRow.none _ _ _ _ _, ⟨Nat.le_refl _, fun q => absurd q (Nat.lt_irrefl 0)⟩, Nat.zero_le _, Nat.zero_le _⟩, ⟨Nat.le_refl _, fun _ => ⟨b2, 0, rfl, (Array.getElem?_eq_some_iff.1 h2).1, fun i hi j hj => ?_⟩⟩, by simp [netTwo], by simp [netTwo]⟩
  · have hi : i < 2 := hi
    rcases (by omega : i = 0 ∨ i = 1) with e | e <;> subst e <;> rcases (by omega : j = 0 ∨ j = 1 ∨ j = 2 ∨ j = 3 ∨ j = 4) with e | e | e | e | e <;> subst e <;> exact cell_of_row W b1 _ _ _ _ h1
  · have hi : i < 1 := hi
    obtain rfl : i = 0 := by omega
    rcases (by omega : j = 0 ∨ j = 1 ∨ j = 2 ∨ j = 3 ∨ j = 4 ∨ j = 5) with e | e | e | e | e | e <;> subst e <;> exact cell_of_row W b2 _ _ _ _ h2
theorem two_wf (b1 b2 : Nat) : (netTwo b1 b2).Wf := by
  refine ⟨fun i hi => ?_, fun i _ => ⟨show (Lit.int .i64 0).wf = true by decide, show (Lit.int .i64 1).wf = true by decide, show (Lit.int .i64 1).wf = true by decide, show (Lit.int .i64 2).wf = true by decide⟩⟩
  have hi : i < 2 := hi
  rcases (by omega : i = 0 ∨ i = 1) with e | e <;> subst e
  · show (Lit.int .u64 1).wf = true; decide
  · show (Lit.int .u64 2).wf = true; decide
theorem two_right (b1 b2 : Nat) : (netTwo b1 b2).wrong.1 = 0 := by
  have h1 : Pl.bErr bsTwo 0 = 0 := by kernel_rfl
  have h2 : Pl.bErr bsTwo 1 = 0 := by kernel_rfl
  have h3 : Pl.lErr 2 lsTwo 0 = 0 := by kernel_rfl
  have hb : Pl.firstTo (Pl.bErr bsTwo) 2 = (0, 0) := Pl.firstTo_all _ _ (fun i hi => by rcases (by omega : i = 0 ∨ i = 1) with e | e <;> subst e; exact h1; exact h2)
  have hl : Pl.firstTo (Pl.lErr 2 lsTwo) 1 = (0, 0) := Pl.firstTo_all _ _ (fun i hi => by rw [show i = 0 by omega]; exact h3)
  show (if 12 < 2 ∨ 40 < 1 then ((5 : Int), (0 : Int)) else if (Pl.firstTo (Pl.bErr bsTwo) 2).1 ≠ 0 then Pl.firstTo (Pl.bErr bsTwo) 2 else Pl.firstTo (Pl.lErr 2 lsTwo) 1).1 = 0
  rw [hb, hl]
  rfl
def e2a : En := ⟨1, 5, 1, 2, true⟩
def e2b : En := ⟨2, 5, 0, 1, true⟩
def E2 (i : Nat) : List En := if i = 0 then [e2a] else if i = 1 then [e2b] else []
def ids2 (i : Nat) : Int := 32768 * 281474976710656 + ((i : Int) + 1)
theorem two_ids (b1 b2 : Nat) : (netTwo b1 b2).ids 0 = ids2 := by
  funext i
  show (if (0 : Int) ≤ 0 ∧ (0 : Int) ≤ ((0 : Nat) : Int) - 1 then (0 : Int) else 32768) * 281474976710656 + ((i : Int) + 1) = _
  rw [if_neg (by decide)]
  rfl
theorem two_live (b1 b2 : Nat) (k : Nat) : (netTwo b1 b2).live k = true := by
  show (true && decide (strOf 50 regR.id = strOf 50 regR.id)) = true
  simp
theorem two_ends (b1 b2 : Nat) : (netTwo b1 b2).ends = E2 := by
  funext i
  show (([] ++ Pl.endsAt (lsTwo 0) ((netTwo b1 b2).live 0) i) : List En).mergeSort Pl.leP = E2 i
  rw [two_live]
  unfold Pl.endsAt E2 lsTwo
  by_cases h0 : i = 0
  · subst h0; simp [e2a]
  · by_cases h1 : i = 1
    · subst h1; simp [e2b]
    · rw [if_neg (by show ¬ (0 : Int) = (i : Int); omega), if_neg (by show ¬ (1 : Int) = (i : Int); omega), if_neg h0, if_neg h1]
      simp
/-- How the two stand. -/
theorem two_stand : (Pl.rounds ids2 E2 2 2 1).rp = 2 ∧ (Pl.rounds ids2 E2 2 2 1).v.cost = 5 ∧ (Pl.rounds ids2 E2 2 2 0).rp = -1 ∧ Pl.roleAt (Pl.rounds ids2 E2 2 2 0) (Pl.offs (E2 0) (Pl.rounds ids2 E2 2 2)) e2a = 2 := ⟨by kernel_rfl, by kernel_rfl, by kernel_rfl, by kernel_rfl⟩
theorem infoLk : (Tryz.prog.info? 46).map (fun i => (i.zero, i.size, i.bytes)) = some (some (.agg #[.int .i64 0, .int .i64 0, .int .i64 0, .int .i64 0, .int .i64 0, .bool false]), 6, 48) := by kernel_rfl
/-- What Plan answers. -/
def PlRes (n : Net) (tree : Int) (base : Nat) (w : World) (a : Option Addr) (k c : Nat) (f1 f2 : Int) : Prop :=
  (n.wrong.1 ≠ 0 ∧ (a = none ∧ k = 0 ∧ c = 0) ∧ (f1, f2) = n.wrong) ∨ (n.wrong.1 = 0 ∧ ¬ (0 ≤ tree ∧ tree ≤ 15) ∧ (a = none ∧ k = 0 ∧ c = 0) ∧ f1 = 3 ∧ f2 = 0) ∨
    (n.wrong.1 = 0 ∧ (0 ≤ tree ∧ tree ≤ 15) ∧ ∃ P, (a = some ⟨P, 0, none⟩ ∧ k = n.K ∧ c = n.K) ∧ (f1 = 0 ∧ f2 = 0) ∧ PlacesAt w P n.K (Pl.rounds (n.ids tree) n.ends n.K n.K) n.ends n.K ∧ base ≤ P)
theorem PlRes.below {n : Net} {tree : Int} {base : Nat} {w w' : World} {a : Option Addr} {k c : Nat} {f1 f2 : Int} (h : PlRes n tree base w a k c f1 f2) (hb : Below w.heap.size w w') : PlRes n tree base w' a k c f1 f2 := by
  rcases h with h | h | ⟨h1, h2, P, h3, h4, h5, h6⟩
  · exact Or.inl h
  · exact Or.inr (Or.inl h)
  · exact Or.inr (Or.inr ⟨h1, h2, P, h3, h4, h5.below hb, h6⟩)
theorem PlRes.mono {n : Net} {tree : Int} {base base' : Nat} {w : World} {a : Option Addr} {k c : Nat} {f1 f2 : Int} (h : PlRes n tree base w a k c f1 f2) (hb : base' ≤ base) : PlRes n tree base' w a k c f1 f2 := by
  rcases h with h | h | ⟨h1, h2, P, h3, h4, h5, h6⟩
  · exact Or.inl h
  · exact Or.inr (Or.inl h)
  · exact Or.inr (Or.inr ⟨h1, h2, P, h3, h4, h5, Nat.le_trans hb h6⟩)
/-- The fault is told in a block of its own. -/
theorem PlRes.told {n : Net} {tree : Int} {base : Nat} {w : World} {a : Option Addr} {k c : Nat} {f1 f2 : Int} {T : Nat} (h : PlRes n tree base w a k c f1 f2) (hT : w.heap[T]? = some (.cells #[.int .i64 0, .int .i64 0] 28 (0, 0))) : PlRes n tree base ((w.setCell ⟨T, 0, none⟩ (.int .i64 f1)).setCell ⟨T, 1, none⟩ (.int .i64 f2)) a k c f1 f2 := by
  rcases h with h | h | ⟨h1, h2, P, h3, ⟨rfl, rfl⟩, h5, h6⟩
  · exact Or.inl h
  · exact Or.inr (Or.inl h)
  · exact Or.inr (Or.inr ⟨h1, h2, P, h3, ⟨rfl, rfl⟩, h5.below (below_same hT), h6⟩)
theorem pplan_res (n : Net) (tree : Int) (w : World) (hat : n.at' w) (hwf : n.Wf) (ht : Tabs w) (hbt : 2 ≤ w.heap.size) :
    Calls Tryz.prog 12 #[n.val, .int .i64 tree] w fun e w' => ∃ a k c f1 f2, e = .returned (.tuple #[.slice a k c, .agg #[.int .i64 f1, .int .i64 f2]]) ∧ Hid (Below w.heap.size w w' ∧ PlRes n tree w.heap.size w' a k c f1 f2) := by
  refine (pplan_any n tree w hat hwf ht hbt).mono ?_
  rintro e w' ⟨hb, ⟨q, rfl⟩ | ⟨q, q2, rfl⟩ | ⟨q, q2, P, rfl, q3, q4⟩⟩
  · exact ⟨none, 0, 0, n.wrong.1, n.wrong.2, rfl, hb, Or.inl ⟨q, ⟨rfl, rfl, rfl⟩, rfl⟩⟩
  · exact ⟨none, 0, 0, 3, 0, rfl, hb, Or.inr (Or.inl ⟨q, q2, ⟨rfl, rfl, rfl⟩, rfl, rfl⟩)⟩
  · exact ⟨_, _, _, 0, 0, rfl, hb, Or.inr (Or.inr ⟨q, q2, P, ⟨rfl, rfl, rfl⟩, ⟨rfl, rfl⟩, q3, q4⟩)⟩
end Go.Proofs.YtcbpafpaimpfnaaGreatDoor

namespace Go.Proofs.YtcbpafpaimpfnaaGreatDoor
open Go.RowKit
open Vc (V Of)
open Pl (Br Net Pc Lk En St)

set_option maxRecDepth 100000 in
set_option maxHeartbeats 1000000 in
theorem ptwo_any (w : World) : Calls Tryz.prog 39 #[] w fun e w' => ∃ b1 b2, e = .returned (netTwo b1 b2).val ∧ (netTwo b1 b2).at' w' ∧ Below w.heap.size w w' := by
  go_enter Tryz.func39, Tryz.ntmps39
  go_wp2_with fail
  obtain ⟨X, hX⟩ : ∃ X, X = (w.alloc (.cells #[.slice (some ⟨w.heap.size + 1 + 1, 0, none⟩) 2 2, .slice (some ⟨w.heap.size + 1 + 1 + 1, 0, none⟩) 1 1] 25)).alloc (.cells #[.string ⟨#[114]⟩, .int .i64 0, .slice none 0 0] 38) := ⟨_, rfl⟩
  rw [← hX]
  have hs : X.heap.size = w.heap.size + 1 + 1 := by rw [hX]; simp
  have hn : X.heap[w.heap.size]? = some (.cells #[.slice (some ⟨w.heap.size + 1 + 1, 0, none⟩) 2 2, .slice (some ⟨w.heap.size + 1 + 1 + 1, 0, none⟩) 1 1] 25 (0, 0)) := by rw [hX]; exact heap_alloc2_old w _ _
  have hb : Below w.heap.size w X := by rw [hX]; exact below_alloc2 _ _ _
  have hb2 := below_alloc2 X (.cells #[.int .u64 1, .slice none 0 0, .string ⟨#[114]⟩, .int .i64 0, .slice none 0 0, .int .u64 2, .slice none 0 0, .string ⟨#[114]⟩, .int .i64 0, .slice none 0 0] 40) (.cells #[.int .i64 0, .int .i64 1, .int .i64 1, .int .i64 2, .int .i64 5, .bool true] 46)
  have h1 := heap_alloc2_old X (.cells #[.int .u64 1, .slice none 0 0, .string ⟨#[114]⟩, .int .i64 0, .slice none 0 0, .int .u64 2, .slice none 0 0, .string ⟨#[114]⟩, .int .i64 0, .slice none 0 0] 40) (.cells #[.int .i64 0, .int .i64 1, .int .i64 1, .int .i64 2, .int .i64 5, .bool true] 46)
  have h2 := heap_alloc2_new X (.cells #[.int .u64 1, .slice none 0 0, .string ⟨#[114]⟩, .int .i64 0, .slice none 0 0, .int .u64 2, .slice none 0 0, .string ⟨#[114]⟩, .int .i64 0, .slice none 0 0] 40) (.cells #[.int .i64 0, .int .i64 1, .int .i64 1, .int .i64 2, .int .i64 5, .bool true] 46)
  rw [hs] at h1 h2
  exact bodyPost_ret (v := .agg #[.slice (some ⟨w.heap.size + 1 + 1, 0, none⟩) 2 2, .slice (some ⟨w.heap.size + 1 + 1 + 1, 0, none⟩) 1 1]) (results_row (p := 0) (ty := 25) Tryz.results39 _ _ w.heap.size 25 _ (0, 0) _ rfl (keep hn hb2) Tryz.underlying25 rfl (by rw [sizeNet]; rfl)) rfl ⟨w.heap.size + 1 + 1, w.heap.size + 1 + 1 + 1, rfl, two_at h1 h2, hb.trans (hb2.mono hb.size)⟩
set_option maxRecDepth 100000 in
set_option maxHeartbeats 2000000 in
theorem palive_any (w : World) (ht : Tabs w) (hbt : 2 ≤ w.heap.size) : Calls Tryz.prog 17 #[] w fun e w' => e = .returned (.bool true) ∧ Below w.heap.size w w' := by
  have HT : Hid (Tabs w) := ht
  clear ht
  go_enter Tryz.func17, Tryz.ntmps17
  go_wp2_with fail
  refine (ptwo_any _).mono ?_
  rintro e w1 ⟨b1, b2, rfl, hat, hb1⟩
  have HP : Hid (Calls Tryz.prog 12 #[(netTwo b1 b2).val, .int .i64 0] w1 fun e w' => ∃ P r6 n6 c6, e = .returned (.tuple #[.slice (some ⟨P, 0, none⟩) 2 2, .agg #[.int .i64 0, .int .i64 0]]) ∧ (w'.cell? ⟨P, 11, none⟩ = some (.int .i64 2) ∧ w'.cell? ⟨P, 8, none⟩ = some (.int .i64 5) ∧ w'.cell? ⟨P, 4, none⟩ = some (.int .i64 (-1)) ∧ w'.cell? ⟨P, 6, none⟩ = some (.slice (some ⟨r6, n6, none⟩) 1 c6) ∧ 1 ≤ c6 ∧ w'.cell? ⟨r6, n6, none⟩ = some (.int .i64 2)) ∧ Hid (Below w.heap.size w w')) := by
    refine (pplan_any (netTwo b1 b2) 0 w1 hat (two_wf b1 b2) (HT.out.below hb1 hbt) (Nat.le_trans hbt hb1.size)).mono ?_
    rintro e w' ⟨z1, z2⟩
    rcases z2 with ⟨q, _⟩ | ⟨_, q, _⟩ | ⟨_, _, P, rfl, z3, _⟩
    · exact absurd (two_right b1 b2) q
    · exact absurd ⟨by decide, by decide⟩ q
    · rw [two_ids, two_ends] at z3
      obtain ⟨c, h1, h2, _, h4⟩ := z3
      obtain ⟨s1, s2, s3, s4⟩ := two_stand
      obtain ⟨_, rao, _, rcap, _, e6, _, hr, _, _⟩ := h4 0 (show 0 < 2 by omega)
      obtain ⟨rb, roff, er, _⟩ := CRow.some hr (show 0 < 1 by omega)
      subst er
      have hrc := IRow.cells hr (show 0 < 1 by omega)
      have hK : (netTwo b1 b2).K = 2 := rfl
      rw [hK] at h1
      refine ⟨P, rb, roff, rcap, rfl, ⟨?_, ?_, ?_, ?_, hr.1, ?_⟩, hb1.trans (z1.mono hb1.size)⟩
      · have := rowC_cell h1 (show 1 < 2 by omega) (show 4 < 7 by omega)
        rw [h2 1 (show 1 < 2 by omega) 4 (by omega)] at this
        rw [show (11 : Nat) = 1 * 7 + 4 by omega, this]
        show some (Value.int .i64 (Pl.rounds ids2 E2 2 2 1).rp) = _
        rw [s1]
      · have := rowC_cell h1 (show 1 < 2 by omega) (show 1 < 7 by omega)
        rw [h2 1 (show 1 < 2 by omega) 1 (by omega)] at this
        rw [show (8 : Nat) = 1 * 7 + 1 by omega, this]
        show some (Value.int .i64 (Pl.rounds ids2 E2 2 2 1).v.cost) = _
        rw [s2]
      · have := rowC_cell h1 (show 0 < 2 by omega) (show 4 < 7 by omega)
        rw [h2 0 (show 0 < 2 by omega) 4 (by omega)] at this
        rw [show (4 : Nat) = 0 * 7 + 4 by omega, this]
        show some (Value.int .i64 (Pl.rounds ids2 E2 2 2 0).rp) = _
        rw [s3]
      · have := rowC_cell h1 (show 0 < 2 by omega) (show 6 < 7 by omega)
        rw [e6] at this
        rw [show (6 : Nat) = 0 * 7 + 6 by omega, this]
        rfl
      · rw [Nat.add_zero] at hrc
        rw [hrc]
        show some (Value.int .i64 (Pl.roleAt (Pl.rounds ids2 E2 2 2 0) (Pl.offs (E2 0) (Pl.rounds ids2 E2 2 2)) e2a)) = _
        rw [s4]
  clear hat hb1 HT
  unfold Pl.Net.val netTwo at HP ⊢
  go_wp2_with fail
  refine HP.out.mono ?_
  rintro e w2 ⟨P, r6, n6, c6, rfl, ⟨g1, g2, g3, g4, g5, g6⟩, HB⟩
  have k1 : ∀ o, (w2.alloc o).cell? ⟨P, 11, none⟩ = some (.int .i64 2) := fun o => ((below_alloc1 w2 o).cell (by exact block_lt_of_cell g1)).trans g1
  have k2 : ∀ o, (w2.alloc o).cell? ⟨P, 8, none⟩ = some (.int .i64 5) := fun o => ((below_alloc1 w2 o).cell (by exact block_lt_of_cell g2)).trans g2
  have k3 : ∀ o, (w2.alloc o).cell? ⟨P, 4, none⟩ = some (.int .i64 (-1)) := fun o => ((below_alloc1 w2 o).cell (by exact block_lt_of_cell g3)).trans g3
  have k4 : ∀ o, (w2.alloc o).cell? ⟨P, 6, none⟩ = some (.slice (some ⟨r6, n6, none⟩) 1 c6) := fun o => ((below_alloc1 w2 o).cell (by exact block_lt_of_cell g4)).trans g4
  have k6 : ∀ o, (w2.alloc o).cell? ⟨r6, n6, none⟩ = some (.int .i64 2) := fun o => ((below_alloc1 w2 o).cell (by exact block_lt_of_cell g6)).trans g6
  have HF : Hid (∀ o, Below w.heap.size w (w2.alloc o)) := fun o => HB.out.alloc HB.out.size o
  clear HP HB
  go_wp2_with fail
  go_ret
  exact ⟨rfl, HF.out _⟩
end Go.Proofs.YtcbpafpaimpfnaaGreatDoor

namespace Go.Proofs.YtcbpafpaimpfnaaGreatDoor
open Go.RowKit
open Vc (V Of)
open Pl (Br Net Pc Lk En St)
namespace Pl
def LN (l : List Nat) (j : Nat) : Nat := l.getD j 0
/-- The live links among the first k. -/
def Net.lvsTo (n : Net) (k : Nat) : List Nat := (List.range k).filter n.live
def Net.lvs (n : Net) : List Nat := n.lvsTo n.L
theorem Net.lvsTo_next (n : Net) (k : Nat) : n.lvsTo (k + 1) = n.lvsTo k ++ if n.live k = true then [k] else [] := by
  unfold Net.lvsTo
  rw [List.range_succ, List.filter_append]
  congr 1
  cases h : n.live k <;> simp [h]
theorem Net.lvsTo_few (n : Net) (k : Nat) : (n.lvsTo k).length ≤ k := by
  have := List.length_filter_le n.live (List.range k)
  rw [List.length_range] at this
  exact this
theorem LN_get {l : List Nat} {j : Nat} (h : j < l.length) : LN l j = l[j] := by
  unfold LN
  rw [List.getD_eq_getElem?_getD, List.getElem?_eq_getElem h]
  rfl
theorem Net.lvs_mem {n : Net} {j : Nat} (h : j < n.lvs.length) : LN n.lvs j < n.L ∧ n.live (LN n.lvs j) = true := by
  have hm : LN n.lvs j ∈ n.lvs := by rw [LN_get h]; exact List.getElem_mem h
  unfold Net.lvs Net.lvsTo at hm
  obtain ⟨h1, h2⟩ := List.mem_filter.1 hm
  exact ⟨List.mem_range.1 h1, h2⟩
theorem Net.lvs_rise {n : Net} {i j : Nat} (hij : i < j) (h : j < n.lvs.length) : LN n.lvs i < LN n.lvs j := by
  have hp : n.lvs.Pairwise (· < ·) := by
    unfold Net.lvs Net.lvsTo
    exact List.Pairwise.filter _ List.pairwise_lt_range
  rw [LN_get (by omega), LN_get h]
  exact List.pairwise_iff_getElem.1 hp i j (by omega) h hij
theorem Net.lvs_all {n : Net} {k : Nat} (hk : k < n.L) (h : n.live k = true) : ∃ j, j < n.lvs.length ∧ LN n.lvs j = k := by
  have hm : k ∈ n.lvs := List.mem_filter.2 ⟨List.mem_range.2 hk, h⟩
  obtain ⟨j, hj, e⟩ := List.getElem_of_mem hm
  exact ⟨j, hj, by rw [LN_get hj]; exact e⟩
end Pl
open Pl (LN)
abbrev lkCells (ls : Nat → Lk) (l : List Nat) : List Value := cellsL l.length 6 (fun j => lkC (ls (LN l j)))
theorem ln_snoc (ls : Nat → Lk) (l : List Nat) (k : Nat) : cellsL (l.length + 1) 6 (catC l.length (fun j => lkC (ls (LN l j))) (fun _ => lkC (ls k))) = lkCells ls (l ++ [k]) := by
  unfold lkCells
  rw [List.length_append]
  apply cellsL_congr
  intro i hi
  simp only [catC]
  by_cases q : i < l.length
  · rw [if_pos q]
    simp [LN, List.getD, List.getElem?_append_left q]
  · rw [if_neg q]
    obtain rfl : i = l.length := by omega
    simp [LN, List.getD]
theorem one_lk_row {w : World} {g : Nat} {l : Lk} {ty : TypeId} (h : w.heap[g]? = some (.cells (lkA l) ty (0, 0))) : LRow w (some ⟨g, 0, none⟩) 1 1 (fun _ => l) := by
  refine ⟨Nat.le_refl _, fun _ => ⟨g, 0, rfl, (Array.getElem?_eq_some_iff.1 h).1, fun i hi j hj => ?_⟩⟩
  obtain rfl : i = 0 := by omega
  rcases (by omega : j = 0 ∨ j = 1 ∨ j = 2 ∨ j = 3 ∨ j = 4 ∨ j = 5) with e | e | e | e | e | e <;> subst e <;> exact cell_of_row w g _ _ _ _ h
/-- Identities are apart, and within 64 bits. -/
theorem ids_range {n : Net} (R : n.Right) (tree : Int) {i : Nat} (hi : i < n.K) : 0 ≤ n.ids tree i ∧ n.ids tree i < 18446744073709551616 := by
  obtain ⟨h1, h2, h3, _⟩ := R.fine i hi
  have hp : 0 ≤ (n.bs i).prio tree ∧ (n.bs i).prio tree ≤ 61440 := by
    unfold Pl.Br.prio
    by_cases h : 0 ≤ tree ∧ tree ≤ ((n.bs i).pn : Int) - 1
    · rw [if_pos h]; exact h3 _ (by omega)
    · rw [if_neg h]; exact ⟨by decide, by decide⟩
  unfold Pl.Net.ids Pl.Br.id
  generalize (n.bs i).prio tree = p at *
  omega
theorem ids_apart {n : Net} (R : n.Right) (tree : Int) : ∀ i j, i < n.K → j < n.K → n.ids tree i = n.ids tree j → i = j := by
  intro i j hi hj e
  have h1 := (R.fine i hi).addr
  have h2 := (R.fine j hj).addr
  refine R.apart i j hi hj ?_
  unfold Pl.Net.ids Pl.Br.id at e
  generalize (n.bs i).prio tree = p at *
  generalize (n.bs j).prio tree = q at *
  omega
end Go.Proofs.YtcbpafpaimpfnaaGreatDoor
