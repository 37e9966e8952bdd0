/- walks: package plan's setRoles -/
import Derived.Test.YtaakjhdbelefiaeDoorPE
import Derived.Test.YtaakjhdbelefiaeDoorPW1
import Derived.Test.YtaakjhdbelefiaeDoorVK2
import Derived.Test.YtaakjhdbelefiaeDoorVB2
import Derived.Test.YtaakjhdbelefiaeDoorPW7
import Derived.Deep.RegionHeld3
import Derived.Deep.DeepCutAuto
import Derived.Deep.RegionLaw
namespace Go.Proofs.YtaakjhdbelefiaeDoor
open Go.RowKit
open Vc (V Of)
open Pl (Br Net Pc Lk En St)

theorem infoOf : (Tryd.prog.info? 80).map (fun i => (i.zero, i.size, i.bytes)) = some (some (.agg #[.int .i64 0, .int .i64 0, .int .i64 0, .int .u64 0, .int .i64 0, .int .u64 0, .int .i64 0]), 7, 56) := by kernel_rfl
def ofA (o : Of) : Array Value := #[.int .i64 o.port, .int .i64 o.cost, .int .i64 o.age, .int .u64 o.vec.root, .int .i64 o.vec.cost, .int .u64 o.vec.bridge, .int .i64 o.vec.port]
theorem one_of_row {w : World} {g : Nat} {o : Of} {ty : TypeId} (h : w.heap[g]? = some (.cells (ofA o) ty (0, 0))) : ORow w (some ⟨g, 0, none⟩) 1 1 (fun _ => o) := by
  refine ⟨Nat.le_refl _, fun _ => ⟨g, 0, rfl, (Array.getElem?_eq_some_iff.1 h).1, fun i hi j hj => ?_⟩⟩
  obtain rfl : i = 0 := by omega
  rcases (show j = 0 ∨ j = 1 ∨ j = 2 ∨ j = 3 ∨ j = 4 ∨ j = 5 ∨ j = 6 by omega) with rfl | rfl | rfl | rfl | rfl | rfl | rfl
  · exact cell_of_row w g 0 _ _ _ h
  · exact cell_of_row w g 1 _ _ _ h
  · exact cell_of_row w g 2 _ _ _ h
  · exact cell_of_row w g 3 _ _ _ h
  · exact cell_of_row w g 4 _ _ _ h
  · exact cell_of_row w g 5 _ _ _ h
  · exact cell_of_row w g 6 _ _ _ h
/-- What bridges say lies in a row of places. -/
def SaysAt (w : World) (g K : Nat) (x : Nat → St) : Prop := g < w.heap.size ∧ ∀ i, i < K → ∀ j, j < 4 → w.cell? ⟨g, i * 7 + j, none⟩ = some (vC (x i).v j)
theorem SaysAt.below {w w' : World} {g K : Nat} {x : Nat → St} (h : SaysAt w g K x) (hb : Below w.heap.size w w') : SaysAt w' g K x :=
  ⟨Nat.lt_of_lt_of_le h.1 hb.size, fun i hi j hj => (hb.cell (by exact h.1)).trans (h.2 i hi j hj)⟩
abbrev ofCells (l : List Of) : List Value := cellsL l.length 7 (fun j => ofC (Pl.lf l j))
theorem lf_snoc (l : List Of) (o : Of) : cellsL (l.length + 1) 7 (catC l.length (fun j => ofC (Pl.lf l j)) (fun _ => ofC o)) = ofCells (l ++ [o]) := by
  unfold ofCells
  rw [List.length_append]
  apply cellsL_congr
  intro i hi
  simp only [catC]
  by_cases q : i < l.length
  · rw [if_pos q]
    simp [Pl.lf, List.getD, List.getElem?_append_left q]
  · rw [if_neg q]
    obtain rfl : i = l.length := by omega
    simp [Pl.lf, List.getD]
theorem offs_next {es : List En} {x : Nat → St} {k : Nat} (hk : k < es.length) : Pl.offs (es.take (k + 1)) x = Pl.offs (es.take k) x ++ if (EL es k).live = true then [Pl.offerOf x (EL es k)] else [] := by
  have e : es.take (k + 1) = es.take k ++ [EL es k] := by
    rw [List.take_add_one, List.getElem?_eq_getElem hk]
    simp [EL, List.getD, List.getElem?_eq_getElem hk]
  unfold Pl.offs
  rw [e, List.filter_append, List.map_append]
  generalize EL es k = y
  congr 1
  cases hl : y.live <;> simp [hl]
set_option maxRecDepth 100000 in
set_option maxHeartbeats 2000000 in
theorem poffers_any (es : List En) (eao : Option Addr) (ecap : Nat) (Pb K : Nat) (x : Nat → St) (w : World) (hlen : es.length ≤ 1000) (hr : ERow w eao es.length ecap (EL es)) (hs : SaysAt w Pb K x) (hoth : ∀ e, e ∈ es → e.live = true → 0 ≤ e.other ∧ e.other < K) :
    Calls Tryd.prog 16 #[.slice eao es.length ecap, .slice (some ⟨Pb, 0, none⟩) K K] w fun e w' => ∃ ao cap, e = .returned (.slice ao (Pl.offs es x).length cap) ∧ ORow w' ao (Pl.offs es x).length cap (Pl.lf (Pl.offs es x)) ∧ Below w.heap.size w w' ∧ ∀ ad, ao = some ad → w.heap.size ≤ ad.block := by
  have HRW : Hid (∀ W, Below w.heap.size w W → ERow W eao es.length ecap (EL es) ∧ SaysAt W Pb K x) := fun W hW => ⟨CRow.below hr hW, hs.below hW⟩
  have HOT : Hid (∀ e, e ∈ es → e.live = true → 0 ≤ e.other ∧ e.other < K) := hoth
  have hcap := hr.1
  clear hr hs hoth
  have H0 : Hid (w.ownsRow w.heap.size 80 7 (.slice none (Pl.offs (es.take 0) x).length 0) (Pl.offs (es.take 0) x).length (ofCells (Pl.offs (es.take 0) x)) ∧ Below w.heap.size w w) := ⟨ownsC_nil _ _ _ _ _, Below.refl _ _⟩
  go_enter Tryd.func16, Tryd.ntmps16
  go_wp2_with fail
  go_loopw [5, 11] (fun s5 i wr => ∃ (k : Nat) (ao : Option Addr) (cap : Nat), k ≤ es.length ∧ i = .int .i64 k ∧ s5 = .slice ao (Pl.offs (es.take k) x).length cap ∧ Hid (wr.ownsRow w.heap.size 80 7 (.slice ao (Pl.offs (es.take k) x).length cap) (Pl.offs (es.take k) x).length (ofCells (Pl.offs (es.take k) x)) ∧ Below w.heap.size w wr)) (fun _ i _ => es.length - (intOf i).toNat)
  case atStart => exact ⟨0, none, 0, by omega, rfl, rfl, H0⟩
  case round =>
    obtain ⟨k, ao, cap, hk, rfl, rfl, hX⟩ := hrel
    clear H0
    by_cases hlt : k < es.length
    · obtain ⟨hO, hB⟩ := hX.out
      obtain ⟨f1, f2⟩ := HRW.out wr hB
      obtain ⟨eb, eoff, rfl, _⟩ := CRow.some f1 (by omega)
      obtain ⟨c0, c1, c2, c3, c4⟩ := ERow.cells f1 hlt
      have hmem : EL es k ∈ es := by
        have : EL es k = es[k] := by simp [EL, List.getD, List.getElem?_eq_getElem hlt]
        rw [this]; exact List.getElem_mem hlt
      have hnext := offs_next (x := x) hlt
      have hol := HOT.out _ hmem
      have hfew : (Pl.offs (es.take k) x).length ≤ 1000 := by
        unfold Pl.offs
        rw [List.length_map]
        have h1 := List.length_filter_le (fun e : En => e.live) (es.take k)
        rw [List.length_take] at h1
        omega
      have i0 : (0 : Int) ≤ (k : Int) := by omega
      have i1 : (k : Int) < (es.length : Int) := by omega
      generalize EL es k = e at *
      obtain ⟨port, cost, other, oport, live⟩ := e
      simp only at c0 c1 c2 c3 c4 hol hnext
      cases live with
      | false =>
        rw [if_neg (by decide), List.append_nil] at hnext
        have HN : Hid (∀ W, Below wr.heap.size wr W → W.ownsRow w.heap.size 80 7 (.slice ao (Pl.offs (es.take (k + 1)) x).length cap) (Pl.offs (es.take (k + 1)) x).length (ofCells (Pl.offs (es.take (k + 1)) x)) ∧ Below w.heap.size w W) := fun W hW => by rw [hnext]; exact ⟨ownsC_below hO hW, hB.trans (hW.mono hB.size)⟩
        have HLE : Hid ((Pl.offs (es.take (k + 1)) x).length = (Pl.offs (es.take k) x).length) := by show _ = _; rw [hnext]
        clear hO hB hX f1 f2 hol hnext hmem HRW HOT
        go_wp2_with fail
        exact ⟨⟨k + 1, ao, cap, by omega, by go_num, by rw [HLE.out], HN.out _ (below_alloc1 _ _)⟩, by simp [intOf]; omega⟩
      | true =>
        obtain ⟨j, rfl⟩ : ∃ j : Nat, other = j := ⟨other.toNat, by have := hol rfl; omega⟩
        have hj : j < K := by have := hol rfl; omega
        have j0 : (0 : Int) ≤ (j : Int) := by omega
        have j1 : (j : Int) < (K : Int) := by omega
        have p0 : wr.cell? ⟨Pb, j * 7, none⟩ = some (.int .u64 (x j).v.root) := f2.2 j hj 0 (by omega)
        have p1 : wr.cell? ⟨Pb, j * 7 + 1, none⟩ = some (.int .i64 (x j).v.cost) := f2.2 j hj 1 (by omega)
        have p2 : wr.cell? ⟨Pb, j * 7 + 2, none⟩ = some (.int .u64 (x j).v.bridge) := f2.2 j hj 2 (by omega)
        have p3 : wr.cell? ⟨Pb, j * 7 + 3, none⟩ = some (.int .i64 (x j).v.port) := f2.2 j hj 3 (by omega)
        have hPb := f2.1
        obtain ⟨Y, HY⟩ : ∃ Y, Hid (Y = (wr.alloc (.cells #[.int .i64 port, .int .i64 cost, .int .i64 j, .int .i64 oport, .bool true] 71)).alloc (.cells #[.int .u64 (x j).v.root, .int .i64 (x j).v.cost, .int .u64 (x j).v.bridge, .int .i64 oport] 46)) := ⟨_, rfl⟩
        have hYB : Below wr.heap.size wr Y := by rw [HY.out]; exact below_alloc2 _ _ _
        have u0 : ∀ o, (wr.alloc o).cell? ⟨Pb, j * 7, none⟩ = some (.int .u64 (x j).v.root) := fun o => ((below_alloc1 wr o).cell (by exact hPb)).trans p0
        have u1 : ∀ o, (wr.alloc o).cell? ⟨Pb, j * 7 + 1, none⟩ = some (.int .i64 (x j).v.cost) := fun o => ((below_alloc1 wr o).cell (by exact hPb)).trans p1
        have u2 : ∀ o, (wr.alloc o).cell? ⟨Pb, j * 7 + 2, none⟩ = some (.int .u64 (x j).v.bridge) := fun o => ((below_alloc1 wr o).cell (by exact hPb)).trans p2
        have u3 : ∀ o, (wr.alloc o).cell? ⟨Pb, j * 7 + 3, none⟩ = some (.int .i64 (x j).v.port) := fun o => ((below_alloc1 wr o).cell (by exact hPb)).trans p3
        rw [if_pos rfl] at hnext
        have hYs : Y.heap.size = wr.heap.size + 1 + 1 := by rw [HY.out]; simp
        obtain ⟨a1, c1', w2, r, ho2, hb2, _⟩ := append_c (Y.alloc (.cells (ofA (Pl.offerOf x ⟨port, cost, j, oport, true⟩)) 80)) 60 80 _ 7 56 Tryd.underlying60 infoOf rfl (by omega) w.heap.size (.slice ao (Pl.offs (es.take k) x).length cap) (Pl.offs (es.take k) x).length (fun i => ofC (Pl.lf (Pl.offs (es.take k) x) i)) (ownsC_below (ownsC_below hO hYB) (below_alloc1 _ _)) (some ⟨Y.heap.size, 0, none⟩) 1 1 (fun _ => ofC (Pl.offerOf x ⟨port, cost, j, oport, true⟩)) (fun _ q => ofC_one _ q) (one_of_row (heap_alloc_last _ _)) (fun h => by cases h) (by unfold maxLen; omega) (by omega) (by have := hB.size; simp; omega)
        rw [lf_snoc] at ho2
        have HN : Hid (w2.ownsRow w.heap.size 80 7 (.slice a1 (Pl.offs (es.take (k + 1)) x).length c1') (Pl.offs (es.take (k + 1)) x).length (ofCells (Pl.offs (es.take (k + 1)) x)) ∧ Below w.heap.size w w2) := by
          rw [hnext, List.length_append]
          exact ⟨ho2, (hB.trans ((hYB.trans ((below_alloc1 Y _).mono hYB.size)).mono hB.size)).trans hb2⟩
        have HLE : Hid ((Pl.offs (es.take (k + 1)) x).length = (Pl.offs (es.take k) x).length + 1) := by show _ = _; rw [hnext, List.length_append]; rfl
        have HR2 : Hid _ := r
        simp only [ofA, Pl.offerOf, Int.toNat_natCast] at HR2
        rw [hYs] at HR2
        clear hO hB hX f1 f2 hol hnext hmem HRW HOT r ho2 hb2 hYB p0 p1 p2 p3
        go_wp2_with (at_builtin; (try rw [← HY.out]); refine wpList_append_run rfl (.tmp 26) (.tmp 33) 60 rfl _ _ _ rfl rfl HR2.out ?_)
        exact ⟨⟨k + 1, a1, c1', by omega, by go_num, by rw [HLE.out], HN⟩, by simp [intOf]; omega⟩
    · obtain rfl : k = es.length := by omega
      obtain ⟨hO, hB⟩ := hX.out
      rw [List.take_length] at hO
      rw [List.take_length]
      obtain ⟨a1, c1, e1, h1, _, h3⟩ := owns_c (by omega) hO
      injection e1 with e1 _ e2
      subst e1
      subst e2
      go_wp2_with fail
      go_ret
      exact ⟨ao, cap, rfl, h1, hB, h3⟩
end Go.Proofs.YtaakjhdbelefiaeDoor

namespace Go.Proofs.YtaakjhdbelefiaeDoor
open Go.RowKit
open Vc (V Of)

set_option maxHeartbeats 1000000 in
theorem vover_any (v : V) (c : Int) (w : World) :
    Calls Tryd.prog 75 #[.agg #[.int .u64 v.root, .int .i64 v.cost, .int .u64 v.bridge, .int .i64 v.port], .int .i64 c] w fun e w' => e = .returned (.tuple #[.agg (vA (Vc.overV v c)), .bool (decide (Vc.fitsOver v c))]) ∧ Below w.heap.size w w' := by
  unfold Vc.overV
  obtain ⟨vr, vc, vb, vp⟩ := v
  have HW1 : Hid (∀ W, Calls Tryd.prog 12 #[.int .i64 c, .int .i64 0, .int .i64 1000000000] W fun e w' => e = .returned (.bool (decide (0 ≤ c ∧ c ≤ 1000000000))) ∧ w' = W) := fun W => vwithin_any c 0 1000000000 W
  have HW2 : Hid (∀ W, Calls Tryd.prog 12 #[.int .i64 vc, .int .i64 0, .int .i64 (1000000000 - c)] W fun e w' => e = .returned (.bool (decide (0 ≤ vc ∧ vc ≤ 1000000000 - c))) ∧ w' = W) := fun W => vwithin_any vc 0 (1000000000 - c) W
  have HF : Hid (Vc.fitsOver ⟨vr, vc, vb, vp⟩ c ↔ (0 ≤ c ∧ c ≤ 1000000000) ∧ (0 ≤ vc ∧ vc ≤ 1000000000 - c)) := by
    show ((0 ≤ vc ∧ vc ≤ 1000000000) ∧ (0 ≤ c ∧ c ≤ 1000000000) ∧ vc + c ≤ 1000000000) ↔ _
    omega
  simp only
  by_cases h1 : 0 ≤ c ∧ c ≤ 1000000000
  · rw [decide_eq_true h1] at HW1
    obtain ⟨a1, a2⟩ := h1
    by_cases h2 : 0 ≤ vc ∧ vc ≤ 1000000000 - c
    · rw [decide_eq_true h2] at HW2
      have h : Vc.fitsOver ⟨vr, vc, vb, vp⟩ c := HF.out.2 ⟨⟨a1, a2⟩, h2⟩
      rw [if_pos h, decide_eq_true h]
      obtain ⟨b1, b2⟩ := h2
      have b3 : vc + c ≤ 1000000000 := by omega
      clear HF h
      go_enter Tryd.func75, Tryd.ntmps75
      go_wp2_with fail
      refine (HW1.out _).mono ?_
      rintro e w1 ⟨rfl, rfl⟩
      go_wp2_with fail
      refine (HW2.out _).mono ?_
      rintro e w1 ⟨rfl, rfl⟩
      go_wp2_with fail
      exact bodyPost_ret (v := .tuple #[.agg (vA (Vc.add ⟨vr, vc, vb, vp⟩ c)), .bool true]) (results_row_tmp (p := 4) (u := 5) (ty := 46) Tryd.results75 _ _ (w.heap.size + 1) 46 (vA (Vc.add ⟨vr, vc, vb, vp⟩ c)) (0, 0) _ rfl (heap_alloc2_new w _ _) Tryd.underlying46 rfl (by rw [sizeVc]; rfl)) rfl ⟨rfl, below_alloc2 _ _ _⟩
    · rw [decide_eq_false h2] at HW2
      have h : ¬ Vc.fitsOver ⟨vr, vc, vb, vp⟩ c := fun q => h2 (HF.out.1 q).2
      rw [if_neg h, decide_eq_false h]
      clear HF h h2
      go_enter Tryd.func75, Tryd.ntmps75
      go_wp2_with fail
      refine (HW1.out _).mono ?_
      rintro e w1 ⟨rfl, rfl⟩
      go_wp2_with fail
      refine (HW2.out _).mono ?_
      rintro e w1 ⟨rfl, rfl⟩
      go_wp2_with fail
      exact bodyPost_ret (v := .tuple #[.agg (vA Vc.v0), .bool false]) (results_row_tmp (p := 4) (u := 5) (ty := 46) Tryd.results75 _ _ (w.heap.size + 1) 46 (vA Vc.v0) (0, 0) _ rfl (heap_alloc2_new w _ _) Tryd.underlying46 rfl (by rw [sizeVc]; rfl)) rfl ⟨rfl, below_alloc2 _ _ _⟩
  · rw [decide_eq_false h1] at HW1
    have h : ¬ Vc.fitsOver ⟨vr, vc, vb, vp⟩ c := fun q => h1 (HF.out.1 q).1
    rw [if_neg h, decide_eq_false h]
    clear HF h h1 HW2
    go_enter Tryd.func75, Tryd.ntmps75
    go_wp2_with fail
    refine (HW1.out _).mono ?_
    rintro e w1 ⟨rfl, rfl⟩
    go_wp2_with fail
    exact bodyPost_ret (v := .tuple #[.agg (vA Vc.v0), .bool false]) (results_row_tmp (p := 4) (u := 5) (ty := 46) Tryd.results75 _ _ (w.heap.size + 1) 46 (vA Vc.v0) (0, 0) _ rfl (heap_alloc2_new w _ _) Tryd.underlying46 rfl (by rw [sizeVc]; rfl)) rfl ⟨rfl, below_alloc2 _ _ _⟩
end Go.Proofs.YtaakjhdbelefiaeDoor

namespace Go.Proofs.YtaakjhdbelefiaeDoor
open Go.RowKit
open Vc (V Of)

def mayV (id : Int) (o : Of) : V := if Vc.may id o then o.v else Vc.v0
set_option maxHeartbeats 1000000 in
theorem vmay_any (id : Int) (o : Of) (w : World) :
    Calls Tryd.prog 61 #[.int .u64 id, .agg #[.int .i64 o.port, .int .i64 o.cost, .int .i64 o.age, .int .u64 o.vec.root, .int .i64 o.vec.cost, .int .u64 o.vec.bridge, .int .i64 o.vec.port]] w fun e w' => e = .returned (.tuple #[.agg (vA (mayV id o)), .bool (decide (Vc.may id o))]) ∧ Below w.heap.size w w' := by
  obtain ⟨op, oc, oa, ⟨vr, vc, vb, vp⟩⟩ := o
  have HM : Hid (Vc.may id ⟨op, oc, oa, ⟨vr, vc, vb, vp⟩⟩ ↔ Vc.fitsOver ⟨vr, vc, vb, vp⟩ oc ∧ 0 ≤ op ∧ (0 ≤ oa ∧ oa < 20) ∧ vr < id) := Iff.rfl
  have HNO : Hid (¬ Vc.may id ⟨op, oc, oa, ⟨vr, vc, vb, vp⟩⟩ → (Ending.returned (.tuple #[.agg (vA (mayV id ⟨op, oc, oa, ⟨vr, vc, vb, vp⟩⟩)), .bool (decide (Vc.may id ⟨op, oc, oa, ⟨vr, vc, vb, vp⟩⟩))]) : Ending) = .returned (.tuple #[.agg (vA Vc.v0), .bool false])) := fun h => by
    unfold mayV; rw [if_neg h, decide_eq_false h]
  have HYES : Hid (0 ≤ op ∧ (0 ≤ oa ∧ oa < 20) ∧ vr < id → (Ending.returned (.tuple #[.agg (vA (mayV id ⟨op, oc, oa, ⟨vr, vc, vb, vp⟩⟩)), .bool (decide (Vc.may id ⟨op, oc, oa, ⟨vr, vc, vb, vp⟩⟩))]) : Ending) = .returned (.tuple #[.agg (vA (Vc.overV ⟨vr, vc, vb, vp⟩ oc)), .bool (decide (Vc.fitsOver ⟨vr, vc, vb, vp⟩ oc))])) := fun h => by
    unfold mayV Vc.overV
    by_cases hf : Vc.fitsOver ⟨vr, vc, vb, vp⟩ oc
    · rw [if_pos (HM.out.2 ⟨hf, h⟩), if_pos hf, decide_eq_true (HM.out.2 ⟨hf, h⟩), decide_eq_true hf]; rfl
    · have hm : ¬ Vc.may id ⟨op, oc, oa, ⟨vr, vc, vb, vp⟩⟩ := fun q => hf (HM.out.1 q).1
      rw [if_neg hm, if_neg hf, decide_eq_false hm, decide_eq_false hf]
  have HWI : Hid (∀ W, Calls Tryd.prog 12 #[.int .i64 oa, .int .i64 0, .int .i64 19] W fun e w' => e = .returned (.bool (decide (0 ≤ oa ∧ oa ≤ 19))) ∧ w' = W) := fun W => vwithin_any oa 0 19 W
  have HOV : Hid (∀ W, Calls Tryd.prog 75 #[.agg #[.int .u64 vr, .int .i64 vc, .int .u64 vb, .int .i64 vp], .int .i64 oc] W fun e w' => e = .returned (.tuple #[.agg (vA (Vc.overV ⟨vr, vc, vb, vp⟩ oc)), .bool (decide (Vc.fitsOver ⟨vr, vc, vb, vp⟩ oc))]) ∧ Below W.heap.size W w') := fun W => vover_any ⟨vr, vc, vb, vp⟩ oc W
  simp only
  obtain ⟨R, hR⟩ : ∃ R : Ending, (Ending.returned (.tuple #[.agg (vA (mayV id ⟨op, oc, oa, ⟨vr, vc, vb, vp⟩⟩)), .bool (decide (Vc.may id ⟨op, oc, oa, ⟨vr, vc, vb, vp⟩⟩))]) : Ending) = R := ⟨_, rfl⟩
  rw [hR] at HNO HYES ⊢
  clear hR
  by_cases q1 : op < 0
  · have HF : Hid _ := HNO.out (fun q => by have := (HM.out.1 q).2.1; omega)
    rw [HF.out]
    clear HNO HYES HM HF
    go_enter Tryd.func61, Tryd.ntmps61
    go_wp2_with fail
    exact bodyPost_ret (v := .tuple #[.agg (vA Vc.v0), .bool false]) (results_row_tmp (p := 4) (u := 5) (ty := 46) Tryd.results61 _ _ (w.heap.size + 1) 46 (vA Vc.v0) (0, 0) _ rfl (heap_alloc2_new w _ _) Tryd.underlying46 rfl (by rw [sizeVc]; rfl)) rfl ⟨rfl, below_alloc2 _ _ _⟩
  · by_cases q2 : 0 ≤ oa ∧ oa ≤ 19
    · rw [decide_eq_true q2] at HWI
      by_cases q3 : id ≤ vr
      · have HF : Hid _ := HNO.out (fun q => by have := (HM.out.1 q).2.2.2; omega)
        rw [HF.out]
        clear HNO HYES HM HF q2
        go_enter Tryd.func61, Tryd.ntmps61
        go_wp2_with fail
        refine (HWI.out _).mono ?_
        rintro e w1 ⟨rfl, rfl⟩
        go_wp2_with fail
        exact bodyPost_ret (v := .tuple #[.agg (vA Vc.v0), .bool false]) (results_row_tmp (p := 4) (u := 5) (ty := 46) Tryd.results61 _ _ (w.heap.size + 1) 46 (vA Vc.v0) (0, 0) _ rfl (heap_alloc2_new w _ _) Tryd.underlying46 rfl (by rw [sizeVc]; rfl)) rfl ⟨rfl, below_alloc2 _ _ _⟩
      · have HF : Hid _ := HYES.out ⟨by omega, ⟨by omega, by omega⟩, by omega⟩
        rw [HF.out]
        clear HNO HYES HM HF q2
        generalize Vc.overV ⟨vr, vc, vb, vp⟩ oc = z at *
        generalize decide (Vc.fitsOver ⟨vr, vc, vb, vp⟩ oc) = bz at *
        obtain ⟨z0, z1, z2, z3⟩ := z
        obtain ⟨W0, HW0⟩ : ∃ W0, Hid (W0 = (w.alloc (.cells #[.int .i64 op, .int .i64 oc, .int .i64 oa, .int .u64 vr, .int .i64 vc, .int .u64 vb, .int .i64 vp] 80)).alloc (.cells #[.int .u64 0, .int .i64 0, .int .u64 0, .int .i64 0] 46)) := ⟨_, rfl⟩
        have HB0 : Hid (Below w.heap.size w W0) := by rw [HW0.out]; exact below_alloc2 _ _ _
        have HR0 : Hid (W0.heap[w.heap.size + 1]? = some (.cells #[.int .u64 0, .int .i64 0, .int .u64 0, .int .i64 0] 46 (0, 0))) := by rw [HW0.out]; exact heap_alloc2_new _ _ _
        go_enter Tryd.func61, Tryd.ntmps61
        go_wp2_with fail
        refine (HWI.out _).mono ?_
        rintro e w1 ⟨rfl, rfl⟩
        go_wp2_with fail
        rw [← HW0.out]
        refine (HOV.out _).mono ?_
        rintro e w1 ⟨rfl, hb1⟩
        have HX : Hid (w1.heap[w.heap.size + 1]? = some (.cells #[.int .u64 0, .int .i64 0, .int .u64 0, .int .i64 0] 46 (0, 0))) := keep HR0.out hb1
        obtain ⟨c0, c1, c2, c3⟩ := vc_cells HX.out
        obtain ⟨f0, f1, f2, f3⟩ := vc_free HX.out
        have HLB : Hid (Below w.heap.size w w1) := HB0.out.trans (hb1.mono HB0.out.size)
        clear hb1
        simp only [vA]
        go_wp2_with fail
        have hle : w.heap.size ≤ w.heap.size + 1 := by omega
        exact bodyPost_ret (v := .tuple #[.agg #[.int .u64 z0, .int .i64 z1, .int .u64 z2, .int .i64 z3], .bool bz]) (results_row_tmp (p := 4) (u := 5) (ty := 46) Tryd.results61 _ _ (w.heap.size + 1) 46 #[.int .u64 z0, .int .i64 z1, .int .u64 z2, .int .i64 z3] (0, 0) _ rfl (vc_set4 HX.out) Tryd.underlying46 rfl (by rw [sizeVc]; rfl)) rfl ⟨rfl, (((HLB.out.setCell hle _).setCell hle _).setCell hle _).setCell hle _⟩
    · rw [decide_eq_false q2] at HWI
      have HF : Hid _ := HNO.out (fun q => by have := (HM.out.1 q).2.2.1; omega)
      rw [HF.out]
      clear HNO HYES HM HF q2
      go_enter Tryd.func61, Tryd.ntmps61
      go_wp2_with fail
      refine (HWI.out _).mono ?_
      rintro e w1 ⟨rfl, rfl⟩
      go_wp2_with fail
      exact bodyPost_ret (v := .tuple #[.agg (vA Vc.v0), .bool false]) (results_row_tmp (p := 4) (u := 5) (ty := 46) Tryd.results61 _ _ (w.heap.size + 1) 46 (vA Vc.v0) (0, 0) _ rfl (heap_alloc2_new w _ _) Tryd.underlying46 rfl (by rw [sizeVc]; rfl)) rfl ⟨rfl, below_alloc2 _ _ _⟩
end Go.Proofs.YtaakjhdbelefiaeDoor

namespace Go.Proofs.YtaakjhdbelefiaeDoor
open Go.RowKit
open Vc (V Of)

theorem drew3 {w w' : World} {i j n : Nat} {a b : Option Obj} (h : w'.heap[i]? = a ∧ w'.heap[j]? = b ∧ Below n w w') : w'.drew.heap[i]? = a ∧ w'.drew.heap[j]? = b ∧ Below n w w'.drew := ⟨h.1, h.2.1, h.2.2.drew⟩
def or2 (x y : Int) : Int := if x = 0 then y else x
theorem cor2 (x y : Int) (g : Nat) (ty : TypeId) (w : World) (h : w.heap[g]? = some (.cells #[.int .i64 x, .int .i64 y] ty (0, 0))) :
    Calls Tryd.prog 62 #[.slice (some ⟨g, 0, none⟩) 2 2] w fun e w' => e = .returned (.int .i64 (or2 x y)) ∧ w' = w := by
  have e : orTo (fun i => if i = 0 then x else y) 2 = or2 x y := by
    by_cases h : x = 0 <;> simp [orTo, or2, h]
  rw [← e]
  refine cor_any g 0 2 2 _ w (by omega) (by omega) (fun i hi => ?_)
  rcases (by omega : i = 0 ∨ i = 1) with e | e <;> subst e
  · exact cell_of_row w g 0 _ _ _ h
  · exact cell_of_row w g 1 _ _ _ h
theorem or2_ahead (o p : Of) : decide (or2 (Vc.cmp o.v p.v) (sg o.port p.port) < 0) = decide (Vc.ahead o p) := by
  by_cases h : Vc.ahead o p
  · rw [decide_eq_true h]
    apply decide_eq_true
    rcases h with h | ⟨h, h2⟩
    · have : Vc.cmp o.v p.v < 0 := Vc.cmp_lt.2 h
      unfold or2; rw [if_neg (by omega)]; exact this
    · unfold or2 sg; rw [if_pos (Vc.cmp_zero.2 h), if_pos h2]; omega
  · rw [decide_eq_false h]
    apply decide_eq_false
    unfold or2
    by_cases h0 : Vc.cmp o.v p.v = 0
    · rw [if_pos h0]
      unfold sg
      rw [if_neg (fun q => h (Or.inr ⟨Vc.cmp_zero.1 h0, q⟩))]
      split <;> omega
    · rw [if_neg h0]
      exact fun q => h (Or.inl (Vc.cmp_lt.1 q))
set_option maxRecDepth 100000 in
set_option maxHeartbeats 4000000 in
theorem vbestOffer_any (id : Int) (ao : Option Addr) (n cap : Nat) (os : Nat → Of) (w : World) (hn : n ≤ 9223372036854775807) (hr : ORow w ao n cap os) :
    Calls Tryd.prog 42 #[.int .u64 id, .slice ao n cap] w fun e w' => e = .returned (.tuple #[.int .i64 (atTo id os n), .agg (vA (bestV id os n))]) ∧ Below w.heap.size w w' := by
  have HR : Hid (ORow w ao n cap os) := hr
  clear hr
  go_enter Tryd.func42, Tryd.ntmps42
  go_wp2_with fail
  go_loopw [6, 15] (fun a i wr => ∃ k : Nat, k ≤ n ∧ i = .int .i64 k ∧ a = .int .i64 (atTo id os k) ∧ Hid (wr.heap[w.heap.size]? = some (.cells (vA Vc.v0) 46 (0, 0)) ∧ wr.heap[w.heap.size + 1]? = some (.cells (vA (bestV id os k)) 46 (0, 0)) ∧ Below w.heap.size w wr)) (fun _ i _ => n - (intOf i).toNat)
  case atStart => exact ⟨0, by omega, rfl, rfl, heap_alloc2_old w _ _, heap_alloc2_new w _ _, below_alloc2 _ _ _⟩
  case round =>
    obtain ⟨k, hk, rfl, rfl, hX⟩ := hrel
    by_cases hlt : k < n
    · obtain ⟨b, off, rfl, hb⟩ := CRow.some HR.out (by omega)
      have hcap := HR.out.1
      have HRW : Hid (∀ W, Below w.heap.size w W → ORow W (some ⟨b, off, none⟩) n cap os) := fun W hW => CRow.other HR.out (fun q _ _ hq => hW.block q hq) hW.size
      obtain ⟨c0, c1, c2, c3, c4, c5, c6⟩ := ORow.cells (HRW.out wr hX.out.2.2) hlt
      have HNO : Hid (¬ Vc.may id (os k) → atTo id os (k + 1) = atTo id os k ∧ bestV id os (k + 1) = bestV id os k) := fun h => by
        unfold atTo bestV
        have e : Vc.chTo id os (k + 1) = Vc.chTo id os k := by simp only [Vc.chTo]; rw [if_neg h]
        rw [e]; exact ⟨rfl, rfl⟩
      have HFIRST : Hid (Vc.may id (os k) → Vc.chTo id os k = none → atTo id os (k + 1) = k ∧ bestV id os (k + 1) = (os k).v) := fun h h2 => by
        have e : Vc.chTo id os (k + 1) = some k := by simp only [Vc.chTo]; rw [if_pos h, h2]
        unfold atTo bestV
        rw [e]; exact ⟨rfl, rfl⟩
      have HTHEN : Hid (∀ j, Vc.may id (os k) → Vc.chTo id os k = some j → (Vc.ahead (os k) (os j) → atTo id os (k + 1) = k ∧ bestV id os (k + 1) = (os k).v) ∧ (¬ Vc.ahead (os k) (os j) → atTo id os (k + 1) = atTo id os k ∧ bestV id os (k + 1) = bestV id os k)) := fun j h h2 => by
        constructor
        · intro ha
          have e : Vc.chTo id os (k + 1) = some k := by simp only [Vc.chTo]; rw [if_pos h, h2]; simp only; rw [if_pos ha]
          unfold atTo bestV
          rw [e]; exact ⟨rfl, rfl⟩
        · intro ha
          have e : Vc.chTo id os (k + 1) = some j := by simp only [Vc.chTo]; rw [if_pos h, h2]; simp only; rw [if_neg ha]
          unfold atTo bestV
          rw [e, h2]; exact ⟨rfl, rfl⟩
      have HXX : Hid (wr.heap[w.heap.size]? = some (.cells (vA Vc.v0) 46 (0, 0)) ∧ wr.heap[w.heap.size + 1]? = some (.cells (vA (bestV id os k)) 46 (0, 0)) ∧ Below w.heap.size w wr) := hX
      have HLS : Hid (w.heap.size + 1 < wr.heap.size) := (Array.getElem?_eq_some_iff.1 hX.out.2.1).1
      have HBV : Hid (∀ j, Vc.chTo id os k = some j → bestV id os k = (os j).v ∧ atTo id os k = (j : Int)) := fun j h => by unfold bestV atTo; rw [h]; exact ⟨rfl, rfl⟩
      have HBN : Hid (Vc.chTo id os k = none → atTo id os k = -1) := fun h => by unfold atTo; rw [h]
      have HMT : Hid (∀ W, Calls Tryd.prog 61 #[.int .u64 id, .agg #[.int .i64 (os k).port, .int .i64 (os k).cost, .int .i64 (os k).age, .int .u64 (os k).vec.root, .int .i64 (os k).vec.cost, .int .u64 (os k).vec.bridge, .int .i64 (os k).vec.port]] W fun e w' => e = .returned (.tuple #[.agg (vA (mayV id (os k))), .bool (decide (Vc.may id (os k)))]) ∧ Hid (Below W.heap.size W w')) := fun W => vmay_any id (os k) W
      have HBB : Hid (b < w.heap.size) := hb
      clear hX hb HR
      by_cases hm : Vc.may id (os k)
      · have hmv : mayV id (os k) = (os k).v := if_pos hm
        rw [decide_eq_true hm, hmv] at HMT
        clear hmv HNO
        have HOA : Hid (∀ j, decide (or2 (Vc.cmp (os k).v (os j).v) (sg (os k).port (os j).port) < 0) = decide (Vc.ahead (os k) (os j))) := fun j => or2_ahead _ _
        obtain ⟨Y, HY⟩ : ∃ Y, Hid (Y = wr.alloc (.cells #[.int .i64 (os k).port, .int .i64 (os k).cost, .int .i64 (os k).age, .int .u64 (os k).vec.root, .int .i64 (os k).vec.cost, .int .u64 (os k).vec.bridge, .int .i64 (os k).vec.port] 80)) := ⟨_, rfl⟩
        obtain ⟨G, HG⟩ : ∃ G, Hid (G = wr.heap.size) := ⟨_, rfl⟩
        have HYB : Hid (Below wr.heap.size wr Y) := by rw [HY.out]; exact below_alloc1 _ _
        have HYO : Hid (Y.heap[G]? = some (.cells #[.int .i64 (os k).port, .int .i64 (os k).cost, .int .i64 (os k).age, .int .u64 (os k).vec.root, .int .i64 (os k).vec.cost, .int .u64 (os k).vec.bridge, .int .i64 (os k).vec.port] 80 (0, 0))) := by rw [HY.out, HG.out]; exact heap_alloc_last _ _
        generalize hv : (os k).v = v at *
        obtain ⟨vr, vc, vb, vp⟩ := v
        go_wp2_with fail
        rw [← HY.out, ← HG.out]
        refine (HMT.out _).mono ?_
        rintro e w2 ⟨rfl, hb2⟩
        simp only [vA]
        obtain ⟨X, HX⟩ : ∃ X, Hid (X = w2.alloc (.cells #[.int .u64 vr, .int .i64 vc, .int .u64 vb, .int .i64 vp] 46)) := ⟨_, rfl⟩
        obtain ⟨G2, HG2⟩ : ∃ G2, Hid (G2 = w2.heap.size) := ⟨_, rfl⟩
        have HYX : Hid (Below Y.heap.size Y X) := by rw [HX.out]; exact hb2.out.alloc hb2.out.size _
        have HXB : Hid (Below wr.heap.size wr X) := HYB.out.trans (HYX.out.mono HYB.out.size)
        have HXO : Hid (X.heap[G]? = some (.cells #[.int .i64 (os k).port, .int .i64 (os k).cost, .int .i64 (os k).age, .int .u64 (os k).vec.root, .int .i64 (os k).vec.cost, .int .u64 (os k).vec.bridge, .int .i64 (os k).vec.port] 80 (0, 0))) := keep HYO.out HYX.out
        have HXV : Hid (X.heap[G2]? = some (.cells #[.int .u64 vr, .int .i64 vc, .int .u64 vb, .int .i64 vp] 46 (0, 0))) := by rw [HX.out, HG2.out]; exact heap_alloc_last _ _
        have HXR : Hid (X.heap[w.heap.size]? = some (.cells (vA Vc.v0) 46 (0, 0))) := keep HXX.out.1 HXB.out
        have HXG : Hid (X.heap[w.heap.size + 1]? = some (.cells (vA (bestV id os k)) 46 (0, 0))) := keep HXX.out.2.1 HXB.out
        have HXL : Hid (Below w.heap.size w X) := HXX.out.2.2.trans (HXB.out.mono HXX.out.2.2.size)
        have HN2 : Hid (w.heap.size + 1 ≠ G2) := by
          have h1 := HLS.out
          have h2 := (HYB.out.trans (hb2.out.mono HYB.out.size)).size
          show w.heap.size + 1 ≠ G2
          rw [HG2.out]; omega
        have HST : Hid (∀ W, Below X.heap.size X W → bestV id os (k + 1) = ⟨vr, vc, vb, vp⟩ → ((((W.setCell ⟨w.heap.size + 1, 0, none⟩ (.int .u64 vr)).setCell ⟨w.heap.size + 1, 1, none⟩ (.int .i64 vc)).setCell ⟨w.heap.size + 1, 2, none⟩ (.int .u64 vb)).setCell ⟨w.heap.size + 1, 3, none⟩ (.int .i64 vp)).heap[w.heap.size]? = some (.cells (vA Vc.v0) 46 (0, 0)) ∧ ((((W.setCell ⟨w.heap.size + 1, 0, none⟩ (.int .u64 vr)).setCell ⟨w.heap.size + 1, 1, none⟩ (.int .i64 vc)).setCell ⟨w.heap.size + 1, 2, none⟩ (.int .u64 vb)).setCell ⟨w.heap.size + 1, 3, none⟩ (.int .i64 vp)).heap[w.heap.size + 1]? = some (.cells (vA (bestV id os (k + 1))) 46 (0, 0)) ∧ Below w.heap.size w ((((W.setCell ⟨w.heap.size + 1, 0, none⟩ (.int .u64 vr)).setCell ⟨w.heap.size + 1, 1, none⟩ (.int .i64 vc)).setCell ⟨w.heap.size + 1, 2, none⟩ (.int .u64 vb)).setCell ⟨w.heap.size + 1, 3, none⟩ (.int .i64 vp))) := fun W hW h => by
          rw [h]
          have hl := HXL.out.trans (hW.mono HXL.out.size)
          have hle : w.heap.size ≤ w.heap.size + 1 := by omega
          exact ⟨(set4_other (by omega)).trans (keep HXR.out hW), vc_set4 (keep HXG.out hW), (((hl.setCell hle _).setCell hle _).setCell hle _).setCell hle _⟩
        have HKP : Hid (∀ W, Below X.heap.size X W → bestV id os (k + 1) = bestV id os k → W.heap[w.heap.size]? = some (.cells (vA Vc.v0) 46 (0, 0)) ∧ W.heap[w.heap.size + 1]? = some (.cells (vA (bestV id os (k + 1))) 46 (0, 0)) ∧ Below w.heap.size w W) := fun W hW h => by
          rw [h]
          exact ⟨keep HXR.out hW, keep HXG.out hW, HXL.out.trans (hW.mono HXL.out.size)⟩
        have HVC : Hid (∀ W, Below X.heap.size X W → W.cell? ⟨G2, 0, none⟩ = some (.int .u64 vr) ∧ W.cell? ⟨G2, 1, none⟩ = some (.int .i64 vc) ∧ W.cell? ⟨G2, 2, none⟩ = some (.int .u64 vb) ∧ W.cell? ⟨G2, 3, none⟩ = some (.int .i64 vp)) := fun W hW => vc_cells (keep HXV.out hW)
        have HGF : Hid (∀ W, Below X.heap.size X W → (W.frozen? ⟨w.heap.size + 1, 0, none⟩ = false ∧ W.frozen? ⟨w.heap.size + 1, 1, none⟩ = false ∧ W.frozen? ⟨w.heap.size + 1, 2, none⟩ = false ∧ W.frozen? ⟨w.heap.size + 1, 3, none⟩ = false) ∧ ∃ g0 g1 g2 g3, W.cell? ⟨w.heap.size + 1, 0, none⟩ = some g0 ∧ W.cell? ⟨w.heap.size + 1, 1, none⟩ = some g1 ∧ W.cell? ⟨w.heap.size + 1, 2, none⟩ = some g2 ∧ W.cell? ⟨w.heap.size + 1, 3, none⟩ = some g3) := fun W hW => ⟨vc_free (keep HXG.out hW), _, _, _, _, vc_cells (keep HXG.out hW)⟩
        have HXX0 : Hid (Below X.heap.size X X) := Below.refl _ _
        clear HMT HY HYB HYO HYX HXB hb2 c0 c1 c2 c3 c4 c5 c6
        go_wp2_with fail
        rw [← HX.out, ← HG2.out]
        cases hc : Vc.chTo id os k with
        | none =>
          have hat := HBN.out hc
          obtain ⟨z1, z2⟩ := HFIRST.out hm hc
          rw [hat]
          clear HFIRST HTHEN HBV HBN hm hc hat HOA
          go_quiet (fail)
          obtain ⟨Z, HZ⟩ : ∃ Z, Hid (Z = X.drewN nq) := ⟨_, rfl⟩
          have HZB : Hid (Below X.heap.size X Z) := by rw [HZ.out]; exact below_drewN HXX0.out _
          rw [← HZ.out]
          obtain ⟨y0, y1, y2, y3⟩ := HVC.out Z HZB.out
          obtain ⟨⟨f0, f1, f2, f3⟩, g0, g1, g2, g3, b0, b1, b2, b3⟩ := HGF.out Z HZB.out
          have HFN : Hid _ := drew3 (HST.out Z HZB.out z2)
          clear HST HKP HVC HGF HXX
          go_wp2_with fail
          go_region
          all_goals go_wp2_with fail
          all_goals exact ⟨⟨k + 1, by omega, by go_num, by rw [z1], HFN⟩, by simp [intOf]; omega⟩
        | some j =>
          obtain ⟨hbv, hat⟩ := HBV.out j hc
          have hjk := (Vc.chTo_some id os k j hc).1
          obtain ⟨hw, hl⟩ := HTHEN.out j hm hc
          have hoa := HOA.out j
          rw [hat] at hl
          rw [hbv] at HXG
          have HPJ : Hid (∀ W, Below X.heap.size X W → W.cell? ⟨b, off + j * 7, none⟩ = some (.int .i64 (os j).port)) := fun W hW => (ORow.cells (HRW.out W (HXL.out.trans (hW.mono HXL.out.size))) (show j < n by omega)).1
          have HOC : Hid (∀ W, Below X.heap.size X W → W.cell? ⟨G, 0, none⟩ = some (.int .i64 (os k).port)) := fun W hW => (of_cells (keep HXO.out hW)).1
          generalize hvj : (os j).v = u at *
          obtain ⟨ur, uc, ub, up⟩ := u
          have HBC : Hid (∀ W, Below X.heap.size X W → W.cell? ⟨w.heap.size + 1, 0, none⟩ = some (.int .u64 ur) ∧ W.cell? ⟨w.heap.size + 1, 1, none⟩ = some (.int .i64 uc) ∧ W.cell? ⟨w.heap.size + 1, 2, none⟩ = some (.int .u64 ub) ∧ W.cell? ⟨w.heap.size + 1, 3, none⟩ = some (.int .i64 up)) := fun W hW => vc_cells (keep HXG.out hW)
          have HCM : Hid (∀ W, Below X.heap.size X W → Calls Tryd.prog 63 #[.agg #[.int .u64 vr, .int .i64 vc, .int .u64 vb, .int .i64 vp], .agg #[.int .u64 ur, .int .i64 uc, .int .u64 ub, .int .i64 up]] W fun e w' => e = .returned (.int .i64 (Vc.cmp ⟨vr, vc, vb, vp⟩ ⟨ur, uc, ub, up⟩)) ∧ Hid (Below X.heap.size X w')) := fun W hW => (vcompare_any ⟨vr, vc, vb, vp⟩ ⟨ur, uc, ub, up⟩ W).mono (fun e w' h => ⟨h.1, hW.trans (h.2.mono hW.size)⟩)
          have HSX : Hid (∀ W, Below X.heap.size X W → (W.cell? ⟨G2, 0, none⟩ = some (.int .u64 vr) ∧ W.cell? ⟨G2, 1, none⟩ = some (.int .i64 vc) ∧ W.cell? ⟨G2, 2, none⟩ = some (.int .u64 vb) ∧ W.cell? ⟨G2, 3, none⟩ = some (.int .i64 vp)) ∧ (W.cell? ⟨w.heap.size + 1, 0, none⟩ = some (.int .u64 ur) ∧ W.cell? ⟨w.heap.size + 1, 1, none⟩ = some (.int .i64 uc) ∧ W.cell? ⟨w.heap.size + 1, 2, none⟩ = some (.int .u64 ub) ∧ W.cell? ⟨w.heap.size + 1, 3, none⟩ = some (.int .i64 up)) ∧ W.cell? ⟨b, off + j * 7, none⟩ = some (.int .i64 (os j).port) ∧ W.cell? ⟨G, 0, none⟩ = some (.int .i64 (os k).port)) := fun W hW => ⟨HVC.out W hW, HBC.out W hW, HPJ.out W hW, HOC.out W hW⟩
          have ij : (0 : Int) ≤ (j : Int) := by omega
          have jn : (j : Int) < (n : Int) := by omega
          have dj : decide ((j : Int) < 0) = false := decide_eq_false (by omega)
          rw [hat]
          clear hc hm HFIRST HTHEN HBV HBN HRW HXX HLS HOA hv hvj hat hbv HXG HXO HPJ HOC HBC HXV
          generalize hP : (os k).port = kp at *
          generalize hQ : (os j).port = jp at *
          obtain ⟨⟨s0, s1, s2, s3⟩, ⟨t0, t1, t2, t3⟩, p0, p1⟩ := HSX.out X HXX0.out
          generalize hcv : Vc.cmp ⟨vr, vc, vb, vp⟩ ⟨ur, uc, ub, up⟩ = CV at *
          obtain ⟨OV, hOV⟩ : ∃ OV, or2 CV (sg kp jp) = OV := ⟨_, rfl⟩
          rw [hOV] at hoa
          have HOR : Hid (∀ (g : Nat) (ty : TypeId) (W : World), W.heap[g]? = some (.cells #[.int .i64 CV, .int .i64 (sg kp jp)] ty (0, 0)) → Calls Tryd.prog 62 #[.slice (some ⟨g, 0, none⟩) 2 2] W fun e w' => e = .returned (.int .i64 OV) ∧ w' = W) := fun g ty W h => by rw [← hOV]; exact cor2 _ _ g ty W h
          clear hOV
          have HOA2 : Hid (decide (OV < 0) = decide (Vc.ahead (os k) (os j))) := hoa
          clear hoa
          go_region_held3 (fun W => (W.cell? ⟨G2, 0, none⟩ = some (.int .u64 vr) ∧ W.cell? ⟨G2, 1, none⟩ = some (.int .i64 vc) ∧ W.cell? ⟨G2, 2, none⟩ = some (.int .u64 vb) ∧ W.cell? ⟨G2, 3, none⟩ = some (.int .i64 vp)) ∧ (W.cell? ⟨w.heap.size + 1, 0, none⟩ = some (.int .u64 ur) ∧ W.cell? ⟨w.heap.size + 1, 1, none⟩ = some (.int .i64 uc) ∧ W.cell? ⟨w.heap.size + 1, 2, none⟩ = some (.int .u64 ub) ∧ W.cell? ⟨w.heap.size + 1, 3, none⟩ = some (.int .i64 up)) ∧ W.cell? ⟨b, off + j * 7, none⟩ = some (.int .i64 jp) ∧ W.cell? ⟨G, 0, none⟩ = some (.int .i64 kp))
            (first | (exact HSX.out _ (Below.drew HXX0.out)) | (exact HSX.out _ (Hid.out (by assumption))) | (exact HSX.out _ ((Hid.out HB1).alloc (Hid.out HB1).size _)))
            (first | (go_at_call 63; refine (HCM.out _ (Below.drew HXX0.out)).mono ?_; rintro e w3 ⟨rfl, HB1⟩) | (go_at_call 25; refine (ccmpi_any _ _ _).mono ?_; rintro e w3 ⟨rfl, rfl⟩) | (go_at_call 62; refine (HOR.out _ _ _ (heap_alloc_last _ _)).mono ?_; rintro e w4 ⟨rfl, rfl⟩))
          have HBZ : Hid (∀ o, Below X.heap.size X (w3.alloc o)) := fun o => HB1.out.alloc HB1.out.size o
          by_cases ha : Vc.ahead (os k) (os j)
          · have hoa2 : OV < 0 := of_decide_eq_true (HOA2.out.trans (decide_eq_true ha))
            obtain ⟨z1, z2⟩ := hw ha
            obtain ⟨Z, HZ⟩ : ∃ Z, Hid (Z = w3.alloc (.cells #[.int .i64 CV, .int .i64 (sg kp jp)] 3)) := ⟨_, rfl⟩
            have HZB : Hid (Below X.heap.size X Z) := by rw [HZ.out]; exact HBZ.out _
            obtain ⟨y0, y1, y2, y3⟩ := HVC.out Z HZB.out
            obtain ⟨⟨f0, f1, f2, f3⟩, g0, g1, g2, g3, b0, b1, b2, b3⟩ := HGF.out Z HZB.out
            have HFN : Hid _ := drew3 (HST.out Z HZB.out z2)
            clear HST HKP HVC HGF HSX HCM hw hl ha s0 s1 s2 s3 t0 t1 t2 t3 p0 p1 HBZ
            rw [← HZ.out]
            go_wp2_with fail
            go_region
            all_goals go_wp2_with fail
            all_goals exact ⟨⟨k + 1, by omega, by go_num, by rw [z1], HFN⟩, by simp [intOf]; omega⟩
          · have hoa1 : decide (OV < 0) = false := HOA2.out.trans (decide_eq_false ha)
            have hoa2 : ¬ OV < 0 := of_decide_eq_false hoa1
            obtain ⟨z1, z2⟩ := hl ha
            clear HST HVC HGF HSX HCM hw hl ha s0 s1 s2 s3 t0 t1 t2 t3 p0 p1
            go_wp2_with fail
            exact ⟨⟨k + 1, by omega, by go_num, by rw [z1], HKP.out _ (HBZ.out _) z2⟩, by simp [intOf]; omega⟩
      · have hmv : mayV id (os k) = Vc.v0 := if_neg hm
        rw [decide_eq_false hm, hmv] at HMT
        obtain ⟨z1, z2⟩ := HNO.out hm
        clear hmv HNO HFIRST HTHEN HBV HBN
        rw [← z1]
        go_wp2_with fail
        refine (HMT.out _).mono ?_
        rintro e w2 ⟨rfl, hb2⟩
        have HFIN : Hid (∀ o, (w2.alloc o).heap[w.heap.size]? = some (.cells (vA Vc.v0) 46 (0, 0)) ∧ (w2.alloc o).heap[w.heap.size + 1]? = some (.cells (vA (bestV id os (k + 1))) 46 (0, 0)) ∧ Below w.heap.size w (w2.alloc o)) := fun o => by
          have h := (below_alloc1 wr _).trans (hb2.out.mono (by simp))
          have h2 := h.alloc h.size o
          rw [z2]
          exact ⟨keep HXX.out.1 h2, keep HXX.out.2.1 h2, HXX.out.2.2.trans (h2.mono HXX.out.2.2.size)⟩
        clear hb2 z1 z2
        simp only [vA, Vc.v0]
        go_wp2_with fail
        exact ⟨⟨k + 1, by omega, by go_num, rfl, HFIN.out _⟩, by simp [intOf]; omega⟩
    · obtain rfl : k = n := by omega
      have HRES : Hid (wr.heap[w.heap.size]? = some (.cells (vA Vc.v0) 46 (0, 0))) := hX.out.1
      have HLW : Hid (Below w.heap.size w wr) := hX.out.2.2
      obtain ⟨r0, r1, r2, r3⟩ := vc_cells hX.out.1
      obtain ⟨f0, f1, f2, f3⟩ := vc_free hX.out.1
      obtain ⟨B, hB⟩ : ∃ B, bestV id os k = B := ⟨_, rfl⟩
      rw [hB] at hX
      obtain ⟨vr, vc, vb, vp⟩ := B
      have HBV : Hid (bestV id os k = ⟨vr, vc, vb, vp⟩) := hB
      clear hB
      obtain ⟨b0, b1, b2, b3⟩ := vc_cells hX.out.2.1
      have HLOW : Hid (Below w.heap.size w ((((wr.setCell ⟨w.heap.size, 0, none⟩ (.int .u64 vr)).setCell ⟨w.heap.size, 1, none⟩ (.int .i64 vc)).setCell ⟨w.heap.size, 2, none⟩ (.int .u64 vb)).setCell ⟨w.heap.size, 3, none⟩ (.int .i64 vp)).drew) := ((((HLW.out.setCell (Nat.le_refl _) _).setCell (Nat.le_refl _) _).setCell (Nat.le_refl _) _).setCell (Nat.le_refl _) _).drew
      clear hX
      go_wp2_with fail
      go_region
      all_goals go_wp2_with fail
      all_goals exact bodyPost_ret (v := .tuple #[.int .i64 (atTo id os k), .agg #[.int .u64 vr, .int .i64 vc, .int .u64 vb, .int .i64 vp]]) (results_tmp_row (p := 5) (u := 4) (ty := 46) Tryd.results42 _ _ w.heap.size 46 #[.int .u64 vr, .int .i64 vc, .int .u64 vb, .int .i64 vp] (0, 0) _ rfl (drew_row (vc_set4 HRES.out)) Tryd.underlying46 rfl (by rw [sizeVc]; rfl)) rfl ⟨by rw [HBV.out]; rfl, HLOW.out⟩
end Go.Proofs.YtaakjhdbelefiaeDoor

namespace Go.Proofs.YtaakjhdbelefiaeDoor
open Go.RowKit
open Vc (V Of)

set_option maxRecDepth 100000 in
set_option maxHeartbeats 4000000 in
theorem vchoose_any (id : Int) (ao : Option Addr) (n cap : Nat) (os : Nat → Of) (w : World) (hn : n ≤ 9223372036854775807) (hr : ORow w ao n cap os) :
    Calls Tryd.prog 27 #[.int .u64 id, .slice ao n cap] w fun e w' => e = .returned (.tuple #[.agg (vA (Vc.chV id os n)), .int .i64 (Vc.chA id os n), .int .i64 (Vc.chP id os n)]) ∧ Below w.heap.size w w' := by
  obtain ⟨W0, HW0⟩ : ∃ W0, Hid (W0 = w.alloc (.cells #[.int .u64 0, .int .i64 0, .int .u64 0, .int .i64 0] 46)) := ⟨_, rfl⟩
  have HB0 : Hid (Below w.heap.size w W0) := by rw [HW0.out]; exact below_alloc1 _ _
  have HR0 : Hid (W0.heap[w.heap.size]? = some (.cells #[.int .u64 0, .int .i64 0, .int .u64 0, .int .i64 0] 46 (0, 0))) := by rw [HW0.out]; exact heap_alloc_last _ _
  have HRW : Hid (∀ W, Below w.heap.size w W → ORow W ao n cap os) := fun W hW => CRow.other hr (fun q _ _ hq => hW.block q hq) hW.size
  have HBB : Hid (∀ b off, ao = some ⟨b, off, none⟩ → 0 < n → b < w.heap.size) := fun b off e hp => by
    obtain ⟨b', off', e', hb', _⟩ := hr.2 hp
    rw [e] at e'
    cases e'
    exact hb'
  have hcap := hr.1
  have HBO : Hid (Calls Tryd.prog 42 #[.int .u64 id, .slice ao n cap] W0 fun e w' => e = .returned (.tuple #[.int .i64 (atTo id os n), .agg (vA (bestV id os n))]) ∧ Below W0.heap.size W0 w') := vbestOffer_any id ao n cap os W0 hn (HRW.out W0 HB0.out)
  clear hr
  go_enter Tryd.func27, Tryd.ntmps27
  go_wp2_with fail
  rw [← HW0.out]
  refine HBO.out.mono ?_
  rintro e w1 ⟨rfl, hb1⟩
  obtain ⟨B, hB⟩ : ∃ B, bestV id os n = B := ⟨_, rfl⟩
  rw [hB]
  obtain ⟨vr, vc, vb, vp⟩ := B
  simp only [vA]
  obtain ⟨X, HX⟩ : ∃ X, Hid (X = w1.alloc (.cells #[.int .u64 vr, .int .i64 vc, .int .u64 vb, .int .i64 vp] 46)) := ⟨_, rfl⟩
  obtain ⟨G, HG⟩ : ∃ G, Hid (G = w1.heap.size) := ⟨_, rfl⟩
  have HXB : Hid (Below W0.heap.size W0 X) := by rw [HX.out]; exact hb1.alloc hb1.size _
  have HXL : Hid (Below w.heap.size w X) := HB0.out.trans (HXB.out.mono HB0.out.size)
  have HXV : Hid (X.heap[G]? = some (.cells #[.int .u64 vr, .int .i64 vc, .int .u64 vb, .int .i64 vp] 46 (0, 0))) := by rw [HX.out, HG.out]; exact heap_alloc_last _ _
  have HRES : Hid (X.heap[w.heap.size]? = some (.cells #[.int .u64 0, .int .i64 0, .int .u64 0, .int .i64 0] 46 (0, 0))) := keep HR0.out HXB.out
  have hne : w.heap.size ≠ G := by
    have h1 := hb1.size
    have h2 := (Array.getElem?_eq_some_iff.1 HR0.out).1
    rw [HG.out]; omega
  obtain ⟨b0, b1, b2, b3⟩ := vc_cells HXV.out
  obtain ⟨r0, r1, r2, r3⟩ := vc_cells HRES.out
  obtain ⟨f0, f1, f2, f3⟩ := vc_free HRES.out
  have HBVV : Hid (bestV id os n = ⟨vr, vc, vb, vp⟩) := hB
  clear hb1 hB HBO
  cases hc : Vc.chTo id os n with
  | none =>
    have hat : atTo id os n = -1 := by unfold atTo; rw [hc]
    have HOUT : Hid ((Ending.returned (.tuple #[.agg (vA (Vc.chV id os n)), .int .i64 (Vc.chA id os n), .int .i64 (Vc.chP id os n)]) : Ending) = .returned (.tuple #[.agg #[.int .u64 id, .int .i64 0, .int .u64 id, .int .i64 0], .int .i64 0, .int .i64 (-1)])) := by
      show (Ending.returned _ : Ending) = _
      unfold Vc.chV Vc.chA Vc.chP; rw [hc]; rfl
    rw [hat]
    have HLOW : Hid (Below w.heap.size w ((((X.setCell ⟨w.heap.size, 0, none⟩ (.int .u64 id)).setCell ⟨w.heap.size, 1, none⟩ (.int .i64 0)).setCell ⟨w.heap.size, 2, none⟩ (.int .u64 id)).setCell ⟨w.heap.size, 3, none⟩ (.int .i64 0))) := (((HXL.out.setCell (Nat.le_refl _) _).setCell (Nat.le_refl _) _).setCell (Nat.le_refl _) _).setCell (Nat.le_refl _) _
    clear hat hc
    rw [HX.out] at r0 r1 r2 r3 f0 f1 f2 f3
    go_wp2_with fail
    rw [← HX.out]
    exact bodyPost_ret (v := .tuple #[.agg #[.int .u64 id, .int .i64 0, .int .u64 id, .int .i64 0], .int .i64 0, .int .i64 (-1)]) (results_row_tmp2 (p := 4) (u := 5) (x := 6) (ty := 46) Tryd.results27 _ _ w.heap.size 46 #[.int .u64 id, .int .i64 0, .int .u64 id, .int .i64 0] (0, 0) _ rfl (vc_set4 HRES.out) Tryd.underlying46 rfl (by rw [sizeVc]; rfl)) rfl ⟨HOUT.out.symm, HLOW.out⟩
  | some j =>
    have hat : atTo id os n = (j : Int) := by unfold atTo; rw [hc]
    have hbv : (os j).v = ⟨vr, vc, vb, vp⟩ := by rw [← HBVV.out]; unfold bestV; rw [hc]
    obtain ⟨hjk, hmj, _⟩ := Vc.chTo_some id os n j hc
    obtain ⟨b, off, rfl, _⟩ := CRow.some (HRW.out X HXL.out) (by omega)
    have hbn : b ≠ w.heap.size := by have := HBB.out b off rfl (by omega); omega
    have hbn2 : w.heap.size ≠ b := fun e => hbn e.symm
    obtain ⟨a0, _, a2, _⟩ := ORow.cells (HRW.out X HXL.out) hjk
    have ha1 : 0 ≤ (os j).age := hmj.2.2.1.1
    have ha2 : (os j).age < 20 := hmj.2.2.1.2
    have wa : IntKind.i64.wrap ((os j).age + 1) = (os j).age + 1 := wraps_i64 _ (by omega) (by omega)
    have HOUT : Hid ((Ending.returned (.tuple #[.agg (vA (Vc.chV id os n)), .int .i64 (Vc.chA id os n), .int .i64 (Vc.chP id os n)]) : Ending) = .returned (.tuple #[.agg #[.int .u64 vr, .int .i64 vc, .int .u64 id, .int .i64 0], .int .i64 ((os j).age + 1), .int .i64 (os j).port])) := by
      show (Ending.returned _ : Ending) = _
      unfold Vc.chV Vc.chA Vc.chP; rw [hc]; simp only; rw [hbv]; rfl
    have ij : (0 : Int) ≤ (j : Int) := by omega
    have jn : (j : Int) < (n : Int) := by omega
    rw [hat]
    clear hat hbv hc hmj HRW HBB HBVV b2 b3 HXV HXB
    generalize (os j).age = oa at *
    generalize (os j).port = op at *
    have HLOW : Hid (Below w.heap.size w ((((X.setCell ⟨w.heap.size, 0, none⟩ (.int .u64 vr)).setCell ⟨w.heap.size, 1, none⟩ (.int .i64 vc)).setCell ⟨w.heap.size, 2, none⟩ (.int .u64 id)).setCell ⟨w.heap.size, 3, none⟩ (.int .i64 0)).drew) := ((((HXL.out.setCell (Nat.le_refl _) _).setCell (Nat.le_refl _) _).setCell (Nat.le_refl _) _).setCell (Nat.le_refl _) _).drew
    go_wp2_with fail
    rw [← HX.out, ← HG.out]
    go_region_held3 (fun W => (W.cell? ⟨G, 0, none⟩ = some (.int .u64 vr) ∧ W.cell? ⟨G, 1, none⟩ = some (.int .i64 vc)) ∧ W.cell? ⟨b, off + j * 7, none⟩ = some (.int .i64 op) ∧ W.cell? ⟨b, off + j * 7 + 2, none⟩ = some (.int .i64 oa))
      (go_keep)
      (fail)
    all_goals go_wp2_with fail
    all_goals exact bodyPost_ret (v := .tuple #[.agg #[.int .u64 vr, .int .i64 vc, .int .u64 id, .int .i64 0], .int .i64 (oa + 1), .int .i64 op]) (results_row_tmp2 (p := 4) (u := 5) (x := 6) (ty := 46) Tryd.results27 _ _ w.heap.size 46 #[.int .u64 vr, .int .i64 vc, .int .u64 id, .int .i64 0] (0, 0) _ rfl (drew_row (vc_set4 HRES.out)) Tryd.underlying46 rfl (by rw [sizeVc]; rfl)) rfl ⟨HOUT.out.symm, HLOW.out⟩
end Go.Proofs.YtaakjhdbelefiaeDoor

namespace Go.Proofs.YtaakjhdbelefiaeDoor
open Go.RowKit
open Vc (V Of)
open Pl (Br Net Pc Lk En St)

theorem infoPl : (Tryd.prog.info? 48).map (fun i => (i.zero, i.size, i.bytes)) = some (some (.agg #[.int .u64 0, .int .i64 0, .int .u64 0, .int .i64 0, .int .i64 0, .slice none 0 0, .slice none 0 0]), 7, 88) := by kernel_rfl
/-- A place without ports. -/
def plS (s : St) (j : Nat) : Value := if j < 4 then vC s.v j else if j = 4 then .int .i64 s.rp else .slice none 0 0
def PlAt (w : World) (g K : Nat) (x : Nat → St) : Prop := w.heap[g]? = some (.cells (rowC K 7 (fun i => plS (x i))) 48 (0, 0))
theorem PlAt.says {w : World} {g K : Nat} {x : Nat → St} (h : PlAt w g K x) : SaysAt w g K x :=
  ⟨(Array.getElem?_eq_some_iff.1 h).1, fun i hi j hj => by
    have := rowC_cell h hi (show j < 7 by omega)
    rw [this]
    unfold plS
    rw [if_pos hj]⟩
theorem PlAt.below {w w' : World} {g K : Nat} {x : Nat → St} (h : PlAt w g K x) (hb : Below w.heap.size w w') : PlAt w' g K x := keep h hb
theorem PlAt.cells {w : World} {g K : Nat} {x : Nat → St} (h : PlAt w g K x) {i : Nat} (hi : i < K) :
    (w.cell? ⟨g, i * 7, none⟩ = some (.int .u64 (x i).v.root) ∧ w.cell? ⟨g, i * 7 + 1, none⟩ = some (.int .i64 (x i).v.cost) ∧ w.cell? ⟨g, i * 7 + 2, none⟩ = some (.int .u64 (x i).v.bridge) ∧ w.cell? ⟨g, i * 7 + 3, none⟩ = some (.int .i64 (x i).v.port) ∧ w.cell? ⟨g, i * 7 + 4, none⟩ = some (.int .i64 (x i).rp)) ∧
    (w.frozen? ⟨g, i * 7, none⟩ = false ∧ w.frozen? ⟨g, i * 7 + 1, none⟩ = false ∧ w.frozen? ⟨g, i * 7 + 2, none⟩ = false ∧ w.frozen? ⟨g, i * 7 + 3, none⟩ = false ∧ w.frozen? ⟨g, i * 7 + 4, none⟩ = false) :=
  ⟨⟨rowC_cell h hi (show 0 < 7 by omega), rowC_cell h hi (show 1 < 7 by omega), rowC_cell h hi (show 2 < 7 by omega), rowC_cell h hi (show 3 < 7 by omega), rowC_cell h hi (show 4 < 7 by omega)⟩,
    frozen_of_row _ _ _ _ _ h, frozen_of_row _ _ _ _ _ h, frozen_of_row _ _ _ _ _ h, frozen_of_row _ _ _ _ _ h, frozen_of_row _ _ _ _ _ h⟩
/-- The vector of place i is stored. -/
theorem pl_set4 {w : World} {g K : Nat} {x : Nat → St} (h : PlAt w g K x) {i : Nat} (hi : i < K) (v : V) :
    PlAt ((((w.setCell ⟨g, i * 7, none⟩ (.int .u64 v.root)).setCell ⟨g, i * 7 + 1, none⟩ (.int .i64 v.cost)).setCell ⟨g, i * 7 + 2, none⟩ (.int .u64 v.bridge)).setCell ⟨g, i * 7 + 3, none⟩ (.int .i64 v.port)) g K (fun j => if j = i then ⟨v, (x i).rp⟩ else x j) := by
  have h0 := rowC_set h hi (show 0 < 7 by omega) (.int .u64 v.root)
  rw [Nat.add_zero] at h0
  have h1 := rowC_set h0 hi (show 1 < 7 by omega) (.int .i64 v.cost)
  have h2 := rowC_set h1 hi (show 2 < 7 by omega) (.int .u64 v.bridge)
  have h3 := rowC_set h2 hi (show 3 < 7 by omega) (.int .i64 v.port)
  unfold PlAt
  rw [h3, rowC_congr2 (d := fun j => plS (if j = i then ⟨v, (x i).rp⟩ else x j)) (fun j _ m hm => ?_)]
  unfold updC
  by_cases q : j = i
  · subst q
    rcases (by omega : m = 0 ∨ m = 1 ∨ m = 2 ∨ m = 3 ∨ m = 4 ∨ m = 5 ∨ m = 6) with e | e | e | e | e | e | e <;> subst e <;> simp [plS, vC]
  · simp [q]
/-- .. and its root port. -/
theorem pl_set5 {w : World} {g K : Nat} {x : Nat → St} (h : PlAt w g K x) {i : Nat} (hi : i < K) (r : Int) :
    PlAt (w.setCell ⟨g, i * 7 + 4, none⟩ (.int .i64 r)) g K (fun j => if j = i then ⟨(x i).v, r⟩ else x j) := by
  have h0 := rowC_set h hi (show 4 < 7 by omega) (.int .i64 r)
  unfold PlAt
  rw [h0, rowC_congr2 (d := fun j => plS (if j = i then ⟨(x i).v, r⟩ else x j)) (fun j _ m hm => ?_)]
  unfold updC
  by_cases q : j = i
  · subst q
    rcases (by omega : m = 0 ∨ m = 1 ∨ m = 2 ∨ m = 3 ∨ m = 4 ∨ m = 5 ∨ m = 6) with e | e | e | e | e | e | e <;> subst e <;> simp [plS, vC]
  · simp [q]
theorem PlAt.congr {w : World} {g K : Nat} {x y : Nat → St} (h : PlAt w g K x) (e : ∀ i, i < K → x i = y i) : PlAt w g K y := by
  unfold PlAt at h ⊢
  rw [h, rowC_congr (d := fun i => plS (y i)) (fun i hi => by rw [e i hi])]
/-- At the beginning: the first k have their identity. -/
def sInit (ids : Nat → Int) (k i : Nat) : St := if i < k then ⟨⟨ids i, 0, ids i, 0⟩, 0⟩ else ⟨⟨0, 0, 0, 0⟩, 0⟩
end Go.Proofs.YtaakjhdbelefiaeDoor

namespace Go.Proofs.YtaakjhdbelefiaeDoor
open Go.RowKit
open Vc (V Of)
open Pl (Br Net Pc Lk En St)

/-- What settled is given. -/
structure SetIn (w : World) (bao : Option Addr) (K bcap : Nat) (bs : Nat → Br) (G : Nat) (v : Nat → Value) (E : Nat → List En) : Prop where
  few : K ≤ 12
  brs : BRow w bao K bcap bs
  each : ∀ i, i < K → (bs i).at' w
  fine : ∀ i, i < K → (bs i).Fine
  ends : EndsOk w G K v E
  len : ∀ i, i < K → (E i).length ≤ 1000
  oth : ∀ i, i < K → ∀ e, e ∈ E i → e.live = true → 0 ≤ e.other ∧ e.other < K
theorem SetIn.below {w w' : World} {bao : Option Addr} {K bcap : Nat} {bs : Nat → Br} {G : Nat} {v : Nat → Value} {E : Nat → List En} (h : SetIn w bao K bcap bs G v E) (hb : Below w.heap.size w w') : SetIn w' bao K bcap bs G v E :=
  ⟨h.few, CRow.below h.brs hb, fun i hi => (h.each i hi).below hb, h.fine, h.ends.below hb, h.len, h.oth⟩
/-- One bridge chooses. -/
theorem step_pl {w : World} {g K : Nat} {x : Nat → St} {ids : Nat → Int} {E : Nat → List En} (h : PlAt w g K x) {i : Nat} (hi : i < K) :
    PlAt (((((w.setCell ⟨g, i * 7, none⟩ (.int .u64 (Pl.chS (ids i) (Pl.offs (E i) x)).v.root)).setCell ⟨g, i * 7 + 1, none⟩ (.int .i64 (Pl.chS (ids i) (Pl.offs (E i) x)).v.cost)).setCell ⟨g, i * 7 + 2, none⟩ (.int .u64 (Pl.chS (ids i) (Pl.offs (E i) x)).v.bridge)).setCell ⟨g, i * 7 + 3, none⟩ (.int .i64 (Pl.chS (ids i) (Pl.offs (E i) x)).v.port)).setCell ⟨g, i * 7 + 4, none⟩ (.int .i64 (Pl.chS (ids i) (Pl.offs (E i) x)).rp)) g K (Pl.step ids E x i) := by
  refine (pl_set5 (pl_set4 h hi (Pl.chS (ids i) (Pl.offs (E i) x)).v) hi (Pl.chS (ids i) (Pl.offs (E i) x)).rp).congr (fun j hj => ?_)
  unfold Pl.step
  by_cases q : j = i
  · rw [if_pos q, if_pos q, if_pos rfl]
  · rw [if_neg q, if_neg q, if_neg q]
set_option maxRecDepth 100000 in
set_option maxHeartbeats 4000000 in
theorem psettled_any (bao : Option Addr) (K bcap : Nat) (bs : Nat → Br) (G : Nat) (v : Nat → Value) (E : Nat → List En) (tree : Int) (w : World) (hin : SetIn w bao K bcap bs G v E) :
    Calls Tryd.prog 14 #[.slice bao K bcap, .int .i64 tree, .slice (some ⟨G, 0, none⟩) K K] w fun e w' => e = .returned (.slice (some ⟨w.heap.size, 0, none⟩) K K) ∧ PlAt w' w.heap.size K (Pl.rounds (fun i => (bs i).id tree) E K K) ∧ Below w.heap.size w w' := by
  have hK := hin.few
  have hcap := hin.brs.1
  have HRW : Hid (∀ W, Below w.heap.size w W → SetIn W bao K bcap bs G v E) := fun W hW => hin.below hW
  have hmk : ∀ W : World, (Instr.makeSlice 36 (.int .i64 (K : Int)) (.int .i64 (K : Int))).run Tryd.prog W = .ok (.slice (some ⟨W.heap.size, 0, none⟩) K K) (W.alloc (.cells (rowC K 7 (fun i => plS (sInit (fun i => (bs i).id tree) 0 i))) 48)) := fun W => make_rowD W 36 48 _ 7 88 K Tryd.underlying36 infoPl (by omega) rfl (by omega) (by omega) _ (fun _ j hj => by
    rcases (by omega : j = 0 ∨ j = 1 ∨ j = 2 ∨ j = 3 ∨ j = 4 ∨ j = 5 ∨ j = 6) with e | e | e | e | e | e | e <;> subst e <;> rfl)
  clear hin
  obtain ⟨ids, HIDS⟩ : ∃ ids : Nat → Int, Hid (∀ i, ids i = (bs i).id tree) := ⟨fun i => (bs i).id tree, fun _ => rfl⟩
  obtain ⟨P, HP⟩ : ∃ P, Hid (P = w.heap.size) := ⟨_, rfl⟩
  have HE : Hid (Pl.rounds (fun i => (bs i).id tree) E K K = Pl.rounds ids E K K) := by
    have : ids = fun i => (bs i).id tree := funext HIDS.out
    rw [this]; rfl
  rw [HE.out, ← HP.out]
  have H0 : Hid (∀ W, W = w.alloc (.cells (rowC K 7 (fun i => plS (sInit (fun i => (bs i).id tree) 0 i))) 48) → PlAt W P K (sInit ids 0) ∧ Below w.heap.size w W) := fun W hW => by
    rw [hW, HP.out]
    refine ⟨?_, below_alloc1 _ _⟩
    unfold PlAt
    rw [heap_alloc_last]
    rfl
  have hP0 : w.heap.size ≤ P := by rw [HP.out]; exact Nat.le_refl _
  go_enter Tryd.func14, Tryd.ntmps14
  go_wp2_with fail
  rw [← HP.out]
  go_loopw [18] (fun i wr => ∃ k : Nat, k ≤ K ∧ i = .int .i64 k ∧ Hid (PlAt wr P K (sInit ids k) ∧ Below w.heap.size w wr)) (fun i _ => K - (intOf i).toNat)
  case atStart => exact ⟨0, by omega, rfl, H0.out _ rfl⟩
  case round =>
    obtain ⟨k, hk, rfl, hX⟩ := hrel
    clear H0
    by_cases hlt : k < K
    · obtain ⟨hPl, hB⟩ := hX.out
      have hI := HRW.out wr hB
      obtain ⟨b, off, rfl, _⟩ := CRow.some hI.brs (by omega)
      obtain ⟨c0, c1, c2, c3, c4⟩ := BRow.cells hI.brs hlt
      obtain ⟨X, HX⟩ : ∃ X, Hid (X = wr.alloc (.cells (brA (bs k)) 33)) := ⟨_, rfl⟩
      have hXB : Below wr.heap.size wr X := by rw [HX.out]; exact below_alloc1 _ _
      have hX5 : X.heap[wr.heap.size]? = some (.cells (brA (bs k)) 33 (0, 0)) := by rw [HX.out]; exact heap_alloc_last _ _
      have HCL : Hid (Calls Tryd.prog 26 #[.agg (brA (bs k)), .int .i64 tree] X fun e w' => e = .returned (.int .u64 (ids k)) ∧ Hid (PlAt w' P K (sInit ids k) ∧ Below w.heap.size w w')) := by
        refine (pident_any (bs k) tree X ((hI.each k hlt).below hXB) (hI.fine k hlt)).mono ?_
        rintro e w' ⟨rfl, z⟩
        have z2 : Below wr.heap.size wr w' := hXB.trans (z.mono hXB.size)
        exact ⟨by rw [HIDS.out], hPl.below z2, hB.trans (z2.mono hB.size)⟩
      have HN : Hid (∀ W, PlAt W P K (sInit ids k) → Below w.heap.size w W → PlAt ((((W.setCell ⟨P, k * 7, none⟩ (.int .u64 (ids k))).setCell ⟨P, k * 7 + 1, none⟩ (.int .i64 0)).setCell ⟨P, k * 7 + 2, none⟩ (.int .u64 (ids k))).setCell ⟨P, k * 7 + 3, none⟩ (.int .i64 0)) P K (sInit ids (k + 1)) ∧ Below w.heap.size w ((((W.setCell ⟨P, k * 7, none⟩ (.int .u64 (ids k))).setCell ⟨P, k * 7 + 1, none⟩ (.int .i64 0)).setCell ⟨P, k * 7 + 2, none⟩ (.int .u64 (ids k))).setCell ⟨P, k * 7 + 3, none⟩ (.int .i64 0))) := fun W h1 h2 => by
        refine ⟨(pl_set4 h1 hlt ⟨ids k, 0, ids k, 0⟩).congr (fun j hj => ?_), (((h2.setCell hP0 _).setCell hP0 _).setCell hP0 _).setCell hP0 _⟩
        unfold sInit
        by_cases q : j = k
        · subst q
          rw [if_pos rfl, if_neg (Nat.lt_irrefl _), if_pos (Nat.lt_succ_self _)]
        · rw [if_neg q]
          by_cases q2 : j < k
          · rw [if_pos q2, if_pos (by omega)]
          · rw [if_neg q2, if_neg (by omega)]
      obtain ⟨d0, d1, d2, d3, d4⟩ := br_cells hX5
      have i0 : (0 : Int) ≤ (k : Int) := by omega
      have i1 : (k : Int) < (K : Int) := by omega
      clear hX hPl hB hI hXB hX5 HRW
      simp only [brA] at *
      go_wp2_with fail
      rw [← HX.out]
      refine HCL.out.mono ?_
      rintro e w1 ⟨rfl, HW1⟩
      obtain ⟨⟨q0, q1, q2, q3, _⟩, f0, f1, f2, f3, _⟩ := HW1.out.1.cells hlt
      clear d0 d1 d2 d3 d4 HCL
      go_wp2_with fail
      exact ⟨⟨k + 1, by omega, by go_num, HN.out _ HW1.out.1 HW1.out.2⟩, by simp [intOf]; omega⟩
    · obtain rfl : k = K := by omega
      have H1 : Hid (PlAt wr P k (Pl.rounds ids E k 0) ∧ Below w.heap.size w wr) := ⟨hX.out.1.congr (fun i hi => by unfold sInit; rw [if_pos hi]; rfl), hX.out.2⟩
      clear hX
      go_wp2_with fail
      go_loopw [36] (fun i wr => ∃ r : Nat, r ≤ k ∧ i = .int .i64 r ∧ Hid (PlAt wr P k (Pl.rounds ids E k r) ∧ Below w.heap.size w wr)) (fun i _ => k - (intOf i).toNat)
      case atStart => exact ⟨0, by omega, rfl, H1⟩
      case round =>
        obtain ⟨r, hr, rfl, hY⟩ := hrel
        clear H1
        by_cases hlt2 : r < k
        · have H2 : Hid (PlAt wr P k (Pl.roundTo ids E (Pl.rounds ids E k r) 0) ∧ Below w.heap.size w wr) := hY.out
          clear hY
          go_wp2_with fail
          go_loopw [40] (fun i wr => ∃ j : Nat, j ≤ k ∧ i = .int .i64 j ∧ Hid (PlAt wr P k (Pl.roundTo ids E (Pl.rounds ids E k r) j) ∧ Below w.heap.size w wr)) (fun i _ => k - (intOf i).toNat)
          case atStart => exact ⟨0, by omega, rfl, H2⟩
          case round =>
            obtain ⟨j, hj, rfl, hZ⟩ := hrel
            clear H2
            by_cases hlt3 : j < k
            · obtain ⟨hPl, hB⟩ := hZ.out
              have hbr := (Pl.roundTo_bridge ids E _ (Pl.rounds_bridge ids E k r) j j).1
              have hstep : Pl.roundTo ids E (Pl.rounds ids E k r) (j + 1) = Pl.step ids E (Pl.roundTo ids E (Pl.rounds ids E k r) j) j := rfl
              have hI := HRW.out wr hB
              obtain ⟨eao, ecap, ev, hrow⟩ := hI.ends.row j hlt3
              have eA : (⟨G, j, none⟩ : Addr) = ⟨G, j * 1 + 0, none⟩ := by simp
              have hlen := hI.len j hlt3
              generalize Pl.roundTo ids E (Pl.rounds ids E k r) j = X at *
              obtain ⟨sS, hsS⟩ : ∃ sS, sS = Pl.chS (ids j) (Pl.offs (E j) X) := ⟨_, rfl⟩
              have hsb := Pl.chS_bridge (ids j) (Pl.offs (E j) X)
              have HOF : Hid (∀ W, Below wr.heap.size wr W → Calls Tryd.prog 16 #[.slice eao (E j).length ecap, .slice (some ⟨P, 0, none⟩) k k] W fun e w' => ∃ ao cap, e = .returned (.slice ao (Pl.offs (E j) X).length cap) ∧ Hid (ORow w' ao (Pl.offs (E j) X).length cap (Pl.lf (Pl.offs (E j) X))) ∧ Hid (Below wr.heap.size wr w')) := fun W hW => by
                refine (poffers_any (E j) eao ecap P k X W hlen (CRow.below hrow hW) ((hPl.below hW).says) (hI.oth j hlt3)).mono ?_
                rintro e w' ⟨ao, cap, rfl, z1, z2, _⟩
                exact ⟨ao, cap, rfl, z1, hW.trans (z2.mono hW.size)⟩
              have hfew : (Pl.offs (E j) X).length ≤ 1000 := by
                unfold Pl.offs
                rw [List.length_map]
                exact Nat.le_trans (List.length_filter_le _ _) hlen
              have HCH : Hid (∀ (W : World) (ao : Option Addr) (cap : Nat), ORow W ao (Pl.offs (E j) X).length cap (Pl.lf (Pl.offs (E j) X)) → Below wr.heap.size wr W → Calls Tryd.prog 27 #[.int .u64 (ids j), .slice ao (Pl.offs (E j) X).length cap] W fun e w' => ∃ ag : Int, e = .returned (.tuple #[.agg #[.int .u64 sS.v.root, .int .i64 sS.v.cost, .int .u64 (ids j), .int .i64 0], .int .i64 ag, .int .i64 sS.rp]) ∧ Hid (Below wr.heap.size wr w')) := fun W ao cap h1 h2 => by
                refine (vchoose_any (ids j) ao (Pl.offs (E j) X).length cap (Pl.lf (Pl.offs (E j) X)) W (by omega) h1).mono ?_
                rintro e w' ⟨rfl, z2⟩
                refine ⟨Vc.chA (ids j) (Pl.lf (Pl.offs (E j) X)) (Pl.offs (E j) X).length, ?_, h2.trans (z2.mono h2.size)⟩
                have e1 : sS.v = Vc.chV (ids j) (Pl.lf (Pl.offs (E j) X)) (Pl.offs (E j) X).length := by rw [hsS]; rfl
                have e2 : sS.rp = Vc.chP (ids j) (Pl.lf (Pl.offs (E j) X)) (Pl.offs (E j) X).length := by rw [hsS]; rfl
                rw [← hsS] at hsb
                rw [← e1, ← e2]
                unfold vA
                rw [hsb.1, hsb.2]
              have HS : Hid (∀ W, Below wr.heap.size wr W → W.cell? ⟨P, j * 7 + 2, none⟩ = some (.int .u64 (ids j)) ∧ W.cell? ⟨G, j, none⟩ = some (.slice eao (E j).length ecap)) := fun W hW => by
                have h1 := ((hPl.below hW).cells hlt3).1.2.2.1
                rw [hbr] at h1
                have h2 := rowC_cell (hI.ends.below hW).blk hlt3 (show 0 < 1 by omega)
                rw [← eA, ev] at h2
                exact ⟨h1, h2⟩
              have hPG : G ≠ P := fun e => by
                have h1 := hI.ends.blk
                rw [e, hPl] at h1
                injection h1 with h1
                injection h1 with _ h1
                revert h1
                decide
              have HS4 : Hid (∀ W, Below wr.heap.size wr W → ((((W.setCell ⟨P, j * 7, none⟩ (.int .u64 sS.v.root)).setCell ⟨P, j * 7 + 1, none⟩ (.int .i64 sS.v.cost)).setCell ⟨P, j * 7 + 2, none⟩ (.int .u64 (ids j))).setCell ⟨P, j * 7 + 3, none⟩ (.int .i64 0)).cell? ⟨P, j * 7 + 2, none⟩ = some (.int .u64 (ids j)) ∧ ((((W.setCell ⟨P, j * 7, none⟩ (.int .u64 sS.v.root)).setCell ⟨P, j * 7 + 1, none⟩ (.int .i64 sS.v.cost)).setCell ⟨P, j * 7 + 2, none⟩ (.int .u64 (ids j))).setCell ⟨P, j * 7 + 3, none⟩ (.int .i64 0)).cell? ⟨G, j, none⟩ = some (.slice eao (E j).length ecap)) := fun W hW => by
                have h1 := pl_set4 (hPl.below hW) hlt3 ⟨sS.v.root, sS.v.cost, ids j, 0⟩
                refine ⟨?_, ?_⟩
                · have := (h1.cells hlt3).1.2.2.1
                  simp only [if_true] at this
                  exact this
                · refine (World.cell?_of_block (w := W) ?_).trans (HS.out W hW).2
                  exact (heap_setCell_other _ _ _ _ (by exact hPG)).trans ((heap_setCell_other _ _ _ _ (by exact hPG)).trans ((heap_setCell_other _ _ _ _ (by exact hPG)).trans (heap_setCell_other _ _ _ _ (by exact hPG))))
              have HN : Hid (∀ W, Below wr.heap.size wr W → PlAt (((((W.setCell ⟨P, j * 7, none⟩ (.int .u64 sS.v.root)).setCell ⟨P, j * 7 + 1, none⟩ (.int .i64 sS.v.cost)).setCell ⟨P, j * 7 + 2, none⟩ (.int .u64 (ids j))).setCell ⟨P, j * 7 + 3, none⟩ (.int .i64 0)).setCell ⟨P, j * 7 + 4, none⟩ (.int .i64 sS.rp)) P k (Pl.roundTo ids E (Pl.rounds ids E k r) (j + 1)) ∧ Below w.heap.size w (((((W.setCell ⟨P, j * 7, none⟩ (.int .u64 sS.v.root)).setCell ⟨P, j * 7 + 1, none⟩ (.int .i64 sS.v.cost)).setCell ⟨P, j * 7 + 2, none⟩ (.int .u64 (ids j))).setCell ⟨P, j * 7 + 3, none⟩ (.int .i64 0)).setCell ⟨P, j * 7 + 4, none⟩ (.int .i64 sS.rp))) := fun W hW => by
                rw [hstep]
                have h1 := step_pl (ids := ids) (E := E) (hPl.below hW) hlt3
                rw [hsb.1, hsb.2, ← hsS] at h1
                have h2 : Below w.heap.size w W := hB.trans (hW.mono hB.size)
                exact ⟨h1, ((((h2.setCell hP0 _).setCell hP0 _).setCell hP0 _).setCell hP0 _).setCell hP0 _⟩
              have HS5 : Hid (∀ W, Below wr.heap.size wr W → (((((W.setCell ⟨P, j * 7, none⟩ (.int .u64 sS.v.root)).setCell ⟨P, j * 7 + 1, none⟩ (.int .i64 sS.v.cost)).setCell ⟨P, j * 7 + 2, none⟩ (.int .u64 (ids j))).setCell ⟨P, j * 7 + 3, none⟩ (.int .i64 0)).setCell ⟨P, j * 7 + 4, none⟩ (.int .i64 sS.rp)).cell? ⟨P, j * 7 + 2, none⟩ = some (.int .u64 (ids j)) ∧ (((((W.setCell ⟨P, j * 7, none⟩ (.int .u64 sS.v.root)).setCell ⟨P, j * 7 + 1, none⟩ (.int .i64 sS.v.cost)).setCell ⟨P, j * 7 + 2, none⟩ (.int .u64 (ids j))).setCell ⟨P, j * 7 + 3, none⟩ (.int .i64 0)).setCell ⟨P, j * 7 + 4, none⟩ (.int .i64 sS.rp)).cell? ⟨G, j, none⟩ = some (.slice eao (E j).length ecap)) := fun W hW => by
                have h1 := pl_set5 (pl_set4 (hPl.below hW) hlt3 ⟨sS.v.root, sS.v.cost, ids j, 0⟩) hlt3 sS.rp
                refine ⟨?_, ?_⟩
                · have := (h1.cells hlt3).1.2.2.1
                  simp only [if_true] at this
                  exact this
                · exact (World.cell?_of_block (heap_setCell_other _ _ _ _ (by exact hPG))).trans (HS4.out W hW).2
              have HPC : Hid (∀ W, Below wr.heap.size wr W → _) := fun W hW => (hPl.below hW).cells hlt3
              have HB0 : Hid (Below wr.heap.size wr wr.drew) := Below.drew (Below.refl _ _)
              obtain ⟨k0, k1⟩ := HS.out wr (Below.refl _ _)
              have i0 : (0 : Int) ≤ (j : Int) := by omega
              have i1 : (j : Int) < (k : Int) := by omega
              generalize (Pl.offs (E j) X).length = m at *
              generalize (E j).length = en at *
              clear hZ hPl hB hI hrow hlen hsb hsS hbr hstep ev eA hPG HRW hmk hfew
              go_wp2_with fail
              go_region_held3 (fun W => W.cell? ⟨P, j * 7 + 2, none⟩ = some (.int .u64 (ids j)) ∧ W.cell? ⟨G, j, none⟩ = some (.slice eao en ecap))
                (first | (with_reducible exact HS.out _ HB0.out) | (with_reducible exact HS.out _ HB1.out) | (with_reducible exact HS.out _ HB2.out) | (with_reducible exact HS4.out _ HB2.out) | (with_reducible exact HS5.out _ HB2.out))
                (first | (go_at_call 16; (with_reducible refine (HOF.out _ HB0.out).mono ?_); rintro e w1 ⟨oao, ocap, rfl, HO1, HB1⟩) | (go_at_call 27; (with_reducible refine (HCH.out _ _ _ HO1.out HB1.out).mono ?_); rintro e w2 ⟨ag, rfl, HB2⟩; obtain ⟨⟨g0, g1, g2, g3, g4⟩, f0, f1, f2, f3, f4⟩ := HPC.out w2 HB2.out))
              all_goals go_wp2_with fail
              all_goals exact ⟨⟨j + 1, by omega, by go_num, HN.out _ HB2.out⟩, by simp [intOf]; omega⟩
            · obtain rfl : j = k := by omega
              have H3 : Hid (PlAt wr P j (Pl.rounds ids E j (r + 1)) ∧ Below w.heap.size w wr) := hZ.out
              go_wp2_with fail
              exact ⟨⟨r + 1, by omega, by go_num, H3⟩, by simp [intOf]; omega⟩
        · obtain rfl : r = k := by omega
          go_wp2_with fail
          go_ret
          exact ⟨rfl, hY.out.1, by rw [HP.out]; exact hY.out.2⟩
end Go.Proofs.YtaakjhdbelefiaeDoor

namespace Go.Proofs.YtaakjhdbelefiaeDoor
open Go.RowKit
open Vc (V Of)

set_option maxHeartbeats 1000000 in
theorem vrole_any (s : V) (root port : Int) (ao : Option Addr) (n cap : Nat) (os : Nat → Of) (w : World) (hn : n ≤ 9223372036854775807) (hr : ORow w ao n cap os) :
    Calls Tryd.prog 28 #[.agg #[.int .u64 s.root, .int .i64 s.cost, .int .u64 s.bridge, .int .i64 s.port], .int .i64 root, .int .i64 port, .slice ao n cap] w fun e w' => e = .returned (.int .i64 (Vc.role s root port os n)) ∧ Below w.heap.size w w' := by
  have HR : Hid (ORow w ao n cap os) := hr
  clear hr
  unfold Vc.role
  by_cases h0 : port = root
  · rw [if_pos h0]
    subst h0
    go_enter Tryd.func28, Tryd.ntmps28
    go_wp2_with fail
    go_ret
    exact ⟨rfl, below_alloc1 _ _⟩
  · rw [if_neg h0]
    obtain ⟨R, hR⟩ : ∃ R : Int, (if Vc.someTo (fun i => decide (Vc.hears s port (os i))) n = true then (3 : Int) else 2) = R := ⟨_, rfl⟩
    rw [hR]
    have HR3 : Hid (Vc.someTo (fun i => decide (Vc.hears s port (os i))) n = true → R = 3) := fun h => by rw [← hR, if_pos h]
    have HR2 : Hid (Vc.someTo (fun i => decide (Vc.hears s port (os i))) n = false → R = 2) := fun h => by rw [← hR, h]; rfl
    clear hR
    have d0 : (port == root) = false := by simp [h0]
    have HBT : Hid (∀ (a b : V) (W : World), Calls Tryd.prog 43 #[.agg #[.int .u64 a.root, .int .i64 a.cost, .int .u64 a.bridge, .int .i64 a.port], .agg #[.int .u64 b.root, .int .i64 b.cost, .int .u64 b.bridge, .int .i64 b.port]] W fun e w' => e = .returned (.bool (decide (Vc.lt a b))) ∧ Below W.heap.size W w') := fun a b W => vbetter_any a b W
    have HH : Hid (∀ o, decide (Vc.hears s port o) = decide (o.port = port ∧ (0 ≤ o.age ∧ o.age ≤ 20) ∧ Vc.lt o.vec ⟨s.root, s.cost, s.bridge, port⟩)) := fun o => rfl
    go_enter Tryd.func28, Tryd.ntmps28
    go_wp2_with fail
    go_loopw [18] (fun i wr => ∃ k : Nat, k ≤ n ∧ i = .int .i64 k ∧ Hid (Vc.someTo (fun i => decide (Vc.hears s port (os i))) k = false) ∧ Hid (wr.heap[w.heap.size]? = some (.cells #[.int .u64 s.root, .int .i64 s.cost, .int .u64 s.bridge, .int .i64 port] 46 (0, 0)) ∧ Below w.heap.size w wr)) (fun i _ => n - (intOf i).toNat)
    case atStart => exact ⟨0, by omega, rfl, rfl, heap_alloc_last w _, below_alloc1 _ _⟩
    case round =>
      obtain ⟨k, hk, rfl, hS, hX⟩ := hrel
      by_cases hlt : k < n
      · obtain ⟨b, off, rfl, hb⟩ := CRow.some HR.out (by omega)
        have hcap := HR.out.1
        obtain ⟨c0, c1, c2, c3, c4, c5, c6⟩ := ORow.cells (CRow.other HR.out (w' := wr) (fun q _ _ hq => hX.out.2.block q hq) hX.out.2.size) hlt
        obtain ⟨v0, v1, v2, v3⟩ := vc_cells hX.out.1
        have HNO : Hid (decide (Vc.hears s port (os k)) = false → Vc.someTo (fun i => decide (Vc.hears s port (os i))) (k + 1) = false) := fun h => by
          show (Vc.someTo _ k || decide (Vc.hears s port (os k))) = false
          rw [h, hS.out]; rfl
        have HYES : Hid (decide (Vc.hears s port (os k)) = true → Vc.someTo (fun i => decide (Vc.hears s port (os i))) n = true) := fun h => someTo_stay _ k h n hlt
        rw [HH.out] at HNO HYES
        have HX2 : Hid (∀ o, (wr.alloc o).heap[w.heap.size]? = some (.cells #[.int .u64 s.root, .int .i64 s.cost, .int .u64 s.bridge, .int .i64 port] 46 (0, 0)) ∧ Below w.heap.size w (wr.alloc o)) := fun o => ⟨keep hX.out.1 (below_alloc1 _ _), hX.out.2.alloc hX.out.2.size _⟩
        have u0 : ∀ o, (wr.alloc o).cell? ⟨w.heap.size, 0, none⟩ = some (.int .u64 s.root) := fun o => (vc_cells (HX2.out o).1).1
        have u1 : ∀ o, (wr.alloc o).cell? ⟨w.heap.size, 1, none⟩ = some (.int .i64 s.cost) := fun o => (vc_cells (HX2.out o).1).2.1
        have u2 : ∀ o, (wr.alloc o).cell? ⟨w.heap.size, 2, none⟩ = some (.int .u64 s.bridge) := fun o => (vc_cells (HX2.out o).1).2.2.1
        have u3 : ∀ o, (wr.alloc o).cell? ⟨w.heap.size, 3, none⟩ = some (.int .i64 port) := fun o => (vc_cells (HX2.out o).1).2.2.2
        clear hX hS hb HH HR
        generalize os k = o at *
        obtain ⟨op, oc, oa, ⟨vr, vc, vb, vp⟩⟩ := o
        simp only at c0 c1 c2 c3 c4 c5 c6 HNO HYES
        have HWI : Hid (∀ W, Calls Tryd.prog 12 #[.int .i64 oa, .int .i64 0, .int .i64 20] W fun e w' => e = .returned (.bool (decide (0 ≤ oa ∧ oa ≤ 20))) ∧ w' = W) := fun W => vwithin_any oa 0 20 W
        by_cases p1 : op = port
        · have e1 : (op == port) = true := by simp [p1]
          by_cases p2 : 0 ≤ oa ∧ oa ≤ 20
          · rw [decide_eq_true p2] at HWI
            have HB1 : Hid (∀ W, Calls Tryd.prog 43 #[.agg #[.int .u64 vr, .int .i64 vc, .int .u64 vb, .int .i64 vp], .agg #[.int .u64 s.root, .int .i64 s.cost, .int .u64 s.bridge, .int .i64 port]] W fun e w' => e = .returned (.bool (decide (Vc.lt ⟨vr, vc, vb, vp⟩ ⟨s.root, s.cost, s.bridge, port⟩))) ∧ Below W.heap.size W w') := fun W => HBT.out ⟨vr, vc, vb, vp⟩ ⟨s.root, s.cost, s.bridge, port⟩ W
            by_cases p4 : Vc.lt ⟨vr, vc, vb, vp⟩ ⟨s.root, s.cost, s.bridge, port⟩
            · have HF : Hid (Vc.someTo (fun i => decide (Vc.hears s port (os i))) n = true) := HYES.out (decide_eq_true ⟨p1, p2, p4⟩)
              rw [decide_eq_true p4] at HB1
              clear p4 HNO HYES p1 p2
              go_wp2_with fail
              refine (HWI.out _).mono ?_
              rintro e w2 ⟨rfl, rfl⟩
              go_wp2_with fail
              refine (HB1.out _).mono ?_
              rintro e w2 ⟨rfl, hb2⟩
              have HB2 : Hid (Below w.heap.size w w2) := (HX2.out _).2.trans (hb2.mono (HX2.out _).2.size)
              clear hb2
              go_wp2_with fail
              go_ret
              exact ⟨by rw [HR3.out HF.out]; rfl, HB2.out⟩
            · have HF : Hid (Vc.someTo (fun i => decide (Vc.hears s port (os i))) (k + 1) = false) := HNO.out (decide_eq_false (fun q => p4 q.2.2))
              rw [decide_eq_false p4] at HB1
              clear p4 HNO HYES p1 p2
              go_wp2_with fail
              refine (HWI.out _).mono ?_
              rintro e w2 ⟨rfl, rfl⟩
              go_wp2_with fail
              refine (HB1.out _).mono ?_
              rintro e w2 ⟨rfl, hb2⟩
              have HB2 : Hid (w2.heap[w.heap.size]? = some (.cells #[.int .u64 s.root, .int .i64 s.cost, .int .u64 s.bridge, .int .i64 port] 46 (0, 0)) ∧ Below w.heap.size w w2) := ⟨keep (HX2.out _).1 hb2, (HX2.out _).2.trans (hb2.mono (HX2.out _).2.size)⟩
              clear hb2
              go_wp2_with fail
              exact ⟨⟨k + 1, by omega, by go_num, HF, HB2⟩, by simp [intOf]; omega⟩
          · have HF : Hid (Vc.someTo (fun i => decide (Vc.hears s port (os i))) (k + 1) = false) := HNO.out (decide_eq_false (fun q => p2 q.2.1))
            rw [decide_eq_false p2] at HWI
            clear HNO HYES p1 p2
            go_wp2_with fail
            refine (HWI.out _).mono ?_
            rintro e w2 ⟨rfl, rfl⟩
            go_wp2_with fail
            exact ⟨⟨k + 1, by omega, by go_num, HF, HX2.out _⟩, by simp [intOf]; omega⟩
        · have e1 : (op == port) = false := by simp [p1]
          have HF : Hid (Vc.someTo (fun i => decide (Vc.hears s port (os i))) (k + 1) = false) := HNO.out (decide_eq_false (fun q => p1 q.1))
          clear HNO HYES p1
          go_wp2_with fail
          exact ⟨⟨k + 1, by omega, by go_num, HF, HX2.out _⟩, by simp [intOf]; omega⟩
      · obtain rfl : k = n := by omega
        go_wp2_with fail
        go_ret
        exact ⟨by rw [HR2.out hS.out]; rfl, hX.out.2⟩
end Go.Proofs.YtaakjhdbelefiaeDoor

namespace Go.Proofs.YtaakjhdbelefiaeDoor
open Go.RowKit
open Vc (V Of)
open Pl (Br Net Pc Lk En St)

theorem infoI : (Tryd.prog.info? 3).map (fun i => (i.zero, i.size, i.bytes)) = some (some (.int .i64 0), 1, 8) := by kernel_rfl
abbrev iCells (n : Nat) (f : Nat → Int) : List Value := cellsL n 1 (fun j _ => .int .i64 (f j))
/-- One number more. -/
theorem ap_int {Z Zd : World} {base : Nat} {v : Value} {n : Nat} {f : Nat → Int} (ho : Z.ownsRow base 3 1 v n (iCells n f)) (hbase : base ≤ Z.heap.size) (hn : n ≤ 1000) (z : Int) (hz : f n = z) (hZ : Below Z.heap.size Z Zd) (hs : Zd.heap.size = Z.heap.size) :
    ∃ vo vc w2, (Builtin.append_ #[28, 28] 28 #[v, .slice (some ⟨Z.heap.size, 0, none⟩) 1 1]).run Tryd.prog (Zd.alloc (.cells #[.int .i64 z] 3)) = .ok (.slice vo (n + 1) vc) w2 ∧ w2.ownsRow base 3 1 (.slice vo (n + 1) vc) (n + 1) (iCells (n + 1) f) ∧
      (∀ q, q < Z.heap.size → v.ownBlock ≠ some q → w2.heap[q]? = Z.heap[q]?) ∧ ((Value.slice vo (n + 1) vc).ownBlock = v.ownBlock ∨ (Value.slice vo (n + 1) vc).ownBlock = some (Z.heap.size + 1)) ∧ Below base Z w2 ∧ Z.heap.size ≤ w2.heap.size := by
  obtain ⟨i0, hi0, hz0, hz1, hz2⟩ := info_parts infoI
  obtain ⟨C, hC⟩ : ∃ C, C = Zd.alloc (.cells #[.int .i64 z] 3) := ⟨_, rfl⟩
  have hCb : Below Z.heap.size Z C := by rw [hC]; exact hZ.alloc (by omega) _
  have hCs : C.heap.size = Z.heap.size + 1 := by rw [hC]; simp [hs]
  have hCl : C.heap[Z.heap.size]? = some (.cells #[.int .i64 z] 3 (0, 0)) := by rw [hC, ← hs]; exact heap_alloc_last Zd _
  have hO := ownsC_below ho hCb
  obtain ⟨v', w2, hrun, h1, h2, _, h3⟩ := run_append_own_at (P := Tryd.prog) C base 28 28 3 i0 _ 1 8 Tryd.underlying28 hi0 hz0 hz1 hz2 rfl (by omega) v n (iCells n f) hO ⟨Z.heap.size, 0, none⟩ 1 1 [.int .i64 z] rfl (fun j u hj => by
    have hl : j = 0 := by
      have := (List.getElem?_eq_some_iff.1 hj).1
      simpa using this
    subst hl
    rw [add_row, Nat.zero_add]
    simp at hj
    subst hj
    exact cell_of_row C Z.heap.size 0 _ _ _ hCl) (fun u hu => by simp at hu; subst hu; rfl) (by unfold maxLen; omega) (by omega) (by omega)
  have e1 : iCells n f ++ [.int .i64 z] = iCells (n + 1) f := by
    have : ([.int .i64 z] : List Value) = cellsL 1 1 (fun _ _ => .int .i64 z) := by simp [cellsL]
    rw [this, cellsL_cat _ _ _ (by omega)]
    apply cellsL_congr
    intro j hj
    simp only [catC]
    by_cases q : j < n
    · rw [if_pos q]
    · rw [if_neg q]
      obtain rfl : j = n := by omega
      rw [hz]
  rw [e1] at h1
  obtain ⟨ao, cap, rfl, _⟩ := owns_c (by omega) h1
  refine ⟨ao, cap, w2, by rw [← hC]; exact hrun, h1, fun q hq hne => (h2.block q (by omega) (fun p => hne p.symm)).trans (hCb.block q hq), ?_, ?_, by have := h2.size; omega⟩
  · rcases h3 with h3 | h3
    · exact Or.inl h3
    · exact Or.inr (by rw [h3, hCs])
  · exact (hCb.mono hbase).trans ((Below.refl _ _).grown h2 (by omega) (fun q hq => (ownsC_block hO q hq).1))
/-- Place i's ports and roles. -/
def updP (c0 : Nat → Nat → Value) (i : Nat) (v5 v6 : Value) : Nat → Nat → Value := fun a b => if a = i ∧ b = 5 then v5 else if a = i ∧ b = 6 then v6 else c0 a b
/-- While they grow: kp ports, kr roles; w: when setRoles began; B: a box that stays. -/
structure RolW (w W : World) (P K i : Nat) (c0 : Nat → Nat → Value) (ports roles : Nat → Int) (kp kr B : Nat) (box : Array Value) : Prop where
  ex : ∃ v5 v6, W.heap[P]? = some (.cells (rowC K 7 (updP c0 i v5 v6)) 48 (0, 0)) ∧ W.ownsRow w.heap.size 3 1 v5 kp (iCells kp ports) ∧ W.ownsRow w.heap.size 3 1 v6 kr (iCells kr roles) ∧ (∀ q, v5.ownBlock = some q → v6.ownBlock ≠ some q) ∧ v5.ownBlock ≠ some B ∧ v6.ownBlock ≠ some B
  grown : w.grownBy W (some P)
  low : P < w.heap.size
  box : W.heap[B]? = some (.cells box 71 (0, 0))
  new : w.heap.size ≤ B
theorem RolW.below {w W W' : World} {P K i : Nat} {c0 : Nat → Nat → Value} {ports roles : Nat → Int} {kp kr B : Nat} {box : Array Value} (h : RolW w W P K i c0 ports roles kp kr B box) (hb : Below W.heap.size W W') : RolW w W' P K i c0 ports roles kp kr B box := by
  obtain ⟨⟨v5, v6, h1, h2, h3, h4, h5, h6⟩, hg, hl, hx, hn⟩ := h
  exact ⟨⟨v5, v6, keep h1 hb, ownsC_below h2 hb, ownsC_below h3 hb, h4, h5, h6⟩, hg.trans ⟨hb.os, hb.tape, hb.output, hb.size, fun j hj _ => hb.block j hj⟩, hl, keep hx hb, hn⟩
theorem updP_five (c0 : Nat → Nat → Value) (i : Nat) (v5 v6 v' : Value) (K : Nat) : rowC K 7 (updC (updP c0 i v5 v6) i 5 v') = rowC K 7 (updP c0 i v' v6) := by
  apply rowC_congr2
  intro a _ b _
  unfold updC updP
  by_cases h : a = i ∧ b = 5
  · rw [if_pos h, if_pos h]
  · rw [if_neg h, if_neg h, if_neg h]
theorem updP_six (c0 : Nat → Nat → Value) (i : Nat) (v5 v6 v' : Value) (K : Nat) : rowC K 7 (updC (updP c0 i v5 v6) i 6 v') = rowC K 7 (updP c0 i v5 v') := by
  apply rowC_congr2
  intro a _ b _
  unfold updC updP
  by_cases h : a = i ∧ b = 6
  · rw [if_pos h, if_neg (fun p => by omega), if_pos h]
  · rw [if_neg h]
    by_cases h5 : a = i ∧ b = 5
    · rw [if_pos h5, if_pos h5]
    · rw [if_neg h5, if_neg h5, if_neg h, if_neg h]
/-- ONE PORT MORE: what the region wants, and what is left. -/
theorem rol_port {w Z Zd : World} {P K i : Nat} {c0 : Nat → Nat → Value} {ports roles : Nat → Int} {kp kr B : Nat} {box : Array Value} (h : RolW w Z P K i c0 ports roles kp kr B box) (hi : i < K) (hn : kp ≤ 1000) (hZ : Below Z.heap.size Z Zd) (hs : Zd.heap.size = Z.heap.size) :
    ∃ (x : Value) (vo : Option Addr) (vc : Nat) (w2 : World), (∀ W, Below Z.heap.size Z W → W.cell? ⟨P, i * 7 + 5, none⟩ = some x) ∧ (Builtin.append_ #[28, 28] 28 #[x, .slice (some ⟨Z.heap.size, 0, none⟩) 1 1]).run Tryd.prog (Zd.alloc (.cells #[.int .i64 (ports kp)] 3)) = .ok (.slice vo (kp + 1) vc) w2 ∧
      w2.cell? ⟨P, i * 7 + 5, none⟩ = some x ∧ w2.frozen? ⟨P, i * 7 + 5, none⟩ = false ∧ w2.heap[B]? = some (.cells box 71 (0, 0)) ∧ RolW w (w2.setCell ⟨P, i * 7 + 5, none⟩ (.slice vo (kp + 1) vc)) P K i c0 ports roles (kp + 1) kr B box := by
  obtain ⟨⟨v5, v6, h1, h2, h3, h4, h5, h6⟩, hg, hl, hx, hnB⟩ := h
  have hbase : w.heap.size ≤ Z.heap.size := hg.size
  obtain ⟨vo, vc, w2, r, r1, r2, r3, r4, r5⟩ := ap_int h2 hbase hn (ports kp) rfl hZ hs
  have c5 : updP c0 i v5 v6 i 5 = v5 := by unfold updP; rw [if_pos ⟨rfl, rfl⟩]
  have hP5 : v5.ownBlock ≠ some P := fun q => by have := (ownsC_block h2 P q).1; omega
  have hPl : P < Z.heap.size := by omega
  have hBl : B < Z.heap.size := (Array.getElem?_eq_some_iff.1 hx).1
  have hw2P := (r2 P hPl hP5).trans h1
  have oth : ∀ q, q ≠ P → (w2.setCell ⟨P, i * 7 + 5, none⟩ (.slice vo (kp + 1) vc)).heap[q]? = w2.heap[q]? := fun q hq => heap_setCell_other _ _ _ _ (by exact hq)
  have hw2B := (r2 B hBl h5).trans hx
  have gs : w2.grownBy (w2.setCell ⟨P, i * 7 + 5, none⟩ (.slice vo (kp + 1) vc)) (some P) := ⟨by first | rfl | simp, by first | rfl | simp, by first | rfl | simp, by first | exact Nat.le_refl _ | simp, fun q _ hne => oth q (fun p => hne (by rw [p]))⟩
  refine ⟨v5, vo, vc, w2, fun W hW => by rw [rowC_cell (keep h1 hW) hi (show 5 < 7 by omega), c5], r, by rw [rowC_cell hw2P hi (show 5 < 7 by omega), c5], frozen_of_row _ _ _ _ _ hw2P, hw2B, ⟨.slice vo (kp + 1) vc, v6, ?_, ?_, ?_, ?_, ?_, h6⟩, ?_, hl, ?_, hnB⟩
  · rw [rowC_set hw2P hi (show 5 < 7 by omega), updP_five]
  · exact r1.kept gs (by cases hv : (Value.slice vo (kp + 1) vc).ownBlock with
      | none => exact Or.inl rfl
      | some q => exact Or.inr (fun e => by injection e with e; have := (ownsC_block r1 q hv).1; omega))
  · have o6 : w2.ownsRow w.heap.size 3 1 v6 kr (iCells kr roles) := by
      obtain ⟨k1, k2⟩ := h3
      refine ⟨k1, ?_⟩
      rcases k2 with k2 | ⟨g, cap, cur, hv, hg6, hh, rest⟩
      · exact Or.inl k2
      · refine Or.inr ⟨g, cap, cur, hv, hg6, (r2 g (Array.getElem?_eq_some_iff.1 hh).1 (fun q => h4 g q (by rw [hv]; rfl))).trans hh, rest⟩
    exact o6.kept gs (by cases hv : v6.ownBlock with
      | none => exact Or.inl rfl
      | some q => exact Or.inr (fun e => by injection e with e; have := (ownsC_block h3 q hv).1; omega))
  · intro q hq
    rcases r3 with r3 | r3
    · exact h4 q (by rw [← r3]; exact hq)
    · intro p
      have := (ownsC_block h3 q p).2
      rw [r3] at hq
      injection hq with hq
      omega
  · intro q
    rcases r3 with r3 | r3
    · exact h5 (by rw [← r3]; exact q)
    · rw [r3] at q
      injection q with q
      omega
  · refine ⟨gs.os.trans (r4.os.trans hg.os), gs.tape.trans (r4.tape.trans hg.tape), gs.output.trans (r4.output.trans hg.output), ?_, fun q hq hne => ?_⟩
    · have := gs.size; omega
    · rw [oth q (fun p => hne (by rw [p])), r4.block q hq]
      exact hg.block q hq hne
  · exact (oth B (by omega)).trans hw2B
/-- ONE ROLE MORE: what the region wants, and what is left. -/
theorem rol_role {w Z Zd : World} {P K i : Nat} {c0 : Nat → Nat → Value} {ports roles : Nat → Int} {kp kr B : Nat} {box : Array Value} (h : RolW w Z P K i c0 ports roles kp kr B box) (hi : i < K) (hn : kr ≤ 1000) (hZ : Below Z.heap.size Z Zd) (hs : Zd.heap.size = Z.heap.size) :
    ∃ (x : Value) (vo : Option Addr) (vc : Nat) (w2 : World), (∀ W, Below Z.heap.size Z W → W.cell? ⟨P, i * 7 + 6, none⟩ = some x) ∧ (Builtin.append_ #[28, 28] 28 #[x, .slice (some ⟨Z.heap.size, 0, none⟩) 1 1]).run Tryd.prog (Zd.alloc (.cells #[.int .i64 (roles kr)] 3)) = .ok (.slice vo (kr + 1) vc) w2 ∧
      w2.cell? ⟨P, i * 7 + 6, none⟩ = some x ∧ w2.frozen? ⟨P, i * 7 + 6, none⟩ = false ∧ w2.heap[B]? = some (.cells box 71 (0, 0)) ∧ RolW w (w2.setCell ⟨P, i * 7 + 6, none⟩ (.slice vo (kr + 1) vc)) P K i c0 ports roles kp (kr + 1) B box := by
  obtain ⟨⟨v5, v6, h1, h2, h3, h4, h5, h6⟩, hg, hl, hx, hnB⟩ := h
  have hbase : w.heap.size ≤ Z.heap.size := hg.size
  obtain ⟨vo, vc, w2, r, r1, r2, r3, r4, r5⟩ := ap_int h3 hbase hn (roles kr) rfl hZ hs
  have c5 : updP c0 i v5 v6 i 6 = v6 := by unfold updP; rw [if_neg (fun p => by omega), if_pos ⟨rfl, rfl⟩]
  have hP5 : v6.ownBlock ≠ some P := fun q => by have := (ownsC_block h3 P q).1; omega
  have hPl : P < Z.heap.size := by omega
  have hBl : B < Z.heap.size := (Array.getElem?_eq_some_iff.1 hx).1
  have hw2P := (r2 P hPl hP5).trans h1
  have oth : ∀ q, q ≠ P → (w2.setCell ⟨P, i * 7 + 6, none⟩ (.slice vo (kr + 1) vc)).heap[q]? = w2.heap[q]? := fun q hq => heap_setCell_other _ _ _ _ (by exact hq)
  have hw2B := (r2 B hBl h6).trans hx
  have gs : w2.grownBy (w2.setCell ⟨P, i * 7 + 6, none⟩ (.slice vo (kr + 1) vc)) (some P) := ⟨by first | rfl | simp, by first | rfl | simp, by first | rfl | simp, by first | exact Nat.le_refl _ | simp, fun q _ hne => oth q (fun p => hne (by rw [p]))⟩
  refine ⟨v6, vo, vc, w2, fun W hW => by rw [rowC_cell (keep h1 hW) hi (show 6 < 7 by omega), c5], r, by rw [rowC_cell hw2P hi (show 6 < 7 by omega), c5], frozen_of_row _ _ _ _ _ hw2P, hw2B, ⟨v5, .slice vo (kr + 1) vc, ?_, ?_, ?_, ?_, h5, ?_⟩, ?_, hl, ?_, hnB⟩
  · rw [rowC_set hw2P hi (show 6 < 7 by omega), updP_six]
  · have o6 : w2.ownsRow w.heap.size 3 1 v5 kp (iCells kp ports) := by
      obtain ⟨k1, k2⟩ := h2
      refine ⟨k1, ?_⟩
      rcases k2 with k2 | ⟨g, cap, cur, hv, hg6, hh, rest⟩
      · exact Or.inl k2
      · refine Or.inr ⟨g, cap, cur, hv, hg6, (r2 g (Array.getElem?_eq_some_iff.1 hh).1 (fun q => h4 g (by rw [hv]; rfl) q)).trans hh, rest⟩
    exact o6.kept gs (by cases hv : v5.ownBlock with
      | none => exact Or.inl rfl
      | some q => exact Or.inr (fun e => by injection e with e; have := (ownsC_block h2 q hv).1; omega))
  · exact r1.kept gs (by cases hv : (Value.slice vo (kr + 1) vc).ownBlock with
      | none => exact Or.inl rfl
      | some q => exact Or.inr (fun e => by injection e with e; have := (ownsC_block r1 q hv).1; omega))
  · intro q hq p
    rcases r3 with r3 | r3
    · exact h4 q hq (by rw [← r3]; exact p)
    · have := (ownsC_block h2 q hq).2
      rw [r3] at p
      injection p with p
      omega
  · intro q
    rcases r3 with r3 | r3
    · exact h6 (by rw [← r3]; exact q)
    · rw [r3] at q
      injection q with q
      omega
  · refine ⟨gs.os.trans (r4.os.trans hg.os), gs.tape.trans (r4.tape.trans hg.tape), gs.output.trans (r4.output.trans hg.output), ?_, fun q hq hne => ?_⟩
    · have := gs.size; omega
    · rw [oth q (fun p => hne (by rw [p])), r4.block q hq]
      exact hg.block q hq hne
  · exact (oth B (by omega)).trans hw2B
end Go.Proofs.YtaakjhdbelefiaeDoor

namespace Go.Proofs.YtaakjhdbelefiaeDoor
open Go.RowKit
open Vc (V Of)
open Pl (Br Net Pc Lk En St)

def enA (e : En) : Array Value := #[.int .i64 e.port, .int .i64 e.cost, .int .i64 e.other, .int .i64 e.oport, .bool e.live]
/-- The vector and the root port of place i lie there. -/
def OneAt (W : World) (P i : Nat) (s : St) : Prop := W.cell? ⟨P, i * 7, none⟩ = some (.int .u64 s.v.root) ∧ W.cell? ⟨P, i * 7 + 1, none⟩ = some (.int .i64 s.v.cost) ∧ W.cell? ⟨P, i * 7 + 2, none⟩ = some (.int .u64 s.v.bridge) ∧ W.cell? ⟨P, i * 7 + 3, none⟩ = some (.int .i64 s.v.port) ∧ W.cell? ⟨P, i * 7 + 4, none⟩ = some (.int .i64 s.rp)
theorem RolW.one {w W : World} {P K i : Nat} {c0 : Nat → Nat → Value} {ports roles : Nat → Int} {kp kr B : Nat} {box : Array Value} (h : RolW w W P K i c0 ports roles kp kr B box) (hi : i < K) (s : St) (hc : ∀ j, j < 5 → c0 i j = plS s j) : OneAt W P i s := by
  obtain ⟨v5, v6, h1, _⟩ := h.ex
  have e : ∀ j, j < 5 → W.cell? ⟨P, i * 7 + j, none⟩ = some (plS s j) := fun j hj => by
    rw [rowC_cell h1 hi (show j < 7 by omega), ← hc j hj]
    unfold updP
    rw [if_neg (by omega), if_neg (by omega)]
  exact ⟨e 0 (by omega), e 1 (by omega), e 2 (by omega), e 3 (by omega), e 4 (by omega)⟩
theorem row_but {w W : World} {P : Nat} {ao : Option Addr} {n cap k : Nat} {c : Nat → Nat → Value} (h : CRow w ao n cap k c) (hW : w.grownBy W (some P)) (hne : 0 < n → ∀ b off, ao = some ⟨b, off, none⟩ → b ≠ P) : CRow W ao n cap k c := by
  rcases Nat.eq_zero_or_pos n with e | e
  · subst e; exact ⟨h.1, fun q => absurd q (by omega)⟩
  · exact CRow.other h (fun b off e1 hlt => hW.block b hlt (fun q => hne e b off e1 (by injection q))) hW.size
/-- .. between two rounds. -/
def RolL (w W : World) (P K i : Nat) (c0 : Nat → Nat → Value) (ports roles : Nat → Int) (k : Nat) : Prop :=
  (∃ v5 v6, W.heap[P]? = some (.cells (rowC K 7 (updP c0 i v5 v6)) 48 (0, 0)) ∧ W.ownsRow w.heap.size 3 1 v5 k (iCells k ports) ∧ W.ownsRow w.heap.size 3 1 v6 k (iCells k roles) ∧ (∀ q, v5.ownBlock = some q → v6.ownBlock ≠ some q)) ∧ w.grownBy W (some P) ∧ P < w.heap.size
theorem RolW.between {w W : World} {P K i : Nat} {c0 : Nat → Nat → Value} {ports roles : Nat → Int} {k B : Nat} {box : Array Value} (h : RolW w W P K i c0 ports roles k k B box) : RolL w W P K i c0 ports roles k := by
  obtain ⟨⟨v5, v6, h1, h2, h3, h4, _, _⟩, hg, hl, _, _⟩ := h
  exact ⟨⟨v5, v6, h1, h2, h3, h4⟩, hg, hl⟩
theorem rol_step {w wr : World} {P K i : Nat} {c0 : Nat → Nat → Value} {ports roles : Nat → Int} {k : Nat} (h : RolL w wr P K i c0 ports roles k) (e : En) : RolW w (wr.alloc (.cells (enA e) 71)) P K i c0 ports roles k k wr.heap.size (enA e) := by
  obtain ⟨⟨v5, v6, h1, h2, h3, h4⟩, hg, hl⟩ := h
  have hb := below_alloc1 wr (.cells (enA e) 71)
  refine ⟨⟨v5, v6, keep h1 hb, ownsC_below h2 hb, ownsC_below h3 hb, h4, fun q => ?_, fun q => ?_⟩, hg.trans ⟨hb.os, hb.tape, hb.output, hb.size, fun j hj _ => hb.block j hj⟩, hl, heap_alloc_last _ _, hg.size⟩
  · have := (ownsC_block h2 _ q).2; omega
  · have := (ownsC_block h3 _ q).2; omega
set_option maxRecDepth 100000 in
set_option maxHeartbeats 4000000 in
theorem psetRoles_any (P K i : Nat) (c0 : Nat → Nat → Value) (s : St) (es : List En) (eao : Option Addr) (ecap : Nat) (os : List Of) (oao : Option Addr) (ocap : Nat) (w : World) (hi : i < K) (hlen : es.length ≤ 1000) (hol : os.length ≤ 1000)
    (hP : w.heap[P]? = some (.cells (rowC K 7 c0) 48 (0, 0))) (hc : ∀ j, j < 5 → c0 i j = plS s j) (hc5 : c0 i 5 = .slice none 0 0) (hc6 : c0 i 6 = .slice none 0 0) (hr : ERow w eao es.length ecap (EL es)) (ho : ORow w oao os.length ocap (Pl.lf os)) (hne : 0 < es.length → ∀ b off, eao = some ⟨b, off, none⟩ → b ≠ P) (hno : 0 < os.length → ∀ b off, oao = some ⟨b, off, none⟩ → b ≠ P) :
    Calls Tryd.prog 15 #[.pointer (some ⟨P, i * 7, none⟩), .slice eao es.length ecap, .slice oao os.length ocap] w fun e w' => e = .returned (.tuple #[]) ∧ w.grownBy w' (some P) ∧ ∃ (pao rao : Option Addr) (pcap rcap : Nat), w'.heap[P]? = some (.cells (rowC K 7 (updP c0 i (.slice pao es.length pcap) (.slice rao es.length rcap))) 48 (0, 0)) ∧ IRow w' pao es.length pcap (fun j => (EL es j).port) ∧ IRow w' rao es.length rcap (fun j => Pl.roleAt s os (EL es j)) ∧ (∀ b off, pao = some ⟨b, off, none⟩ → b ≠ P) ∧ (∀ b off, rao = some ⟨b, off, none⟩ → b ≠ P) := by
  have hPl : P < w.heap.size := (Array.getElem?_eq_some_iff.1 hP).1
  have HRW : Hid (∀ W, w.grownBy W (some P) → ERow W eao es.length ecap (EL es) ∧ ORow W oao os.length ocap (Pl.lf os)) := fun W hW => ⟨row_but hr hW hne, row_but ho hW hno⟩
  have HC : Hid (∀ j, j < 5 → c0 i j = plS s j) := hc
  have hcap := hr.1
  have H0 : Hid (RolL w w P K i c0 (fun j => (EL es j).port) (fun j => Pl.roleAt s os (EL es j)) 0) := by
    refine ⟨⟨.slice none 0 0, .slice none 0 0, ?_, ownsC_nil _ _ _ _ _, ownsC_nil _ _ _ _ _, fun q hq => by cases hq⟩, ⟨rfl, rfl, rfl, Nat.le_refl _, fun _ _ _ => rfl⟩, hPl⟩
    rw [hP, rowC_congr2 (d := updP c0 i (.slice none 0 0) (.slice none 0 0)) (fun a _ b _ => by
      unfold updP
      by_cases q : a = i ∧ b = 5
      · rw [if_pos q, q.1, q.2, hc5]
      · rw [if_neg q]
        by_cases q6 : a = i ∧ b = 6
        · rw [if_pos q6, q6.1, q6.2, hc6]
        · rw [if_neg q6])]
  clear hr ho hne hno hP hc hc5 hc6
  go_enter Tryd.func15, Tryd.ntmps15
  go_wp2_with fail
  go_loopw [11] (fun q wr => ∃ k : Nat, k ≤ es.length ∧ q = .int .i64 k ∧ Hid (RolL w wr P K i c0 (fun j => (EL es j).port) (fun j => Pl.roleAt s os (EL es j)) k)) (fun q _ => es.length - (intOf q).toNat)
  case atStart => exact ⟨0, by omega, rfl, H0⟩
  case round =>
    obtain ⟨k, hk, rfl, hX⟩ := hrel
    clear H0
    by_cases hlt : k < es.length
    · have hL := hX.out
      obtain ⟨f1, f2⟩ := HRW.out wr hL.2.1
      obtain ⟨eb, eoff, rfl, _⟩ := CRow.some f1 (by omega)
      obtain ⟨c0', c1, c2, c3, c4⟩ := ERow.cells f1 hlt
      obtain ⟨B, HBB⟩ : ∃ B, Hid (B = wr.heap.size) := ⟨_, rfl⟩
      have HM0 : Hid (RolW w (wr.alloc (.cells (enA (EL es k)) 71)) P K i c0 (fun j => (EL es j).port) (fun j => Pl.roleAt s os (EL es j)) k k B (enA (EL es k))) := by rw [HBB.out]; exact rol_step hL (EL es k)
      obtain ⟨ρ, hρ⟩ : ∃ ρ, ρ = Pl.roleAt s os (EL es k) := ⟨_, rfl⟩
      obtain ⟨pt, hpt⟩ : ∃ pt, pt = (EL es k).port := ⟨_, rfl⟩
      have HPT : Hid ((fun j => (EL es j).port) k = pt) := hpt.symm
      have HPQ : Hid (pt = (EL es k).port) := hpt
      have HRT : Hid ((fun j => Pl.roleAt s os (EL es j)) k = ρ) := hρ.symm
      have i0 : (0 : Int) ≤ (k : Int) := by omega
      have i1 : (k : Int) < (es.length : Int) := by omega
      have HRO : Hid (∀ W, w.grownBy W (some P) → Calls Tryd.prog 28 #[.agg #[.int .u64 s.v.root, .int .i64 s.v.cost, .int .u64 s.v.bridge, .int .i64 s.v.port], .int .i64 s.rp, .int .i64 (EL es k).port, .slice oao os.length ocap] W fun e w' => e = .returned (.int .i64 (Vc.role s.v s.rp (EL es k).port (Pl.lf os) os.length)) ∧ Below W.heap.size W w') := fun W hW => vrole_any s.v s.rp (EL es k).port oao os.length ocap (Pl.lf os) W (by omega) (HRW.out W hW).2
      have HRV : Hid (ρ = if (EL es k).live = true then Vc.role s.v s.rp (EL es k).port (Pl.lf os) os.length else 0) := hρ
      have hkl : k ≤ 1000 := by omega
      clear hX hL f1 f2 hρ hpt
      generalize (fun j => (EL es j).port) = ports at *
      generalize (fun j => Pl.roleAt s os (EL es j)) = roles at *
      generalize EL es k = e at *
      obtain ⟨port, cost, other, oport, live⟩ := e
      have HPE : Hid (pt = port) := HPQ.out
      simp only at c0' c1 c2 c3 c4 HRO HRV
      simp only [enA] at HM0
      go_upto_if 16 with fail
      rw [← HBB.out]
      go_cut [7, 8] (fun s7 s8 wx => s7 = .pointer (some ⟨B, 0, none⟩) ∧ s8 = .int .i64 ρ ∧ Hid (RolW w wx P K i c0 ports roles k k B #[.int .i64 port, .int .i64 cost, .int .i64 other, .int .i64 oport, .bool live]))
      case first =>
        as_aux_lemma =>
          obtain ⟨Z, HZ⟩ : ∃ Z, Hid (Z = wr.alloc (.cells #[.int .i64 port, .int .i64 cost, .int .i64 other, .int .i64 oport, .bool live] 71)) := ⟨_, rfl⟩
          rw [← HZ.out] at HM0 ⊢
          cases live with
          | false =>
            have hr0 : ρ = 0 := by rw [HRV.out, if_neg (by decide)]
            go_wp2_with fail
            go_meet
            exact ⟨rfl, by rw [hr0], HM0⟩
          | true =>
            have hr0 : ρ = Vc.role s.v s.rp port (Pl.lf os) os.length := by rw [HRV.out, if_pos rfl]
            rw [← hr0] at HRO
            have HCELL : Hid (∀ W, Below Z.heap.size Z W → (W.cell? ⟨P, i * 7, none⟩ = some (.int .u64 s.v.root) ∧ W.cell? ⟨P, i * 7 + 1, none⟩ = some (.int .i64 s.v.cost) ∧ W.cell? ⟨P, i * 7 + 2, none⟩ = some (.int .u64 s.v.bridge) ∧ W.cell? ⟨P, i * 7 + 3, none⟩ = some (.int .i64 s.v.port) ∧ W.cell? ⟨P, i * 7 + 4, none⟩ = some (.int .i64 s.rp)) ∧ W.cell? ⟨B, 0, none⟩ = some (.int .i64 port)) := fun W hW => ⟨(HM0.out.below hW).one hi s HC.out, (br_cells (HM0.out.below hW).box).1⟩
            have HB0 : Hid (Below Z.heap.size Z Z.drew) := Below.drew (Below.refl _ _)
            have HRO2 : Hid (Calls Tryd.prog 28 #[.agg #[.int .u64 s.v.root, .int .i64 s.v.cost, .int .u64 s.v.bridge, .int .i64 s.v.port], .int .i64 s.rp, .int .i64 port, .slice oao os.length ocap] Z.drew fun e w' => e = .returned (.int .i64 ρ) ∧ Hid (Below Z.heap.size Z w')) := by
              refine (HRO.out Z.drew (HM0.out.below HB0.out).grown).mono ?_
              rintro e w' ⟨rfl, z⟩
              exact ⟨rfl, HB0.out.trans z⟩
            have HFIN : Hid (∀ W, Below Z.heap.size Z W → RolW w W P K i c0 ports roles k k B #[.int .i64 port, .int .i64 cost, .int .i64 other, .int .i64 oport, .bool true]) := fun W hW => HM0.out.below hW
            obtain ⟨⟨g0, g1, g2, g3, g4⟩, b0⟩ := HCELL.out Z (Below.refl _ _)
            clear HM0 HRO HRV HC HRW hr0 c0' c1 c2 c3 c4 HPT HRT
            go_wp2_with fail
            go_region_held3 (fun W => (W.cell? ⟨P, i * 7, none⟩ = some (.int .u64 s.v.root) ∧ W.cell? ⟨P, i * 7 + 1, none⟩ = some (.int .i64 s.v.cost) ∧ W.cell? ⟨P, i * 7 + 2, none⟩ = some (.int .u64 s.v.bridge) ∧ W.cell? ⟨P, i * 7 + 3, none⟩ = some (.int .i64 s.v.port) ∧ W.cell? ⟨P, i * 7 + 4, none⟩ = some (.int .i64 s.rp)) ∧ W.cell? ⟨B, 0, none⟩ = some (.int .i64 port))
              (first | (with_reducible exact HCELL.out _ HB0.out) | (with_reducible exact HCELL.out _ HB1.out))
              (first | (go_at_call 28; (with_reducible refine HRO2.out.mono ?_); rintro e w1 ⟨rfl, HB1⟩))
            all_goals go_wp2_with fail
            all_goals go_meet
            all_goals exact ⟨rfl, rfl, HFIN.out _ HB1.out⟩
      case rest =>
      obtain ⟨rfl, rfl, HM1⟩ := hcut
      clear HM0 HRO HRV c0' c1 c2 c3 c4 HBB HC
      go_wp2_with fail
      go_cut [7, 8] (fun s7 s8 wx => s7 = .pointer (some ⟨B, 0, none⟩) ∧ s8 = .int .i64 ρ ∧ Hid (RolW w wx P K i c0 ports roles (k + 1) k B #[.int .i64 port, .int .i64 cost, .int .i64 other, .int .i64 oport, .bool live]))
      case first =>
        as_aux_lemma =>
          have HPP : Hid (ports k = port) := by rw [HPT.out]; exact HPE.out
          obtain ⟨x, vo, vc, w2, hW, r, s1, s2, hb2, hN⟩ := rol_port HM1.out hi hkl (Zd := wc.drew) (Below.drew (Below.refl _ _)) rfl
          rw [HPP.out] at r
          have b0 := (br_cells HM1.out.box).1
          have b1 : ∀ o, (wc.alloc o).cell? ⟨B, 0, none⟩ = some (.int .i64 port) := fun o => (br_cells (HM1.out.below (below_alloc1 wc o)).box).1
          have b2 := (br_cells hb2).1
          have g0 := hW wc (Below.refl _ _)
          have g1 : ∀ o, (wc.alloc o).cell? ⟨P, i * 7 + 5, none⟩ = some x := fun o => hW _ (below_alloc1 wc o)
          have HN : Hid _ := hN
          have HR1 : Hid _ := r
          clear r hN hb2 hW HM1 HRW HPT HRT HPE HPP
          go_region_law (first | ((with_reducible refine step_append_c ?_ (.tmp 33) (.tmp 36) 28 ?_ _ _ _ ?_ ?_ HR1.out ?_); rfl; rfl; rfl; rfl) | (refine step_append_c ?_ (.tmp 33) (.tmp 36) 28 ?_ _ _ _ ?_ ?_ HR1.out ?_; rfl; rfl; rfl; rfl))
          all_goals go_wp2_with fail
          all_goals go_meet
          all_goals exact ⟨rfl, rfl, HN.out⟩
      case rest =>
      obtain ⟨rfl, rfl, HM2⟩ := hcut
      clear HM1
      obtain ⟨x, vo, vc, w2, hW, r, s1, s2, hb2, hN⟩ := rol_role HM2.out hi hkl (Zd := wc) (Below.refl _ _) rfl
      rw [HRT.out] at r
      have g0 := hW wc (Below.refl _ _)
      have g1 : ∀ o, (wc.alloc o).cell? ⟨P, i * 7 + 6, none⟩ = some x := fun o => hW _ (below_alloc1 wc o)
      have HN : Hid (RolL w (w2.setCell ⟨P, i * 7 + 6, none⟩ (.slice vo (k + 1) vc)) P K i c0 ports roles (k + 1)) := hN.between
      have HR1 : Hid _ := r
      clear r hN hb2 hW HM2 HRW HPT HRT HPE
      go_wp2_with (at_builtin; refine wpList_append_run rfl (.tmp 44) (.tmp 46) 28 rfl _ _ _ rfl rfl HR1.out ?_)
      exact ⟨⟨k + 1, by omega, by go_num, HN⟩, by simp [intOf]; omega⟩
    · obtain rfl : k = es.length := by omega
      obtain ⟨⟨v5, v6, h1, h2, h3, _⟩, hg, _⟩ := hX.out
      obtain ⟨pao, pcap, rfl, k1, _, k3⟩ := owns_c (by omega) h2
      obtain ⟨rao, rcap, rfl, m1, _, m3⟩ := owns_c (by omega) h3
      go_wp2_with fail
      go_end0
      exact ⟨rfl, hg, pao, rao, pcap, rcap, h1, k1, m1, fun b off q => by have := k3 _ q; simp only at this; omega, fun b off q => by have := m3 _ q; simp only at this; omega⟩
end Go.Proofs.YtaakjhdbelefiaeDoor
