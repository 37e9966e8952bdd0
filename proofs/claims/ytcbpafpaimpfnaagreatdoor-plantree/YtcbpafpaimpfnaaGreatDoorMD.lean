/- walks: package plan's Roles -/
import Derived.Test.YtcbpafpaimpfnaaGreatDoorCR
import Derived.Test.YtcbpafpaimpfnaaGreatDoorHT
import Derived.Test.YtcbpafpaimpfnaaGreatDoorMC
import Derived.Test.YtcbpafpaimpfnaaGreatDoorMB
import Derived.Test.YtcbpafpaimpfnaaGreatDoorMA
import Derived.Test.YtcbpafpaimpfnaaGreatDoorVK2
import Derived.Test.YtcbpafpaimpfnaaGreatDoorVB2
import Derived.Test.YtcbpafpaimpfnaaGreatDoorGG
import Derived.Deep.RegionHeld3
import Derived.Deep.DeepCutAuto
import Derived.Shelf.Sort.Plain
import Derived.Shelf.Slices.In.SortNone
import Derived.Sort.OwnSortedInts
namespace Go.Proofs.YtcbpafpaimpfnaaGreatDoor
open Go.RowKit
/-- 'append' in a region that draws its order, by its run; its slot is said. -/
theorem step_append_d {w w' : World} {ops : Array Oper} {o : Oper} {a : Act} {K : Act → World → Prop} {Q : Exit → Act → World → Prop} {E : Prop} (d : Option Tmp) (hd : o.dst = d) (hgd : o.guard = none) (s x : Operand) (t : TypeId)
    (ho : o.op = .call { callee := .builtin .append, args := #[s, x], argTypes := #[t, t] }) (v vx v' : Value) (hs : a.eval s = v) (hx : a.eval x = vx) (hr : (Builtin.append_ #[t, t] o.type #[v, vx]).run Tryz.prog w = .ok v' w')
    (h : K (a.put d v') w') : if Region.wanted o (yielded ops a.tmps) = true then Oper.wp Tryz.prog o a w K Q else E := by
  subst hd
  exact step_append_c hgd s x t ho v vx v' hs hx hr h
end Go.Proofs.YtcbpafpaimpfnaaGreatDoor

namespace Go.Proofs.YtcbpafpaimpfnaaGreatDoor
open Go.RowKit
open Vc (V Of)
open Pl (Br Net Pc Lk En St)

theorem infoOf : (Tryz.prog.info? 85).map (fun i => (i.zero, i.size, i.bytes)) = some (some (.agg #[.int .i64 0, .int .i64 0, .int .i64 0, .int .u64 0, .int .i64 0, .int .u64 0, .int .i64 0]), 7, 56) := by kernel_rfl
def ofA (o : Of) : Array Value := #[.int .i64 o.port, .int .i64 o.cost, .int .i64 o.age, .int .u64 o.vec.root, .int .i64 o.vec.cost, .int .u64 o.vec.bridge, .int .i64 o.vec.port]
theorem one_of_row {w : World} {g : Nat} {o : Of} {ty : TypeId} (h : w.heap[g]? = some (.cells (ofA o) ty (0, 0))) : ORow w (some ⟨g, 0, none⟩) 1 1 (fun _ => o) := by
  refine ⟨Nat.le_refl _, fun _ => ⟨g, 0, rfl, (Array.getElem?_eq_some_iff.1 h).1, fun i hi j hj => ?_⟩⟩
  obtain rfl : i = 0 := by omega
  rcases (show j = 0 ∨ j = 1 ∨ j = 2 ∨ j = 3 ∨ j = 4 ∨ j = 5 ∨ j = 6 by omega) with rfl | rfl | rfl | rfl | rfl | rfl | rfl
  · exact cell_of_row w g 0 _ _ _ h
  · exact cell_of_row w g 1 _ _ _ h
  · exact cell_of_row w g 2 _ _ _ h
  · exact cell_of_row w g 3 _ _ _ h
  · exact cell_of_row w g 4 _ _ _ h
  · exact cell_of_row w g 5 _ _ _ h
  · exact cell_of_row w g 6 _ _ _ h
/-- What bridges say, and how old it is, lies in a row of tales. -/
def ToldAt (w : World) (g K : Nat) (x : Nat → Tk.Md) : Prop := g < w.heap.size ∧ ∀ i, i < K → (∀ j, j < 4 → w.cell? ⟨g, i * 6 + 1 + j, none⟩ = some (vC (x i).v j)) ∧ w.cell? ⟨g, i * 6 + 5, none⟩ = some (.int .i64 (x i).age)
theorem ToldAt.below {w w' : World} {g K : Nat} {x : Nat → Tk.Md} (h : ToldAt w g K x) (hb : Below w.heap.size w w') : ToldAt w' g K x :=
  ⟨Nat.lt_of_lt_of_le h.1 hb.size, fun i hi => ⟨fun j hj => (hb.cell (by exact h.1)).trans ((h.2 i hi).1 j hj), (hb.cell (by exact h.1)).trans (h.2 i hi).2⟩⟩
theorem ToldAt.cells {w : World} {g K : Nat} {x : Nat → Tk.Md} (h : ToldAt w g K x) {i : Nat} (hi : i < K) :
    w.cell? ⟨g, i * 6 + 1, none⟩ = some (.int .u64 (x i).v.root) ∧ w.cell? ⟨g, i * 6 + 2, none⟩ = some (.int .i64 (x i).v.cost) ∧ w.cell? ⟨g, i * 6 + 3, none⟩ = some (.int .u64 (x i).v.bridge) ∧ w.cell? ⟨g, i * 6 + 4, none⟩ = some (.int .i64 (x i).v.port) ∧ w.cell? ⟨g, i * 6 + 5, none⟩ = some (.int .i64 (x i).age) :=
  ⟨(h.2 i hi).1 0 (by omega), (h.2 i hi).1 1 (by omega), (h.2 i hi).1 2 (by omega), (h.2 i hi).1 3 (by omega), (h.2 i hi).2⟩
theorem offs_heard (l : List En) (x : Nat → St) : Pl.offs l x = Tk.heard l (fun i => ⟨(x i).v, 0, (x i).rp⟩) := rfl
abbrev ofCells (l : List Of) : List Value := cellsL l.length 7 (fun j => ofC (Pl.lf l j))
theorem lf_snoc (l : List Of) (o : Of) : cellsL (l.length + 1) 7 (catC l.length (fun j => ofC (Pl.lf l j)) (fun _ => ofC o)) = ofCells (l ++ [o]) := by
  unfold ofCells
  rw [List.length_append]
  apply cellsL_congr
  intro i hi
  simp only [catC]
  by_cases q : i < l.length
  · rw [if_pos q]
    simp [Pl.lf, List.getD, List.getElem?_append_left q]
  · rw [if_neg q]
    obtain rfl : i = l.length := by omega
    simp [Pl.lf, List.getD]
/-- One offer more, and what else is as it was. -/
theorem off_more2 {Z Zd : World} {base : Nat} {v : Value} {l : List Of} (ho : Z.ownsRow base 85 7 v l.length (ofCells l)) (hbase : base ≤ Z.heap.size) (hl : l.length ≤ 1000) (z : Of) (hZ : Below Z.heap.size Z Zd) (hs : Zd.heap.size = Z.heap.size) :
    ∃ vo vc w2, (Builtin.append_ #[80, 80] 80 #[v, .slice (some ⟨Z.heap.size, 0, none⟩) 1 1]).run Tryz.prog (Zd.alloc (.cells (ofA z) 85)) = .ok (.slice vo (l ++ [z]).length vc) w2 ∧ w2.ownsRow base 85 7 (.slice vo (l ++ [z]).length vc) (l ++ [z]).length (ofCells (l ++ [z])) ∧
      (∀ q, q < Z.heap.size → v.ownBlock ≠ some q → w2.heap[q]? = Z.heap[q]?) ∧ Below base Z w2 := by
  obtain ⟨i0, hi0, hz0, hz1, hz2⟩ := info_parts infoOf
  obtain ⟨C, hC⟩ : ∃ C, C = Zd.alloc (.cells (ofA z) 85) := ⟨_, rfl⟩
  have hCb : Below Z.heap.size Z C := by rw [hC]; exact hZ.alloc (by omega) _
  have hCs : C.heap.size = Z.heap.size + 1 := by rw [hC]; simp [hs]
  have hCl : C.heap[Z.heap.size]? = some (.cells (ofA z) 85 (0, 0)) := by rw [hC, ← hs]; exact heap_alloc_last Zd _
  have hO := ownsC_below ho hCb
  obtain ⟨v', w2, hrun, h1, h2, _, h3⟩ := run_append_own_at (P := Tryz.prog) C base 80 80 85 i0 _ 7 56 Tryz.underlying80 hi0 hz0 hz1 hz2 rfl (by omega) v l.length (ofCells l) hO ⟨Z.heap.size, 0, none⟩ 1 1 (ofA z).toList rfl (fun j u hj => by
    have hl : j < 7 := by
      have := (List.getElem?_eq_some_iff.1 hj).1
      simpa [ofA] using this
    rw [add_row, Nat.zero_add]
    have := cell_of_row C Z.heap.size j _ _ _ hCl
    rw [this]
    simpa using hj) (fun u hu => by simp [ofA] at hu; rcases hu with rfl | rfl | rfl | rfl | rfl | rfl | rfl <;> rfl) (by unfold maxLen; omega) (by omega) (by omega)
  have e1 : ofCells l ++ (ofA z).toList = ofCells (l ++ [z]) := by
    have : (ofA z).toList = cellsL 1 7 (fun _ => ofC z) := by simp [cellsL, ofA, ofC, vC, List.range_succ]
    rw [this, cellsL_cat _ _ _ (by omega), lf_snoc]
  have e2 : (l ++ [z]).length = l.length + 1 := by simp
  rw [e1, ← e2] at h1
  obtain ⟨ao, cap, rfl, _⟩ := owns_c (by omega) h1
  exact ⟨ao, cap, w2, by rw [← hC]; exact hrun, h1, fun q hq hne => (h2.block q (by omega) (fun p => hne p.symm)).trans (hCb.block q hq), (hCb.mono hbase).trans ((Below.refl _ _).grown h2 (by omega) (fun q hq => (ownsC_block hO q hq).1))⟩
theorem heard_next {es : List En} {x : Nat → Tk.Md} {k : Nat} (hk : k < es.length) : Tk.heard (es.take (k + 1)) x = Tk.heard (es.take k) x ++ if (EL es k).live = true then [Tk.heardOf x (EL es k)] else [] := by
  have e : es.take (k + 1) = es.take k ++ [EL es k] := by
    rw [List.take_add_one, List.getElem?_eq_getElem hk]
    simp [EL, List.getD, List.getElem?_eq_getElem hk]
  unfold Tk.heard
  rw [e, List.filter_append, List.map_append]
  generalize EL es k = y
  congr 1
  cases hl : y.live <;> simp [hl]
theorem heard_few (es : List En) (x : Nat → Tk.Md) : (Tk.heard es x).length ≤ es.length := by
  unfold Tk.heard
  rw [List.length_map]
  exact List.length_filter_le _ _
set_option maxRecDepth 100000 in
set_option maxHeartbeats 2000000 in
theorem pheard_any (es : List En) (eao : Option Addr) (ecap : Nat) (Pb K : Nat) (x : Nat → Tk.Md) (w : World) (hK : K ≤ 1000) (hlen : es.length ≤ 1000) (hr : ERow w eao es.length ecap (EL es)) (hs : ToldAt w Pb K x) (hoth : ∀ e, e ∈ es → e.live = true → 0 ≤ e.other ∧ e.other < K) :
    Calls Tryz.prog 33 #[.slice eao es.length ecap, .slice (some ⟨Pb, 0, none⟩) K K] w fun e w' => ∃ ao cap, e = .returned (.slice ao (Tk.heard es x).length cap) ∧ ORow w' ao (Tk.heard es x).length cap (Pl.lf (Tk.heard es x)) ∧ Below w.heap.size w w' ∧ ∀ ad, ao = some ad → w.heap.size ≤ ad.block := by
  have HRW : Hid (∀ W, Below w.heap.size w W → ERow W eao es.length ecap (EL es) ∧ ToldAt W Pb K x) := fun W hW => ⟨CRow.below hr hW, hs.below hW⟩
  have HOT : Hid (∀ e, e ∈ es → e.live = true → 0 ≤ e.other ∧ e.other < K) := hoth
  have hcap := hr.1
  have wk : IntKind.i64.wrap ((K : Int) - 1) = (K : Int) - 1 := by rw [IntKind.wrap_i64]; omega
  have HPB : Hid (Pb < w.heap.size) := hs.1
  clear hr hs hoth
  have H0 : Hid (w.ownsRow w.heap.size 85 7 (.slice none (Tk.heard (es.take 0) x).length 0) (Tk.heard (es.take 0) x).length (ofCells (Tk.heard (es.take 0) x)) ∧ Below w.heap.size w w) := ⟨ownsC_nil _ _ _ _ _, Below.refl _ _⟩
  go_enter Tryz.func33, Tryz.ntmps33
  go_wp2_with fail
  go_loopw [5, 11] (fun s5 i wr => ∃ (k : Nat) (ao : Option Addr) (cap : Nat), k ≤ es.length ∧ i = .int .i64 k ∧ s5 = .slice ao (Tk.heard (es.take k) x).length cap ∧ Hid (wr.ownsRow w.heap.size 85 7 (.slice ao (Tk.heard (es.take k) x).length cap) (Tk.heard (es.take k) x).length (ofCells (Tk.heard (es.take k) x)) ∧ Below w.heap.size w wr)) (fun _ i _ => es.length - (intOf i).toNat)
  case atStart => exact ⟨0, none, 0, by omega, rfl, rfl, H0⟩
  case round =>
    obtain ⟨k, ao, cap, hk, rfl, rfl, hX⟩ := hrel
    clear H0
    by_cases hlt : k < es.length
    · obtain ⟨hO, hB⟩ := hX.out
      obtain ⟨f1, f2⟩ := HRW.out wr hB
      obtain ⟨eb, eoff, rfl, _⟩ := CRow.some f1 (by omega)
      obtain ⟨c0, c1, c2, c3, c4⟩ := ERow.cells f1 hlt
      have hmem : EL es k ∈ es := by
        have : EL es k = es[k] := by simp [EL, List.getD, List.getElem?_eq_getElem hlt]
        rw [this]; exact List.getElem_mem hlt
      have hnext := heard_next (x := x) hlt
      have hol := HOT.out _ hmem
      have hfew : (Tk.heard (es.take k) x).length ≤ 1000 := by
        have h1 := heard_few (es.take k) x
        rw [List.length_take] at h1
        omega
      have i0 : (0 : Int) ≤ (k : Int) := by omega
      have i1 : (k : Int) < (es.length : Int) := by omega
      generalize EL es k = e at *
      obtain ⟨port, cost, other, oport, live⟩ := e
      simp only at c0 c1 c2 c3 c4 hol hnext
      cases live with
      | false =>
        rw [if_neg (by decide), List.append_nil] at hnext
        have HN : Hid (∀ W, Below wr.heap.size wr W → W.ownsRow w.heap.size 85 7 (.slice ao (Tk.heard (es.take (k + 1)) x).length cap) (Tk.heard (es.take (k + 1)) x).length (ofCells (Tk.heard (es.take (k + 1)) x)) ∧ Below w.heap.size w W) := fun W hW => by rw [hnext]; exact ⟨ownsC_below hO hW, hB.trans (hW.mono hB.size)⟩
        have HLE : Hid ((Tk.heard (es.take (k + 1)) x).length = (Tk.heard (es.take k) x).length) := by show _ = _; rw [hnext]
        clear hO hB hX f1 f2 hol hnext hmem HRW HOT
        go_wp2_with fail
        exact ⟨⟨k + 1, ao, cap, by omega, by go_num, by rw [HLE.out], HN.out _ (below_alloc1 _ _)⟩, by simp [intOf]; omega⟩
      | true =>
        obtain ⟨j, rfl⟩ : ∃ j : Nat, other = j := ⟨other.toNat, by have := hol rfl; omega⟩
        have hj : j < K := by have := hol rfl; omega
        have j0 : (0 : Int) ≤ (j : Int) := by omega
        have j1 : (j : Int) < (K : Int) := by omega
        have HW : Hid (∀ W, Calls Tryz.prog 28 #[.int .i64 j, .int .i64 0, .int .i64 ((K : Int) - 1)] W fun e w' => e = .returned (.bool true) ∧ w' = W) := fun W => by
          have := gwithin_any (j : Int) 0 ((K : Int) - 1) W
          rw [decide_eq_true (by omega)] at this
          exact this
        have hPb := f2.1
        obtain ⟨X, HX⟩ : ∃ X, Hid (X = wr.alloc (.cells #[.int .i64 port, .int .i64 cost, .int .i64 j, .int .i64 oport, .bool true] 111)) := ⟨_, rfl⟩
        have hXB : Below wr.heap.size wr X := by rw [HX.out]; exact below_alloc1 _ _
        have hXs : X.heap.size = wr.heap.size + 1 := by rw [HX.out]; simp
        have hXe : X.heap[wr.heap.size]? = some (.cells #[.int .i64 port, .int .i64 cost, .int .i64 j, .int .i64 oport, .bool true] 111 (0, 0)) := by rw [HX.out]; exact heap_alloc_last _ _
        obtain ⟨Y, HY⟩ : ∃ Y, Hid (Y = X.alloc (.cells #[.int .u64 (x j).v.root, .int .i64 (x j).v.cost, .int .u64 (x j).v.bridge, .int .i64 oport] 48)) := ⟨_, rfl⟩
        have hYX : Below X.heap.size X Y := by rw [HY.out]; exact below_alloc1 _ _
        have hYB : Below wr.heap.size wr Y := hXB.trans (hYX.mono hXB.size)
        have hYv : Y.heap[X.heap.size]? = some (.cells #[.int .u64 (x j).v.root, .int .i64 (x j).v.cost, .int .u64 (x j).v.bridge, .int .i64 oport] 48 (0, 0)) := by rw [HY.out]; exact heap_alloc_last _ _
        obtain ⟨p0, p1, p2, p3, p4⟩ := (f2.below hXB).cells hj
        obtain ⟨_, _, _, _, u4⟩ := (f2.below hYB).cells hj
        obtain ⟨q0, q1, q2, q3, q4⟩ := br_cells hXe
        obtain ⟨r0, r1, r2, _, _⟩ := br_cells (keep hXe hYX)
        obtain ⟨v0, v1, v2, v3⟩ := vc_cells hYv
        rw [if_pos rfl] at hnext
        have hYs : Y.heap.size = wr.heap.size + 1 + 1 := by rw [HY.out, ← hXs]; simp
        obtain ⟨a1, c1', w2, r, ho2, hk2, hb2⟩ := off_more2 (Zd := Y.drew) (ownsC_below hO hYB) (Nat.le_trans hB.size hYB.size) hfew (Tk.heardOf x ⟨port, cost, j, oport, true⟩) (Below.drew (Below.refl _ _)) rfl
        have HN : Hid (w2.ownsRow w.heap.size 85 7 (.slice a1 (Tk.heard (es.take (k + 1)) x).length c1') (Tk.heard (es.take (k + 1)) x).length (ofCells (Tk.heard (es.take (k + 1)) x)) ∧ Below w.heap.size w w2) := by
          rw [hnext]
          exact ⟨ho2, (hB.trans (hYB.mono hB.size)).trans hb2⟩
        have HLE : Hid ((Tk.heard (es.take (k + 1)) x).length = (Tk.heard (es.take k) x ++ [Tk.heardOf x ⟨port, cost, j, oport, true⟩]).length) := by show _ = _; rw [hnext]
        have HR2 : Hid _ := r
        simp only [ofA, Tk.heardOf, Int.toNat_natCast] at HR2
        have hvl : ∀ q, wr.heap.size ≤ q → (Value.slice ao (Tk.heard (es.take k) x).length cap).ownBlock ≠ some q := fun q hq p => by have := (ownsC_block hO _ p).2; omega
        have hw2e := (hk2 wr.heap.size (by omega) (hvl _ (Nat.le_refl _))).trans (keep hXe hYX)
        have hw2v := (hk2 X.heap.size (by omega) (hvl _ (by omega))).trans hYv
        have hw2a : w2.cell? ⟨Pb, j * 6 + 5, none⟩ = some (.int .i64 (x j).age) := by
          by_cases q : (Value.slice ao (Tk.heard (es.take k) x).length cap).ownBlock = some Pb
          · exfalso
            have h1 := (ownsC_block hO _ q).1
            have h2 := HPB.out
            omega
          · exact (World.cell?_of_block (hk2 Pb (Nat.lt_of_lt_of_le hPb hYB.size) q)).trans u4
        generalize (x j).age = aj at *
        generalize (x j).v = vj at *
        obtain ⟨vr, vco, vbr, vpt⟩ := vj
        simp only at p0 p1 p2 p3 HR2 HY hYv hw2v
        obtain ⟨B, HB⟩ : ∃ B, Hid (B = wr.heap.size) := ⟨_, rfl⟩
        have HS : Hid (∀ W, Below Y.heap.size Y W → ((W.cell? ⟨B, 0, none⟩ = some (.int .i64 port) ∧ W.cell? ⟨B, 1, none⟩ = some (.int .i64 cost) ∧ W.cell? ⟨B, 2, none⟩ = some (.int .i64 j)) ∧ (W.cell? ⟨B + 1, 0, none⟩ = some (.int .u64 vr) ∧ W.cell? ⟨B + 1, 1, none⟩ = some (.int .i64 vco) ∧ W.cell? ⟨B + 1, 2, none⟩ = some (.int .u64 vbr) ∧ W.cell? ⟨B + 1, 3, none⟩ = some (.int .i64 oport)) ∧ W.cell? ⟨Pb, j * 6 + 5, none⟩ = some (.int .i64 aj))) := fun W hW => by
          rw [HB.out]
          obtain ⟨z0, z1, z2, _, _⟩ := br_cells (keep (keep hXe hYX) hW)
          have hv2 := keep hYv hW
          rw [hXs] at hv2
          obtain ⟨y0, y1, y2, y3⟩ := vc_cells hv2
          exact ⟨⟨z0, z1, z2⟩, ⟨y0, y1, y2, y3⟩, (hW.cell (by exact Nat.lt_of_lt_of_le hPb hYB.size)).trans u4⟩
        have HS2 : Hid ((w2.cell? ⟨B, 0, none⟩ = some (.int .i64 port) ∧ w2.cell? ⟨B, 1, none⟩ = some (.int .i64 cost) ∧ w2.cell? ⟨B, 2, none⟩ = some (.int .i64 j)) ∧ (w2.cell? ⟨B + 1, 0, none⟩ = some (.int .u64 vr) ∧ w2.cell? ⟨B + 1, 1, none⟩ = some (.int .i64 vco) ∧ w2.cell? ⟨B + 1, 2, none⟩ = some (.int .u64 vbr) ∧ w2.cell? ⟨B + 1, 3, none⟩ = some (.int .i64 oport)) ∧ w2.cell? ⟨Pb, j * 6 + 5, none⟩ = some (.int .i64 aj)) := by
          rw [HB.out]
          obtain ⟨z0, z1, z2, _, _⟩ := br_cells hw2e
          rw [hXs] at hw2v
          obtain ⟨y0, y1, y2, y3⟩ := vc_cells hw2v
          exact ⟨⟨z0, z1, z2⟩, ⟨y0, y1, y2, y3⟩, hw2a⟩
        rw [HX.out] at p0 p1 p2 p3 q2 q3 q4
        clear hO hB hX f1 f2 hol hnext hmem HRW HOT r ho2 hb2 hk2 hvl hYB hXB hYX hXe hYv p4 q0 q1 r0 r1 r2 v0 v1 v2 v3 hYs hXs hw2e hw2v hw2a u4 hPb
        go_wp2_with (go_at_call 28; refine (HW.out _).mono ?_; rintro e w1 ⟨rfl, rfl⟩)
        rw [← HX.out]
        rw [← HY.out]
        rw [← HB.out]
        refine wp_region_held_drew (S := fun W => (W.cell? ⟨B, 0, none⟩ = some (.int .i64 port) ∧ W.cell? ⟨B, 1, none⟩ = some (.int .i64 cost) ∧ W.cell? ⟨B, 2, none⟩ = some (.int .i64 j)) ∧ (W.cell? ⟨B + 1, 0, none⟩ = some (.int .u64 vr) ∧ W.cell? ⟨B + 1, 1, none⟩ = some (.int .i64 vco) ∧ W.cell? ⟨B + 1, 2, none⟩ = some (.int .u64 vbr) ∧ W.cell? ⟨B + 1, 3, none⟩ = some (.int .i64 oport)) ∧ W.cell? ⟨Pb, j * 6 + 5, none⟩ = some (.int .i64 aj)) (by kernel_rfl) (HS.out _ (Below.drew (Below.refl _ _))) (fun hHeld => ?_)
        refine heldT 0 34 hHeld ?_
        (try simp only [Act.put, List.setIfInBounds_toArray, List.set_cons_zero, List.set_cons_succ])
        refine heldT 1 35 hHeld ?_
        (try simp only [Act.put, List.setIfInBounds_toArray, List.set_cons_zero, List.set_cons_succ])
        refine heldT 2 36 hHeld ?_
        (try simp only [Act.put, List.setIfInBounds_toArray, List.set_cons_zero, List.set_cons_succ])
        refine heldT 3 37 hHeld ?_
        (try simp only [Act.put, List.setIfInBounds_toArray, List.set_cons_zero, List.set_cons_succ])
        refine heldT 4 38 hHeld ?_
        (try simp only [Act.put, List.setIfInBounds_toArray, List.set_cons_zero, List.set_cons_succ])
        refine heldT 5 39 hHeld ?_
        (try simp only [Act.put, List.setIfInBounds_toArray, List.set_cons_zero, List.set_cons_succ])
        refine heldT 6 40 hHeld ?_
        (try simp only [Act.put, List.setIfInBounds_toArray, List.set_cons_zero, List.set_cons_succ])
        refine heldT 7 41 hHeld ?_
        (try simp only [Act.put, List.setIfInBounds_toArray, List.set_cons_zero, List.set_cons_succ])
        refine heldT 8 42 hHeld ?_
        (try simp only [Act.put, List.setIfInBounds_toArray, List.set_cons_zero, List.set_cons_succ])
        refine heldT 9 43 hHeld ?_
        (try simp only [Act.put, List.setIfInBounds_toArray, List.set_cons_zero, List.set_cons_succ])
        refine heldT 10 44 hHeld ?_
        (try simp only [Act.put, List.setIfInBounds_toArray, List.set_cons_zero, List.set_cons_succ])
        refine heldT 11 45 hHeld ?_
        (try simp only [Act.put, List.setIfInBounds_toArray, List.set_cons_zero, List.set_cons_succ])
        refine heldT 12 46 hHeld ?_
        (try simp only [Act.put, List.setIfInBounds_toArray, List.set_cons_zero, List.set_cons_succ])
        refine wpAnyH_ready (rs := [13]) (by kernel_rfl) (by simp) ?_
        refine AllReadyH.cons rfl (fun K hK => ?_) AllReadyH.nil
        go_simp
        refine hK.out _ _ (HS.out _ ((Below.drew (Below.refl _ _)).alloc (Nat.le_refl _) _)) (fun hHeld => ?_)
        clear hK K
        (try simp only [Act.put, List.setIfInBounds_toArray, List.set_cons_zero, List.set_cons_succ])
        refine wpAnyH_ready (rs := [14]) (by kernel_rfl) (by simp) ?_
        refine AllReadyH.cons rfl (fun K hK => ?_) AllReadyH.nil
        refine step_append_d (some 48) rfl rfl (.tmp 34) (.tmp 47) 80 rfl _ _ _ rfl rfl HR2.out ?_
        refine hK.out _ _ HS2.out (fun hHeld => ?_)
        clear hK K
        (try simp only [Act.put, List.setIfInBounds_toArray, List.set_cons_zero, List.set_cons_succ])
        refine heldT 15 5 hHeld ?_
        (try simp only [Act.put, List.setIfInBounds_toArray, List.set_cons_zero, List.set_cons_succ])
        refine wpAnyH_done (by kernel_rfl) ?_ _
        go_wp2_with fail
        exact ⟨⟨k + 1, a1, c1', by omega, by go_num, by rw [HLE.out, List.length_append]; rfl, HN⟩, by simp [intOf]; omega⟩
    · obtain rfl : k = es.length := by omega
      obtain ⟨hO, hB⟩ := hX.out
      rw [List.take_length] at hO
      rw [List.take_length]
      obtain ⟨a1, c1, e1, h1, _, h3⟩ := owns_c (by omega) hO
      injection e1 with e1 _ e2
      subst e1
      subst e2
      go_wp2_with fail
      go_ret
      exact ⟨ao, cap, rfl, h1, hB, h3⟩
end Go.Proofs.YtcbpafpaimpfnaaGreatDoor

namespace Go.Proofs.YtcbpafpaimpfnaaGreatDoor
open Go.RowKit
open Vc (V Of)

set_option maxHeartbeats 1000000 in
theorem vover_any (v : V) (c : Int) (w : World) :
    Calls Tryz.prog 107 #[.agg #[.int .u64 v.root, .int .i64 v.cost, .int .u64 v.bridge, .int .i64 v.port], .int .i64 c] w fun e w' => e = .returned (.tuple #[.agg (vA (Vc.overV v c)), .bool (decide (Vc.fitsOver v c))]) ∧ Below w.heap.size w w' := by
  unfold Vc.overV
  obtain ⟨vr, vc, vb, vp⟩ := v
  have HW1 : Hid (∀ W, Calls Tryz.prog 28 #[.int .i64 c, .int .i64 0, .int .i64 1000000000] W fun e w' => e = .returned (.bool (decide (0 ≤ c ∧ c ≤ 1000000000))) ∧ w' = W) := fun W => vwithin_any c 0 1000000000 W
  have HW2 : Hid (∀ W, Calls Tryz.prog 28 #[.int .i64 vc, .int .i64 0, .int .i64 (1000000000 - c)] W fun e w' => e = .returned (.bool (decide (0 ≤ vc ∧ vc ≤ 1000000000 - c))) ∧ w' = W) := fun W => vwithin_any vc 0 (1000000000 - c) W
  have HF : Hid (Vc.fitsOver ⟨vr, vc, vb, vp⟩ c ↔ (0 ≤ c ∧ c ≤ 1000000000) ∧ (0 ≤ vc ∧ vc ≤ 1000000000 - c)) := by
    show ((0 ≤ vc ∧ vc ≤ 1000000000) ∧ (0 ≤ c ∧ c ≤ 1000000000) ∧ vc + c ≤ 1000000000) ↔ _
    omega
  simp only
  by_cases h1 : 0 ≤ c ∧ c ≤ 1000000000
  · rw [decide_eq_true h1] at HW1
    obtain ⟨a1, a2⟩ := h1
    by_cases h2 : 0 ≤ vc ∧ vc ≤ 1000000000 - c
    · rw [decide_eq_true h2] at HW2
      have h : Vc.fitsOver ⟨vr, vc, vb, vp⟩ c := HF.out.2 ⟨⟨a1, a2⟩, h2⟩
      rw [if_pos h, decide_eq_true h]
      obtain ⟨b1, b2⟩ := h2
      have b3 : vc + c ≤ 1000000000 := by omega
      clear HF h
      go_enter Tryz.func107, Tryz.ntmps107
      go_wp2_with fail
      refine (HW1.out _).mono ?_
      rintro e w1 ⟨rfl, rfl⟩
      go_wp2_with fail
      refine (HW2.out _).mono ?_
      rintro e w1 ⟨rfl, rfl⟩
      go_wp2_with fail
      exact bodyPost_ret (v := .tuple #[.agg (vA (Vc.add ⟨vr, vc, vb, vp⟩ c)), .bool true]) (results_row_tmp (p := 4) (u := 5) (ty := 48) Tryz.results107 _ _ (w.heap.size + 1) 48 (vA (Vc.add ⟨vr, vc, vb, vp⟩ c)) (0, 0) _ rfl (heap_alloc2_new w _ _) Tryz.underlying48 rfl (by rw [sizeVc]; rfl)) rfl ⟨rfl, below_alloc2 _ _ _⟩
    · rw [decide_eq_false h2] at HW2
      have h : ¬ Vc.fitsOver ⟨vr, vc, vb, vp⟩ c := fun q => h2 (HF.out.1 q).2
      rw [if_neg h, decide_eq_false h]
      clear HF h h2
      go_enter Tryz.func107, Tryz.ntmps107
      go_wp2_with fail
      refine (HW1.out _).mono ?_
      rintro e w1 ⟨rfl, rfl⟩
      go_wp2_with fail
      refine (HW2.out _).mono ?_
      rintro e w1 ⟨rfl, rfl⟩
      go_wp2_with fail
      exact bodyPost_ret (v := .tuple #[.agg (vA Vc.v0), .bool false]) (results_row_tmp (p := 4) (u := 5) (ty := 48) Tryz.results107 _ _ (w.heap.size + 1) 48 (vA Vc.v0) (0, 0) _ rfl (heap_alloc2_new w _ _) Tryz.underlying48 rfl (by rw [sizeVc]; rfl)) rfl ⟨rfl, below_alloc2 _ _ _⟩
  · rw [decide_eq_false h1] at HW1
    have h : ¬ Vc.fitsOver ⟨vr, vc, vb, vp⟩ c := fun q => h1 (HF.out.1 q).1
    rw [if_neg h, decide_eq_false h]
    clear HF h h1 HW2
    go_enter Tryz.func107, Tryz.ntmps107
    go_wp2_with fail
    refine (HW1.out _).mono ?_
    rintro e w1 ⟨rfl, rfl⟩
    go_wp2_with fail
    exact bodyPost_ret (v := .tuple #[.agg (vA Vc.v0), .bool false]) (results_row_tmp (p := 4) (u := 5) (ty := 48) Tryz.results107 _ _ (w.heap.size + 1) 48 (vA Vc.v0) (0, 0) _ rfl (heap_alloc2_new w _ _) Tryz.underlying48 rfl (by rw [sizeVc]; rfl)) rfl ⟨rfl, below_alloc2 _ _ _⟩
end Go.Proofs.YtcbpafpaimpfnaaGreatDoor

namespace Go.Proofs.YtcbpafpaimpfnaaGreatDoor
open Go.RowKit
open Vc (V Of)

def mayV (id : Int) (o : Of) : V := if Vc.may id o then o.v else Vc.v0
set_option maxHeartbeats 1000000 in
theorem vmay_any (id : Int) (o : Of) (w : World) :
    Calls Tryz.prog 86 #[.int .u64 id, .agg #[.int .i64 o.port, .int .i64 o.cost, .int .i64 o.age, .int .u64 o.vec.root, .int .i64 o.vec.cost, .int .u64 o.vec.bridge, .int .i64 o.vec.port]] w fun e w' => e = .returned (.tuple #[.agg (vA (mayV id o)), .bool (decide (Vc.may id o))]) ∧ Below w.heap.size w w' := by
  obtain ⟨op, oc, oa, ⟨vr, vc, vb, vp⟩⟩ := o
  have HM : Hid (Vc.may id ⟨op, oc, oa, ⟨vr, vc, vb, vp⟩⟩ ↔ Vc.fitsOver ⟨vr, vc, vb, vp⟩ oc ∧ 0 ≤ op ∧ (0 ≤ oa ∧ oa < 20) ∧ vr < id) := Iff.rfl
  have HNO : Hid (¬ Vc.may id ⟨op, oc, oa, ⟨vr, vc, vb, vp⟩⟩ → (Ending.returned (.tuple #[.agg (vA (mayV id ⟨op, oc, oa, ⟨vr, vc, vb, vp⟩⟩)), .bool (decide (Vc.may id ⟨op, oc, oa, ⟨vr, vc, vb, vp⟩⟩))]) : Ending) = .returned (.tuple #[.agg (vA Vc.v0), .bool false])) := fun h => by
    unfold mayV; rw [if_neg h, decide_eq_false h]
  have HYES : Hid (0 ≤ op ∧ (0 ≤ oa ∧ oa < 20) ∧ vr < id → (Ending.returned (.tuple #[.agg (vA (mayV id ⟨op, oc, oa, ⟨vr, vc, vb, vp⟩⟩)), .bool (decide (Vc.may id ⟨op, oc, oa, ⟨vr, vc, vb, vp⟩⟩))]) : Ending) = .returned (.tuple #[.agg (vA (Vc.overV ⟨vr, vc, vb, vp⟩ oc)), .bool (decide (Vc.fitsOver ⟨vr, vc, vb, vp⟩ oc))])) := fun h => by
    unfold mayV Vc.overV
    by_cases hf : Vc.fitsOver ⟨vr, vc, vb, vp⟩ oc
    · rw [if_pos (HM.out.2 ⟨hf, h⟩), if_pos hf, decide_eq_true (HM.out.2 ⟨hf, h⟩), decide_eq_true hf]; rfl
    · have hm : ¬ Vc.may id ⟨op, oc, oa, ⟨vr, vc, vb, vp⟩⟩ := fun q => hf (HM.out.1 q).1
      rw [if_neg hm, if_neg hf, decide_eq_false hm, decide_eq_false hf]
  have HWI : Hid (∀ W, Calls Tryz.prog 28 #[.int .i64 oa, .int .i64 0, .int .i64 19] W fun e w' => e = .returned (.bool (decide (0 ≤ oa ∧ oa ≤ 19))) ∧ w' = W) := fun W => vwithin_any oa 0 19 W
  have HOV : Hid (∀ W, Calls Tryz.prog 107 #[.agg #[.int .u64 vr, .int .i64 vc, .int .u64 vb, .int .i64 vp], .int .i64 oc] W fun e w' => e = .returned (.tuple #[.agg (vA (Vc.overV ⟨vr, vc, vb, vp⟩ oc)), .bool (decide (Vc.fitsOver ⟨vr, vc, vb, vp⟩ oc))]) ∧ Below W.heap.size W w') := fun W => vover_any ⟨vr, vc, vb, vp⟩ oc W
  simp only
  obtain ⟨R, hR⟩ : ∃ R : Ending, (Ending.returned (.tuple #[.agg (vA (mayV id ⟨op, oc, oa, ⟨vr, vc, vb, vp⟩⟩)), .bool (decide (Vc.may id ⟨op, oc, oa, ⟨vr, vc, vb, vp⟩⟩))]) : Ending) = R := ⟨_, rfl⟩
  rw [hR] at HNO HYES ⊢
  clear hR
  by_cases q1 : op < 0
  · have HF : Hid _ := HNO.out (fun q => by have := (HM.out.1 q).2.1; omega)
    rw [HF.out]
    clear HNO HYES HM HF
    go_enter Tryz.func86, Tryz.ntmps86
    go_wp2_with fail
    exact bodyPost_ret (v := .tuple #[.agg (vA Vc.v0), .bool false]) (results_row_tmp (p := 4) (u := 5) (ty := 48) Tryz.results86 _ _ (w.heap.size + 1) 48 (vA Vc.v0) (0, 0) _ rfl (heap_alloc2_new w _ _) Tryz.underlying48 rfl (by rw [sizeVc]; rfl)) rfl ⟨rfl, below_alloc2 _ _ _⟩
  · by_cases q2 : 0 ≤ oa ∧ oa ≤ 19
    · rw [decide_eq_true q2] at HWI
      by_cases q3 : id ≤ vr
      · have HF : Hid _ := HNO.out (fun q => by have := (HM.out.1 q).2.2.2; omega)
        rw [HF.out]
        clear HNO HYES HM HF q2
        go_enter Tryz.func86, Tryz.ntmps86
        go_wp2_with fail
        refine (HWI.out _).mono ?_
        rintro e w1 ⟨rfl, rfl⟩
        go_wp2_with fail
        exact bodyPost_ret (v := .tuple #[.agg (vA Vc.v0), .bool false]) (results_row_tmp (p := 4) (u := 5) (ty := 48) Tryz.results86 _ _ (w.heap.size + 1) 48 (vA Vc.v0) (0, 0) _ rfl (heap_alloc2_new w _ _) Tryz.underlying48 rfl (by rw [sizeVc]; rfl)) rfl ⟨rfl, below_alloc2 _ _ _⟩
      · have HF : Hid _ := HYES.out ⟨by omega, ⟨by omega, by omega⟩, by omega⟩
        rw [HF.out]
        clear HNO HYES HM HF q2
        generalize Vc.overV ⟨vr, vc, vb, vp⟩ oc = z at *
        generalize decide (Vc.fitsOver ⟨vr, vc, vb, vp⟩ oc) = bz at *
        obtain ⟨z0, z1, z2, z3⟩ := z
        obtain ⟨W0, HW0⟩ : ∃ W0, Hid (W0 = (w.alloc (.cells #[.int .i64 op, .int .i64 oc, .int .i64 oa, .int .u64 vr, .int .i64 vc, .int .u64 vb, .int .i64 vp] 85)).alloc (.cells #[.int .u64 0, .int .i64 0, .int .u64 0, .int .i64 0] 48)) := ⟨_, rfl⟩
        have HB0 : Hid (Below w.heap.size w W0) := by rw [HW0.out]; exact below_alloc2 _ _ _
        have HR0 : Hid (W0.heap[w.heap.size + 1]? = some (.cells #[.int .u64 0, .int .i64 0, .int .u64 0, .int .i64 0] 48 (0, 0))) := by rw [HW0.out]; exact heap_alloc2_new _ _ _
        go_enter Tryz.func86, Tryz.ntmps86
        go_wp2_with fail
        refine (HWI.out _).mono ?_
        rintro e w1 ⟨rfl, rfl⟩
        go_wp2_with fail
        rw [← HW0.out]
        refine (HOV.out _).mono ?_
        rintro e w1 ⟨rfl, hb1⟩
        have HX : Hid (w1.heap[w.heap.size + 1]? = some (.cells #[.int .u64 0, .int .i64 0, .int .u64 0, .int .i64 0] 48 (0, 0))) := keep HR0.out hb1
        obtain ⟨c0, c1, c2, c3⟩ := vc_cells HX.out
        obtain ⟨f0, f1, f2, f3⟩ := vc_free HX.out
        have HLB : Hid (Below w.heap.size w w1) := HB0.out.trans (hb1.mono HB0.out.size)
        clear hb1
        simp only [vA]
        go_wp2_with fail
        have hle : w.heap.size ≤ w.heap.size + 1 := by omega
        exact bodyPost_ret (v := .tuple #[.agg #[.int .u64 z0, .int .i64 z1, .int .u64 z2, .int .i64 z3], .bool bz]) (results_row_tmp (p := 4) (u := 5) (ty := 48) Tryz.results86 _ _ (w.heap.size + 1) 48 #[.int .u64 z0, .int .i64 z1, .int .u64 z2, .int .i64 z3] (0, 0) _ rfl (vc_set4 HX.out) Tryz.underlying48 rfl (by rw [sizeVc]; rfl)) rfl ⟨rfl, (((HLB.out.setCell hle _).setCell hle _).setCell hle _).setCell hle _⟩
    · rw [decide_eq_false q2] at HWI
      have HF : Hid _ := HNO.out (fun q => by have := (HM.out.1 q).2.2.1; omega)
      rw [HF.out]
      clear HNO HYES HM HF q2
      go_enter Tryz.func86, Tryz.ntmps86
      go_wp2_with fail
      refine (HWI.out _).mono ?_
      rintro e w1 ⟨rfl, rfl⟩
      go_wp2_with fail
      exact bodyPost_ret (v := .tuple #[.agg (vA Vc.v0), .bool false]) (results_row_tmp (p := 4) (u := 5) (ty := 48) Tryz.results86 _ _ (w.heap.size + 1) 48 (vA Vc.v0) (0, 0) _ rfl (heap_alloc2_new w _ _) Tryz.underlying48 rfl (by rw [sizeVc]; rfl)) rfl ⟨rfl, below_alloc2 _ _ _⟩
end Go.Proofs.YtcbpafpaimpfnaaGreatDoor

namespace Go.Proofs.YtcbpafpaimpfnaaGreatDoor
open Go.RowKit
open Vc (V Of)

theorem drew3 {w w' : World} {i j n : Nat} {a b : Option Obj} (h : w'.heap[i]? = a ∧ w'.heap[j]? = b ∧ Below n w w') : w'.drew.heap[i]? = a ∧ w'.drew.heap[j]? = b ∧ Below n w w'.drew := ⟨h.1, h.2.1, h.2.2.drew⟩
def or2 (x y : Int) : Int := if x = 0 then y else x
theorem cor2 (x y : Int) (g : Nat) (ty : TypeId) (w : World) (h : w.heap[g]? = some (.cells #[.int .i64 x, .int .i64 y] ty (0, 0))) :
    Calls Tryz.prog 87 #[.slice (some ⟨g, 0, none⟩) 2 2] w fun e w' => e = .returned (.int .i64 (or2 x y)) ∧ w' = w := by
  have e : orTo (fun i => if i = 0 then x else y) 2 = or2 x y := by
    by_cases h : x = 0 <;> simp [orTo, or2, h]
  rw [← e]
  refine cor_any g 0 2 2 _ w (by omega) (by omega) (fun i hi => ?_)
  rcases (by omega : i = 0 ∨ i = 1) with e | e <;> subst e
  · exact cell_of_row w g 0 _ _ _ h
  · exact cell_of_row w g 1 _ _ _ h
theorem or2_ahead (o p : Of) : decide (or2 (Vc.cmp o.v p.v) (sg o.port p.port) < 0) = decide (Vc.ahead o p) := by
  by_cases h : Vc.ahead o p
  · rw [decide_eq_true h]
    apply decide_eq_true
    rcases h with h | ⟨h, h2⟩
    · have : Vc.cmp o.v p.v < 0 := Vc.cmp_lt.2 h
      unfold or2; rw [if_neg (by omega)]; exact this
    · unfold or2 sg; rw [if_pos (Vc.cmp_zero.2 h), if_pos h2]; omega
  · rw [decide_eq_false h]
    apply decide_eq_false
    unfold or2
    by_cases h0 : Vc.cmp o.v p.v = 0
    · rw [if_pos h0]
      unfold sg
      rw [if_neg (fun q => h (Or.inr ⟨Vc.cmp_zero.1 h0, q⟩))]
      split <;> omega
    · rw [if_neg h0]
      exact fun q => h (Or.inl (Vc.cmp_lt.1 q))
set_option maxRecDepth 100000 in
set_option maxHeartbeats 4000000 in
theorem vbestOffer_any (id : Int) (ao : Option Addr) (n cap : Nat) (os : Nat → Of) (w : World) (hn : n ≤ 9223372036854775807) (hr : ORow w ao n cap os) :
    Calls Tryz.prog 73 #[.int .u64 id, .slice ao n cap] w fun e w' => e = .returned (.tuple #[.int .i64 (atTo id os n), .agg (vA (bestV id os n))]) ∧ Below w.heap.size w w' := by
  have HR : Hid (ORow w ao n cap os) := hr
  clear hr
  go_enter Tryz.func73, Tryz.ntmps73
  go_wp2_with fail
  go_loopw [6, 15] (fun a i wr => ∃ k : Nat, k ≤ n ∧ i = .int .i64 k ∧ a = .int .i64 (atTo id os k) ∧ Hid (wr.heap[w.heap.size]? = some (.cells (vA Vc.v0) 48 (0, 0)) ∧ wr.heap[w.heap.size + 1]? = some (.cells (vA (bestV id os k)) 48 (0, 0)) ∧ Below w.heap.size w wr)) (fun _ i _ => n - (intOf i).toNat)
  case atStart => exact ⟨0, by omega, rfl, rfl, heap_alloc2_old w _ _, heap_alloc2_new w _ _, below_alloc2 _ _ _⟩
  case round =>
    obtain ⟨k, hk, rfl, rfl, hX⟩ := hrel
    by_cases hlt : k < n
    · obtain ⟨b, off, rfl, hb⟩ := CRow.some HR.out (by omega)
      have hcap := HR.out.1
      have HRW : Hid (∀ W, Below w.heap.size w W → ORow W (some ⟨b, off, none⟩) n cap os) := fun W hW => CRow.other HR.out (fun q _ _ hq => hW.block q hq) hW.size
      obtain ⟨c0, c1, c2, c3, c4, c5, c6⟩ := ORow.cells (HRW.out wr hX.out.2.2) hlt
      have HNO : Hid (¬ Vc.may id (os k) → atTo id os (k + 1) = atTo id os k ∧ bestV id os (k + 1) = bestV id os k) := fun h => by
        unfold atTo bestV
        have e : Vc.chTo id os (k + 1) = Vc.chTo id os k := by simp only [Vc.chTo]; rw [if_neg h]
        rw [e]; exact ⟨rfl, rfl⟩
      have HFIRST : Hid (Vc.may id (os k) → Vc.chTo id os k = none → atTo id os (k + 1) = k ∧ bestV id os (k + 1) = (os k).v) := fun h h2 => by
        have e : Vc.chTo id os (k + 1) = some k := by simp only [Vc.chTo]; rw [if_pos h, h2]
        unfold atTo bestV
        rw [e]; exact ⟨rfl, rfl⟩
      have HTHEN : Hid (∀ j, Vc.may id (os k) → Vc.chTo id os k = some j → (Vc.ahead (os k) (os j) → atTo id os (k + 1) = k ∧ bestV id os (k + 1) = (os k).v) ∧ (¬ Vc.ahead (os k) (os j) → atTo id os (k + 1) = atTo id os k ∧ bestV id os (k + 1) = bestV id os k)) := fun j h h2 => by
        constructor
        · intro ha
          have e : Vc.chTo id os (k + 1) = some k := by simp only [Vc.chTo]; rw [if_pos h, h2]; simp only; rw [if_pos ha]
          unfold atTo bestV
          rw [e]; exact ⟨rfl, rfl⟩
        · intro ha
          have e : Vc.chTo id os (k + 1) = some j := by simp only [Vc.chTo]; rw [if_pos h, h2]; simp only; rw [if_neg ha]
          unfold atTo bestV
          rw [e, h2]; exact ⟨rfl, rfl⟩
      have HXX : Hid (wr.heap[w.heap.size]? = some (.cells (vA Vc.v0) 48 (0, 0)) ∧ wr.heap[w.heap.size + 1]? = some (.cells (vA (bestV id os k)) 48 (0, 0)) ∧ Below w.heap.size w wr) := hX
      have HLS : Hid (w.heap.size + 1 < wr.heap.size) := (Array.getElem?_eq_some_iff.1 hX.out.2.1).1
      have HBV : Hid (∀ j, Vc.chTo id os k = some j → bestV id os k = (os j).v ∧ atTo id os k = (j : Int)) := fun j h => by unfold bestV atTo; rw [h]; exact ⟨rfl, rfl⟩
      have HBN : Hid (Vc.chTo id os k = none → atTo id os k = -1) := fun h => by unfold atTo; rw [h]
      have HMT : Hid (∀ W, Calls Tryz.prog 86 #[.int .u64 id, .agg #[.int .i64 (os k).port, .int .i64 (os k).cost, .int .i64 (os k).age, .int .u64 (os k).vec.root, .int .i64 (os k).vec.cost, .int .u64 (os k).vec.bridge, .int .i64 (os k).vec.port]] W fun e w' => e = .returned (.tuple #[.agg (vA (mayV id (os k))), .bool (decide (Vc.may id (os k)))]) ∧ Hid (Below W.heap.size W w')) := fun W => vmay_any id (os k) W
      have HBB : Hid (b < w.heap.size) := hb
      clear hX hb HR
      by_cases hm : Vc.may id (os k)
      · have hmv : mayV id (os k) = (os k).v := if_pos hm
        rw [decide_eq_true hm, hmv] at HMT
        clear hmv HNO
        have HOA : Hid (∀ j, decide (or2 (Vc.cmp (os k).v (os j).v) (sg (os k).port (os j).port) < 0) = decide (Vc.ahead (os k) (os j))) := fun j => or2_ahead _ _
        obtain ⟨Y, HY⟩ : ∃ Y, Hid (Y = wr.alloc (.cells #[.int .i64 (os k).port, .int .i64 (os k).cost, .int .i64 (os k).age, .int .u64 (os k).vec.root, .int .i64 (os k).vec.cost, .int .u64 (os k).vec.bridge, .int .i64 (os k).vec.port] 85)) := ⟨_, rfl⟩
        obtain ⟨G, HG⟩ : ∃ G, Hid (G = wr.heap.size) := ⟨_, rfl⟩
        have HYB : Hid (Below wr.heap.size wr Y) := by rw [HY.out]; exact below_alloc1 _ _
        have HYO : Hid (Y.heap[G]? = some (.cells #[.int .i64 (os k).port, .int .i64 (os k).cost, .int .i64 (os k).age, .int .u64 (os k).vec.root, .int .i64 (os k).vec.cost, .int .u64 (os k).vec.bridge, .int .i64 (os k).vec.port] 85 (0, 0))) := by rw [HY.out, HG.out]; exact heap_alloc_last _ _
        generalize hv : (os k).v = v at *
        obtain ⟨vr, vc, vb, vp⟩ := v
        go_wp2_with fail
        rw [← HY.out, ← HG.out]
        refine (HMT.out _).mono ?_
        rintro e w2 ⟨rfl, hb2⟩
        simp only [vA]
        obtain ⟨X, HX⟩ : ∃ X, Hid (X = w2.alloc (.cells #[.int .u64 vr, .int .i64 vc, .int .u64 vb, .int .i64 vp] 48)) := ⟨_, rfl⟩
        obtain ⟨G2, HG2⟩ : ∃ G2, Hid (G2 = w2.heap.size) := ⟨_, rfl⟩
        have HYX : Hid (Below Y.heap.size Y X) := by rw [HX.out]; exact hb2.out.alloc hb2.out.size _
        have HXB : Hid (Below wr.heap.size wr X) := HYB.out.trans (HYX.out.mono HYB.out.size)
        have HXO : Hid (X.heap[G]? = some (.cells #[.int .i64 (os k).port, .int .i64 (os k).cost, .int .i64 (os k).age, .int .u64 (os k).vec.root, .int .i64 (os k).vec.cost, .int .u64 (os k).vec.bridge, .int .i64 (os k).vec.port] 85 (0, 0))) := keep HYO.out HYX.out
        have HXV : Hid (X.heap[G2]? = some (.cells #[.int .u64 vr, .int .i64 vc, .int .u64 vb, .int .i64 vp] 48 (0, 0))) := by rw [HX.out, HG2.out]; exact heap_alloc_last _ _
        have HXR : Hid (X.heap[w.heap.size]? = some (.cells (vA Vc.v0) 48 (0, 0))) := keep HXX.out.1 HXB.out
        have HXG : Hid (X.heap[w.heap.size + 1]? = some (.cells (vA (bestV id os k)) 48 (0, 0))) := keep HXX.out.2.1 HXB.out
        have HXL : Hid (Below w.heap.size w X) := HXX.out.2.2.trans (HXB.out.mono HXX.out.2.2.size)
        have HN2 : Hid (w.heap.size + 1 ≠ G2) := by
          have h1 := HLS.out
          have h2 := (HYB.out.trans (hb2.out.mono HYB.out.size)).size
          show w.heap.size + 1 ≠ G2
          rw [HG2.out]; omega
        have HST : Hid (∀ W, Below X.heap.size X W → bestV id os (k + 1) = ⟨vr, vc, vb, vp⟩ → ((((W.setCell ⟨w.heap.size + 1, 0, none⟩ (.int .u64 vr)).setCell ⟨w.heap.size + 1, 1, none⟩ (.int .i64 vc)).setCell ⟨w.heap.size + 1, 2, none⟩ (.int .u64 vb)).setCell ⟨w.heap.size + 1, 3, none⟩ (.int .i64 vp)).heap[w.heap.size]? = some (.cells (vA Vc.v0) 48 (0, 0)) ∧ ((((W.setCell ⟨w.heap.size + 1, 0, none⟩ (.int .u64 vr)).setCell ⟨w.heap.size + 1, 1, none⟩ (.int .i64 vc)).setCell ⟨w.heap.size + 1, 2, none⟩ (.int .u64 vb)).setCell ⟨w.heap.size + 1, 3, none⟩ (.int .i64 vp)).heap[w.heap.size + 1]? = some (.cells (vA (bestV id os (k + 1))) 48 (0, 0)) ∧ Below w.heap.size w ((((W.setCell ⟨w.heap.size + 1, 0, none⟩ (.int .u64 vr)).setCell ⟨w.heap.size + 1, 1, none⟩ (.int .i64 vc)).setCell ⟨w.heap.size + 1, 2, none⟩ (.int .u64 vb)).setCell ⟨w.heap.size + 1, 3, none⟩ (.int .i64 vp))) := fun W hW h => by
          rw [h]
          have hl := HXL.out.trans (hW.mono HXL.out.size)
          have hle : w.heap.size ≤ w.heap.size + 1 := by omega
          exact ⟨(set4_other (by omega)).trans (keep HXR.out hW), vc_set4 (keep HXG.out hW), (((hl.setCell hle _).setCell hle _).setCell hle _).setCell hle _⟩
        have HKP : Hid (∀ W, Below X.heap.size X W → bestV id os (k + 1) = bestV id os k → W.heap[w.heap.size]? = some (.cells (vA Vc.v0) 48 (0, 0)) ∧ W.heap[w.heap.size + 1]? = some (.cells (vA (bestV id os (k + 1))) 48 (0, 0)) ∧ Below w.heap.size w W) := fun W hW h => by
          rw [h]
          exact ⟨keep HXR.out hW, keep HXG.out hW, HXL.out.trans (hW.mono HXL.out.size)⟩
        have HVC : Hid (∀ W, Below X.heap.size X W → W.cell? ⟨G2, 0, none⟩ = some (.int .u64 vr) ∧ W.cell? ⟨G2, 1, none⟩ = some (.int .i64 vc) ∧ W.cell? ⟨G2, 2, none⟩ = some (.int .u64 vb) ∧ W.cell? ⟨G2, 3, none⟩ = some (.int .i64 vp)) := fun W hW => vc_cells (keep HXV.out hW)
        have HGF : Hid (∀ W, Below X.heap.size X W → (W.frozen? ⟨w.heap.size + 1, 0, none⟩ = false ∧ W.frozen? ⟨w.heap.size + 1, 1, none⟩ = false ∧ W.frozen? ⟨w.heap.size + 1, 2, none⟩ = false ∧ W.frozen? ⟨w.heap.size + 1, 3, none⟩ = false) ∧ ∃ g0 g1 g2 g3, W.cell? ⟨w.heap.size + 1, 0, none⟩ = some g0 ∧ W.cell? ⟨w.heap.size + 1, 1, none⟩ = some g1 ∧ W.cell? ⟨w.heap.size + 1, 2, none⟩ = some g2 ∧ W.cell? ⟨w.heap.size + 1, 3, none⟩ = some g3) := fun W hW => ⟨vc_free (keep HXG.out hW), _, _, _, _, vc_cells (keep HXG.out hW)⟩
        have HXX0 : Hid (Below X.heap.size X X) := Below.refl _ _
        clear HMT HY HYB HYO HYX HXB hb2 c0 c1 c2 c3 c4 c5 c6
        go_wp2_with fail
        rw [← HX.out, ← HG2.out]
        cases hc : Vc.chTo id os k with
        | none =>
          have hat := HBN.out hc
          obtain ⟨z1, z2⟩ := HFIRST.out hm hc
          rw [hat]
          clear HFIRST HTHEN HBV HBN hm hc hat HOA
          go_quiet (fail)
          obtain ⟨Z, HZ⟩ : ∃ Z, Hid (Z = X.drewN nq) := ⟨_, rfl⟩
          have HZB : Hid (Below X.heap.size X Z) := by rw [HZ.out]; exact below_drewN HXX0.out _
          rw [← HZ.out]
          obtain ⟨y0, y1, y2, y3⟩ := HVC.out Z HZB.out
          obtain ⟨⟨f0, f1, f2, f3⟩, g0, g1, g2, g3, b0, b1, b2, b3⟩ := HGF.out Z HZB.out
          have HFN : Hid _ := drew3 (HST.out Z HZB.out z2)
          clear HST HKP HVC HGF HXX
          go_wp2_with fail
          go_region
          all_goals go_wp2_with fail
          all_goals exact ⟨⟨k + 1, by omega, by go_num, by rw [z1], HFN⟩, by simp [intOf]; omega⟩
        | some j =>
          obtain ⟨hbv, hat⟩ := HBV.out j hc
          have hjk := (Vc.chTo_some id os k j hc).1
          obtain ⟨hw, hl⟩ := HTHEN.out j hm hc
          have hoa := HOA.out j
          rw [hat] at hl
          rw [hbv] at HXG
          have HPJ : Hid (∀ W, Below X.heap.size X W → W.cell? ⟨b, off + j * 7, none⟩ = some (.int .i64 (os j).port)) := fun W hW => (ORow.cells (HRW.out W (HXL.out.trans (hW.mono HXL.out.size))) (show j < n by omega)).1
          have HOC : Hid (∀ W, Below X.heap.size X W → W.cell? ⟨G, 0, none⟩ = some (.int .i64 (os k).port)) := fun W hW => (of_cells (keep HXO.out hW)).1
          generalize hvj : (os j).v = u at *
          obtain ⟨ur, uc, ub, up⟩ := u
          have HBC : Hid (∀ W, Below X.heap.size X W → W.cell? ⟨w.heap.size + 1, 0, none⟩ = some (.int .u64 ur) ∧ W.cell? ⟨w.heap.size + 1, 1, none⟩ = some (.int .i64 uc) ∧ W.cell? ⟨w.heap.size + 1, 2, none⟩ = some (.int .u64 ub) ∧ W.cell? ⟨w.heap.size + 1, 3, none⟩ = some (.int .i64 up)) := fun W hW => vc_cells (keep HXG.out hW)
          have HCM : Hid (∀ W, Below X.heap.size X W → Calls Tryz.prog 88 #[.agg #[.int .u64 vr, .int .i64 vc, .int .u64 vb, .int .i64 vp], .agg #[.int .u64 ur, .int .i64 uc, .int .u64 ub, .int .i64 up]] W fun e w' => e = .returned (.int .i64 (Vc.cmp ⟨vr, vc, vb, vp⟩ ⟨ur, uc, ub, up⟩)) ∧ Hid (Below X.heap.size X w')) := fun W hW => (vcompare_any ⟨vr, vc, vb, vp⟩ ⟨ur, uc, ub, up⟩ W).mono (fun e w' h => ⟨h.1, hW.trans (h.2.mono hW.size)⟩)
          have HSX : Hid (∀ W, Below X.heap.size X W → (W.cell? ⟨G2, 0, none⟩ = some (.int .u64 vr) ∧ W.cell? ⟨G2, 1, none⟩ = some (.int .i64 vc) ∧ W.cell? ⟨G2, 2, none⟩ = some (.int .u64 vb) ∧ W.cell? ⟨G2, 3, none⟩ = some (.int .i64 vp)) ∧ (W.cell? ⟨w.heap.size + 1, 0, none⟩ = some (.int .u64 ur) ∧ W.cell? ⟨w.heap.size + 1, 1, none⟩ = some (.int .i64 uc) ∧ W.cell? ⟨w.heap.size + 1, 2, none⟩ = some (.int .u64 ub) ∧ W.cell? ⟨w.heap.size + 1, 3, none⟩ = some (.int .i64 up)) ∧ W.cell? ⟨b, off + j * 7, none⟩ = some (.int .i64 (os j).port) ∧ W.cell? ⟨G, 0, none⟩ = some (.int .i64 (os k).port)) := fun W hW => ⟨HVC.out W hW, HBC.out W hW, HPJ.out W hW, HOC.out W hW⟩
          have ij : (0 : Int) ≤ (j : Int) := by omega
          have jn : (j : Int) < (n : Int) := by omega
          have dj : decide ((j : Int) < 0) = false := decide_eq_false (by omega)
          rw [hat]
          clear hc hm HFIRST HTHEN HBV HBN HRW HXX HLS HOA hv hvj hat hbv HXG HXO HPJ HOC HBC HXV
          generalize hP : (os k).port = kp at *
          generalize hQ : (os j).port = jp at *
          obtain ⟨⟨s0, s1, s2, s3⟩, ⟨t0, t1, t2, t3⟩, p0, p1⟩ := HSX.out X HXX0.out
          generalize hcv : Vc.cmp ⟨vr, vc, vb, vp⟩ ⟨ur, uc, ub, up⟩ = CV at *
          obtain ⟨OV, hOV⟩ : ∃ OV, or2 CV (sg kp jp) = OV := ⟨_, rfl⟩
          rw [hOV] at hoa
          have HOR : Hid (∀ (g : Nat) (ty : TypeId) (W : World), W.heap[g]? = some (.cells #[.int .i64 CV, .int .i64 (sg kp jp)] ty (0, 0)) → Calls Tryz.prog 87 #[.slice (some ⟨g, 0, none⟩) 2 2] W fun e w' => e = .returned (.int .i64 OV) ∧ w' = W) := fun g ty W h => by rw [← hOV]; exact cor2 _ _ g ty W h
          clear hOV
          have HOA2 : Hid (decide (OV < 0) = decide (Vc.ahead (os k) (os j))) := hoa
          clear hoa
          go_region_held3 (fun W => (W.cell? ⟨G2, 0, none⟩ = some (.int .u64 vr) ∧ W.cell? ⟨G2, 1, none⟩ = some (.int .i64 vc) ∧ W.cell? ⟨G2, 2, none⟩ = some (.int .u64 vb) ∧ W.cell? ⟨G2, 3, none⟩ = some (.int .i64 vp)) ∧ (W.cell? ⟨w.heap.size + 1, 0, none⟩ = some (.int .u64 ur) ∧ W.cell? ⟨w.heap.size + 1, 1, none⟩ = some (.int .i64 uc) ∧ W.cell? ⟨w.heap.size + 1, 2, none⟩ = some (.int .u64 ub) ∧ W.cell? ⟨w.heap.size + 1, 3, none⟩ = some (.int .i64 up)) ∧ W.cell? ⟨b, off + j * 7, none⟩ = some (.int .i64 jp) ∧ W.cell? ⟨G, 0, none⟩ = some (.int .i64 kp))
            (first | (exact HSX.out _ (Below.drew HXX0.out)) | (exact HSX.out _ (Hid.out (by assumption))) | (exact HSX.out _ ((Hid.out HB1).alloc (Hid.out HB1).size _)))
            (first | (go_at_call 88; refine (HCM.out _ (Below.drew HXX0.out)).mono ?_; rintro e w3 ⟨rfl, HB1⟩) | (go_at_call 57; refine (ccmpi_any _ _ _).mono ?_; rintro e w3 ⟨rfl, rfl⟩) | (go_at_call 87; refine (HOR.out _ _ _ (heap_alloc_last _ _)).mono ?_; rintro e w4 ⟨rfl, rfl⟩))
          have HBZ : Hid (∀ o, Below X.heap.size X (w3.alloc o)) := fun o => HB1.out.alloc HB1.out.size o
          by_cases ha : Vc.ahead (os k) (os j)
          · have hoa2 : OV < 0 := of_decide_eq_true (HOA2.out.trans (decide_eq_true ha))
            obtain ⟨z1, z2⟩ := hw ha
            obtain ⟨Z, HZ⟩ : ∃ Z, Hid (Z = w3.alloc (.cells #[.int .i64 CV, .int .i64 (sg kp jp)] 3)) := ⟨_, rfl⟩
            have HZB : Hid (Below X.heap.size X Z) := by rw [HZ.out]; exact HBZ.out _
            obtain ⟨y0, y1, y2, y3⟩ := HVC.out Z HZB.out
            obtain ⟨⟨f0, f1, f2, f3⟩, g0, g1, g2, g3, b0, b1, b2, b3⟩ := HGF.out Z HZB.out
            have HFN : Hid _ := drew3 (HST.out Z HZB.out z2)
            clear HST HKP HVC HGF HSX HCM hw hl ha s0 s1 s2 s3 t0 t1 t2 t3 p0 p1 HBZ
            rw [← HZ.out]
            go_wp2_with fail
            go_region
            all_goals go_wp2_with fail
            all_goals exact ⟨⟨k + 1, by omega, by go_num, by rw [z1], HFN⟩, by simp [intOf]; omega⟩
          · have hoa1 : decide (OV < 0) = false := HOA2.out.trans (decide_eq_false ha)
            have hoa2 : ¬ OV < 0 := of_decide_eq_false hoa1
            obtain ⟨z1, z2⟩ := hl ha
            clear HST HVC HGF HSX HCM hw hl ha s0 s1 s2 s3 t0 t1 t2 t3 p0 p1
            go_wp2_with fail
            exact ⟨⟨k + 1, by omega, by go_num, by rw [z1], HKP.out _ (HBZ.out _) z2⟩, by simp [intOf]; omega⟩
      · have hmv : mayV id (os k) = Vc.v0 := if_neg hm
        rw [decide_eq_false hm, hmv] at HMT
        obtain ⟨z1, z2⟩ := HNO.out hm
        clear hmv HNO HFIRST HTHEN HBV HBN
        rw [← z1]
        go_wp2_with fail
        refine (HMT.out _).mono ?_
        rintro e w2 ⟨rfl, hb2⟩
        have HFIN : Hid (∀ o, (w2.alloc o).heap[w.heap.size]? = some (.cells (vA Vc.v0) 48 (0, 0)) ∧ (w2.alloc o).heap[w.heap.size + 1]? = some (.cells (vA (bestV id os (k + 1))) 48 (0, 0)) ∧ Below w.heap.size w (w2.alloc o)) := fun o => by
          have h := (below_alloc1 wr _).trans (hb2.out.mono (by simp))
          have h2 := h.alloc h.size o
          rw [z2]
          exact ⟨keep HXX.out.1 h2, keep HXX.out.2.1 h2, HXX.out.2.2.trans (h2.mono HXX.out.2.2.size)⟩
        clear hb2 z1 z2
        simp only [vA, Vc.v0]
        go_wp2_with fail
        exact ⟨⟨k + 1, by omega, by go_num, rfl, HFIN.out _⟩, by simp [intOf]; omega⟩
    · obtain rfl : k = n := by omega
      have HRES : Hid (wr.heap[w.heap.size]? = some (.cells (vA Vc.v0) 48 (0, 0))) := hX.out.1
      have HLW : Hid (Below w.heap.size w wr) := hX.out.2.2
      obtain ⟨r0, r1, r2, r3⟩ := vc_cells hX.out.1
      obtain ⟨f0, f1, f2, f3⟩ := vc_free hX.out.1
      obtain ⟨B, hB⟩ : ∃ B, bestV id os k = B := ⟨_, rfl⟩
      rw [hB] at hX
      obtain ⟨vr, vc, vb, vp⟩ := B
      have HBV : Hid (bestV id os k = ⟨vr, vc, vb, vp⟩) := hB
      clear hB
      obtain ⟨b0, b1, b2, b3⟩ := vc_cells hX.out.2.1
      have HLOW : Hid (Below w.heap.size w ((((wr.setCell ⟨w.heap.size, 0, none⟩ (.int .u64 vr)).setCell ⟨w.heap.size, 1, none⟩ (.int .i64 vc)).setCell ⟨w.heap.size, 2, none⟩ (.int .u64 vb)).setCell ⟨w.heap.size, 3, none⟩ (.int .i64 vp)).drew) := ((((HLW.out.setCell (Nat.le_refl _) _).setCell (Nat.le_refl _) _).setCell (Nat.le_refl _) _).setCell (Nat.le_refl _) _).drew
      clear hX
      go_wp2_with fail
      go_region
      all_goals go_wp2_with fail
      all_goals exact bodyPost_ret (v := .tuple #[.int .i64 (atTo id os k), .agg #[.int .u64 vr, .int .i64 vc, .int .u64 vb, .int .i64 vp]]) (results_tmp_row (p := 5) (u := 4) (ty := 48) Tryz.results73 _ _ w.heap.size 48 #[.int .u64 vr, .int .i64 vc, .int .u64 vb, .int .i64 vp] (0, 0) _ rfl (drew_row (vc_set4 HRES.out)) Tryz.underlying48 rfl (by rw [sizeVc]; rfl)) rfl ⟨by rw [HBV.out]; rfl, HLOW.out⟩
end Go.Proofs.YtcbpafpaimpfnaaGreatDoor

namespace Go.Proofs.YtcbpafpaimpfnaaGreatDoor
open Go.RowKit
open Vc (V Of)

set_option maxRecDepth 100000 in
set_option maxHeartbeats 4000000 in
theorem vchoose_any (id : Int) (ao : Option Addr) (n cap : Nat) (os : Nat → Of) (w : World) (hn : n ≤ 9223372036854775807) (hr : ORow w ao n cap os) :
    Calls Tryz.prog 58 #[.int .u64 id, .slice ao n cap] w fun e w' => e = .returned (.tuple #[.agg (vA (Vc.chV id os n)), .int .i64 (Vc.chA id os n), .int .i64 (Vc.chP id os n)]) ∧ Below w.heap.size w w' := by
  obtain ⟨W0, HW0⟩ : ∃ W0, Hid (W0 = w.alloc (.cells #[.int .u64 0, .int .i64 0, .int .u64 0, .int .i64 0] 48)) := ⟨_, rfl⟩
  have HB0 : Hid (Below w.heap.size w W0) := by rw [HW0.out]; exact below_alloc1 _ _
  have HR0 : Hid (W0.heap[w.heap.size]? = some (.cells #[.int .u64 0, .int .i64 0, .int .u64 0, .int .i64 0] 48 (0, 0))) := by rw [HW0.out]; exact heap_alloc_last _ _
  have HRW : Hid (∀ W, Below w.heap.size w W → ORow W ao n cap os) := fun W hW => CRow.other hr (fun q _ _ hq => hW.block q hq) hW.size
  have HBB : Hid (∀ b off, ao = some ⟨b, off, none⟩ → 0 < n → b < w.heap.size) := fun b off e hp => by
    obtain ⟨b', off', e', hb', _⟩ := hr.2 hp
    rw [e] at e'
    cases e'
    exact hb'
  have hcap := hr.1
  have HBO : Hid (Calls Tryz.prog 73 #[.int .u64 id, .slice ao n cap] W0 fun e w' => e = .returned (.tuple #[.int .i64 (atTo id os n), .agg (vA (bestV id os n))]) ∧ Below W0.heap.size W0 w') := vbestOffer_any id ao n cap os W0 hn (HRW.out W0 HB0.out)
  clear hr
  go_enter Tryz.func58, Tryz.ntmps58
  go_wp2_with fail
  rw [← HW0.out]
  refine HBO.out.mono ?_
  rintro e w1 ⟨rfl, hb1⟩
  obtain ⟨B, hB⟩ : ∃ B, bestV id os n = B := ⟨_, rfl⟩
  rw [hB]
  obtain ⟨vr, vc, vb, vp⟩ := B
  simp only [vA]
  obtain ⟨X, HX⟩ : ∃ X, Hid (X = w1.alloc (.cells #[.int .u64 vr, .int .i64 vc, .int .u64 vb, .int .i64 vp] 48)) := ⟨_, rfl⟩
  obtain ⟨G, HG⟩ : ∃ G, Hid (G = w1.heap.size) := ⟨_, rfl⟩
  have HXB : Hid (Below W0.heap.size W0 X) := by rw [HX.out]; exact hb1.alloc hb1.size _
  have HXL : Hid (Below w.heap.size w X) := HB0.out.trans (HXB.out.mono HB0.out.size)
  have HXV : Hid (X.heap[G]? = some (.cells #[.int .u64 vr, .int .i64 vc, .int .u64 vb, .int .i64 vp] 48 (0, 0))) := by rw [HX.out, HG.out]; exact heap_alloc_last _ _
  have HRES : Hid (X.heap[w.heap.size]? = some (.cells #[.int .u64 0, .int .i64 0, .int .u64 0, .int .i64 0] 48 (0, 0))) := keep HR0.out HXB.out
  have hne : w.heap.size ≠ G := by
    have h1 := hb1.size
    have h2 := (Array.getElem?_eq_some_iff.1 HR0.out).1
    rw [HG.out]; omega
  obtain ⟨b0, b1, b2, b3⟩ := vc_cells HXV.out
  obtain ⟨r0, r1, r2, r3⟩ := vc_cells HRES.out
  obtain ⟨f0, f1, f2, f3⟩ := vc_free HRES.out
  have HBVV : Hid (bestV id os n = ⟨vr, vc, vb, vp⟩) := hB
  clear hb1 hB HBO
  cases hc : Vc.chTo id os n with
  | none =>
    have hat : atTo id os n = -1 := by unfold atTo; rw [hc]
    have HOUT : Hid ((Ending.returned (.tuple #[.agg (vA (Vc.chV id os n)), .int .i64 (Vc.chA id os n), .int .i64 (Vc.chP id os n)]) : Ending) = .returned (.tuple #[.agg #[.int .u64 id, .int .i64 0, .int .u64 id, .int .i64 0], .int .i64 0, .int .i64 (-1)])) := by
      show (Ending.returned _ : Ending) = _
      unfold Vc.chV Vc.chA Vc.chP; rw [hc]; rfl
    rw [hat]
    have HLOW : Hid (Below w.heap.size w ((((X.setCell ⟨w.heap.size, 0, none⟩ (.int .u64 id)).setCell ⟨w.heap.size, 1, none⟩ (.int .i64 0)).setCell ⟨w.heap.size, 2, none⟩ (.int .u64 id)).setCell ⟨w.heap.size, 3, none⟩ (.int .i64 0))) := (((HXL.out.setCell (Nat.le_refl _) _).setCell (Nat.le_refl _) _).setCell (Nat.le_refl _) _).setCell (Nat.le_refl _) _
    clear hat hc
    rw [HX.out] at r0 r1 r2 r3 f0 f1 f2 f3
    go_wp2_with fail
    rw [← HX.out]
    exact bodyPost_ret (v := .tuple #[.agg #[.int .u64 id, .int .i64 0, .int .u64 id, .int .i64 0], .int .i64 0, .int .i64 (-1)]) (results_row_tmp2 (p := 4) (u := 5) (x := 6) (ty := 48) Tryz.results58 _ _ w.heap.size 48 #[.int .u64 id, .int .i64 0, .int .u64 id, .int .i64 0] (0, 0) _ rfl (vc_set4 HRES.out) Tryz.underlying48 rfl (by rw [sizeVc]; rfl)) rfl ⟨HOUT.out.symm, HLOW.out⟩
  | some j =>
    have hat : atTo id os n = (j : Int) := by unfold atTo; rw [hc]
    have hbv : (os j).v = ⟨vr, vc, vb, vp⟩ := by rw [← HBVV.out]; unfold bestV; rw [hc]
    obtain ⟨hjk, hmj, _⟩ := Vc.chTo_some id os n j hc
    obtain ⟨b, off, rfl, _⟩ := CRow.some (HRW.out X HXL.out) (by omega)
    have hbn : b ≠ w.heap.size := by have := HBB.out b off rfl (by omega); omega
    have hbn2 : w.heap.size ≠ b := fun e => hbn e.symm
    obtain ⟨a0, _, a2, _⟩ := ORow.cells (HRW.out X HXL.out) hjk
    have ha1 : 0 ≤ (os j).age := hmj.2.2.1.1
    have ha2 : (os j).age < 20 := hmj.2.2.1.2
    have wa : IntKind.i64.wrap ((os j).age + 1) = (os j).age + 1 := wraps_i64 _ (by omega) (by omega)
    have HOUT : Hid ((Ending.returned (.tuple #[.agg (vA (Vc.chV id os n)), .int .i64 (Vc.chA id os n), .int .i64 (Vc.chP id os n)]) : Ending) = .returned (.tuple #[.agg #[.int .u64 vr, .int .i64 vc, .int .u64 id, .int .i64 0], .int .i64 ((os j).age + 1), .int .i64 (os j).port])) := by
      show (Ending.returned _ : Ending) = _
      unfold Vc.chV Vc.chA Vc.chP; rw [hc]; simp only; rw [hbv]; rfl
    have ij : (0 : Int) ≤ (j : Int) := by omega
    have jn : (j : Int) < (n : Int) := by omega
    rw [hat]
    clear hat hbv hc hmj HRW HBB HBVV b2 b3 HXV HXB
    generalize (os j).age = oa at *
    generalize (os j).port = op at *
    have HLOW : Hid (Below w.heap.size w ((((X.setCell ⟨w.heap.size, 0, none⟩ (.int .u64 vr)).setCell ⟨w.heap.size, 1, none⟩ (.int .i64 vc)).setCell ⟨w.heap.size, 2, none⟩ (.int .u64 id)).setCell ⟨w.heap.size, 3, none⟩ (.int .i64 0)).drew) := ((((HXL.out.setCell (Nat.le_refl _) _).setCell (Nat.le_refl _) _).setCell (Nat.le_refl _) _).setCell (Nat.le_refl _) _).drew
    go_wp2_with fail
    rw [← HX.out, ← HG.out]
    go_region_held3 (fun W => (W.cell? ⟨G, 0, none⟩ = some (.int .u64 vr) ∧ W.cell? ⟨G, 1, none⟩ = some (.int .i64 vc)) ∧ W.cell? ⟨b, off + j * 7, none⟩ = some (.int .i64 op) ∧ W.cell? ⟨b, off + j * 7 + 2, none⟩ = some (.int .i64 oa))
      (go_keep)
      (fail)
    all_goals go_wp2_with fail
    all_goals exact bodyPost_ret (v := .tuple #[.agg #[.int .u64 vr, .int .i64 vc, .int .u64 id, .int .i64 0], .int .i64 (oa + 1), .int .i64 op]) (results_row_tmp2 (p := 4) (u := 5) (x := 6) (ty := 48) Tryz.results58 _ _ w.heap.size 48 #[.int .u64 vr, .int .i64 vc, .int .u64 id, .int .i64 0] (0, 0) _ rfl (drew_row (vc_set4 HRES.out)) Tryz.underlying48 rfl (by rw [sizeVc]; rfl)) rfl ⟨HOUT.out.symm, HLOW.out⟩
end Go.Proofs.YtcbpafpaimpfnaaGreatDoor

namespace Go.Proofs.YtcbpafpaimpfnaaGreatDoor
open Go.RowKit
open Vc (V Of)
open Pl (Br Net Pc Lk En St)

theorem infoTl : (Tryz.prog.info? 76).map (fun i => (i.zero, i.size, i.bytes)) = some (some (.agg #[.int .i64 0, .int .u64 0, .int .i64 0, .int .u64 0, .int .i64 0, .int .i64 0]), 6, 48) := by kernel_rfl
theorem infoI : (Tryz.prog.info? 3).map (fun i => (i.zero, i.size, i.bytes)) = some (some (.int .i64 0), 1, 8) := by kernel_rfl
/-- A tale without a tree, so old. -/
def tlC (v : V) (a : Int) (j : Nat) : Value := if j = 0 then .int .i64 0 else if j < 5 then vC v (j - 1) else .int .i64 a
def TlAt (w : World) (g K : Nat) (x : Nat → St) : Prop := w.heap[g]? = some (.cells (rowC K 6 (fun i => tlC (x i).v 0)) 76 (0, 0))
def RpAt (w : World) (g K : Nat) (x : Nat → St) : Prop := w.heap[g]? = some (.cells (rowC K 1 (fun i _ => .int .i64 (x i).rp)) 3 (0, 0))
/-- What bridges say in block g, their root ports in the next one. -/
def PlAt (w : World) (g K : Nat) (x : Nat → St) : Prop := TlAt w g K x ∧ RpAt w (g + 1) K x
/-- The minds that tell it. -/
def mdS (x : Nat → St) (i : Nat) : Tk.Md := ⟨(x i).v, 0, (x i).rp⟩
theorem PlAt.told {w : World} {g K : Nat} {x : Nat → St} (h : PlAt w g K x) : ToldAt w g K (mdS x) :=
  ⟨(Array.getElem?_eq_some_iff.1 h.1).1, fun i hi => ⟨fun j hj => by
    have := rowC_cell h.1 hi (show 1 + j < 6 by omega)
    rw [← Nat.add_assoc] at this
    rw [this]
    unfold tlC
    rw [if_neg (by omega), if_pos (by omega), show 1 + j - 1 = j by omega]
    rfl, rowC_cell h.1 hi (show 5 < 6 by omega)⟩⟩
theorem PlAt.below {w w' : World} {g K : Nat} {x : Nat → St} (h : PlAt w g K x) (hb : Below w.heap.size w w') : PlAt w' g K x := ⟨keep h.1 hb, keep h.2 hb⟩
theorem PlAt.cells {w : World} {g K : Nat} {x : Nat → St} (h : PlAt w g K x) {i : Nat} (hi : i < K) :
    (w.cell? ⟨g, i * 6 + 1, none⟩ = some (.int .u64 (x i).v.root) ∧ w.cell? ⟨g, i * 6 + 2, none⟩ = some (.int .i64 (x i).v.cost) ∧ w.cell? ⟨g, i * 6 + 3, none⟩ = some (.int .u64 (x i).v.bridge) ∧ w.cell? ⟨g, i * 6 + 4, none⟩ = some (.int .i64 (x i).v.port) ∧ w.cell? ⟨g + 1, i, none⟩ = some (.int .i64 (x i).rp)) ∧
    (w.frozen? ⟨g, i * 6 + 1, none⟩ = false ∧ w.frozen? ⟨g, i * 6 + 2, none⟩ = false ∧ w.frozen? ⟨g, i * 6 + 3, none⟩ = false ∧ w.frozen? ⟨g, i * 6 + 4, none⟩ = false ∧ w.frozen? ⟨g + 1, i, none⟩ = false) := by
  have e : (⟨g + 1, i, none⟩ : Addr) = ⟨g + 1, i * 1 + 0, none⟩ := by simp
  refine ⟨⟨rowC_cell h.1 hi (show 1 < 6 by omega), rowC_cell h.1 hi (show 2 < 6 by omega), rowC_cell h.1 hi (show 3 < 6 by omega), rowC_cell h.1 hi (show 4 < 6 by omega), ?_⟩,
    frozen_of_row _ _ _ _ _ h.1, frozen_of_row _ _ _ _ _ h.1, frozen_of_row _ _ _ _ _ h.1, frozen_of_row _ _ _ _ _ h.1, frozen_of_row _ _ _ _ _ h.2⟩
  rw [e]
  exact rowC_cell h.2 hi (show 0 < 1 by omega)
theorem TlAt.head {w : World} {g K : Nat} {x : Nat → St} (h : TlAt w g K x) {i : Nat} (hi : i < K) : w.cell? ⟨g, i * 6, none⟩ = some (.int .i64 0) ∧ w.cell? ⟨g, i * 6 + 5, none⟩ = some (.int .i64 0) :=
  ⟨rowC_cell h hi (show 0 < 6 by omega), rowC_cell h hi (show 5 < 6 by omega)⟩
/-- The vector of tale i is stored. -/
theorem pl_set4 {w : World} {g K : Nat} {x : Nat → St} (h : PlAt w g K x) {i : Nat} (hi : i < K) (v : V) :
    PlAt ((((w.setCell ⟨g, i * 6 + 1, none⟩ (.int .u64 v.root)).setCell ⟨g, i * 6 + 2, none⟩ (.int .i64 v.cost)).setCell ⟨g, i * 6 + 3, none⟩ (.int .u64 v.bridge)).setCell ⟨g, i * 6 + 4, none⟩ (.int .i64 v.port)) g K (fun j => if j = i then ⟨v, (x i).rp⟩ else x j) := by
  have h0 := rowC_set h.1 hi (show 1 < 6 by omega) (.int .u64 v.root)
  have h1 := rowC_set h0 hi (show 2 < 6 by omega) (.int .i64 v.cost)
  have h2 := rowC_set h1 hi (show 3 < 6 by omega) (.int .u64 v.bridge)
  have h3 := rowC_set h2 hi (show 4 < 6 by omega) (.int .i64 v.port)
  refine ⟨?_, ?_⟩
  · unfold TlAt
    rw [h3, rowC_congr2 (d := fun j => tlC (if j = i then (⟨v, (x i).rp⟩ : St) else x j).v 0) (fun j _ m hm => ?_)]
    unfold updC
    by_cases q : j = i
    · subst q
      rcases (by omega : m = 0 ∨ m = 1 ∨ m = 2 ∨ m = 3 ∨ m = 4 ∨ m = 5) with e | e | e | e | e | e <;> subst e <;> simp [tlC, vC]
    · simp [q]
  · have o : ∀ (W : World) (k : Nat) (u : Value), (W.setCell ⟨g, k, none⟩ u).heap[g + 1]? = W.heap[g + 1]? := fun W k u => heap_setCell_other _ _ _ _ (show g + 1 ≠ g by omega)
    unfold RpAt
    rw [o, o, o, o, h.2, rowC_congr2 (d := fun j _ => .int .i64 (if j = i then (⟨v, (x i).rp⟩ : St) else x j).rp) (fun j _ m _ => ?_)]
    by_cases q : j = i
    · subst q; simp
    · simp [q]
/-- .. and its root port. -/
theorem pl_set5 {w : World} {g K : Nat} {x : Nat → St} (h : PlAt w g K x) {i : Nat} (hi : i < K) (r : Int) :
    PlAt (w.setCell ⟨g + 1, i, none⟩ (.int .i64 r)) g K (fun j => if j = i then ⟨(x i).v, r⟩ else x j) := by
  have h0 := rowC_set h.2 hi (show 0 < 1 by omega) (.int .i64 r)
  rw [show i * 1 + 0 = i by omega] at h0
  refine ⟨?_, ?_⟩
  · unfold TlAt
    rw [heap_setCell_other _ _ _ _ (show g ≠ g + 1 by omega), h.1, rowC_congr2 (d := fun j => tlC (if j = i then (⟨(x i).v, r⟩ : St) else x j).v 0) (fun j _ m _ => ?_)]
    by_cases q : j = i
    · subst q; simp
    · simp [q]
  · unfold RpAt
    rw [h0, rowC_congr2 (d := fun j _ => .int .i64 (if j = i then (⟨(x i).v, r⟩ : St) else x j).rp) (fun j _ m hm => ?_)]
    unfold updC
    by_cases q : j = i
    · subst q; simp; omega
    · simp [q]
theorem PlAt.congr {w : World} {g K : Nat} {x y : Nat → St} (h : PlAt w g K x) (e : ∀ i, i < K → x i = y i) : PlAt w g K y := by
  obtain ⟨h1, h2⟩ := h
  unfold TlAt at h1
  unfold RpAt at h2
  refine ⟨?_, ?_⟩
  · unfold TlAt
    rw [h1, rowC_congr (d := fun i => tlC (y i).v 0) (fun i hi => by rw [e i hi])]
  · unfold RpAt
    rw [h2, rowC_congr (d := fun i _ => .int .i64 (y i).rp) (fun i hi => by rw [e i hi])]
/-- At the beginning: the first k have their identity. -/
def sInit (ids : Nat → Int) (k i : Nat) : St := if i < k then ⟨⟨ids i, 0, ids i, 0⟩, 0⟩ else ⟨⟨0, 0, 0, 0⟩, 0⟩
end Go.Proofs.YtcbpafpaimpfnaaGreatDoor

namespace Go.Proofs.YtcbpafpaimpfnaaGreatDoor
open Go.RowKit
open Vc (V Of)
open Pl (Br Net Pc Lk En St)

/-- What settled is given. -/
structure SetIn (w : World) (bao : Option Addr) (K bcap : Nat) (bs : Nat → Br) (G : Nat) (v : Nat → Value) (E : Nat → List En) : Prop where
  few : K ≤ 12
  brs : BRow w bao K bcap bs
  each : ∀ i, i < K → (bs i).at' w
  fine : ∀ i, i < K → (bs i).Fine
  ends : EndsOk w G K v E
  len : ∀ i, i < K → (E i).length ≤ 1000
  oth : ∀ i, i < K → ∀ e, e ∈ E i → e.live = true → 0 ≤ e.other ∧ e.other < K
theorem SetIn.below {w w' : World} {bao : Option Addr} {K bcap : Nat} {bs : Nat → Br} {G : Nat} {v : Nat → Value} {E : Nat → List En} (h : SetIn w bao K bcap bs G v E) (hb : Below w.heap.size w w') : SetIn w' bao K bcap bs G v E :=
  ⟨h.few, CRow.below h.brs hb, fun i hi => (h.each i hi).below hb, h.fine, h.ends.below hb, h.len, h.oth⟩
/-- One bridge chooses. -/
theorem step_pl {w : World} {g K : Nat} {x : Nat → St} {ids : Nat → Int} {E : Nat → List En} (h : PlAt w g K x) {i : Nat} (hi : i < K) :
    PlAt (((((w.setCell ⟨g, i * 6 + 1, none⟩ (.int .u64 (Pl.chS (ids i) (Pl.offs (E i) x)).v.root)).setCell ⟨g, i * 6 + 2, none⟩ (.int .i64 (Pl.chS (ids i) (Pl.offs (E i) x)).v.cost)).setCell ⟨g, i * 6 + 3, none⟩ (.int .u64 (Pl.chS (ids i) (Pl.offs (E i) x)).v.bridge)).setCell ⟨g, i * 6 + 4, none⟩ (.int .i64 (Pl.chS (ids i) (Pl.offs (E i) x)).v.port)).setCell ⟨g + 1, i, none⟩ (.int .i64 (Pl.chS (ids i) (Pl.offs (E i) x)).rp)) g K (Pl.step ids E x i) := by
  refine (pl_set5 (pl_set4 h hi (Pl.chS (ids i) (Pl.offs (E i) x)).v) hi (Pl.chS (ids i) (Pl.offs (E i) x)).rp).congr (fun j hj => ?_)
  unfold Pl.step
  by_cases q : j = i
  · rw [if_pos q, if_pos q, if_pos rfl]
  · rw [if_neg q, if_neg q, if_neg q]
set_option maxRecDepth 100000 in
set_option maxHeartbeats 4000000 in
theorem psettled_any (bao : Option Addr) (K bcap : Nat) (bs : Nat → Br) (G : Nat) (v : Nat → Value) (E : Nat → List En) (tree : Int) (w : World) (hin : SetIn w bao K bcap bs G v E) :
    Calls Tryz.prog 30 #[.slice bao K bcap, .int .i64 tree, .slice (some ⟨G, 0, none⟩) K K] w fun e w' => e = .returned (.tuple #[.slice (some ⟨w.heap.size, 0, none⟩) K K, .slice (some ⟨w.heap.size + 1, 0, none⟩) K K]) ∧ PlAt w' w.heap.size K (Pl.rounds (fun i => (bs i).id tree) E K K) ∧ Below w.heap.size w w' := by
  have hK := hin.few
  have hcap := hin.brs.1
  have HRW : Hid (∀ W, Below w.heap.size w W → SetIn W bao K bcap bs G v E) := fun W hW => hin.below hW
  have hmk : ∀ W : World, (Instr.makeSlice 72 (.int .i64 (K : Int)) (.int .i64 (K : Int))).run Tryz.prog W = .ok (.slice (some ⟨W.heap.size, 0, none⟩) K K) (W.alloc (.cells (rowC K 6 (fun i => tlC (sInit (fun i => (bs i).id tree) 0 i).v 0)) 76)) := fun W => make_rowD W 72 76 _ 6 48 K Tryz.underlying72 infoTl (by omega) rfl (by omega) (by omega) _ (fun _ j hj => by
    rcases (by omega : j = 0 ∨ j = 1 ∨ j = 2 ∨ j = 3 ∨ j = 4 ∨ j = 5) with e | e | e | e | e | e <;> subst e <;> rfl)
  have hmk2 : ∀ W : World, (Instr.makeSlice 35 (.int .i64 (K : Int)) (.int .i64 (K : Int))).run Tryz.prog W = .ok (.slice (some ⟨W.heap.size, 0, none⟩) K K) (W.alloc (.cells (rowC K 1 (fun i _ => .int .i64 (sInit (fun i => (bs i).id tree) 0 i).rp)) 3)) := fun W => make_rowD W 35 3 _ 1 8 K Tryz.underlying35 infoI (by omega) rfl (by omega) (by omega) _ (fun _ j hj => by rw [show j = 0 by omega]; rfl)
  clear hin
  obtain ⟨ids, HIDS⟩ : ∃ ids : Nat → Int, Hid (∀ i, ids i = (bs i).id tree) := ⟨fun i => (bs i).id tree, fun _ => rfl⟩
  obtain ⟨P, HP⟩ : ∃ P, Hid (P = w.heap.size) := ⟨_, rfl⟩
  have HE : Hid (Pl.rounds (fun i => (bs i).id tree) E K K = Pl.rounds ids E K K) := by
    have : ids = fun i => (bs i).id tree := funext HIDS.out
    rw [this]; rfl
  rw [HE.out, ← HP.out]
  have H0 : Hid (∀ W, W = (w.alloc (.cells (rowC K 6 (fun i => tlC (sInit (fun i => (bs i).id tree) 0 i).v 0)) 76)).alloc (.cells (rowC K 1 (fun i _ => .int .i64 (sInit (fun i => (bs i).id tree) 0 i).rp)) 3) → PlAt W P K (sInit ids 0) ∧ Below w.heap.size w W) := fun W hW => by
    rw [hW, HP.out]
    refine ⟨⟨?_, ?_⟩, below_alloc2 _ _ _⟩
    · unfold TlAt
      rw [heap_alloc2_old]
      rfl
    · unfold RpAt
      rw [heap_alloc2_new]
      rfl
  have hP0 : w.heap.size ≤ P := by rw [HP.out]; exact Nat.le_refl _
  go_enter Tryz.func30, Tryz.ntmps30
  go_wp2_with fail
  rw [← HP.out]
  go_loopw [22] (fun i wr => ∃ k : Nat, k ≤ K ∧ i = .int .i64 k ∧ Hid (PlAt wr P K (sInit ids k) ∧ Below w.heap.size w wr)) (fun i _ => K - (intOf i).toNat)
  case atStart => exact ⟨0, by omega, rfl, H0.out _ rfl⟩
  case round =>
    obtain ⟨k, hk, rfl, hX⟩ := hrel
    clear H0
    by_cases hlt : k < K
    · obtain ⟨hPl, hB⟩ := hX.out
      have hI := HRW.out wr hB
      obtain ⟨b, off, rfl, _⟩ := CRow.some hI.brs (by omega)
      obtain ⟨c0, c1, c2, c3, c4⟩ := BRow.cells hI.brs hlt
      obtain ⟨X, HX⟩ : ∃ X, Hid (X = wr.alloc (.cells (brA (bs k)) 40)) := ⟨_, rfl⟩
      have hXB : Below wr.heap.size wr X := by rw [HX.out]; exact below_alloc1 _ _
      have hX5 : X.heap[wr.heap.size]? = some (.cells (brA (bs k)) 40 (0, 0)) := by rw [HX.out]; exact heap_alloc_last _ _
      have HCL : Hid (Calls Tryz.prog 15 #[.agg (brA (bs k)), .int .i64 tree] X fun e w' => e = .returned (.int .u64 (ids k)) ∧ Hid (PlAt w' P K (sInit ids k) ∧ Below w.heap.size w w')) := by
        refine (pident_any (bs k) tree X ((hI.each k hlt).below hXB) (hI.fine k hlt)).mono ?_
        rintro e w' ⟨rfl, z⟩
        have z2 : Below wr.heap.size wr w' := hXB.trans (z.mono hXB.size)
        exact ⟨by rw [HIDS.out], hPl.below z2, hB.trans (z2.mono hB.size)⟩
      have HN : Hid (∀ W, PlAt W P K (sInit ids k) → Below w.heap.size w W → PlAt ((((W.setCell ⟨P, k * 6 + 1, none⟩ (.int .u64 (ids k))).setCell ⟨P, k * 6 + 2, none⟩ (.int .i64 0)).setCell ⟨P, k * 6 + 3, none⟩ (.int .u64 (ids k))).setCell ⟨P, k * 6 + 4, none⟩ (.int .i64 0)) P K (sInit ids (k + 1)) ∧ Below w.heap.size w ((((W.setCell ⟨P, k * 6 + 1, none⟩ (.int .u64 (ids k))).setCell ⟨P, k * 6 + 2, none⟩ (.int .i64 0)).setCell ⟨P, k * 6 + 3, none⟩ (.int .u64 (ids k))).setCell ⟨P, k * 6 + 4, none⟩ (.int .i64 0))) := fun W h1 h2 => by
        refine ⟨(pl_set4 h1 hlt ⟨ids k, 0, ids k, 0⟩).congr (fun j hj => ?_), (((h2.setCell hP0 _).setCell hP0 _).setCell hP0 _).setCell hP0 _⟩
        unfold sInit
        by_cases q : j = k
        · subst q
          rw [if_pos rfl, if_neg (Nat.lt_irrefl _), if_pos (Nat.lt_succ_self _)]
        · rw [if_neg q]
          by_cases q2 : j < k
          · rw [if_pos q2, if_pos (by omega)]
          · rw [if_neg q2, if_neg (by omega)]
      obtain ⟨d0, d1, d2, d3, d4⟩ := br_cells hX5
      have i0 : (0 : Int) ≤ (k : Int) := by omega
      have i1 : (k : Int) < (K : Int) := by omega
      clear hX hPl hB hI hXB hX5 HRW
      simp only [brA] at *
      go_wp2_with fail
      rw [← HX.out]
      refine HCL.out.mono ?_
      rintro e w1 ⟨rfl, HW1⟩
      obtain ⟨⟨q0, q1, q2, q3, _⟩, f0, f1, f2, f3, _⟩ := HW1.out.1.cells hlt
      clear d0 d1 d2 d3 d4 HCL
      go_wp2_with fail
      exact ⟨⟨k + 1, by omega, by go_num, HN.out _ HW1.out.1 HW1.out.2⟩, by simp [intOf]; omega⟩
    · obtain rfl : k = K := by omega
      have H1 : Hid (PlAt wr P k (Pl.rounds ids E k 0) ∧ Below w.heap.size w wr) := ⟨hX.out.1.congr (fun i hi => by unfold sInit; rw [if_pos hi]; rfl), hX.out.2⟩
      clear hX
      go_wp2_with fail
      go_loopw [40] (fun i wr => ∃ r : Nat, r ≤ k ∧ i = .int .i64 r ∧ Hid (PlAt wr P k (Pl.rounds ids E k r) ∧ Below w.heap.size w wr)) (fun i _ => k - (intOf i).toNat)
      case atStart => exact ⟨0, by omega, rfl, H1⟩
      case round =>
        obtain ⟨r, hr, rfl, hY⟩ := hrel
        clear H1
        by_cases hlt2 : r < k
        · have H2 : Hid (PlAt wr P k (Pl.roundTo ids E (Pl.rounds ids E k r) 0) ∧ Below w.heap.size w wr) := hY.out
          clear hY
          go_wp2_with fail
          go_loopw [44] (fun i wr => ∃ j : Nat, j ≤ k ∧ i = .int .i64 j ∧ Hid (PlAt wr P k (Pl.roundTo ids E (Pl.rounds ids E k r) j) ∧ Below w.heap.size w wr)) (fun i _ => k - (intOf i).toNat)
          case atStart => exact ⟨0, by omega, rfl, H2⟩
          case round =>
            obtain ⟨j, hj, rfl, hZ⟩ := hrel
            clear H2
            by_cases hlt3 : j < k
            · obtain ⟨hPl, hB⟩ := hZ.out
              have hbr := (Pl.roundTo_bridge ids E _ (Pl.rounds_bridge ids E k r) j j).1
              have hstep : Pl.roundTo ids E (Pl.rounds ids E k r) (j + 1) = Pl.step ids E (Pl.roundTo ids E (Pl.rounds ids E k r) j) j := rfl
              have hI := HRW.out wr hB
              obtain ⟨eao, ecap, ev, hrow⟩ := hI.ends.row j hlt3
              have eA : (⟨G, j, none⟩ : Addr) = ⟨G, j * 1 + 0, none⟩ := by simp
              have hlen := hI.len j hlt3
              generalize Pl.roundTo ids E (Pl.rounds ids E k r) j = X at *
              obtain ⟨sS, hsS⟩ : ∃ sS, sS = Pl.chS (ids j) (Pl.offs (E j) X) := ⟨_, rfl⟩
              have hsb := Pl.chS_bridge (ids j) (Pl.offs (E j) X)
              have HOF : Hid (∀ W, Below wr.heap.size wr W → Calls Tryz.prog 33 #[.slice eao (E j).length ecap, .slice (some ⟨P, 0, none⟩) k k] W fun e w' => ∃ ao cap, e = .returned (.slice ao (Pl.offs (E j) X).length cap) ∧ Hid (ORow w' ao (Pl.offs (E j) X).length cap (Pl.lf (Pl.offs (E j) X))) ∧ Hid (Below wr.heap.size wr w')) := fun W hW => by
                refine (pheard_any (E j) eao ecap P k (mdS X) W (by omega) hlen (CRow.below hrow hW) ((hPl.below hW).told) (hI.oth j hlt3)).mono ?_
                rintro e w' ⟨ao, cap, rfl, z1, z2, _⟩
                exact ⟨ao, cap, rfl, z1, hW.trans (z2.mono hW.size)⟩
              have hfew : (Pl.offs (E j) X).length ≤ 1000 := by
                unfold Pl.offs
                rw [List.length_map]
                exact Nat.le_trans (List.length_filter_le _ _) hlen
              have HCH : Hid (∀ (W : World) (ao : Option Addr) (cap : Nat), ORow W ao (Pl.offs (E j) X).length cap (Pl.lf (Pl.offs (E j) X)) → Below wr.heap.size wr W → Calls Tryz.prog 58 #[.int .u64 (ids j), .slice ao (Pl.offs (E j) X).length cap] W fun e w' => ∃ ag : Int, e = .returned (.tuple #[.agg #[.int .u64 sS.v.root, .int .i64 sS.v.cost, .int .u64 (ids j), .int .i64 0], .int .i64 ag, .int .i64 sS.rp]) ∧ Hid (Below wr.heap.size wr w')) := fun W ao cap h1 h2 => by
                refine (vchoose_any (ids j) ao (Pl.offs (E j) X).length cap (Pl.lf (Pl.offs (E j) X)) W (by omega) h1).mono ?_
                rintro e w' ⟨rfl, z2⟩
                refine ⟨Vc.chA (ids j) (Pl.lf (Pl.offs (E j) X)) (Pl.offs (E j) X).length, ?_, h2.trans (z2.mono h2.size)⟩
                have e1 : sS.v = Vc.chV (ids j) (Pl.lf (Pl.offs (E j) X)) (Pl.offs (E j) X).length := by rw [hsS]; rfl
                have e2 : sS.rp = Vc.chP (ids j) (Pl.lf (Pl.offs (E j) X)) (Pl.offs (E j) X).length := by rw [hsS]; rfl
                rw [← hsS] at hsb
                rw [← e1, ← e2]
                unfold vA
                rw [hsb.1, hsb.2]
              have HS : Hid (∀ W, Below wr.heap.size wr W → W.cell? ⟨P, j * 6 + 3, none⟩ = some (.int .u64 (ids j)) ∧ W.cell? ⟨G, j, none⟩ = some (.slice eao (E j).length ecap)) := fun W hW => by
                have h1 := ((hPl.below hW).cells hlt3).1.2.2.1
                rw [hbr] at h1
                have h2 := rowC_cell (hI.ends.below hW).blk hlt3 (show 0 < 1 by omega)
                rw [← eA, ev] at h2
                exact ⟨h1, h2⟩
              have hPG : G ≠ P := fun e => by
                have h1 := hI.ends.blk
                rw [e, hPl.1] at h1
                injection h1 with h1
                injection h1 with _ h1
                revert h1
                decide
              have hPG2 : G ≠ P + 1 := fun e => by
                have h1 := hI.ends.blk
                rw [e, hPl.2] at h1
                injection h1 with h1
                injection h1 with _ h1
                revert h1
                decide
              have HS4 : Hid (∀ W, Below wr.heap.size wr W → ((((W.setCell ⟨P, j * 6 + 1, none⟩ (.int .u64 sS.v.root)).setCell ⟨P, j * 6 + 2, none⟩ (.int .i64 sS.v.cost)).setCell ⟨P, j * 6 + 3, none⟩ (.int .u64 (ids j))).setCell ⟨P, j * 6 + 4, none⟩ (.int .i64 0)).cell? ⟨P, j * 6 + 3, none⟩ = some (.int .u64 (ids j)) ∧ ((((W.setCell ⟨P, j * 6 + 1, none⟩ (.int .u64 sS.v.root)).setCell ⟨P, j * 6 + 2, none⟩ (.int .i64 sS.v.cost)).setCell ⟨P, j * 6 + 3, none⟩ (.int .u64 (ids j))).setCell ⟨P, j * 6 + 4, none⟩ (.int .i64 0)).cell? ⟨G, j, none⟩ = some (.slice eao (E j).length ecap)) := fun W hW => by
                have h1 := pl_set4 (hPl.below hW) hlt3 ⟨sS.v.root, sS.v.cost, ids j, 0⟩
                refine ⟨?_, ?_⟩
                · have := (h1.cells hlt3).1.2.2.1
                  simp only [if_true] at this
                  exact this
                · refine (World.cell?_of_block (w := W) ?_).trans (HS.out W hW).2
                  exact (heap_setCell_other _ _ _ _ (by exact hPG)).trans ((heap_setCell_other _ _ _ _ (by exact hPG)).trans ((heap_setCell_other _ _ _ _ (by exact hPG)).trans (heap_setCell_other _ _ _ _ (by exact hPG))))
              have HN : Hid (∀ W, Below wr.heap.size wr W → PlAt (((((W.setCell ⟨P, j * 6 + 1, none⟩ (.int .u64 sS.v.root)).setCell ⟨P, j * 6 + 2, none⟩ (.int .i64 sS.v.cost)).setCell ⟨P, j * 6 + 3, none⟩ (.int .u64 (ids j))).setCell ⟨P, j * 6 + 4, none⟩ (.int .i64 0)).setCell ⟨P + 1, j, none⟩ (.int .i64 sS.rp)) P k (Pl.roundTo ids E (Pl.rounds ids E k r) (j + 1)) ∧ Below w.heap.size w (((((W.setCell ⟨P, j * 6 + 1, none⟩ (.int .u64 sS.v.root)).setCell ⟨P, j * 6 + 2, none⟩ (.int .i64 sS.v.cost)).setCell ⟨P, j * 6 + 3, none⟩ (.int .u64 (ids j))).setCell ⟨P, j * 6 + 4, none⟩ (.int .i64 0)).setCell ⟨P + 1, j, none⟩ (.int .i64 sS.rp))) := fun W hW => by
                rw [hstep]
                have h1 := step_pl (ids := ids) (E := E) (hPl.below hW) hlt3
                rw [hsb.1, hsb.2, ← hsS] at h1
                have h2 : Below w.heap.size w W := hB.trans (hW.mono hB.size)
                exact ⟨h1, ((((h2.setCell hP0 _).setCell hP0 _).setCell hP0 _).setCell hP0 _).setCell (Nat.le_succ_of_le hP0) _⟩
              have HS5 : Hid (∀ W, Below wr.heap.size wr W → (((((W.setCell ⟨P, j * 6 + 1, none⟩ (.int .u64 sS.v.root)).setCell ⟨P, j * 6 + 2, none⟩ (.int .i64 sS.v.cost)).setCell ⟨P, j * 6 + 3, none⟩ (.int .u64 (ids j))).setCell ⟨P, j * 6 + 4, none⟩ (.int .i64 0)).setCell ⟨P + 1, j, none⟩ (.int .i64 sS.rp)).cell? ⟨P, j * 6 + 3, none⟩ = some (.int .u64 (ids j)) ∧ (((((W.setCell ⟨P, j * 6 + 1, none⟩ (.int .u64 sS.v.root)).setCell ⟨P, j * 6 + 2, none⟩ (.int .i64 sS.v.cost)).setCell ⟨P, j * 6 + 3, none⟩ (.int .u64 (ids j))).setCell ⟨P, j * 6 + 4, none⟩ (.int .i64 0)).setCell ⟨P + 1, j, none⟩ (.int .i64 sS.rp)).cell? ⟨G, j, none⟩ = some (.slice eao (E j).length ecap)) := fun W hW => by
                have h1 := pl_set5 (pl_set4 (hPl.below hW) hlt3 ⟨sS.v.root, sS.v.cost, ids j, 0⟩) hlt3 sS.rp
                refine ⟨?_, ?_⟩
                · have := (h1.cells hlt3).1.2.2.1
                  simp only [if_true] at this
                  exact this
                · exact (World.cell?_of_block (heap_setCell_other _ _ _ _ (by exact hPG2))).trans (HS4.out W hW).2
              have HPC : Hid (∀ W, Below wr.heap.size wr W → _) := fun W hW => (hPl.below hW).cells hlt3
              have HB0 : Hid (Below wr.heap.size wr wr.drew) := Below.drew (Below.refl _ _)
              obtain ⟨k0, k1⟩ := HS.out wr (Below.refl _ _)
              have i0 : (0 : Int) ≤ (j : Int) := by omega
              have i1 : (j : Int) < (k : Int) := by omega
              generalize (Pl.offs (E j) X).length = m at *
              generalize (E j).length = en at *
              clear hZ hPl hB hI hrow hlen hsb hsS hbr hstep ev eA hPG hPG2 HRW hmk hmk2 hfew
              go_wp2_with fail
              go_region_held3 (fun W => W.cell? ⟨P, j * 6 + 3, none⟩ = some (.int .u64 (ids j)) ∧ W.cell? ⟨G, j, none⟩ = some (.slice eao en ecap))
                (first | (with_reducible exact HS.out _ HB0.out) | (with_reducible exact HS.out _ HB1.out) | (with_reducible exact HS.out _ HB2.out) | (with_reducible exact HS4.out _ HB2.out) | (with_reducible exact HS5.out _ HB2.out))
                (first | (go_at_call 33; (with_reducible refine (HOF.out _ HB0.out).mono ?_); rintro e w1 ⟨oao, ocap, rfl, HO1, HB1⟩) | (go_at_call 58; (with_reducible refine (HCH.out _ _ _ HO1.out HB1.out).mono ?_); rintro e w2 ⟨ag, rfl, HB2⟩; obtain ⟨⟨g0, g1, g2, g3, g4⟩, f0, f1, f2, f3, f4⟩ := HPC.out w2 HB2.out))
              all_goals go_wp2_with fail
              all_goals exact ⟨⟨j + 1, by omega, by go_num, HN.out _ HB2.out⟩, by simp [intOf]; omega⟩
            · obtain rfl : j = k := by omega
              have H3 : Hid (PlAt wr P j (Pl.rounds ids E j (r + 1)) ∧ Below w.heap.size w wr) := hZ.out
              go_wp2_with fail
              exact ⟨⟨r + 1, by omega, by go_num, H3⟩, by simp [intOf]; omega⟩
        · obtain rfl : r = k := by omega
          go_wp2_with fail
          go_ret2
          exact ⟨rfl, hY.out.1, by rw [HP.out]; exact hY.out.2⟩
end Go.Proofs.YtcbpafpaimpfnaaGreatDoor

namespace Go.Proofs
open Go.Shelf
def Tryz.sortI_ren : Go.Shelf.Ren := ⟨fun | 125 => 75 | 128 => 98 | 129 => 99 | 189 => 59 | 215 => 72 | 216 => 95 | 257 => 74 | 294 => 89 | 295 => 90 | 296 => 91 | 297 => 92 | 298 => 93 | 299 => 94 | 300 => 96 | 301 => 97 | 328 => 109 | 329 => 110 | 330 => 111 | 331 => 112 | 332 => 113 | 343 => 125 | n => n, fun | 0 => 0 | 3 => 3 | 4 => 4 | 5 => 5 | 9 => 9 | 28 => 35 | 46 => 90 | 51 => 150 | 53 => 34 | 131 => 147 | 182 => 141 | 183 => 142 | 218 => 159 | 222 => 163 | 228 => 179 | 229 => 180 | n => n, fun | n => n⟩
theorem Tryz.sortI : Go.Proofs.Lays.n189 Tryz.prog Tryz.sortI_ren := {
  mixed := by kernel_rfl
  f125 := Tryz.func75.trans (congrArg some (by kernel_rfl))
  f128 := Tryz.func98.trans (congrArg some (by kernel_rfl))
  f129 := Tryz.func99.trans (congrArg some (by kernel_rfl))
  f189 := Tryz.func59.trans (congrArg some (by kernel_rfl))
  f215 := Tryz.func72.trans (congrArg some (by kernel_rfl))
  f216 := Tryz.func95.trans (congrArg some (by kernel_rfl))
  f257 := Tryz.func74.trans (congrArg some (by kernel_rfl))
  f294 := Tryz.func89.trans (congrArg some (by kernel_rfl))
  f295 := Tryz.func90.trans (congrArg some (by kernel_rfl))
  f296 := Tryz.func91.trans (congrArg some (by kernel_rfl))
  f297 := Tryz.func92.trans (congrArg some (by kernel_rfl))
  f298 := Tryz.func93.trans (congrArg some (by kernel_rfl))
  f299 := Tryz.func94.trans (congrArg some (by kernel_rfl))
  f300 := Tryz.func96.trans (congrArg some (by kernel_rfl))
  f301 := Tryz.func97.trans (congrArg some (by kernel_rfl))
  f328 := Tryz.func109.trans (congrArg some (by kernel_rfl))
  f329 := Tryz.func110.trans (congrArg some (by kernel_rfl))
  f330 := Tryz.func111.trans (congrArg some (by kernel_rfl))
  f331 := Tryz.func112.trans (congrArg some (by kernel_rfl))
  f332 := Tryz.func113.trans (congrArg some (by kernel_rfl))
  f343 := Tryz.func125.trans (congrArg some (by kernel_rfl))
  t0 := Tryz.underlying0
  a0 := Tryz.isAgg0
  z0 := Tryz.sizeOf0
  v0 := Tryz.zeroValue0
  t3 := Tryz.underlying3
  a3 := Tryz.isAgg3
  z3 := Tryz.sizeOf3
  v3 := Tryz.zeroValue3
  t4 := Tryz.underlying4
  a4 := Tryz.isAgg4
  z4 := Tryz.sizeOf4
  v4 := Tryz.zeroValue4
  t5 := Tryz.underlying5
  a5 := Tryz.isAgg5
  z5 := Tryz.sizeOf5
  v5 := Tryz.zeroValue5
  t9 := Tryz.underlying9
  a9 := Tryz.isAgg9
  z9 := Tryz.sizeOf9
  v9 := Tryz.zeroValue9
  t28 := Tryz.underlying35
  a28 := Tryz.isAgg35
  z28 := Tryz.sizeOf35
  v28 := Tryz.zeroValue35
  t46 := Tryz.underlying90
  a46 := Tryz.isAgg90
  z46 := Tryz.sizeOf90
  v46 := Tryz.zeroValue90
  t51 := Tryz.underlying150
  a51 := Tryz.isAgg150
  z51 := Tryz.sizeOf150
  v51 := Tryz.zeroValue150
  t53 := Tryz.underlying34
  a53 := Tryz.isAgg34
  z53 := Tryz.sizeOf34
  v53 := Tryz.zeroValue34
  t131 := Tryz.underlying147
  a131 := Tryz.isAgg147
  z131 := Tryz.sizeOf147
  v131 := Tryz.zeroValue147
  t182 := Tryz.underlying141
  a182 := Tryz.isAgg141
  z182 := Tryz.sizeOf141
  v182 := Tryz.zeroValue141
  t183 := Tryz.underlying142
  a183 := Tryz.isAgg142
  z183 := Tryz.sizeOf142
  v183 := Tryz.zeroValue142
  t218 := Tryz.underlying159
  a218 := Tryz.isAgg159
  z218 := Tryz.sizeOf159
  v218 := Tryz.zeroValue159
  t222 := Tryz.underlying163
  a222 := Tryz.isAgg163
  z222 := Tryz.sizeOf163
  v222 := Tryz.zeroValue163
  t228 := Tryz.underlying179
  a228 := Tryz.isAgg179
  z228 := Tryz.sizeOf179
  v228 := Tryz.zeroValue179
  t229 := Tryz.underlying180
  a229 := Tryz.isAgg180
  z229 := Tryz.sizeOf180
  v229 := Tryz.zeroValue180 }
end Go.Proofs

namespace Go.Proofs.YtcbpafpaimpfnaaGreatDoor
open Go.RowKit
open Vc (V Of)
open Pl (Br Net Pc Lk En St)

/-- A list of ints, as it lies. -/
abbrev IL (l : List Int) (j : Nat) : Int := l.getD j 0
abbrev intCells (l : List Int) : List Value := cellsL l.length 1 (fun j _ => .int .i64 (IL l j))
theorem int_snoc (l : List Int) (z : Int) : cellsL (l.length + 1) 1 (catC l.length (fun j _ => .int .i64 (IL l j)) (fun _ _ => .int .i64 z)) = intCells (l ++ [z]) := by
  unfold intCells
  rw [List.length_append]
  apply cellsL_congr
  intro i hi
  simp only [catC]
  by_cases q : i < l.length
  · rw [if_pos q]
    simp [IL, List.getD, List.getElem?_append_left q]
  · rw [if_neg q]
    obtain rfl : i = l.length := by omega
    simp [IL, List.getD]
theorem one_int_row {w : World} {g : Nat} {z : Int} {ty : TypeId} (h : w.heap[g]? = some (.cells #[.int .i64 z] ty (0, 0))) : IRow w (some ⟨g, 0, none⟩) 1 1 (fun _ => z) := by
  refine ⟨Nat.le_refl _, fun _ => ⟨g, 0, rfl, (Array.getElem?_eq_some_iff.1 h).1, fun i hi j hj => ?_⟩⟩
  obtain rfl : i = 0 := by omega
  obtain rfl : j = 0 := by omega
  exact cell_of_row w g 0 _ _ _ h
/-- One int more. -/
theorem int_more {W : World} {base : Nat} {ao : Option Addr} {cap : Nat} {l : List Int} (h : W.ownsRow base 3 1 (.slice ao l.length cap) l.length (intCells l)) (hb : base ≤ W.heap.size) (hl : l.length ≤ 100000) (z : Int) :
    ∃ a1 c1 w2, (Builtin.append_ #[35, 35] 35 #[.slice ao l.length cap, .slice (some ⟨W.heap.size, 0, none⟩) 1 1]).run Tryz.prog (W.alloc (.cells #[.int .i64 z] 3)) = .ok (.slice a1 (l ++ [z]).length c1) w2 ∧ w2.ownsRow base 3 1 (.slice a1 (l ++ [z]).length c1) (l ++ [z]).length (intCells (l ++ [z])) ∧ Below base W w2 := by
  have hB : Below W.heap.size W (W.alloc (.cells #[.int .i64 z] 3)) := below_alloc1 _ _
  obtain ⟨a1, c1, w2, r, ho, hb2, _⟩ := append_c (W.alloc (.cells #[.int .i64 z] 3)) 35 3 _ 1 8 Tryz.underlying35 infoI rfl (by omega) base (.slice ao l.length cap) l.length (fun j _ => .int .i64 (IL l j)) (ownsC_below h hB) (some ⟨W.heap.size, 0, none⟩) 1 1 (fun _ _ => .int .i64 z) (fun _ _ => rfl) (one_int_row (heap_alloc_last _ _)) (fun h => by cases h) (by unfold maxLen; omega) (by omega) (by simp; omega)
  rw [int_snoc] at ho
  have e : (l ++ [z]).length = l.length + 1 := by simp
  rw [← e] at r ho
  exact ⟨a1, c1, w2, r, ho, (hB.mono hb).trans hb2⟩
/-- .. and what else is as it was. -/
theorem int_more2 {Z Zd : World} {base : Nat} {v : Value} {l : List Int} (ho : Z.ownsRow base 3 1 v l.length (intCells l)) (hbase : base ≤ Z.heap.size) (hl : l.length ≤ 100000) (z : Int) (hZ : Below Z.heap.size Z Zd) (hs : Zd.heap.size = Z.heap.size) :
    ∃ vo vc w2, (Builtin.append_ #[35, 35] 35 #[v, .slice (some ⟨Z.heap.size, 0, none⟩) 1 1]).run Tryz.prog (Zd.alloc (.cells #[.int .i64 z] 3)) = .ok (.slice vo (l ++ [z]).length vc) w2 ∧ w2.ownsRow base 3 1 (.slice vo (l ++ [z]).length vc) (l ++ [z]).length (intCells (l ++ [z])) ∧
      (∀ q, q < Z.heap.size → v.ownBlock ≠ some q → w2.heap[q]? = Z.heap[q]?) ∧ ((Value.slice vo (l ++ [z]).length vc).ownBlock = v.ownBlock ∨ (Value.slice vo (l ++ [z]).length vc).ownBlock = some (Z.heap.size + 1)) ∧ Below base Z w2 ∧ Z.heap.size ≤ w2.heap.size := by
  obtain ⟨i0, hi0, hz0, hz1, hz2⟩ := info_parts infoI
  obtain ⟨C, hC⟩ : ∃ C, C = Zd.alloc (.cells #[.int .i64 z] 3) := ⟨_, rfl⟩
  have hCb : Below Z.heap.size Z C := by rw [hC]; exact hZ.alloc (by omega) _
  have hCs : C.heap.size = Z.heap.size + 1 := by rw [hC]; simp [hs]
  have hCl : C.heap[Z.heap.size]? = some (.cells #[.int .i64 z] 3 (0, 0)) := by rw [hC, ← hs]; exact heap_alloc_last Zd _
  have hO := ownsC_below ho hCb
  obtain ⟨v', w2, hrun, h1, h2, _, h3⟩ := run_append_own_at (P := Tryz.prog) C base 35 35 3 i0 _ 1 8 Tryz.underlying35 hi0 hz0 hz1 hz2 rfl (by omega) v l.length (intCells l) hO ⟨Z.heap.size, 0, none⟩ 1 1 [.int .i64 z] rfl (fun j u hj => by
    have hl : j = 0 := by
      have := (List.getElem?_eq_some_iff.1 hj).1
      simpa using this
    subst hl
    rw [add_row, Nat.zero_add]
    simp at hj
    subst hj
    exact cell_of_row C Z.heap.size 0 _ _ _ hCl) (fun u hu => by simp at hu; subst hu; rfl) (by unfold maxLen; omega) (by omega) (by omega)
  have e1 : intCells l ++ [.int .i64 z] = intCells (l ++ [z]) := by
    have : ([.int .i64 z] : List Value) = cellsL 1 1 (fun _ _ => .int .i64 z) := by simp [cellsL]
    rw [this, cellsL_cat _ _ _ (by omega), int_snoc]
  have e2 : (l ++ [z]).length = l.length + 1 := by simp
  rw [e1, ← e2] at h1
  obtain ⟨ao, cap, rfl, _⟩ := owns_c (by omega) h1
  refine ⟨ao, cap, w2, by rw [← hC]; exact hrun, h1, fun q hq hne => (h2.block q (by omega) (fun p => hne p.symm)).trans (hCb.block q hq), ?_, ?_, by have := h2.size; omega⟩
  · rcases h3 with h3 | h3
    · exact Or.inl h3
    · exact Or.inr (by rw [h3, hCs])
  · exact (hCb.mono hbase).trans ((Below.refl _ _).grown h2 (by omega) (fun q hq => (ownsC_block hO q hq).1))
theorem intCells_map (l : List Int) : intCells l = l.map (Value.int .i64) := by
  apply List.ext_getElem
  · simp [intCells, cellsL]
  · intro i h1 h2
    have hi : i < l.length := by simpa using h2
    simp [intCells, cellsL, IL, List.getD, List.getElem?_eq_getElem hi]
theorem IL_row {w : World} {base : Nat} {v : Value} {l : List Int} (h : w.ownsRow base 3 1 v l.length (intCells l)) : ∃ ao cap, v = .slice ao l.length cap ∧ IRow w ao l.length cap (IL l) ∧ ∀ ad, ao = some ad → base ≤ ad.block := by
  obtain ⟨ao, cap, e, h1, _, h3⟩ := owns_c (by omega) h
  exact ⟨ao, cap, e, h1, h3⟩
/-- THE SORT OF INTS. -/
theorem isort_any (base : Nat) (v : Value) (l : List Int) (w : World) (hl : l.length ≤ 100000) (ho : w.ownsRow base 3 1 v l.length (intCells l)) :
    Calls Tryz.prog 59 #[v] w fun e w' => e = .returned (.tuple #[]) ∧ w'.ownsRow base 3 1 v (l.mergeSort fun x y => decide (x ≤ y)).length (intCells (l.mergeSort fun x y => decide (x ≤ y))) ∧ w.grownBy w' v.ownBlock := by
  obtain ⟨_, h2⟩ := ho
  rcases h2 with ⟨rfl, h0⟩ | ⟨g, cap, cur, rfl, hg, hh, hn, hm, hs, hx⟩
  · have e0 : l = [] := List.eq_nil_of_length_eq_zero h0
    subst e0
    refine (Any.slices_Sort_int_none Tryz.sortI none 0 w).mono ?_
    rintro e w' ⟨rfl, rfl⟩
    refine ⟨rfl, ?_, ⟨rfl, rfl, rfl, Nat.le_refl _, fun _ _ _ => rfl⟩⟩
    have : ([] : List Int).mergeSort (fun x y => decide (x ≤ y)) = [] := by simp
    rw [this]
    exact ⟨by simp [intCells, cellsL], Or.inl ⟨rfl, rfl⟩⟩
  · have hH : Go.Sort.Holds (Value.int .i64) w g 0 l.toArray := holds_of_blockI hh (by rw [← intCells_map, ← hx, Nat.mul_one])
    have hc := Any.slices_Sort_int Tryz.sortI g 0 cap l w hH (Array.getElem?_eq_some_iff.1 hh).1 (by omega)
    change Calls Tryz.prog 59 _ _ _ at hc
    refine hc.mono ?_
    rintro e w' ⟨rfl, n, os, rfl⟩
    have hlen : (l.mergeSort fun x y => decide (x ≤ y)).length = l.length := List.length_mergeSort _
    refine ⟨rfl, ?_, grownBy_sortedI _⟩
    rw [intCells_map, hlen]
    exact ownsRow_sortedI hlen hg hh hn hm hs
end Go.Proofs.YtcbpafpaimpfnaaGreatDoor

namespace Go.Proofs.YtcbpafpaimpfnaaGreatDoor
open Go.RowKit
open Vc (V Of)
open Pl (Br Net Pc Lk En St)

/-- The ports of a bridge, as the links stand. -/
def ptsRaw (ls : Nat → Lk) (i : Nat) : Nat → List Int
  | 0 => []
  | k + 1 => ptsRaw ls i k ++ ((if (ls k).a = (i : Int) then [(ls k).pa] else []) ++ if (ls k).b = (i : Int) then [(ls k).pb] else [])
theorem ptsRaw_ends (ls : Nat → Lk) (lv : Nat → Bool) (i : Nat) : ∀ k, ptsRaw ls i k = (Pl.endsTo ls lv i k).map (·.port)
  | 0 => rfl
  | k + 1 => by
    simp only [ptsRaw, Pl.endsTo, List.map_append]
    rw [ptsRaw_ends ls lv i k]
    congr 1
    unfold Pl.endsAt
    rw [List.map_append]
    congr 1
    · split <;> rfl
    · split <;> rfl
theorem ptsRaw_few (ls : Nat → Lk) (i : Nat) : ∀ k, (ptsRaw ls i k).length ≤ 2 * k
  | 0 => by simp [ptsRaw]
  | k + 1 => by
    have := ptsRaw_few ls i k
    simp only [ptsRaw, List.length_append]
    split <;> split <;> simp <;> omega
/-- .. rising. -/
theorem ports_sorted {K L : Nat} {ls : Nat → Lk} (R : Pl.RightL K L ls) (lv : Nat → Bool) (i : Nat) : (ptsRaw ls i L).mergeSort (fun x y => decide (x ≤ y)) = (Pl.ends ls lv L i).map (·.port) := by
  have p1 : ((ptsRaw ls i L).mergeSort (fun x y => decide (x ≤ y))).Perm (ptsRaw ls i L) := List.mergeSort_perm _ _
  have p2 := (Pl.ends_perm ls lv L i).map (fun e : En => e.port)
  rw [← ptsRaw_ends ls lv i L] at p2
  refine (p1.trans p2.symm).eq_of_pairwise (le := fun a b : Int => a ≤ b) (fun a b _ _ h1 h2 => by omega) ?_ ?_
  · have := List.pairwise_mergeSort (le := fun x y : Int => decide (x ≤ y)) (fun a b c h1 h2 => by simp at *; omega) (fun a b => by simp; omega) (ptsRaw ls i L)
    exact this.imp (fun {a b} h => by simpa using h)
  · exact (List.pairwise_map.2 (Pl.ends_sorted R lv i)).imp (fun {a b} h => by omega)
set_option maxRecDepth 100000 in
set_option maxHeartbeats 2000000 in
theorem pports_own (lao : Option Addr) (K L lcap : Nat) (ls : Nat → Lk) (lv : Nat → Bool) (i : Nat) (w : World) (hL : L ≤ 40) (hlk : LRow w lao L lcap ls) (R : Pl.RightL K L ls) :
    Calls Tryz.prog 31 #[.slice lao L lcap, .int .i64 i] w fun e w' => ∃ ao cap, e = .returned (.slice ao ((Pl.ends ls lv L i).map (·.port)).length cap) ∧ IRow w' ao ((Pl.ends ls lv L i).map (·.port)).length cap (IL ((Pl.ends ls lv L i).map (·.port))) ∧ Below w.heap.size w w' ∧ (∀ ad, ao = some ad → w.heap.size ≤ ad.block) ∧ w'.ownsRow w.heap.size 3 1 (.slice ao ((Pl.ends ls lv L i).map (·.port)).length cap) ((Pl.ends ls lv L i).map (·.port)).length (intCells ((Pl.ends ls lv L i).map (·.port))) := by
  rw [← ports_sorted R lv i]
  have HRW : Hid (∀ W, Below w.heap.size w W → LRow W lao L lcap ls) := fun W hW => CRow.below hlk hW
  have hcap := hlk.1
  have HNE : Hid (∀ k, k < L → ¬ ((ls k).a = (i : Int) ∧ (ls k).b = (i : Int))) := fun k hk h => (R.ok k hk).2.2.1 (h.1.trans h.2.symm)
  clear hlk R
  have H0 : Hid (w.ownsRow w.heap.size 3 1 (.slice none (ptsRaw ls i 0).length 0) (ptsRaw ls i 0).length (intCells (ptsRaw ls i 0)) ∧ Below w.heap.size w w) := ⟨ownsC_nil _ _ _ _ _, Below.refl _ _⟩
  go_enter Tryz.func31, Tryz.ntmps31
  go_wp2_with fail
  go_loopw [5, 10] (fun s5 q wr => ∃ (k : Nat) (ao : Option Addr) (cap : Nat), k ≤ L ∧ q = .int .i64 k ∧ s5 = .slice ao (ptsRaw ls i k).length cap ∧ Hid (wr.ownsRow w.heap.size 3 1 (.slice ao (ptsRaw ls i k).length cap) (ptsRaw ls i k).length (intCells (ptsRaw ls i k)) ∧ Below w.heap.size w wr)) (fun _ q _ => L - (intOf q).toNat)
  case atStart => exact ⟨0, none, 0, by omega, rfl, rfl, H0⟩
  case round =>
    obtain ⟨k, ao, cap, hk, rfl, rfl, hX⟩ := hrel
    clear H0
    by_cases hlt : k < L
    · obtain ⟨hO, hB⟩ := hX.out
      have f1 := HRW.out wr hB
      obtain ⟨lb, loff, rfl, _⟩ := CRow.some f1 (by omega)
      obtain ⟨c0, c1, c2, c3, c4, c5⟩ := LRow.cells f1 hlt
      have hfew := ptsRaw_few ls i k
      have hnext : ptsRaw ls i (k + 1) = ptsRaw ls i k ++ ((if (ls k).a = (i : Int) then [(ls k).pa] else []) ++ if (ls k).b = (i : Int) then [(ls k).pb] else []) := rfl
      have hne := HNE.out k hlt
      have i0 : (0 : Int) ≤ (k : Int) := by omega
      have i1 : (k : Int) < (L : Int) := by omega
      generalize ls k = l at *
      obtain ⟨a, pa, b, pb, c, up⟩ := l
      simp only at c0 c1 c2 c3 c4 c5 hnext hne
      obtain ⟨X, HX⟩ : ∃ X, Hid (X = wr.alloc (.cells #[.int .i64 a, .int .i64 pa, .int .i64 b, .int .i64 pb, .int .i64 c, .bool up] 46)) := ⟨_, rfl⟩
      have hXB : Below wr.heap.size wr X := by rw [HX.out]; exact below_alloc1 _ _
      have hXs2 : X.heap.size = wr.heap.size + 1 := by rw [HX.out]; simp
      have hXs : w.heap.size ≤ X.heap.size := Nat.le_trans hB.size hXB.size
      have HOX : Hid (X.ownsRow w.heap.size 3 1 (.slice ao (ptsRaw ls i k).length cap) (ptsRaw ls i k).length (intCells (ptsRaw ls i k))) := ownsC_below hO hXB
      have HBX : Hid (Below w.heap.size w X) := hB.trans (hXB.mono hB.size)
      have hXe : X.heap[wr.heap.size]? = some (.cells #[.int .i64 a, .int .i64 pa, .int .i64 b, .int .i64 pb, .int .i64 c, .bool up] 46 (0, 0)) := by rw [HX.out]; exact heap_alloc_last _ _
      obtain ⟨q0, q1, q2, q3, _, _⟩ := lk_cells hXe
      by_cases ha : a = (i : Int)
      · have hb : ¬ b = (i : Int) := fun h => hne ⟨ha, h⟩
        rw [if_pos ha, if_neg hb, List.append_nil] at hnext
        obtain ⟨a1, c1', w2, r, ho2, hk2, _, hb2, _⟩ := int_more2 HOX.out hXs (by omega) pa (Below.refl _ _) rfl
        have hw2 : w2.heap[wr.heap.size]? = some (.cells #[.int .i64 a, .int .i64 pa, .int .i64 b, .int .i64 pb, .int .i64 c, .bool up] 46 (0, 0)) := (hk2 _ (by rw [hXs2]; omega) (fun p => by have := (ownsC_block hO _ p).2; omega)).trans hXe
        obtain ⟨_, _, p2, _, _, _⟩ := lk_cells hw2
        have HN : Hid (w2.ownsRow w.heap.size 3 1 (.slice a1 (ptsRaw ls i (k + 1)).length c1') (ptsRaw ls i (k + 1)).length (intCells (ptsRaw ls i (k + 1))) ∧ Below w.heap.size w w2) := by
          rw [hnext]
          exact ⟨ho2, HBX.out.trans hb2⟩
        have HR2 : Hid _ := r
        have HLE : Hid ((ptsRaw ls i (k + 1)).length = (ptsRaw ls i k ++ [pa]).length) := by show _ = _; rw [hnext]
        rw [hXs2] at HR2
        have e2 : (b == (i : Int)) = false := by simp [hb]
        clear hne
        subst ha
        clear r ho2 hk2 hb2 hw2 hO hB hX f1 hnext HRW HNE HOX HBX hXe hXB hXs q0 q1 q2 q3 hXs2
        go_wp2_with (at_builtin; (try rw [← HX.out]); refine wpList_append_run rfl (.tmp 18) (.tmp 21) 35 rfl _ _ _ rfl rfl HR2.out ?_)
        exact ⟨⟨k + 1, a1, c1', by omega, by go_num, by rw [HLE.out, List.length_append]; rfl, HN⟩, by simp [intOf]; omega⟩
      · rw [if_neg ha, List.nil_append] at hnext
        have e1 : (a == (i : Int)) = false := by simp [ha]
        by_cases hb : b = (i : Int)
        · rw [if_pos hb] at hnext
          obtain ⟨a1, c1', w2, r, ho2, hk2, _, hb2, _⟩ := int_more2 HOX.out hXs (by omega) pb (Below.refl _ _) rfl
          have HN : Hid (w2.ownsRow w.heap.size 3 1 (.slice a1 (ptsRaw ls i (k + 1)).length c1') (ptsRaw ls i (k + 1)).length (intCells (ptsRaw ls i (k + 1))) ∧ Below w.heap.size w w2) := by
            rw [hnext]
            exact ⟨ho2, HBX.out.trans hb2⟩
          have HR2 : Hid _ := r
          have HLE : Hid ((ptsRaw ls i (k + 1)).length = (ptsRaw ls i k ++ [pb]).length) := by show _ = _; rw [hnext]
          rw [hXs2] at HR2
          clear hne
          subst hb
          clear r ho2 hk2 hb2 hO hB hX f1 hnext HRW HNE HOX HBX hXe hXB hXs q0 q1 q2 q3 hXs2
          go_wp2_with (at_builtin; (try rw [← HX.out]); refine wpList_append_run rfl (.tmp 27) (.tmp 30) 35 rfl _ _ _ rfl rfl HR2.out ?_)
          exact ⟨⟨k + 1, a1, c1', by omega, by go_num, by rw [HLE.out, List.length_append]; rfl, HN⟩, by simp [intOf]; omega⟩
        · rw [if_neg hb, List.append_nil] at hnext
          have e2 : (b == (i : Int)) = false := by simp [hb]
          have HN : Hid (X.ownsRow w.heap.size 3 1 (.slice ao (ptsRaw ls i (k + 1)).length cap) (ptsRaw ls i (k + 1)).length (intCells (ptsRaw ls i (k + 1))) ∧ Below w.heap.size w X) := by
            rw [hnext]
            exact ⟨HOX.out, HBX.out⟩
          have HLE : Hid ((ptsRaw ls i (k + 1)).length = (ptsRaw ls i k).length) := by show _ = _; rw [hnext]
          rw [HX.out] at HN
          clear hO hB hX f1 hnext hne HRW HNE HOX HBX hXe hXB hXs q0 q1 q2 q3 hXs2
          go_wp2_with fail
          exact ⟨⟨k + 1, ao, cap, by omega, by go_num, by rw [HLE.out], HN⟩, by simp [intOf]; omega⟩
    · obtain rfl : k = L := by omega
      obtain ⟨hO, hB⟩ := hX.out
      have hfew := ptsRaw_few ls i k
      have HSO : Hid (Calls Tryz.prog 59 #[.slice ao (ptsRaw ls i k).length cap] wr fun e w' => e = .returned (.tuple #[]) ∧ Hid (w'.ownsRow w.heap.size 3 1 (.slice ao (ptsRaw ls i k).length cap) ((ptsRaw ls i k).mergeSort fun x y => decide (x ≤ y)).length (intCells ((ptsRaw ls i k).mergeSort fun x y => decide (x ≤ y))) ∧ Below w.heap.size w w')) := by
        refine (isort_any w.heap.size _ (ptsRaw ls i k) wr (by omega) hO).mono ?_
        rintro e w' ⟨rfl, z1, z2⟩
        exact ⟨rfl, z1, hB.grown z2 hB.size (fun q hq => (ownsC_block hO q hq).1)⟩
      clear hX hO hB HRW HNE
      go_wp2_with fail
      refine HSO.out.mono ?_
      rintro e w2 ⟨rfl, HN⟩
      clear HSO
      obtain ⟨ao', cap', ev, z1, z3⟩ := IL_row HN.out.1
      injection ev with ev1 ev2 ev3
      subst ev1
      subst ev3
      have HZ1 : Hid (IRow w2 ao ((ptsRaw ls i k).mergeSort fun x y => decide (x ≤ y)).length cap (IL ((ptsRaw ls i k).mergeSort fun x y => decide (x ≤ y)))) := z1
      have HZ3 : Hid (∀ ad, ao = some ad → w.heap.size ≤ ad.block) := z3
      have HOW : Hid (w2.ownsRow w.heap.size 3 1 (.slice ao ((ptsRaw ls i k).mergeSort fun x y => decide (x ≤ y)).length cap) ((ptsRaw ls i k).mergeSort fun x y => decide (x ≤ y)).length (intCells ((ptsRaw ls i k).mergeSort fun x y => decide (x ≤ y)))) := by
        have := HN.out.1
        rw [ev2] at this
        exact this
      have HEV : Hid ((ptsRaw ls i k).length = ((ptsRaw ls i k).mergeSort fun x y => decide (x ≤ y)).length) := ev2
      clear z1 z3 ev2
      go_wp2_with fail
      go_ret
      exact ⟨ao, cap, congrArg (fun n => Ending.returned (Value.slice ao n cap)) HEV.out, HZ1.out, HN.out.2, HZ3.out, HOW.out⟩
theorem pports_any (lao : Option Addr) (K L lcap : Nat) (ls : Nat → Lk) (lv : Nat → Bool) (i : Nat) (w : World) (hL : L ≤ 40) (hlk : LRow w lao L lcap ls) (R : Pl.RightL K L ls) :
    Calls Tryz.prog 31 #[.slice lao L lcap, .int .i64 i] w fun e w' => ∃ ao cap, e = .returned (.slice ao ((Pl.ends ls lv L i).map (·.port)).length cap) ∧ IRow w' ao ((Pl.ends ls lv L i).map (·.port)).length cap (IL ((Pl.ends ls lv L i).map (·.port))) ∧ Below w.heap.size w w' ∧ ∀ ad, ao = some ad → w.heap.size ≤ ad.block := by
  exact (pports_own lao K L lcap ls lv i w hL hlk R).mono (fun e w' ⟨ao, cap, h1, h2, h3, h4, _⟩ => ⟨ao, cap, h1, h2, h3, h4⟩)
end Go.Proofs.YtcbpafpaimpfnaaGreatDoor

namespace Go.Proofs.YtcbpafpaimpfnaaGreatDoor
open Go.RowKit
open Vc (V Of)

set_option maxHeartbeats 1000000 in
theorem vrole_any (s : V) (root port : Int) (ao : Option Addr) (n cap : Nat) (os : Nat → Of) (w : World) (hn : n ≤ 9223372036854775807) (hr : ORow w ao n cap os) :
    Calls Tryz.prog 60 #[.agg #[.int .u64 s.root, .int .i64 s.cost, .int .u64 s.bridge, .int .i64 s.port], .int .i64 root, .int .i64 port, .slice ao n cap] w fun e w' => e = .returned (.int .i64 (Vc.role s root port os n)) ∧ Below w.heap.size w w' := by
  have HR : Hid (ORow w ao n cap os) := hr
  clear hr
  unfold Vc.role
  by_cases h0 : port = root
  · rw [if_pos h0]
    subst h0
    go_enter Tryz.func60, Tryz.ntmps60
    go_wp2_with fail
    go_ret
    exact ⟨rfl, below_alloc1 _ _⟩
  · rw [if_neg h0]
    obtain ⟨R, hR⟩ : ∃ R : Int, (if Vc.someTo (fun i => decide (Vc.hears s port (os i))) n = true then (3 : Int) else 2) = R := ⟨_, rfl⟩
    rw [hR]
    have HR3 : Hid (Vc.someTo (fun i => decide (Vc.hears s port (os i))) n = true → R = 3) := fun h => by rw [← hR, if_pos h]
    have HR2 : Hid (Vc.someTo (fun i => decide (Vc.hears s port (os i))) n = false → R = 2) := fun h => by rw [← hR, h]; rfl
    clear hR
    have d0 : (port == root) = false := by simp [h0]
    have HBT : Hid (∀ (a b : V) (W : World), Calls Tryz.prog 76 #[.agg #[.int .u64 a.root, .int .i64 a.cost, .int .u64 a.bridge, .int .i64 a.port], .agg #[.int .u64 b.root, .int .i64 b.cost, .int .u64 b.bridge, .int .i64 b.port]] W fun e w' => e = .returned (.bool (decide (Vc.lt a b))) ∧ Below W.heap.size W w') := fun a b W => vbetter_any a b W
    have HH : Hid (∀ o, decide (Vc.hears s port o) = decide (o.port = port ∧ (0 ≤ o.age ∧ o.age ≤ 20) ∧ Vc.lt o.vec ⟨s.root, s.cost, s.bridge, port⟩)) := fun o => rfl
    go_enter Tryz.func60, Tryz.ntmps60
    go_wp2_with fail
    go_loopw [18] (fun i wr => ∃ k : Nat, k ≤ n ∧ i = .int .i64 k ∧ Hid (Vc.someTo (fun i => decide (Vc.hears s port (os i))) k = false) ∧ Hid (wr.heap[w.heap.size]? = some (.cells #[.int .u64 s.root, .int .i64 s.cost, .int .u64 s.bridge, .int .i64 port] 48 (0, 0)) ∧ Below w.heap.size w wr)) (fun i _ => n - (intOf i).toNat)
    case atStart => exact ⟨0, by omega, rfl, rfl, heap_alloc_last w _, below_alloc1 _ _⟩
    case round =>
      obtain ⟨k, hk, rfl, hS, hX⟩ := hrel
      by_cases hlt : k < n
      · obtain ⟨b, off, rfl, hb⟩ := CRow.some HR.out (by omega)
        have hcap := HR.out.1
        obtain ⟨c0, c1, c2, c3, c4, c5, c6⟩ := ORow.cells (CRow.other HR.out (w' := wr) (fun q _ _ hq => hX.out.2.block q hq) hX.out.2.size) hlt
        obtain ⟨v0, v1, v2, v3⟩ := vc_cells hX.out.1
        have HNO : Hid (decide (Vc.hears s port (os k)) = false → Vc.someTo (fun i => decide (Vc.hears s port (os i))) (k + 1) = false) := fun h => by
          show (Vc.someTo _ k || decide (Vc.hears s port (os k))) = false
          rw [h, hS.out]; rfl
        have HYES : Hid (decide (Vc.hears s port (os k)) = true → Vc.someTo (fun i => decide (Vc.hears s port (os i))) n = true) := fun h => someTo_stay _ k h n hlt
        rw [HH.out] at HNO HYES
        have HX2 : Hid (∀ o, (wr.alloc o).heap[w.heap.size]? = some (.cells #[.int .u64 s.root, .int .i64 s.cost, .int .u64 s.bridge, .int .i64 port] 48 (0, 0)) ∧ Below w.heap.size w (wr.alloc o)) := fun o => ⟨keep hX.out.1 (below_alloc1 _ _), hX.out.2.alloc hX.out.2.size _⟩
        have u0 : ∀ o, (wr.alloc o).cell? ⟨w.heap.size, 0, none⟩ = some (.int .u64 s.root) := fun o => (vc_cells (HX2.out o).1).1
        have u1 : ∀ o, (wr.alloc o).cell? ⟨w.heap.size, 1, none⟩ = some (.int .i64 s.cost) := fun o => (vc_cells (HX2.out o).1).2.1
        have u2 : ∀ o, (wr.alloc o).cell? ⟨w.heap.size, 2, none⟩ = some (.int .u64 s.bridge) := fun o => (vc_cells (HX2.out o).1).2.2.1
        have u3 : ∀ o, (wr.alloc o).cell? ⟨w.heap.size, 3, none⟩ = some (.int .i64 port) := fun o => (vc_cells (HX2.out o).1).2.2.2
        clear hX hS hb HH HR
        generalize os k = o at *
        obtain ⟨op, oc, oa, ⟨vr, vc, vb, vp⟩⟩ := o
        simp only at c0 c1 c2 c3 c4 c5 c6 HNO HYES
        have HWI : Hid (∀ W, Calls Tryz.prog 28 #[.int .i64 oa, .int .i64 0, .int .i64 20] W fun e w' => e = .returned (.bool (decide (0 ≤ oa ∧ oa ≤ 20))) ∧ w' = W) := fun W => vwithin_any oa 0 20 W
        by_cases p1 : op = port
        · have e1 : (op == port) = true := by simp [p1]
          by_cases p2 : 0 ≤ oa ∧ oa ≤ 20
          · rw [decide_eq_true p2] at HWI
            have HB1 : Hid (∀ W, Calls Tryz.prog 76 #[.agg #[.int .u64 vr, .int .i64 vc, .int .u64 vb, .int .i64 vp], .agg #[.int .u64 s.root, .int .i64 s.cost, .int .u64 s.bridge, .int .i64 port]] W fun e w' => e = .returned (.bool (decide (Vc.lt ⟨vr, vc, vb, vp⟩ ⟨s.root, s.cost, s.bridge, port⟩))) ∧ Below W.heap.size W w') := fun W => HBT.out ⟨vr, vc, vb, vp⟩ ⟨s.root, s.cost, s.bridge, port⟩ W
            by_cases p4 : Vc.lt ⟨vr, vc, vb, vp⟩ ⟨s.root, s.cost, s.bridge, port⟩
            · have HF : Hid (Vc.someTo (fun i => decide (Vc.hears s port (os i))) n = true) := HYES.out (decide_eq_true ⟨p1, p2, p4⟩)
              rw [decide_eq_true p4] at HB1
              clear p4 HNO HYES p1 p2
              go_wp2_with fail
              refine (HWI.out _).mono ?_
              rintro e w2 ⟨rfl, rfl⟩
              go_wp2_with fail
              refine (HB1.out _).mono ?_
              rintro e w2 ⟨rfl, hb2⟩
              have HB2 : Hid (Below w.heap.size w w2) := (HX2.out _).2.trans (hb2.mono (HX2.out _).2.size)
              clear hb2
              go_wp2_with fail
              go_ret
              exact ⟨by rw [HR3.out HF.out]; rfl, HB2.out⟩
            · have HF : Hid (Vc.someTo (fun i => decide (Vc.hears s port (os i))) (k + 1) = false) := HNO.out (decide_eq_false (fun q => p4 q.2.2))
              rw [decide_eq_false p4] at HB1
              clear p4 HNO HYES p1 p2
              go_wp2_with fail
              refine (HWI.out _).mono ?_
              rintro e w2 ⟨rfl, rfl⟩
              go_wp2_with fail
              refine (HB1.out _).mono ?_
              rintro e w2 ⟨rfl, hb2⟩
              have HB2 : Hid (w2.heap[w.heap.size]? = some (.cells #[.int .u64 s.root, .int .i64 s.cost, .int .u64 s.bridge, .int .i64 port] 48 (0, 0)) ∧ Below w.heap.size w w2) := ⟨keep (HX2.out _).1 hb2, (HX2.out _).2.trans (hb2.mono (HX2.out _).2.size)⟩
              clear hb2
              go_wp2_with fail
              exact ⟨⟨k + 1, by omega, by go_num, HF, HB2⟩, by simp [intOf]; omega⟩
          · have HF : Hid (Vc.someTo (fun i => decide (Vc.hears s port (os i))) (k + 1) = false) := HNO.out (decide_eq_false (fun q => p2 q.2.1))
            rw [decide_eq_false p2] at HWI
            clear HNO HYES p1 p2
            go_wp2_with fail
            refine (HWI.out _).mono ?_
            rintro e w2 ⟨rfl, rfl⟩
            go_wp2_with fail
            exact ⟨⟨k + 1, by omega, by go_num, HF, HX2.out _⟩, by simp [intOf]; omega⟩
        · have e1 : (op == port) = false := by simp [p1]
          have HF : Hid (Vc.someTo (fun i => decide (Vc.hears s port (os i))) (k + 1) = false) := HNO.out (decide_eq_false (fun q => p1 q.1))
          clear HNO HYES p1
          go_wp2_with fail
          exact ⟨⟨k + 1, by omega, by go_num, HF, HX2.out _⟩, by simp [intOf]; omega⟩
      · obtain rfl : k = n := by omega
        go_wp2_with fail
        go_ret
        exact ⟨by rw [HR2.out hS.out]; rfl, hX.out.2⟩
end Go.Proofs.YtcbpafpaimpfnaaGreatDoor

namespace Go.Proofs.YtcbpafpaimpfnaaGreatDoor
open Go.RowKit
open Vc (V Of)
open Pl (Br Net Pc Lk En St)

def enA (e : En) : Array Value := #[.int .i64 e.port, .int .i64 e.cost, .int .i64 e.other, .int .i64 e.oport, .bool e.live]
/-- Roles of the first k ends, noughts behind. -/
def rlF (m : Tk.Md) (os : List Of) (es : List En) (k j : Nat) : Int := if j < k then Tk.roleM m os (EL es j) else 0
def RlAt (W : World) (g n : Nat) (f : Nat → Int) : Prop := W.heap[g]? = some (.cells (rowC n 1 (fun j _ => .int .i64 (f j))) 3 (0, 0))
theorem RlAt.set {W : World} {g n : Nat} {f : Nat → Int} (h : RlAt W g n f) {i : Nat} (hi : i < n) (z : Int) : RlAt (W.setCell ⟨g, i, none⟩ (.int .i64 z)) g n (fun j => if j = i then z else f j) := by
  have h0 := rowC_set h hi (show 0 < 1 by omega) (.int .i64 z)
  rw [show i * 1 + 0 = i by omega] at h0
  unfold RlAt
  rw [h0, rowC_congr2 (d := fun j _ => .int .i64 (if j = i then z else f j)) (fun j _ m hm => ?_)]
  unfold updC
  by_cases q : j = i
  · subst q; simp; omega
  · simp [q]
theorem RlAt.congr {W : World} {g n : Nat} {f h : Nat → Int} (hr : RlAt W g n f) (e : ∀ i, i < n → f i = h i) : RlAt W g n h := by
  unfold RlAt at hr ⊢
  rw [hr, rowC_congr (d := fun j _ => .int .i64 (h j)) (fun i hi => by rw [e i hi])]
theorem RlAt.cell {W : World} {g n : Nat} {f : Nat → Int} (h : RlAt W g n f) {i : Nat} (hi : i < n) : W.cell? ⟨g, i, none⟩ = some (.int .i64 (f i)) ∧ W.frozen? ⟨g, i, none⟩ = false := by
  have e : (⟨g, i, none⟩ : Addr) = ⟨g, i * 1 + 0, none⟩ := by simp
  refine ⟨?_, frozen_of_row _ _ _ _ _ h⟩
  rw [e]
  exact rowC_cell h hi (show 0 < 1 by omega)
set_option maxRecDepth 100000 in
set_option maxHeartbeats 2000000 in
theorem proles_any (m : Tk.Md) (es : List En) (eao : Option Addr) (ecap : Nat) (os : List Of) (oao : Option Addr) (ocap : Nat) (w : World) (hlen : es.length ≤ 1000) (hol : os.length ≤ 1000) (hr : ERow w eao es.length ecap (EL es)) (ho : ORow w oao os.length ocap (Pl.lf os)) :
    Calls Tryz.prog 32 #[.slice eao es.length ecap, .agg #[.int .u64 m.v.root, .int .i64 m.v.cost, .int .u64 m.v.bridge, .int .i64 m.v.port], .int .i64 m.rp, .slice oao os.length ocap] w fun e w' => ∃ G, e = .returned (.slice (some ⟨G, 0, none⟩) es.length es.length) ∧ RlAt w' G es.length (fun j => Tk.roleM m os (EL es j)) ∧ Below w.heap.size w w' ∧ w.heap.size ≤ G := by
  obtain ⟨X, HX⟩ : ∃ X, Hid (X = w.alloc (.cells #[.int .u64 m.v.root, .int .i64 m.v.cost, .int .u64 m.v.bridge, .int .i64 m.v.port] 48)) := ⟨_, rfl⟩
  have hXB : Below w.heap.size w X := by rw [HX.out]; exact below_alloc1 _ _
  have hXv : X.heap[w.heap.size]? = some (.cells #[.int .u64 m.v.root, .int .i64 m.v.cost, .int .u64 m.v.bridge, .int .i64 m.v.port] 48 (0, 0)) := by rw [HX.out]; exact heap_alloc_last _ _
  have hXs : X.heap.size = w.heap.size + 1 := by rw [HX.out]; simp
  have hcap := hr.1
  have hmk : ∀ W : World, (Instr.makeSlice 35 (.int .i64 (es.length : Int)) (.int .i64 (es.length : Int))).run Tryz.prog W = .ok (.slice (some ⟨W.heap.size, 0, none⟩) es.length es.length) (W.alloc (.cells (rowC es.length 1 (fun j _ => .int .i64 (rlF m os es 0 j))) 3)) := fun W => make_rowD W 35 3 _ 1 8 es.length Tryz.underlying35 infoI (by omega) rfl (by omega) (by omega) _ (fun _ j hj => by rw [show j = 0 by omega]; rfl)
  have HRW : Hid (∀ W, Below X.heap.size X W → ERow W eao es.length ecap (EL es) ∧ ORow W oao os.length ocap (Pl.lf os) ∧ W.heap[w.heap.size]? = some (.cells #[.int .u64 m.v.root, .int .i64 m.v.cost, .int .u64 m.v.bridge, .int .i64 m.v.port] 48 (0, 0)) ∧ Below w.heap.size w W) := fun W hW => by
    have h1 := hXB.trans (hW.mono hXB.size)
    exact ⟨CRow.below hr h1, CRow.below ho h1, keep hXv hW, h1⟩
  obtain ⟨G, HG⟩ : ∃ G, Hid (G = X.heap.size) := ⟨_, rfl⟩
  have H0 : Hid (RlAt (X.alloc (.cells (rowC es.length 1 (fun j _ => .int .i64 (rlF m os es 0 j))) 3)) G es.length (rlF m os es 0) ∧ Below X.heap.size X (X.alloc (.cells (rowC es.length 1 (fun j _ => .int .i64 (rlF m os es 0 j))) 3))) := by
    rw [HG.out]
    exact ⟨heap_alloc_last _ _, below_alloc1 _ _⟩
  have HXS : Hid (w.heap.size + 1 = G) := by rw [HG.out]; exact hXs.symm
  have HGX : Hid (X.heap.size ≤ G) := by rw [HG.out]; exact Nat.le_refl _
  clear hr ho hXv hXB hXs
  go_enter Tryz.func32, Tryz.ntmps32
  go_wp2_with fail
  rw [← HX.out]
  rw [HXS.out]
  obtain ⟨S, HS⟩ : ∃ S, Hid (S = w.heap.size) := ⟨_, rfl⟩
  rw [← HS.out]
  go_loopw [17] (fun q wr => ∃ k : Nat, k ≤ es.length ∧ q = .int .i64 k ∧ Hid (RlAt wr G es.length (rlF m os es k) ∧ Below X.heap.size X wr)) (fun q _ => es.length - (intOf q).toNat)
  case atStart => exact ⟨0, by omega, rfl, H0⟩
  case round =>
    obtain ⟨k, hk, rfl, hX⟩ := hrel
    clear H0
    by_cases hlt : k < es.length
    · obtain ⟨hR, hB⟩ := hX.out
      obtain ⟨f1, f2, f3, _⟩ := HRW.out wr hB
      obtain ⟨eb, eoff, rfl, _⟩ := CRow.some f1 (by omega)
      obtain ⟨c0, c1, c2, c3, c4⟩ := ERow.cells f1 hlt
      obtain ⟨Y, HY⟩ : ∃ Y, Hid (Y = wr.alloc (.cells (enA (EL es k)) 111)) := ⟨_, rfl⟩
      have hYB : Below wr.heap.size wr Y := by rw [HY.out]; exact below_alloc1 _ _
      have hYe : Y.heap[wr.heap.size]? = some (.cells (enA (EL es k)) 111 (0, 0)) := by rw [HY.out]; exact heap_alloc_last _ _
      have hRY : RlAt Y G es.length (rlF m os es k) := keep hR hYB
      have hBY : Below X.heap.size X Y := hB.trans (hYB.mono hB.size)
      have hGl : G < wr.heap.size := (Array.getElem?_eq_some_iff.1 hR).1
      have hSG : S ≠ G := by rw [HS.out, ← HXS.out]; omega
      obtain ⟨g0, g1⟩ := hRY.cell hlt
      have hk0 : rlF m os es k k = 0 := by unfold rlF; rw [if_neg (Nat.lt_irrefl _)]
      rw [hk0] at g0
      -- behind the nought
      have hR0 : RlAt (Y.setCell ⟨G, k, none⟩ (.int .i64 0)) G es.length (rlF m os es k) := (hRY.set hlt 0).congr (fun j _ => by
        by_cases q : j = k
        · rw [if_pos q, q, hk0]
        · rw [if_neg q])
      have hBW : Below Y.heap.size Y (Y.setCell ⟨G, k, none⟩ (.int .i64 0)) ∨ True := Or.inr trivial
      have hB0 : Below X.heap.size X (Y.setCell ⟨G, k, none⟩ (.int .i64 0)) := hBY.setCell HGX.out _
      obtain ⟨Z, HZ⟩ : ∃ Z, Hid (Z = Y.setCell ⟨G, k, none⟩ (.int .i64 0)) := ⟨_, rfl⟩
      have hZe : Z.heap[wr.heap.size]? = some (.cells (enA (EL es k)) 111 (0, 0)) := by
        rw [HZ.out]
        exact (heap_setCell_other _ _ _ _ (by show wr.heap.size ≠ G; omega)).trans hYe
      rw [← HZ.out] at hR0 hB0
      have HNX : Hid (∀ (W : World) (z : Int), Below Z.heap.size Z W → z = Tk.roleM m os (EL es k) → RlAt (W.setCell ⟨G, k, none⟩ (.int .i64 z)) G es.length (rlF m os es (k + 1)) ∧ Below X.heap.size X (W.setCell ⟨G, k, none⟩ (.int .i64 z))) := fun W z hW hz => by
        have h1 : RlAt W G es.length (rlF m os es k) := keep hR0 hW
        refine ⟨(h1.set hlt z).congr (fun j _ => ?_), (hB0.trans (hW.mono hB0.size)).setCell HGX.out _⟩
        unfold rlF
        by_cases q : j = k
        · rw [if_pos q, if_pos (by omega), q, hz]
        · rw [if_neg q]
          by_cases q2 : j < k
          · rw [if_pos q2, if_pos (by omega)]
          · rw [if_neg q2, if_neg (by omega)]
      have HNS : Hid (Tk.roleM m os (EL es k) = 0 → RlAt Z G es.length (rlF m os es (k + 1)) ∧ Below X.heap.size X Z) := fun hz => by
        refine ⟨hR0.congr (fun j _ => ?_), hB0⟩
        unfold rlF
        by_cases q : j < k
        · rw [if_pos q, if_pos (by omega)]
        · rw [if_neg q]
          by_cases q2 : j = k
          · rw [if_pos (by omega), q2, hz]
          · rw [if_neg (by omega)]
      have i0 : (0 : Int) ≤ (k : Int) := by omega
      have i1 : (k : Int) < (es.length : Int) := by omega
      have hRV : Tk.roleM m os (EL es k) = if (EL es k).live = true then Vc.role m.v m.rp (EL es k).port (Pl.lf os) os.length else 0 := rfl
      have HRO : Hid (∀ W, Below X.heap.size X W → Calls Tryz.prog 60 #[.agg #[.int .u64 m.v.root, .int .i64 m.v.cost, .int .u64 m.v.bridge, .int .i64 m.v.port], .int .i64 m.rp, .int .i64 (EL es k).port, .slice oao os.length ocap] W fun e w' => e = .returned (.int .i64 (Vc.role m.v m.rp (EL es k).port (Pl.lf os) os.length)) ∧ Below W.heap.size W w') := fun W hW => vrole_any m.v m.rp (EL es k).port oao os.length ocap (Pl.lf os) W (by omega) (HRW.out W hW).2.1
      have HZV : Hid (∀ W, Below Z.heap.size Z W → W.heap[S]? = some (.cells #[.int .u64 m.v.root, .int .i64 m.v.cost, .int .u64 m.v.bridge, .int .i64 m.v.port] 48 (0, 0))) := fun W hW => by rw [HS.out]; exact (HRW.out W (hB0.trans (hW.mono hB0.size))).2.2.1
      obtain ⟨v0, v1, v2, v3⟩ := vc_cells (HZV.out Z (Below.refl _ _))
      obtain ⟨y0, y1, y2, y3, y4⟩ := br_cells hZe
      have HBZ : Hid (Below X.heap.size X Z) := hB0
      have HRC : Hid (∀ W, Below Z.heap.size Z W → W.cell? ⟨G, k, none⟩ = some (.int .i64 0) ∧ W.frozen? ⟨G, k, none⟩ = false) := fun W hW => by
        have h1 : RlAt W G es.length (rlF m os es k) := keep hR0 hW
        obtain ⟨z0, z1⟩ := h1.cell hlt
        rw [hk0] at z0
        exact ⟨z0, z1⟩
      clear hX hR hB f1 f2 f3 hYB hYe hRY hBY hGl hR0 hB0 hBW hZe hk0 HRW
      generalize EL es k = e at *
      obtain ⟨port, cost, other, oport, live⟩ := e
      simp only [enA] at *
      rw [HY.out] at g0 g1
      cases live with
      | false =>
        rw [if_neg (by decide)] at hRV
        have HN := HNS.out hRV
        have HN2 : Hid (RlAt Z G es.length (rlF m os es (k + 1)) ∧ Below X.heap.size X Z) := HN
        clear HN HNS HNX HRO HRC HZV
        rw [HZ.out, HY.out] at y4
        go_wp2_with fail
        rw [← HY.out, ← HZ.out]
        exact ⟨⟨k + 1, by omega, by go_num, HN2⟩, by simp [intOf]; omega⟩
      | true =>
        rw [if_pos rfl] at hRV
        have HRO2 : Hid (Calls Tryz.prog 60 #[.agg #[.int .u64 m.v.root, .int .i64 m.v.cost, .int .u64 m.v.bridge, .int .i64 m.v.port], .int .i64 m.rp, .int .i64 port, .slice oao os.length ocap] Z fun e w' => e = .returned (.int .i64 (Vc.role m.v m.rp port (Pl.lf os) os.length)) ∧ Hid (Below Z.heap.size Z w')) := HRO.out Z HBZ.out
        have HRV : Hid (Vc.role m.v m.rp port (Pl.lf os) os.length = Tk.roleM m os ⟨port, cost, other, oport, true⟩) := hRV.symm
        clear hRV HNS HRO
        rw [HZ.out, HY.out] at y0 y4 v0 v1 v2 v3
        go_wp2_with fail
        rw [← HY.out, ← HZ.out]
        refine HRO2.out.mono ?_
        rintro e w2 ⟨rfl, HB2⟩
        obtain ⟨z0, z1⟩ := HRC.out w2 HB2.out
        have HN2 : Hid _ := HNX.out w2 _ HB2.out HRV.out
        clear HRO2 HNX HRC HZV y0 y4 v0 v1 v2 v3
        go_wp2_with fail
        exact ⟨⟨k + 1, by omega, by go_num, HN2⟩, by simp [intOf]; omega⟩
    · obtain rfl : k = es.length := by omega
      obtain ⟨hR, hB⟩ := hX.out
      have HF : Hid (RlAt wr G es.length (fun j => Tk.roleM m os (EL es j)) ∧ Below w.heap.size w wr ∧ w.heap.size ≤ G) := ⟨hR.congr (fun j hj => by unfold rlF; rw [if_pos hj]), (HRW.out wr hB).2.2.2, by rw [← HXS.out]; omega⟩
      clear hX hR hB HRW
      go_wp2_with fail
      go_ret
      exact ⟨G, rfl, HF.out.1, HF.out.2⟩
end Go.Proofs.YtcbpafpaimpfnaaGreatDoor
