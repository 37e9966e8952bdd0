/- What the rows of nets ask: a net that came in. -/
import Derived.Test.YtcbpafpaimpfnaaGreatDoorDW4
import Derived.Test.YtcbpafpaimpfnaaGreatDoorFrG
import Derived.Test.YtcbpafpaimpfnaaGreatDoorGW7a
import Derived.Test.YtcbpafpaimpfnaaGreatDoorMB
import Derived.ProofKit
import Derived.OpenShut
import Derived.ChangeOld
import Derived.SizedLaws
import Derived.Deep.DeepHandedRow
import Derived.Lib.LaidTab
import Derived.Stop.LaidErr
import Derived.Deep.SlicePairs
import Derived.Deep.Slices
namespace Go.Proofs.YtcbpafpaimpfnaaGreatDoor
open Go.ChangeShapes Go.WideShapes Go.ChangeAt Go.RowKit

theorem gTurns : Tryz.prog.globalNamed "hedgerow/md5.turns" = some 1 := by kernel_rfl
theorem gTurnsType : (Tryz.prog.globals[1]?).map (·.type) = some 193 := by kernel_rfl
theorem gAdds : Tryz.prog.globalNamed "hedgerow/md5.addends" = some 0 := by kernel_rfl
theorem gAddsType : (Tryz.prog.globals[0]?).map (·.type) = some 189 := by kernel_rfl
theorem cells52 : Tryz.prog.cellsOf 189 = 64 := by kernel_rfl
theorem cells55 : Tryz.prog.cellsOf 192 = 4 := by kernel_rfl
theorem cells32 : Tryz.prog.cellsOf 150 = 1 := by kernel_rfl
theorem cells3 : Tryz.prog.cellsOf 3 = 1 := by kernel_rfl
theorem bytes5 : Tryz.prog.bytesOf 5 = 1 := by kernel_rfl

theorem tabs_of {W : World} (h : laidMetH Tryz.prog [("hedgerow/md5.turns", Rows.laid_hedgerow_md5_turns), ("hedgerow/md5.addends", Rows.laid_hedgerow_md5_addends)] W) : Tabs W := by
  have h' : laidMet Tryz.prog [("hedgerow/md5.turns", Rows.laid_hedgerow_md5_turns), ("hedgerow/md5.addends", Rows.laid_hedgerow_md5_addends)] W := h
  refine ⟨fun i hi => ?_, fun i hi => ?_⟩
  · have ht : laidMet Tryz.prog [("hedgerow/md5.addends", Lib.tabData .u32 Md.tab)] W := laidMet.tail h'
    have := Lib.tabIs_of_head (rest := []) gAdds gAddsType Tryz.underlying189 Tryz.underlying150 cells32 cells52 ht
    exact this.cell gAdds i hi
  · obtain ⟨ps, ⟨g', t', cs, fuel, p, q, hg', ht', hvar, hd, _, _⟩, _⟩ := h'
    obtain rfl := Option.some.inj (gTurns.symm.trans hg')
    obtain rfl := Option.some.inj (gTurnsType.symm.trans ht')
    obtain ⟨xs, m, rfl, hx, hl, hxl, hall⟩ := DataW.trod_array Tryz.underlying193 hd
    have hx1 : xs.map (·.1) = [Lib.tabData .i64 [7, 12, 17, 22], Lib.tabData .i64 [5, 9, 14, 20], Lib.tabData .i64 [4, 11, 16, 23], Lib.tabData .i64 [6, 10, 15, 21]] := by
      have := congrArg Prod.fst hx
      simp only [Rows.laid_hedgerow_md5_turns] at this
      exact (DataW.agg.inj this).symm
    have row : ∀ r zs, r < 4 → (xs.map (·.1))[r]? = some (Lib.tabData .i64 zs) → (cs.toList.drop (r * 4)).take 4 = zs.map fun z => Value.int .i64 z := by
      intro r zs hr hz
      have h1 := hall r hr
      rw [cells55] at h1
      simp only [List.getElem?_map, Option.map_eq_some_iff] at hz
      obtain ⟨y, hy, hy1⟩ := hz
      rw [hy] at h1
      obtain ⟨y1, y2⟩ := y
      simp only at hy1
      subst hy1
      exact Lib.cells_of_tab Tryz.underlying192 Tryz.underlying3 cells3 cells55 h1
    have cell := World.var?_cell gTurns hvar i
    rw [cell]
    have hget : ∀ r j, j < 4 → cs[r * 4 + j]? = ((cs.toList.drop (r * 4)).take 4)[j]? := by
      intro r j hj
      rw [List.getElem?_take_of_lt hj, List.getElem?_drop, Array.getElem?_toList]
    rcases (show (∃ j, j < 4 ∧ i = 0 * 4 + j) ∨ (∃ j, j < 4 ∧ i = 1 * 4 + j) ∨ (∃ j, j < 4 ∧ i = 2 * 4 + j) ∨ (∃ j, j < 4 ∧ i = 3 * 4 + j) from by
      by_cases h1 : i < 4
      · exact Or.inl ⟨i, h1, by omega⟩
      · by_cases h2 : i < 8
        · exact Or.inr (Or.inl ⟨i - 4, by omega, by omega⟩)
        · by_cases h3 : i < 12
          · exact Or.inr (Or.inr (Or.inl ⟨i - 8, by omega, by omega⟩))
          · exact Or.inr (Or.inr (Or.inr ⟨i - 12, by omega, by omega⟩))) with ⟨j, hj, rfl⟩ | ⟨j, hj, rfl⟩ | ⟨j, hj, rfl⟩ | ⟨j, hj, rfl⟩
    · rw [hget 0 j hj, row 0 [7, 12, 17, 22] (by omega) (by rw [hx1]; rfl)]
      rcases (show j = 0 ∨ j = 1 ∨ j = 2 ∨ j = 3 by omega) with rfl | rfl | rfl | rfl <;> rfl
    · rw [hget 1 j hj, row 1 [5, 9, 14, 20] (by omega) (by rw [hx1]; rfl)]
      rcases (show j = 0 ∨ j = 1 ∨ j = 2 ∨ j = 3 by omega) with rfl | rfl | rfl | rfl <;> rfl
    · rw [hget 2 j hj, row 2 [4, 11, 16, 23] (by omega) (by rw [hx1]; rfl)]
      rcases (show j = 0 ∨ j = 1 ∨ j = 2 ∨ j = 3 by omega) with rfl | rfl | rfl | rfl <;> rfl
    · rw [hget 3 j hj, row 3 [6, 10, 15, 21] (by omega) (by rw [hx1]; rfl)]
      rcases (show j = 0 ∨ j = 1 ∨ j = 2 ∨ j = 3 by omega) with rfl | rfl | rfl | rfl <;> rfl

set_option maxRecDepth 100000 in
/-- A SLICE OF BYTES THAT CAME IN. -/
theorem bytes_in_d {H : Type} {enc : TypeId × Value → H} {W : World} {base : Nat} {v : Value} {d : DataW H} {p : List MemPlace}
    (hv : Value.okWide Tryz.prog W .any base 93 v) (h : DataW.Trod enc Tryz.prog W 0 (fun _ => true) true 93 v d p) :
    ∃ ao n cap bs, v = .slice ao n cap ∧ ByteRow W ao n cap bs ∧ (∀ i, i < n → 0 ≤ bs i ∧ bs i ≤ 255) ∧ (d = .nil ∧ n = 0 ∨ ∃ el sp, d = .slice el sp ∧ n ≤ el.length) ∧ (ao = none → n = 0 ∧ cap = 0) := by
  obtain ⟨a0, len0, cap0, rfl⟩ := okWide_slice Tryz.underlying93 hv
  obtain ⟨fuel, hf⟩ := h
  rcases open_ints Tryz.underlying93 Tryz.underlying5 cells5 hf with ⟨hcs, hx⟩ | ⟨x, l, c, zs, hcs, _, hl, hm, hz, hx, hcell, hwz⟩
  · simp [Value.cells] at hcs
    obtain ⟨rfl, rfl, rfl⟩ := hcs
    refine ⟨none, 0, 0, fun _ => 0, rfl, ⟨Nat.le_refl _, fun h => absurd h (by omega)⟩, fun i hi => absurd hi (by omega), ?_⟩
    exact ⟨Or.inl ⟨congrArg Prod.fst hx, rfl⟩, fun _ => ⟨rfl, rfl⟩⟩
  · simp [Value.cells] at hcs
    obtain ⟨rfl, rfl, rfl⟩ := hcs
    rw [if_pos rfl] at hz
    refine ⟨some x, len0, cap0, fun i => zs.getD i 0, rfl, ⟨hl, fun hp => ?_⟩, fun i _ => ?_, Or.inr ⟨_, _, congrArg Prod.fst hx, by simp [lits, hz, hl]⟩, fun h => by cases h⟩
    · obtain ⟨b, off, rfl, hc⟩ := ints_at hcell (by omega)
      exact ⟨b, off, rfl, block_lt_of_cell (hc 0 (by omega)), fun i hi => hc i (by omega)⟩
    · have := range_u8 hwz i
      simpa [List.getD] using this

/-- Such a slice's length is within the form's own reach. -/
theorem reach_in {H : Type} {ts : List TypeId} {ds : List (DataW H)} {d : DataW H} {n j : Nat} (hsz : (DataW.weightsEach Tryz.prog ts ds).all (· ≤ reachBytes) = true) (ht : ts[j]? = some 93) (hd : ds[j]? = some d)
    (h : d = .nil ∧ n = 0 ∨ ∃ el sp, d = .slice el sp ∧ n ≤ el.length) : n ≤ 140737488351232 := by
  rcases h with ⟨_, rfl⟩ | ⟨el, sp, rfl, hn⟩
  · omega
  · have := sized_slice hsz ht hd Tryz.underlying93
    rw [bytes5] at this
    simp only [reachBytes] at this
    omega

/-- A WORLD FOR THE WITNESS: w, the two tables (blocks 0 and 1) holding what their initialisers lay. -/
def rowPut (cs : Array Value) : Obj → Obj
  | .cells _ t frozen => .cells cs t frozen
  | o => o
def laidW (w : World) : World :=
  { w with heap := (w.heap.modify 0 (rowPut (Md.tab.map (Value.int .u32)).toArray)).modify 1 (rowPut (Md.trn.map (Value.int .i64)).toArray) }
end Go.Proofs.YtcbpafpaimpfnaaGreatDoor

namespace Go.Proofs.YtcbpafpaimpfnaaGreatDoor
open Go.ChangeShapes Go.WideShapes Go.ChangeAt Go.RowKit

theorem cellsRg : Tryz.prog.cellsOf 38 = 3 := by kernel_rfl
theorem cellsWay : Tryz.prog.cellsOf 108 = 2 := by kernel_rfl
theorem cellsInt : Tryz.prog.cellsOf 3 = 1 := by kernel_rfl
theorem list3 {α : Type} {l : List α} (h : l.length = 3) : ∃ c0 c1 c2, l = [c0, c1, c2] := by
  match l, h with
  | [c0, c1, c2], _ => exact ⟨c0, c1, c2, rfl⟩
/-- A SLICE OF WAYS, by its one cell. -/
theorem ways_cell {H : Type} {enc : TypeId × Value → H} {W : World} {v : Value} {fuel : Nat} {x : DataW H × List MemPlace}
    (hf : DataW.trod enc Tryz.prog W 0 (fun _ => true) true fuel 36 [v] = some x) :
    ∃ ao n cap vs ts, v = .slice ao n cap ∧ WayRow W ao n cap vs ts ∧ n ≤ 9223372036854775807 := by
  rcases Deep.open_slice_pairs Tryz.underlying36 Tryz.underlying108 cellsWay rfl rfl cellsInt cellsInt hf with ⟨hcs, _⟩ | ⟨a, len, cap, m, k, V0, V1, D0, D1, P0, P1, hcs, _, hl, hm, hmm, _, hx⟩
  · simp at hcs
    subst hcs
    exact ⟨none, 0, 0, fun _ => 0, fun _ => 0, rfl, ⟨Nat.le_refl _, fun h => absurd h (by omega)⟩, by omega⟩
  · simp at hcs
    subst hcs
    rw [if_pos rfl] at hmm
    have each : ∀ i, i < len → ∃ q : Int × Int, V0 i = .int .i64 q.1 ∧ V1 i = .int .i64 q.2 := by
      intro i hi
      obtain ⟨_, _, t0, t1⟩ := hx i (by omega)
      obtain ⟨y0, e0, _, _⟩ := DataW.trod_int Tryz.underlying3 t0
      obtain ⟨y1, e1, _, _⟩ := DataW.trod_int Tryz.underlying3 t1
      exact ⟨(y0, y1), one_of e0, one_of e1⟩
    obtain ⟨q, hq⟩ := Deep.choose_lt each
    refine ⟨some a, len, cap, fun i => (q i).1, fun i => (q i).2, rfl, ⟨hl, fun hp => ?_⟩, by unfold maxLen at hm; omega⟩
    obtain ⟨b, off, spot⟩ := a
    have hspot : spot = none := by
      have h0 := (hx 0 (by omega)).1
      simpa [Addr.add] using World.cell?_spot h0
    subst hspot
    have hc : ∀ i, i < len → W.cell? ⟨b, off + i * 2, none⟩ = some (.int .i64 (q i).1) ∧ W.cell? ⟨b, off + i * 2 + 1, none⟩ = some (.int .i64 (q i).2) := by
      intro i hi
      obtain ⟨c0, c1, _, _⟩ := hx i (by omega)
      rw [add_row, (hq i hi).1] at c0
      rw [add_row, (hq i hi).2] at c1
      exact ⟨c0, c1⟩
    exact ⟨b, off, rfl, block_lt_of_cell (hc 0 hp).1, hc⟩
set_option maxRecDepth 100000 in
/-- A REGION THAT CAME IN. -/
theorem region_in {H : Type} {enc : TypeId × Value → H} {W : World} {base : Nat} {v : Value} {D : DataW H} {ps : List MemPlace}
    (hv : Value.okWide Tryz.prog W .any base 38 v) (h : DataW.Trod enc Tryz.prog W 0 (fun _ => true) true 38 v D ps) :
    ∃ r : Rg.Reg, v = .agg #[.string r.s, .int .i64 r.rev, .slice r.ao r.n r.cap] ∧ r.at' W ∧ r.n ≤ 9223372036854775807 := by
  obtain ⟨cs, rfl, hcs⟩ := okWide_struct Tryz.underlying38 hv
  rw [cellsRg] at hcs
  obtain ⟨l⟩ := cs
  obtain ⟨c0, c1, c2, rfl⟩ := list3 (by simpa using hcs)
  obtain ⟨fuel, hf⟩ := h
  obtain ⟨xs, m, _, _, _, hlen, hfs⟩ := DataW.trod_struct Tryz.underlying38 hf
  obtain ⟨y0, y1, y2, rfl⟩ := list3 (by simpa using hlen)
  have g0 := hfs 0 _ rfl
  have g1 := hfs 1 _ rfl
  have g2 := hfs 2 _ rfl
  simp only [Value.cells] at g0 g1 g2
  obtain ⟨s, e0, _⟩ := DataW.trod_string Tryz.underlying9 g0
  obtain ⟨rev, e1, _, _⟩ := DataW.trod_int Tryz.underlying3 g1
  obtain ⟨ao, n, cap, vs, ts, e2, hr, hn⟩ := ways_cell g2
  obtain rfl := one_of e0
  obtain rfl := one_of e1
  subst e2
  exact ⟨⟨s, rev, ao, n, cap, vs, ts⟩, rfl, hr, hn⟩
end Go.Proofs.YtcbpafpaimpfnaaGreatDoor

namespace Go.Proofs.YtcbpafpaimpfnaaGreatDoor
open Go.ChangeShapes Go.WideShapes Go.ChangeAt Go.RowKit
open Pl (Br Net Pc Lk En St)

theorem cellsNt : Tryz.prog.cellsOf 25 = 2 := by kernel_rfl
theorem cellsBg : Tryz.prog.cellsOf 40 = 5 := by kernel_rfl
theorem cellsLk : Tryz.prog.cellsOf 46 = 6 := by kernel_rfl
theorem bytesLk : Tryz.prog.bytesOf 46 = 48 := by kernel_rfl
theorem plist2 {α : Type} {l : List α} (h : l.length = 2) : ∃ c0 c1, l = [c0, c1] := by
  match l, h with
  | [c0, c1], _ => exact ⟨c0, c1, rfl⟩
theorem plist3 {α : Type} {l : List α} (h : l.length = 3) : ∃ c0 c1 c2, l = [c0, c1, c2] := by
  match l, h with
  | [c0, c1, c2], _ => exact ⟨c0, c1, c2, rfl⟩
theorem plist5 {α : Type} {l : List α} (h : l.length = 5) : ∃ c0 c1 c2 c3 c4, l = [c0, c1, c2, c3, c4] := by
  match l, h with
  | [c0, c1, c2, c3, c4], _ => exact ⟨c0, c1, c2, c3, c4, rfl⟩
theorem plist6 {α : Type} {l : List α} (h : l.length = 6) : ∃ c0 c1 c2 c3 c4 c5, l = [c0, c1, c2, c3, c4, c5] := by
  match l, h with
  | [c0, c1, c2, c3, c4, c5], _ => exact ⟨c0, c1, c2, c3, c4, c5, rfl⟩
/-- A SLICE, by its one cell: what its elements are, by theirs. -/
theorem rows_cell {α : Type} [Inhabited α] {H : Type} {enc : TypeId × Value → H} {W : World} {t e : TypeId} {k : Nat} (hk : 0 < k) (ht : Tryz.prog.underlying t = some (.slice e)) (hc : Tryz.prog.cellsOf e = k) (C : α → Nat → Value) (Q : α → Prop)
    (elem : ∀ fuel cs x, cs.length = k → DataW.trod enc Tryz.prog W 0 (fun _ => true) true fuel e cs = some x → ∃ a : α, (∀ j, j < k → cs[j]? = some (C a j)) ∧ Q a)
    {v : Value} {fuel : Nat} {x : DataW H × List MemPlace} (hf : DataW.trod enc Tryz.prog W 0 (fun _ => true) true fuel t [v] = some x) :
    ∃ (ao : Option Addr) (n cap : Nat) (f : Nat → α), v = .slice ao n cap ∧ CRow W ao n cap k (fun i => C (f i)) ∧ NilOk ao n cap ∧ n ≤ 9223372036854775807 ∧ ∀ i, i < n → Q (f i) := by
  rcases Deep.open_slice ht hf with ⟨hcs, _⟩ | ⟨a, len, cap, m, q, D, Pl, hcs, _, hl, hm, hmm, _, hx⟩
  · simp at hcs
    subst hcs
    exact ⟨none, 0, 0, fun _ => default, rfl, CRow.none _ _ _ _ _, fun _ => ⟨rfl, rfl⟩, by omega, fun i hi => absurd hi (by omega)⟩
  · simp at hcs
    subst hcs
    rw [if_pos rfl] at hmm
    have each : ∀ i, i < len → ∃ t : α, (∀ j, j < k → W.cell? (a.add (i * k + j)) = some (C t j)) ∧ Q t := by
      intro i hi
      obtain ⟨cs', h1, h2⟩ := hx i (by omega)
      rw [hc] at h1
      obtain ⟨_, hlen, hcell⟩ := World.cells?_some h1
      obtain ⟨t, h3, h4⟩ := elem _ _ _ hlen h2
      refine ⟨t, fun j hj => ?_, h4⟩
      have kj := hcell j (by omega)
      rw [Deep.add_add] at kj
      rw [kj]
      exact h3 j hj
    obtain ⟨f, hq⟩ := Deep.choose_lt each
    refine ⟨some a, len, cap, f, rfl, ⟨hl, fun hp => ?_⟩, (fun e => by cases e), by unfold maxLen at hm; omega, fun i hi => (hq i hi).2⟩
    obtain ⟨b, off, spot⟩ := a
    have hspot : spot = none := by
      have h0 := (hq 0 (by omega)).1 0 (by omega)
      simpa [Addr.add] using World.cell?_spot h0
    subst hspot
    have hc : ∀ i, i < len → ∀ j, j < k → _ := fun i hi j hj => (hq i hi).1 j hj
    simp only [add_row] at hc
    refine ⟨b, off, rfl, block_lt_of_cell (hc 0 hp 0 hk), fun i hi j hj => ?_⟩
    have := hc i hi j hj
    rw [← Nat.add_assoc] at this
    exact this
set_option maxRecDepth 100000 in
/-- A SLICE OF INTS, by its one cell. -/
theorem ints_cell {H : Type} {enc : TypeId × Value → H} {W : World} {v : Value} {fuel : Nat} {x : DataW H × List MemPlace}
    (hf : DataW.trod enc Tryz.prog W 0 (fun _ => true) true fuel 35 [v] = some x) :
    ∃ (ao : Option Addr) (n cap : Nat) (f : Nat → Int), v = .slice ao n cap ∧ IRow W ao n cap f ∧ NilOk ao n cap ∧ n ≤ 9223372036854775807 := by
  obtain ⟨ao, n, cap, f, h1, h2, h3, h4, _⟩ := rows_cell (by omega) Tryz.underlying35 cellsInt (fun (x : Int) _ => .int .i64 x) (fun _ => True) (fun fuel cs x hl h => by
    obtain ⟨y, e, _, _⟩ := DataW.trod_int Tryz.underlying3 h
    exact ⟨y, fun j hj => by obtain rfl : j = 0 := by omega
                             rw [e]; rfl, trivial⟩) hf
  exact ⟨ao, n, cap, f, h1, h2, h3, h4⟩
set_option maxRecDepth 100000 in
/-- A SLICE OF LINKS, by its one cell. -/
theorem links_cell {H : Type} {enc : TypeId × Value → H} {W : World} {v : Value} {fuel : Nat} {x : DataW H × List MemPlace}
    (hf : DataW.trod enc Tryz.prog W 0 (fun _ => true) true fuel 23 [v] = some x) :
    ∃ (ao : Option Addr) (n cap : Nat) (f : Nat → Lk), v = .slice ao n cap ∧ LRow W ao n cap f ∧ NilOk ao n cap ∧ n ≤ 9223372036854775807 ∧ ∀ i, i < n → (Lit.int .i64 (f i).a).wf = true ∧ (Lit.int .i64 (f i).pa).wf = true ∧ (Lit.int .i64 (f i).b).wf = true ∧ (Lit.int .i64 (f i).pb).wf = true := by
  haveI : Inhabited Lk := ⟨⟨0, 0, 0, 0, 0, false⟩⟩
  refine rows_cell (by omega) Tryz.underlying23 cellsLk lkC (fun l => (Lit.int .i64 l.a).wf = true ∧ (Lit.int .i64 l.pa).wf = true ∧ (Lit.int .i64 l.b).wf = true ∧ (Lit.int .i64 l.pb).wf = true) (fun fuel cs x hl h => ?_) hf
  obtain ⟨c0, c1, c2, c3, c4, c5, rfl⟩ := plist6 hl
  obtain ⟨xs, m, _, _, _, hlen, hfs⟩ := DataW.trod_struct Tryz.underlying46 h
  obtain ⟨y0, y1, y2, y3, y4, y5, rfl⟩ := plist6 (by simpa using hlen)
  obtain ⟨a, e0, _, w0⟩ := DataW.trod_int Tryz.underlying3 (hfs 0 _ rfl)
  obtain ⟨pa, e1, _, w1⟩ := DataW.trod_int Tryz.underlying3 (hfs 1 _ rfl)
  obtain ⟨b, e2, _, w2⟩ := DataW.trod_int Tryz.underlying3 (hfs 2 _ rfl)
  obtain ⟨pb, e3, _, w3⟩ := DataW.trod_int Tryz.underlying3 (hfs 3 _ rfl)
  obtain ⟨co, e4, _, _⟩ := DataW.trod_int Tryz.underlying3 (hfs 4 _ rfl)
  obtain ⟨up, e5, _⟩ := DataW.trod_bool Tryz.underlying4 (hfs 5 _ rfl)
  refine ⟨⟨a, pa, b, pb, co, up⟩, fun j hj => ?_, w0, w1, w2, w3⟩
  rw [one_of e0, one_of e1, one_of e2, one_of e3, one_of e4, one_of e5]
  rcases (by omega : j = 0 ∨ j = 1 ∨ j = 2 ∨ j = 3 ∨ j = 4 ∨ j = 5) with q | q | q | q | q | q <;> subst q <;> rfl
set_option maxRecDepth 100000 in
/-- A REGION, by its three cells. -/
theorem region_cells {H : Type} {enc : TypeId × Value → H} {W : World} {c0 c1 c2 : Value} {fuel : Nat} {x : DataW H × List MemPlace}
    (hf : DataW.trod enc Tryz.prog W 0 (fun _ => true) true fuel 38 [c0, c1, c2] = some x) :
    ∃ r : Rg.Reg, c0 = .string r.s ∧ c1 = .int .i64 r.rev ∧ c2 = .slice r.ao r.n r.cap ∧ r.at' W ∧ r.n ≤ 9223372036854775807 := by
  obtain ⟨xs, m, _, _, _, hlen, hfs⟩ := DataW.trod_struct Tryz.underlying38 hf
  obtain ⟨y0, y1, y2, rfl⟩ := plist3 (by simpa using hlen)
  have g2 := hfs 2 _ rfl
  obtain ⟨s, e0, _⟩ := DataW.trod_string Tryz.underlying9 (hfs 0 _ rfl)
  obtain ⟨rev, e1, _, _⟩ := DataW.trod_int Tryz.underlying3 (hfs 1 _ rfl)
  obtain ⟨ao, n, cap, vs, ts, e2, hr, hn⟩ := ways_cell g2
  exact ⟨⟨s, rev, ao, n, cap, vs, ts⟩, one_of e0, one_of e1, e2, hr, hn⟩
set_option maxRecDepth 100000 in
/-- A SLICE OF BRIDGES, by its one cell. -/
theorem bridges_cell {H : Type} {enc : TypeId × Value → H} {W : World} {v : Value} {fuel : Nat} {x : DataW H × List MemPlace}
    (hf : DataW.trod enc Tryz.prog W 0 (fun _ => true) true fuel 22 [v] = some x) :
    ∃ (ao : Option Addr) (n cap : Nat) (f : Nat → Br), v = .slice ao n cap ∧ BRow W ao n cap f ∧ NilOk ao n cap ∧ n ≤ 9223372036854775807 ∧ ∀ i, i < n → (f i).at' W ∧ (Lit.int .u64 (f i).addr).wf = true := by
  haveI : Inhabited Br := ⟨⟨0, none, 0, 0, fun _ => 0, ⟨⟨#[]⟩, 0, none, 0, 0, fun _ => 0, fun _ => 0⟩⟩⟩
  refine rows_cell (by omega) Tryz.underlying22 cellsBg brC (fun b => b.at' W ∧ (Lit.int .u64 b.addr).wf = true) (fun fuel cs x hl h => ?_) hf
  obtain ⟨c0, c1, c2, c3, c4, rfl⟩ := plist5 hl
  obtain ⟨xs, m, _, _, _, hlen, hfs⟩ := DataW.trod_struct Tryz.underlying40 h
  obtain ⟨y0, y1, y2, rfl⟩ := plist3 (by simpa using hlen)
  obtain ⟨a, e0, _, w0⟩ := DataW.trod_int Tryz.underlying34 (hfs 0 _ rfl)
  have g1 := hfs 1 _ rfl
  have g2 := hfs 2 _ rfl
  obtain ⟨pao, pn, pcap, pv, e1, hp, _, hpn⟩ := ints_cell g1
  obtain ⟨r, e2, e3, e4, hr, hn⟩ := region_cells g2
  refine ⟨⟨a, pao, pn, pcap, pv, r⟩, fun j hj => ?_, ⟨hp, hr, hpn, hn⟩, w0⟩
  rw [one_of e0, e1, e2, e3, e4]
  rcases (by omega : j = 0 ∨ j = 1 ∨ j = 2 ∨ j = 3 ∨ j = 4) with q | q | q | q | q <;> subst q <;> rfl
set_option maxRecDepth 100000 in
theorem links_many {H : Type} {enc : TypeId × Value → H} {W : World} {ao : Option Addr} {n cap : Nat} {fuel : Nat} {x : DataW H × List MemPlace}
    (hf : DataW.trod enc Tryz.prog W 0 (fun _ => true) true fuel 23 [.slice ao n cap] = some x) (hz : (x.1.weights Tryz.prog 23).all (· ≤ reachBytes) = true) : n * 48 ≤ reachBytes := by
  rcases Deep.open_slice Tryz.underlying23 hf with ⟨hcs, _⟩ | ⟨a, len, cap', m, k, D, Pl, hcs, _, hl, hm, hmm, hx, _⟩
  · simp at hcs
    omega
  · simp at hcs
    obtain ⟨_, rfl, rfl⟩ := hcs
    rw [if_pos rfl] at hmm
    rw [hx] at hz
    unfold DataW.weights at hz
    rw [Tryz.underlying23] at hz
    simp only [List.all_cons, Bool.and_eq_true, decide_eq_true_eq, List.length_map, List.length_range, bytesLk] at hz
    have := hz.1
    omega
set_option maxRecDepth 100000 in
/-- A NET THAT CAME IN. -/
theorem net_in {H : Type} {enc : TypeId × Value → H} {W : World} {base : Nat} {v : Value} {D : DataW H} {ps : List MemPlace}
    (hv : Value.okWide Tryz.prog W .any base 25 v) (h : DataW.Trod enc Tryz.prog W 0 (fun _ => true) true 25 v D ps) :
    ∃ n : Net, v = n.val ∧ n.at' W ∧ n.Wf ∧ ((D.weights Tryz.prog 25).all (· ≤ reachBytes) = true → n.L * 48 ≤ reachBytes) := by
  obtain ⟨cs, rfl, hcs⟩ := okWide_struct Tryz.underlying25 hv
  rw [cellsNt] at hcs
  obtain ⟨l⟩ := cs
  obtain ⟨c0, c1, rfl⟩ := plist2 (by simpa using hcs)
  obtain ⟨fuel, hf⟩ := h
  obtain ⟨xs, m, _, hxy, _, hlen, hfs⟩ := DataW.trod_struct Tryz.underlying25 hf
  obtain ⟨y0, y1, rfl⟩ := plist2 (by simpa using hlen)
  have g0 := hfs 0 _ rfl
  have g1 := hfs 1 _ rfl
  simp only [Value.cells] at g0 g1
  obtain ⟨bao, K, bcap, bs, rfl, hb, _, hbn, hb2⟩ := bridges_cell g0
  obtain ⟨lao, L, lcap, ls, rfl, hl, _, hln, hl2⟩ := links_cell g1
  refine ⟨⟨bao, K, bcap, bs, lao, L, lcap, ls⟩, rfl, ⟨hb, fun i hi => (hb2 i hi).1, hl, hbn, hln⟩, ⟨fun i hi => (hb2 i hi).2, hl2⟩, fun hz => ?_⟩
  simp only [Prod.mk.injEq] at hxy
  rw [hxy.1] at hz
  unfold DataW.weights at hz
  rw [Tryz.underlying25] at hz
  simp only [List.map_cons, List.map_nil, DataW.weightsEach, List.all_append, Bool.and_eq_true] at hz
  exact links_many g1 hz.2.1
end Go.Proofs.YtcbpafpaimpfnaaGreatDoor
