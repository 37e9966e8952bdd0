/- walks: package talk's Opens -/
import Derived.Test.YtaneiffnhphkhaaGreatDoorK06
import Derived.Test.YtaneiffnhphkhaaGreatDoorK36
import Derived.Test.YtaneiffnhphkhaaGreatDoorK21
import Derived.Test.YtaneiffnhphkhaaGreatDoorK33
import Derived.Test.YtaneiffnhphkhaaGreatDoorK31
import Derived.Test.YtaneiffnhphkhaaGreatDoorK07
import Derived.Deep.SlicePairs
import Derived.Deep.Slices
import Derived.SizedLaws
namespace Go.Proofs.YtaneiffnhphkhaaGreatDoor
open Go.ChangeShapes Go.WideShapes Go.ChangeAt Go.RowKit

theorem cellsRg : Tryz.prog.cellsOf 72 = 3 := by kernel_rfl
theorem cellsWay : Tryz.prog.cellsOf 81 = 2 := by kernel_rfl
theorem cellsInt : Tryz.prog.cellsOf 3 = 1 := by kernel_rfl
theorem list3 {α : Type} {l : List α} (h : l.length = 3) : ∃ c0 c1 c2, l = [c0, c1, c2] := by
  match l, h with
  | [c0, c1, c2], _ => exact ⟨c0, c1, c2, rfl⟩
/-- A SLICE OF WAYS, by its one cell. -/
theorem ways_cell {H : Type} {enc : TypeId × Value → H} {W : World} {v : Value} {fuel : Nat} {x : DataW H × List MemPlace}
    (hf : DataW.trod enc Tryz.prog W 0 (fun _ => true) true fuel 70 [v] = some x) :
    ∃ ao n cap vs ts, v = .slice ao n cap ∧ WayRow W ao n cap vs ts ∧ n ≤ 9223372036854775807 := by
  rcases Deep.open_slice_pairs Tryz.underlying70 Tryz.underlying81 cellsWay rfl rfl cellsInt cellsInt hf with ⟨hcs, _⟩ | ⟨a, len, cap, m, k, V0, V1, D0, D1, P0, P1, hcs, _, hl, hm, hmm, _, hx⟩
  · simp at hcs
    subst hcs
    exact ⟨none, 0, 0, fun _ => 0, fun _ => 0, rfl, ⟨Nat.le_refl _, fun h => absurd h (by omega)⟩, by omega⟩
  · simp at hcs
    subst hcs
    rw [if_pos rfl] at hmm
    have each : ∀ i, i < len → ∃ q : Int × Int, V0 i = .int .i64 q.1 ∧ V1 i = .int .i64 q.2 := by
      intro i hi
      obtain ⟨_, _, t0, t1⟩ := hx i (by omega)
      obtain ⟨y0, e0, _, _⟩ := DataW.trod_int Tryz.underlying3 t0
      obtain ⟨y1, e1, _, _⟩ := DataW.trod_int Tryz.underlying3 t1
      exact ⟨(y0, y1), one_of e0, one_of e1⟩
    obtain ⟨q, hq⟩ := Deep.choose_lt each
    refine ⟨some a, len, cap, fun i => (q i).1, fun i => (q i).2, rfl, ⟨hl, fun hp => ?_⟩, by unfold maxLen at hm; omega⟩
    obtain ⟨b, off, spot⟩ := a
    have hspot : spot = none := by
      have h0 := (hx 0 (by omega)).1
      simpa [Addr.add] using World.cell?_spot h0
    subst hspot
    have hc : ∀ i, i < len → W.cell? ⟨b, off + i * 2, none⟩ = some (.int .i64 (q i).1) ∧ W.cell? ⟨b, off + i * 2 + 1, none⟩ = some (.int .i64 (q i).2) := by
      intro i hi
      obtain ⟨c0, c1, _, _⟩ := hx i (by omega)
      rw [add_row, (hq i hi).1] at c0
      rw [add_row, (hq i hi).2] at c1
      exact ⟨c0, c1⟩
    exact ⟨b, off, rfl, block_lt_of_cell (hc 0 hp).1, hc⟩
set_option maxRecDepth 100000 in
/-- A REGION THAT CAME IN. -/
theorem region_in {H : Type} {enc : TypeId × Value → H} {W : World} {base : Nat} {v : Value} {D : DataW H} {ps : List MemPlace}
    (hv : Value.okWide Tryz.prog W .any base 72 v) (h : DataW.Trod enc Tryz.prog W 0 (fun _ => true) true 72 v D ps) :
    ∃ r : Rg.Reg, v = .agg #[.string r.s, .int .i64 r.rev, .slice r.ao r.n r.cap] ∧ r.at' W ∧ r.n ≤ 9223372036854775807 := by
  obtain ⟨cs, rfl, hcs⟩ := okWide_struct Tryz.underlying72 hv
  rw [cellsRg] at hcs
  obtain ⟨l⟩ := cs
  obtain ⟨c0, c1, c2, rfl⟩ := list3 (by simpa using hcs)
  obtain ⟨fuel, hf⟩ := h
  obtain ⟨xs, m, _, _, _, hlen, hfs⟩ := DataW.trod_struct Tryz.underlying72 hf
  obtain ⟨y0, y1, y2, rfl⟩ := list3 (by simpa using hlen)
  have g0 := hfs 0 _ rfl
  have g1 := hfs 1 _ rfl
  have g2 := hfs 2 _ rfl
  simp only [Value.cells] at g0 g1 g2
  obtain ⟨s, e0, _⟩ := DataW.trod_string Tryz.underlying9 g0
  obtain ⟨rev, e1, _, _⟩ := DataW.trod_int Tryz.underlying3 g1
  obtain ⟨ao, n, cap, vs, ts, e2, hr, hn⟩ := ways_cell g2
  obtain rfl := one_of e0
  obtain rfl := one_of e1
  subst e2
  exact ⟨⟨s, rev, ao, n, cap, vs, ts⟩, rfl, hr, hn⟩
end Go.Proofs.YtaneiffnhphkhaaGreatDoor

namespace Go.Proofs.YtaneiffnhphkhaaGreatDoor
open Go.ChangeShapes Go.WideShapes Go.ChangeAt Go.RowKit
open Pl (Br Net Pc Lk En St)

theorem cellsNt : Tryz.prog.cellsOf 25 = 2 := by kernel_rfl
theorem cellsBg : Tryz.prog.cellsOf 74 = 5 := by kernel_rfl
theorem cellsLk : Tryz.prog.cellsOf 83 = 6 := by kernel_rfl
theorem bytesLk : Tryz.prog.bytesOf 83 = 48 := by kernel_rfl
theorem plist2 {α : Type} {l : List α} (h : l.length = 2) : ∃ c0 c1, l = [c0, c1] := by
  match l, h with
  | [c0, c1], _ => exact ⟨c0, c1, rfl⟩
theorem plist3 {α : Type} {l : List α} (h : l.length = 3) : ∃ c0 c1 c2, l = [c0, c1, c2] := by
  match l, h with
  | [c0, c1, c2], _ => exact ⟨c0, c1, c2, rfl⟩
theorem plist5 {α : Type} {l : List α} (h : l.length = 5) : ∃ c0 c1 c2 c3 c4, l = [c0, c1, c2, c3, c4] := by
  match l, h with
  | [c0, c1, c2, c3, c4], _ => exact ⟨c0, c1, c2, c3, c4, rfl⟩
theorem plist6 {α : Type} {l : List α} (h : l.length = 6) : ∃ c0 c1 c2 c3 c4 c5, l = [c0, c1, c2, c3, c4, c5] := by
  match l, h with
  | [c0, c1, c2, c3, c4, c5], _ => exact ⟨c0, c1, c2, c3, c4, c5, rfl⟩
/-- A SLICE, by its one cell: what its elements are, by theirs. -/
theorem rows_cell {α : Type} [Inhabited α] {H : Type} {enc : TypeId × Value → H} {W : World} {t e : TypeId} {k : Nat} (hk : 0 < k) (ht : Tryz.prog.underlying t = some (.slice e)) (hc : Tryz.prog.cellsOf e = k) (C : α → Nat → Value) (Q : α → Prop)
    (elem : ∀ fuel cs x, cs.length = k → DataW.trod enc Tryz.prog W 0 (fun _ => true) true fuel e cs = some x → ∃ a : α, (∀ j, j < k → cs[j]? = some (C a j)) ∧ Q a)
    {v : Value} {fuel : Nat} {x : DataW H × List MemPlace} (hf : DataW.trod enc Tryz.prog W 0 (fun _ => true) true fuel t [v] = some x) :
    ∃ (ao : Option Addr) (n cap : Nat) (f : Nat → α), v = .slice ao n cap ∧ CRow W ao n cap k (fun i => C (f i)) ∧ NilOk ao n cap ∧ n ≤ 9223372036854775807 ∧ ∀ i, i < n → Q (f i) := by
  rcases Deep.open_slice ht hf with ⟨hcs, _⟩ | ⟨a, len, cap, m, q, D, Pl, hcs, _, hl, hm, hmm, _, hx⟩
  · simp at hcs
    subst hcs
    exact ⟨none, 0, 0, fun _ => default, rfl, CRow.none _ _ _ _ _, fun _ => ⟨rfl, rfl⟩, by omega, fun i hi => absurd hi (by omega)⟩
  · simp at hcs
    subst hcs
    rw [if_pos rfl] at hmm
    have each : ∀ i, i < len → ∃ t : α, (∀ j, j < k → W.cell? (a.add (i * k + j)) = some (C t j)) ∧ Q t := by
      intro i hi
      obtain ⟨cs', h1, h2⟩ := hx i (by omega)
      rw [hc] at h1
      obtain ⟨_, hlen, hcell⟩ := World.cells?_some h1
      obtain ⟨t, h3, h4⟩ := elem _ _ _ hlen h2
      refine ⟨t, fun j hj => ?_, h4⟩
      have kj := hcell j (by omega)
      rw [Deep.add_add] at kj
      rw [kj]
      exact h3 j hj
    obtain ⟨f, hq⟩ := Deep.choose_lt each
    refine ⟨some a, len, cap, f, rfl, ⟨hl, fun hp => ?_⟩, (fun e => by cases e), by unfold maxLen at hm; omega, fun i hi => (hq i hi).2⟩
    obtain ⟨b, off, spot⟩ := a
    have hspot : spot = none := by
      have h0 := (hq 0 (by omega)).1 0 (by omega)
      simpa [Addr.add] using World.cell?_spot h0
    subst hspot
    have hc : ∀ i, i < len → ∀ j, j < k → _ := fun i hi j hj => (hq i hi).1 j hj
    simp only [add_row] at hc
    refine ⟨b, off, rfl, block_lt_of_cell (hc 0 hp 0 hk), fun i hi j hj => ?_⟩
    have := hc i hi j hj
    rw [← Nat.add_assoc] at this
    exact this
set_option maxRecDepth 100000 in
/-- A SLICE OF INTS, by its one cell. -/
theorem ints_cell {H : Type} {enc : TypeId × Value → H} {W : World} {v : Value} {fuel : Nat} {x : DataW H × List MemPlace}
    (hf : DataW.trod enc Tryz.prog W 0 (fun _ => true) true fuel 59 [v] = some x) :
    ∃ (ao : Option Addr) (n cap : Nat) (f : Nat → Int), v = .slice ao n cap ∧ IRow W ao n cap f ∧ NilOk ao n cap ∧ n ≤ 9223372036854775807 := by
  obtain ⟨ao, n, cap, f, h1, h2, h3, h4, _⟩ := rows_cell (by omega) Tryz.underlying59 cellsInt (fun (x : Int) _ => .int .i64 x) (fun _ => True) (fun fuel cs x hl h => by
    obtain ⟨y, e, _, _⟩ := DataW.trod_int Tryz.underlying3 h
    exact ⟨y, fun j hj => by obtain rfl : j = 0 := by omega
                             rw [e]; rfl, trivial⟩) hf
  exact ⟨ao, n, cap, f, h1, h2, h3, h4⟩
set_option maxRecDepth 100000 in
/-- A SLICE OF LINKS, by its one cell. -/
theorem links_cell {H : Type} {enc : TypeId × Value → H} {W : World} {v : Value} {fuel : Nat} {x : DataW H × List MemPlace}
    (hf : DataW.trod enc Tryz.prog W 0 (fun _ => true) true fuel 23 [v] = some x) :
    ∃ (ao : Option Addr) (n cap : Nat) (f : Nat → Lk), v = .slice ao n cap ∧ LRow W ao n cap f ∧ NilOk ao n cap ∧ n ≤ 9223372036854775807 ∧ ∀ i, i < n → (Lit.int .i64 (f i).a).wf = true ∧ (Lit.int .i64 (f i).pa).wf = true ∧ (Lit.int .i64 (f i).b).wf = true ∧ (Lit.int .i64 (f i).pb).wf = true := by
  haveI : Inhabited Lk := ⟨⟨0, 0, 0, 0, 0, false⟩⟩
  refine rows_cell (by omega) Tryz.underlying23 cellsLk lkC (fun l => (Lit.int .i64 l.a).wf = true ∧ (Lit.int .i64 l.pa).wf = true ∧ (Lit.int .i64 l.b).wf = true ∧ (Lit.int .i64 l.pb).wf = true) (fun fuel cs x hl h => ?_) hf
  obtain ⟨c0, c1, c2, c3, c4, c5, rfl⟩ := plist6 hl
  obtain ⟨xs, m, _, _, _, hlen, hfs⟩ := DataW.trod_struct Tryz.underlying83 h
  obtain ⟨y0, y1, y2, y3, y4, y5, rfl⟩ := plist6 (by simpa using hlen)
  obtain ⟨a, e0, _, w0⟩ := DataW.trod_int Tryz.underlying3 (hfs 0 _ rfl)
  obtain ⟨pa, e1, _, w1⟩ := DataW.trod_int Tryz.underlying3 (hfs 1 _ rfl)
  obtain ⟨b, e2, _, w2⟩ := DataW.trod_int Tryz.underlying3 (hfs 2 _ rfl)
  obtain ⟨pb, e3, _, w3⟩ := DataW.trod_int Tryz.underlying3 (hfs 3 _ rfl)
  obtain ⟨co, e4, _, _⟩ := DataW.trod_int Tryz.underlying3 (hfs 4 _ rfl)
  obtain ⟨up, e5, _⟩ := DataW.trod_bool Tryz.underlying4 (hfs 5 _ rfl)
  refine ⟨⟨a, pa, b, pb, co, up⟩, fun j hj => ?_, w0, w1, w2, w3⟩
  rw [one_of e0, one_of e1, one_of e2, one_of e3, one_of e4, one_of e5]
  rcases (by omega : j = 0 ∨ j = 1 ∨ j = 2 ∨ j = 3 ∨ j = 4 ∨ j = 5) with q | q | q | q | q | q <;> subst q <;> rfl
set_option maxRecDepth 100000 in
/-- A REGION, by its three cells. -/
theorem region_cells {H : Type} {enc : TypeId × Value → H} {W : World} {c0 c1 c2 : Value} {fuel : Nat} {x : DataW H × List MemPlace}
    (hf : DataW.trod enc Tryz.prog W 0 (fun _ => true) true fuel 72 [c0, c1, c2] = some x) :
    ∃ r : Rg.Reg, c0 = .string r.s ∧ c1 = .int .i64 r.rev ∧ c2 = .slice r.ao r.n r.cap ∧ r.at' W ∧ r.n ≤ 9223372036854775807 := by
  obtain ⟨xs, m, _, _, _, hlen, hfs⟩ := DataW.trod_struct Tryz.underlying72 hf
  obtain ⟨y0, y1, y2, rfl⟩ := plist3 (by simpa using hlen)
  have g2 := hfs 2 _ rfl
  obtain ⟨s, e0, _⟩ := DataW.trod_string Tryz.underlying9 (hfs 0 _ rfl)
  obtain ⟨rev, e1, _, _⟩ := DataW.trod_int Tryz.underlying3 (hfs 1 _ rfl)
  obtain ⟨ao, n, cap, vs, ts, e2, hr, hn⟩ := ways_cell g2
  exact ⟨⟨s, rev, ao, n, cap, vs, ts⟩, one_of e0, one_of e1, e2, hr, hn⟩
set_option maxRecDepth 100000 in
/-- A SLICE OF BRIDGES, by its one cell. -/
theorem bridges_cell {H : Type} {enc : TypeId × Value → H} {W : World} {v : Value} {fuel : Nat} {x : DataW H × List MemPlace}
    (hf : DataW.trod enc Tryz.prog W 0 (fun _ => true) true fuel 22 [v] = some x) :
    ∃ (ao : Option Addr) (n cap : Nat) (f : Nat → Br), v = .slice ao n cap ∧ BRow W ao n cap f ∧ NilOk ao n cap ∧ n ≤ 9223372036854775807 ∧ ∀ i, i < n → (f i).at' W ∧ (Lit.int .u64 (f i).addr).wf = true := by
  haveI : Inhabited Br := ⟨⟨0, none, 0, 0, fun _ => 0, ⟨⟨#[]⟩, 0, none, 0, 0, fun _ => 0, fun _ => 0⟩⟩⟩
  refine rows_cell (by omega) Tryz.underlying22 cellsBg brC (fun b => b.at' W ∧ (Lit.int .u64 b.addr).wf = true) (fun fuel cs x hl h => ?_) hf
  obtain ⟨c0, c1, c2, c3, c4, rfl⟩ := plist5 hl
  obtain ⟨xs, m, _, _, _, hlen, hfs⟩ := DataW.trod_struct Tryz.underlying74 h
  obtain ⟨y0, y1, y2, rfl⟩ := plist3 (by simpa using hlen)
  obtain ⟨a, e0, _, w0⟩ := DataW.trod_int Tryz.underlying56 (hfs 0 _ rfl)
  have g1 := hfs 1 _ rfl
  have g2 := hfs 2 _ rfl
  obtain ⟨pao, pn, pcap, pv, e1, hp, _, hpn⟩ := ints_cell g1
  obtain ⟨r, e2, e3, e4, hr, hn⟩ := region_cells g2
  refine ⟨⟨a, pao, pn, pcap, pv, r⟩, fun j hj => ?_, ⟨hp, hr, hpn, hn⟩, w0⟩
  rw [one_of e0, e1, e2, e3, e4]
  rcases (by omega : j = 0 ∨ j = 1 ∨ j = 2 ∨ j = 3 ∨ j = 4) with q | q | q | q | q <;> subst q <;> rfl
set_option maxRecDepth 100000 in
theorem links_many {H : Type} {enc : TypeId × Value → H} {W : World} {ao : Option Addr} {n cap : Nat} {fuel : Nat} {x : DataW H × List MemPlace}
    (hf : DataW.trod enc Tryz.prog W 0 (fun _ => true) true fuel 23 [.slice ao n cap] = some x) (hz : (x.1.weights Tryz.prog 23).all (· ≤ reachBytes) = true) : n * 48 ≤ reachBytes := by
  rcases Deep.open_slice Tryz.underlying23 hf with ⟨hcs, _⟩ | ⟨a, len, cap', m, k, D, Pl, hcs, _, hl, hm, hmm, hx, _⟩
  · simp at hcs
    omega
  · simp at hcs
    obtain ⟨_, rfl, rfl⟩ := hcs
    rw [if_pos rfl] at hmm
    rw [hx] at hz
    unfold DataW.weights at hz
    rw [Tryz.underlying23] at hz
    simp only [List.all_cons, Bool.and_eq_true, decide_eq_true_eq, List.length_map, List.length_range, bytesLk] at hz
    have := hz.1
    omega
set_option maxRecDepth 100000 in
/-- A NET THAT CAME IN. -/
theorem net_in {H : Type} {enc : TypeId × Value → H} {W : World} {base : Nat} {v : Value} {D : DataW H} {ps : List MemPlace}
    (hv : Value.okWide Tryz.prog W .any base 25 v) (h : DataW.Trod enc Tryz.prog W 0 (fun _ => true) true 25 v D ps) :
    ∃ n : Net, v = n.val ∧ n.at' W ∧ n.Wf ∧ ((D.weights Tryz.prog 25).all (· ≤ reachBytes) = true → n.L * 48 ≤ reachBytes) := by
  obtain ⟨cs, rfl, hcs⟩ := okWide_struct Tryz.underlying25 hv
  rw [cellsNt] at hcs
  obtain ⟨l⟩ := cs
  obtain ⟨c0, c1, rfl⟩ := plist2 (by simpa using hcs)
  obtain ⟨fuel, hf⟩ := h
  obtain ⟨xs, m, _, hxy, _, hlen, hfs⟩ := DataW.trod_struct Tryz.underlying25 hf
  obtain ⟨y0, y1, rfl⟩ := plist2 (by simpa using hlen)
  have g0 := hfs 0 _ rfl
  have g1 := hfs 1 _ rfl
  simp only [Value.cells] at g0 g1
  obtain ⟨bao, K, bcap, bs, rfl, hb, _, hbn, hb2⟩ := bridges_cell g0
  obtain ⟨lao, L, lcap, ls, rfl, hl, _, hln, hl2⟩ := links_cell g1
  refine ⟨⟨bao, K, bcap, bs, lao, L, lcap, ls⟩, rfl, ⟨hb, fun i hi => (hb2 i hi).1, hl, hbn, hln⟩, ⟨fun i hi => (hb2 i hi).2, hl2⟩, fun hz => ?_⟩
  simp only [Prod.mk.injEq] at hxy
  rw [hxy.1] at hz
  unfold DataW.weights at hz
  rw [Tryz.underlying25] at hz
  simp only [List.map_cons, List.map_nil, DataW.weightsEach, List.all_append, Bool.and_eq_true] at hz
  exact links_many g1 hz.2.1
end Go.Proofs.YtaneiffnhphkhaaGreatDoor

namespace Go.Proofs.YtaneiffnhphkhaaGreatDoor
open Go.ChangeShapes Go.WideShapes Go.ChangeAt Go.RowKit
open Tk (Dn)

theorem cellsDo : Tryz.prog.cellsOf 45 = 4 := by kernel_rfl
theorem bytesDo : Tryz.prog.bytesOf 45 = 32 := by kernel_rfl
theorem plist4 {α : Type} {l : List α} (h : l.length = 4) : ∃ c0 c1 c2 c3, l = [c0, c1, c2, c3] := by
  match l, h with
  | [c0, c1, c2, c3], _ => exact ⟨c0, c1, c2, c3, rfl⟩
set_option maxRecDepth 100000 in
theorem dos_cell {H : Type} {enc : TypeId × Value → H} {W : World} {v : Value} {fuel : Nat} {x : DataW H × List MemPlace}
    (hf : DataW.trod enc Tryz.prog W 0 (fun _ => true) true fuel 26 [v] = some x) :
    ∃ (ao : Option Addr) (n cap : Nat) (ds : Nat → Dn), v = .slice ao n cap ∧ DRow W ao n cap ds ∧ NilOk ao n cap ∧ n ≤ 9223372036854775807 ∧ ∀ i, i < n → True := by
  haveI : Inhabited Dn := ⟨⟨0, 0, 0, 0⟩⟩
  refine rows_cell (by omega) Tryz.underlying26 cellsDo dnC (fun _ => True) (fun fuel cs x hl h => ?_) hf
  obtain ⟨c0, c1, c2, c3, rfl⟩ := plist4 hl
  obtain ⟨xs, m, _, _, _, hlen, hfs⟩ := DataW.trod_struct Tryz.underlying45 h
  obtain ⟨y0, y1, y2, y3, rfl⟩ := plist4 (by simpa using hlen)
  obtain ⟨a, e0, _, _⟩ := DataW.trod_int Tryz.underlying3 (hfs 0 _ rfl)
  obtain ⟨b, e1, _, _⟩ := DataW.trod_int Tryz.underlying3 (hfs 1 _ rfl)
  obtain ⟨c, e2, _, _⟩ := DataW.trod_int Tryz.underlying3 (hfs 2 _ rfl)
  obtain ⟨d, e3, _, _⟩ := DataW.trod_int Tryz.underlying3 (hfs 3 _ rfl)
  refine ⟨⟨a, b, c, d⟩, fun j hj => ?_, trivial⟩
  rw [one_of e0, one_of e1, one_of e2, one_of e3]
  rcases (by omega : j = 0 ∨ j = 1 ∨ j = 2 ∨ j = 3) with q | q | q | q <;> subst q <;> rfl
set_option maxRecDepth 100000 in
theorem dos_many {H : Type} {enc : TypeId × Value → H} {W : World} {ao : Option Addr} {n cap : Nat} {fuel : Nat} {x : DataW H × List MemPlace}
    (hf : DataW.trod enc Tryz.prog W 0 (fun _ => true) true fuel 26 [.slice ao n cap] = some x) (hz : (x.1.weights Tryz.prog 26).all (· ≤ reachBytes) = true) : n * 32 ≤ reachBytes := by
  rcases Deep.open_slice Tryz.underlying26 hf with ⟨hcs, _⟩ | ⟨a, len, cap', m, k, D, Pl, hcs, _, hl, hm, hmm, hx, _⟩
  · simp at hcs
    omega
  · simp at hcs
    obtain ⟨_, rfl, rfl⟩ := hcs
    rw [if_pos rfl] at hmm
    rw [hx] at hz
    unfold DataW.weights at hz
    rw [Tryz.underlying26] at hz
    simp only [List.all_cons, Bool.and_eq_true, decide_eq_true_eq, List.length_map, List.length_range, bytesDo] at hz
    have := hz.1
    omega
set_option maxRecDepth 100000 in
/-- WHAT IS TO BE DONE, THAT CAME IN. -/
theorem dos_in {H : Type} {enc : TypeId × Value → H} {W : World} {base : Nat} {v : Value} {D : DataW H} {ps : List MemPlace}
    (hv : Value.okWide Tryz.prog W .any base 26 v) (h : DataW.Trod enc Tryz.prog W 0 (fun _ => true) true 26 v D ps) :
    ∃ (ao : Option Addr) (n cap : Nat) (ds : Nat → Dn), v = .slice ao n cap ∧ DRow W ao n cap ds ∧ NilOk ao n cap ∧ n ≤ 9223372036854775807 ∧ ((D.weights Tryz.prog 26).all (· ≤ reachBytes) = true → n * 32 ≤ reachBytes) := by
  obtain ⟨a0, len0, cap0, rfl⟩ := okWide_slice Tryz.underlying26 hv
  obtain ⟨fuel, hf⟩ := h
  obtain ⟨ao, n, cap, ds, e, h1, h2, h3, _⟩ := dos_cell hf
  have e2 := e
  injection e2 with e3 e4 e5
  subst e3 e4 e5
  exact ⟨_, _, _, ds, rfl, h1, h2, h3, fun hz => dos_many hf hz⟩
end Go.Proofs.YtaneiffnhphkhaaGreatDoor

namespace Go.Proofs.YtaneiffnhphkhaaGreatDoor
open Go.RowKit
open Tk (Md)

/-- Whether a mind's port forwards. -/
def opM (m : Mi) (port : Int) : Bool := if 0 ≤ Bk.idx m.ports port m.ports.length ∧ Bk.idx m.ports port m.ports.length ≤ (m.calm.length : Int) - 1 then decide (50 ≤ m.calm.getD (Bk.idx m.ports port m.ports.length).toNat 0) else false
/-- Whether frames go through that port. -/
def opT (t : List Tr) (tree bridge port : Int) : Bool := if (0 ≤ tree ∧ tree ≤ (t.length : Int) - 1) ∧ (0 ≤ bridge ∧ bridge ≤ ((tat t tree.toNat).l.length : Int) - 1) then opM (mat (tat t tree.toNat).l bridge.toNat) port else false
set_option maxRecDepth 100000 in
set_option maxHeartbeats 4000000 in
theorem topens_any (oao : Option Addr) (ocap : Nat) (t : List Tr) (tree bridge port : Int) (w : World) (ht : TrRow w oao ocap t) :
    Calls Tryz.prog 18 #[.agg #[.slice oao t.length ocap], .int .i64 tree, .int .i64 bridge, .int .i64 port] w fun e w' => e = .returned (.bool (opT t tree bridge port)) ∧ Below w.heap.size w w' := by
  obtain ⟨X, HX⟩ : ∃ X, Hid (X = w.alloc (.cells #[.slice oao t.length ocap] 29)) := ⟨_, rfl⟩
  have hXB : Below w.heap.size w X := by rw [HX.out]; exact below_alloc1 _ _
  have hX0 : X.heap[w.heap.size]? = some (.cells #[.slice oao t.length ocap] 29 (0, 0)) := by rw [HX.out]; exact heap_alloc_last _ _
  have c0 : X.cell? ⟨w.heap.size, 0, none⟩ = some (.slice oao t.length ocap) := cell_of_row X _ 0 _ _ _ hX0
  have hmany := ht.many
  have hcap := ht.row.1
  by_cases h1 : 0 ≤ tree ∧ tree ≤ (t.length : Int) - 1
  · obtain ⟨k, rfl⟩ : ∃ k : Nat, tree = (k : Int) := ⟨tree.toNat, by omega⟩
    have hk : k < t.length := by omega
    have hrow := ht.below hXB
    obtain ⟨b, off, rfl, _⟩ := hrow.place (by omega)
    have c1 := hrow.cell hk
    have hm := hrow.each k hk
    have ik : (0 : Int) ≤ (k : Int) := by omega
    have nk : (k : Int) < (t.length : Int) := by omega
    have hmm := hm.many
    have hmc := hm.row.1
    have HOP : Hid (opT t k bridge port = if 0 ≤ bridge ∧ bridge ≤ ((tat t k).l.length : Int) - 1 then opM (mat (tat t k).l bridge.toNat) port else false) := by
      show (if (0 ≤ (k : Int) ∧ (k : Int) ≤ (t.length : Int) - 1) ∧ (0 ≤ bridge ∧ bridge ≤ ((tat t ((k : Int)).toNat).l.length : Int) - 1) then opM (mat (tat t ((k : Int)).toNat).l bridge.toNat) port else false) = _
      rw [Int.toNat_natCast]
      by_cases z : 0 ≤ bridge ∧ bridge ≤ ((tat t k).l.length : Int) - 1
      · rw [if_pos ⟨h1, z⟩, if_pos z]
      · rw [if_neg (fun q => z q.2), if_neg z]
    generalize tat t k = x at *
    by_cases h2 : 0 ≤ bridge ∧ bridge ≤ (x.l.length : Int) - 1
    · obtain ⟨i, rfl⟩ : ∃ i : Nat, bridge = (i : Int) := ⟨bridge.toNat, by omega⟩
      have hi : i < x.l.length := by omega
      obtain ⟨xa, xc, xl⟩ := x
      simp only at *
      obtain ⟨b2, off2, rfl, _⟩ := hm.place (by omega)
      obtain ⟨d0, d1, d2, d3, d4, d5, d6, d7, d8⟩ := hm.cells hi
      have hmi := hm.each i hi
      have ii : (0 : Int) ≤ (i : Int) := by omega
      have ni : (i : Int) < (xl.length : Int) := by omega
      rw [Int.toNat_natCast, if_pos h2] at HOP
      generalize mat xl i = m at *
      obtain ⟨Y, HY⟩ : ∃ Y, Hid (Y = X.alloc (.cells #[.int .u64 m.md.v.root, .int .i64 m.md.v.cost, .int .u64 m.md.v.bridge, .int .i64 m.md.v.port, .int .i64 m.md.age, .int .i64 m.md.rp, .slice m.po m.ports.length m.pc, .slice m.ro m.roles.length m.rc, .slice m.co m.calm.length m.cc] 66)) := ⟨_, rfl⟩
      have hYB : Below X.heap.size X Y := by rw [HY.out]; exact below_alloc1 _ _
      have hY0 : Y.heap[X.heap.size]? = some (.cells #[.int .u64 m.md.v.root, .int .i64 m.md.v.cost, .int .u64 m.md.v.bridge, .int .i64 m.md.v.port, .int .i64 m.md.age, .int .i64 m.md.rp, .slice m.po m.ports.length m.pc, .slice m.ro m.roles.length m.rc, .slice m.co m.calm.length m.cc] 66 (0, 0)) := by rw [HY.out]; exact heap_alloc_last _ _
      have y6 : Y.cell? ⟨X.heap.size, 6, none⟩ = some (.slice m.po m.ports.length m.pc) := cell_of_row Y _ 6 _ _ _ hY0
      have y8 : Y.cell? ⟨X.heap.size, 8, none⟩ = some (.slice m.co m.calm.length m.cc) := cell_of_row Y _ 8 _ _ _ hY0
      have hXs : X.heap.size = w.heap.size + 1 := by rw [HX.out]; simp
      rw [hXs] at y8
      have HIX : Hid (Calls Tryz.prog 38 #[.slice m.po m.ports.length m.pc, .int .i64 port] Y fun e w' => e = .returned (.int .i64 (Bk.idx m.ports port m.ports.length)) ∧ w' = Y) := bindex_any m.po m.pc m.ports port Y hmi.pn (hmi.ports.below hYB)
      have HWY : Hid (Below w.heap.size w Y) := hXB.trans (hYB.mono hXB.size)
      have hcn := hmi.cn
      have hco := hmi.calm.below hYB
      have hcc := hco.1
      have HM : Hid (opM m port = if 0 ≤ Bk.idx m.ports port m.ports.length ∧ Bk.idx m.ports port m.ports.length ≤ (m.calm.length : Int) - 1 then decide (50 ≤ m.calm.getD (Bk.idx m.ports port m.ports.length).toNat 0) else false) := rfl
      generalize Bk.idx m.ports port m.ports.length = ix at *
      rw [HX.out] at c0 c1 d0 d1 d2 d3 d4 d5 d6 d7 d8
      have z6 := y6
      rw [HY.out, HX.out] at z6
      clear hrow hm hmi hXB hX0 hYB hY0 ht
      go_enter Tryz.func18, Tryz.ntmps18
      go_wp2_with fail
      refine (vwithin_any _ _ _ _).mono ?_
      rintro e w1 ⟨rfl, rfl⟩
      rw [decide_eq_true h1]
      go_wp2_with fail
      refine (vwithin_any _ _ _ _).mono ?_
      rintro e w1 ⟨rfl, rfl⟩
      rw [decide_eq_true h2]
      go_wp2_with fail
      rw [← HX.out, ← HY.out]
      refine HIX.out.mono ?_
      rintro e w1 ⟨rfl, rfl⟩
      clear c0 c1 d0 d1 d2 d3 d4 d5 d6 d7 d8 HIX z6
      by_cases h3 : 0 ≤ ix ∧ ix ≤ (m.calm.length : Int) - 1
      · obtain ⟨j, rfl⟩ : ∃ j : Nat, ix = (j : Int) := ⟨ix.toNat, by omega⟩
        have hj : j < m.calm.length := by omega
        obtain ⟨b3, off3, e3, _⟩ := hco.place (by omega)
        rw [e3] at hco y8
        have d9 := hco.cell hj
        have jj : (0 : Int) ≤ (j : Int) := by omega
        have nj : (j : Int) < (m.calm.length : Int) := by omega
        rw [Int.toNat_natCast, if_pos h3] at HM
        clear hco
        go_wp2_with fail
        refine (vwithin_any _ _ _ _).mono ?_
        rintro e w1 ⟨rfl, rfl⟩
        rw [decide_eq_true h3]
        go_wp2_with fail
        go_ret
        exact ⟨by rw [HOP.out, HM.out]; first | rfl | simp [hj], HWY.out⟩
      · rw [if_neg h3] at HM
        clear hco
        go_wp2_with fail
        refine (vwithin_any _ _ _ _).mono ?_
        rintro e w1 ⟨rfl, rfl⟩
        rw [decide_eq_false h3]
        go_wp2_with fail
        go_ret
        exact ⟨by rw [HOP.out, HM.out]; rfl, HWY.out⟩
    · rw [if_neg h2] at HOP
      have HWX : Hid (Below w.heap.size w X) := hXB
      rw [HX.out] at c0 c1
      clear hrow hm hXB hX0 ht
      go_enter Tryz.func18, Tryz.ntmps18
      go_wp2_with fail
      refine (vwithin_any _ _ _ _).mono ?_
      rintro e w1 ⟨rfl, rfl⟩
      rw [decide_eq_true h1]
      go_wp2_with fail
      refine (vwithin_any _ _ _ _).mono ?_
      rintro e w1 ⟨rfl, rfl⟩
      rw [decide_eq_false h2]
      go_wp2_with fail
      rw [← HX.out]
      go_ret
      exact ⟨by rw [HOP.out]; rfl, HWX.out⟩
  · have HOP : Hid (opT t tree bridge port = false) := if_neg (fun q => h1 q.1)
    have HWX : Hid (Below w.heap.size w X) := hXB
    rw [HX.out] at c0
    clear hXB hX0 ht
    go_enter Tryz.func18, Tryz.ntmps18
    go_wp2_with fail
    refine (vwithin_any _ _ _ _).mono ?_
    rintro e w1 ⟨rfl, rfl⟩
    rw [decide_eq_false h1]
    go_wp2_with fail
    rw [← HX.out]
    go_ret
    exact ⟨by rw [HOP.out]; rfl, HWX.out⟩
end Go.Proofs.YtaneiffnhphkhaaGreatDoor
