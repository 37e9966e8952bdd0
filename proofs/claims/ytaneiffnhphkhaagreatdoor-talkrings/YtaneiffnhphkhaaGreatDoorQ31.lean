/- Plain: which ports forward: behind so many ticks just those that must; never a ring -/
import Derived.Test.YtaneiffnhphkhaaGreatDoorQ19
import Derived.Test.YtaneiffnhphkhaaGreatDoorQ30
import Derived.Test.YtaneiffnhphkhaaGreatDoorQ10
import Derived.Test.YtaneiffnhphkhaaGreatDoorQ14
import Derived.Deep.Slices
import Derived.SizedLaws
namespace Go.Proofs.YtaneiffnhphkhaaGreatDoor
open Go.ChangeShapes Go.WideShapes Go.ChangeAt Go.RowKit
open Pl (Br Net Pc Lk En St)
theorem cellsNt : Tryz.prog.cellsOf 25 = 2 := by kernel_rfl
theorem cellsBg : Tryz.prog.cellsOf 74 = 5 := by kernel_rfl
theorem cellsLk : Tryz.prog.cellsOf 83 = 6 := by kernel_rfl
theorem bytesLk : Tryz.prog.bytesOf 83 = 48 := by kernel_rfl
theorem plist2 {α : Type} {l : List α} (h : l.length = 2) : ∃ c0 c1, l = [c0, c1] := by
 match l, h with
 | [c0, c1], _ => exact ⟨c0, c1, rfl⟩
theorem plist3 {α : Type} {l : List α} (h : l.length = 3) : ∃ c0 c1 c2, l = [c0, c1, c2] := by
 match l, h with
 | [c0, c1, c2], _ => exact ⟨c0, c1, c2, rfl⟩
theorem plist5 {α : Type} {l : List α} (h : l.length = 5) : ∃ c0 c1 c2 c3 c4, l = [c0, c1, c2, c3, c4] := by
 match l, h with
 | [c0, c1, c2, c3, c4], _ => exact ⟨c0, c1, c2, c3, c4, rfl⟩
theorem plist6 {α : Type} {l : List α} (h : l.length = 6) : ∃ c0 c1 c2 c3 c4 c5, l = [c0, c1, c2, c3, c4, c5] := by
 match l, h with
 | [c0, c1, c2, c3, c4, c5], _ => exact ⟨c0, c1, c2, c3, c4, c5, rfl⟩
theorem rows_cell {α : Type} [Inhabited α] {H : Type} {enc : TypeId × Value → H} {W : World} {t e : TypeId} {k : Nat} (hk : 0 < k) (ht : Tryz.prog.underlying t = some (.slice e)) (hc : Tryz.prog.cellsOf e = k) (C : α → Nat → Value) (Q : α → Prop)
  (elem : ∀ fuel cs x, cs.length = k → DataW.trod enc Tryz.prog W 0 (fun _ => true) true fuel e cs = some x → ∃ a : α, (∀ j, j < k → cs[j]? = some (C a j)) ∧ Q a)
  {v : Value} {fuel : Nat} {x : DataW H × List MemPlace} (hf : DataW.trod enc Tryz.prog W 0 (fun _ => true) true fuel t [v] = some x) :
  ∃ (ao : Option Addr) (n cap : Nat) (f : Nat → α), v = .slice ao n cap ∧ CRow W ao n cap k (fun i => C (f i)) ∧ NilOk ao n cap ∧ n ≤ 9223372036854775807 ∧ ∀ i, i < n → Q (f i) := by
 rcases Deep.open_slice ht hf with ⟨hcs, _⟩ | ⟨a, len, cap, m, q, D, Pl, hcs, _, hl, hm, hmm, _, hx⟩
 ·simp at hcs
  subst hcs
  exact ⟨none, 0, 0, fun _ => default, rfl, CRow.none _ _ _ _ _, fun _ => ⟨rfl, rfl⟩, by omega, fun i hi => absurd hi (by omega)⟩
 ·simp at hcs
  subst hcs
  rw [if_pos rfl] at hmm
  have each : ∀ i, i < len → ∃ t : α, (∀ j, j < k → W.cell? (a.add (i * k + j)) = some (C t j)) ∧ Q t := by
   intro i hi
   obtain ⟨cs', h1, h2⟩ := hx i (by omega)
   rw [hc] at h1
   obtain ⟨_, hlen, hcell⟩ := World.cells?_some h1
   obtain ⟨t, h3, h4⟩ := elem _ _ _ hlen h2
   refine ⟨t, fun j hj => ?_, h4⟩
   have kj := hcell j (by omega)
   rw [Deep.add_add] at kj
   rw [kj]
   exact h3 j hj
  obtain ⟨f, hq⟩ := Deep.choose_lt each
  refine ⟨some a, len, cap, f, rfl, ⟨hl, fun hp => ?_⟩, (fun e => by cases e), by unfold maxLen at hm; omega, fun i hi => (hq i hi).2⟩
  obtain ⟨b, off, spot⟩ := a
  have hspot : spot = none := by
   have h0 := (hq 0 (by omega)).1 0 (by omega)
   simpa [Addr.add] using World.cell?_spot h0
  subst hspot
  have hc : ∀ i, i < len → ∀ j, j < k → _ := fun i hi j hj => (hq i hi).1 j hj
  simp only [add_row] at hc
  refine ⟨b, off, rfl, block_lt_of_cell (hc 0 hp 0 hk), fun i hi j hj => ?_⟩
  have := hc i hi j hj
  rw [← Nat.add_assoc] at this
  exact this
set_option maxRecDepth 100000 in
theorem ints_cell {H : Type} {enc : TypeId × Value → H} {W : World} {v : Value} {fuel : Nat} {x : DataW H × List MemPlace}
  (hf : DataW.trod enc Tryz.prog W 0 (fun _ => true) true fuel 59 [v] = some x) :
  ∃ (ao : Option Addr) (n cap : Nat) (f : Nat → Int), v = .slice ao n cap ∧ IRow W ao n cap f ∧ NilOk ao n cap ∧ n ≤ 9223372036854775807 := by
 obtain ⟨ao, n, cap, f, h1, h2, h3, h4, _⟩ := rows_cell (by omega) Tryz.underlying59 cellsInt (fun (x : Int) _ => .int .i64 x) (fun _ => True) (fun fuel cs x hl h => by
  obtain ⟨y, e, _, _⟩ := DataW.trod_int Tryz.underlying3 h
  exact ⟨y, fun j hj => by
   obtain rfl : j = 0 := by omega
   rw [e]; rfl, trivial⟩) hf
 exact ⟨ao, n, cap, f, h1, h2, h3, h4⟩
set_option maxRecDepth 100000 in
theorem links_cell {H : Type} {enc : TypeId × Value → H} {W : World} {v : Value} {fuel : Nat} {x : DataW H × List MemPlace}
  (hf : DataW.trod enc Tryz.prog W 0 (fun _ => true) true fuel 23 [v] = some x) :
  ∃ (ao : Option Addr) (n cap : Nat) (f : Nat → Lk), v = .slice ao n cap ∧ LRow W ao n cap f ∧ NilOk ao n cap ∧ n ≤ 9223372036854775807 ∧ ∀ i, i < n → (Lit.int .i64 (f i).a).wf = true ∧ (Lit.int .i64 (f i).pa).wf = true ∧ (Lit.int .i64 (f i).b).wf = true ∧ (Lit.int .i64 (f i).pb).wf = true := by
 haveI : Inhabited Lk := ⟨⟨0, 0, 0, 0, 0, false⟩⟩
 refine rows_cell (by omega) Tryz.underlying23 cellsLk lkC (fun l => (Lit.int .i64 l.a).wf = true ∧ (Lit.int .i64 l.pa).wf = true ∧ (Lit.int .i64 l.b).wf = true ∧ (Lit.int .i64 l.pb).wf = true) (fun fuel cs x hl h => ?_) hf
 obtain ⟨c0, c1, c2, c3, c4, c5, rfl⟩ := plist6 hl
 obtain ⟨xs, m, _, _, _, hlen, hfs⟩ := DataW.trod_struct Tryz.underlying83 h
 obtain ⟨y0, y1, y2, y3, y4, y5, rfl⟩ := plist6 (by simpa using hlen)
 obtain ⟨a, e0, _, w0⟩ := DataW.trod_int Tryz.underlying3 (hfs 0 _ rfl)
 obtain ⟨pa, e1, _, w1⟩ := DataW.trod_int Tryz.underlying3 (hfs 1 _ rfl)
 obtain ⟨b, e2, _, w2⟩ := DataW.trod_int Tryz.underlying3 (hfs 2 _ rfl)
 obtain ⟨pb, e3, _, w3⟩ := DataW.trod_int Tryz.underlying3 (hfs 3 _ rfl)
 obtain ⟨co, e4, _, _⟩ := DataW.trod_int Tryz.underlying3 (hfs 4 _ rfl)
 obtain ⟨up, e5, _⟩ := DataW.trod_bool Tryz.underlying4 (hfs 5 _ rfl)
 refine ⟨⟨a, pa, b, pb, co, up⟩, fun j hj => ?_, w0, w1, w2, w3⟩
 rw [one_of e0, one_of e1, one_of e2, one_of e3, one_of e4, one_of e5]
 rcases (by omega : j = 0 ∨ j = 1 ∨ j = 2 ∨ j = 3 ∨ j = 4 ∨ j = 5) with q | q | q | q | q | q <;> subst q <;> rfl
set_option maxRecDepth 100000 in
theorem region_cells {H : Type} {enc : TypeId × Value → H} {W : World} {c0 c1 c2 : Value} {fuel : Nat} {x : DataW H × List MemPlace}
  (hf : DataW.trod enc Tryz.prog W 0 (fun _ => true) true fuel 72 [c0, c1, c2] = some x) :
  ∃ r : Rg.Reg, c0 = .string r.s ∧ c1 = .int .i64 r.rev ∧ c2 = .slice r.ao r.n r.cap ∧ r.at' W ∧ r.n ≤ 9223372036854775807 := by
 obtain ⟨xs, m, _, _, _, hlen, hfs⟩ := DataW.trod_struct Tryz.underlying72 hf
 obtain ⟨y0, y1, y2, rfl⟩ := plist3 (by simpa using hlen)
 have g2 := hfs 2 _ rfl
 obtain ⟨s, e0, _⟩ := DataW.trod_string Tryz.underlying9 (hfs 0 _ rfl)
 obtain ⟨rev, e1, _, _⟩ := DataW.trod_int Tryz.underlying3 (hfs 1 _ rfl)
 obtain ⟨ao, n, cap, vs, ts, e2, hr, hn⟩ := ways_cell g2
 exact ⟨⟨s, rev, ao, n, cap, vs, ts⟩, one_of e0, one_of e1, e2, hr, hn⟩
set_option maxRecDepth 100000 in
theorem bridges_cell {H : Type} {enc : TypeId × Value → H} {W : World} {v : Value} {fuel : Nat} {x : DataW H × List MemPlace}
  (hf : DataW.trod enc Tryz.prog W 0 (fun _ => true) true fuel 22 [v] = some x) :
  ∃ (ao : Option Addr) (n cap : Nat) (f : Nat → Br), v = .slice ao n cap ∧ BRow W ao n cap f ∧ NilOk ao n cap ∧ n ≤ 9223372036854775807 ∧ ∀ i, i < n → (f i).at' W ∧ (Lit.int .u64 (f i).addr).wf = true := by
 haveI : Inhabited Br := ⟨⟨0, none, 0, 0, fun _ => 0, ⟨⟨#[]⟩, 0, none, 0, 0, fun _ => 0, fun _ => 0⟩⟩⟩
 refine rows_cell (by omega) Tryz.underlying22 cellsBg brC (fun b => b.at' W ∧ (Lit.int .u64 b.addr).wf = true) (fun fuel cs x hl h => ?_) hf
 obtain ⟨c0, c1, c2, c3, c4, rfl⟩ := plist5 hl
 obtain ⟨xs, m, _, _, _, hlen, hfs⟩ := DataW.trod_struct Tryz.underlying74 h
 obtain ⟨y0, y1, y2, rfl⟩ := plist3 (by simpa using hlen)
 obtain ⟨a, e0, _, w0⟩ := DataW.trod_int Tryz.underlying56 (hfs 0 _ rfl)
 have g1 := hfs 1 _ rfl
 have g2 := hfs 2 _ rfl
 obtain ⟨pao, pn, pcap, pv, e1, hp, _, hpn⟩ := ints_cell g1
 obtain ⟨r, e2, e3, e4, hr, hn⟩ := region_cells g2
 refine ⟨⟨a, pao, pn, pcap, pv, r⟩, fun j hj => ?_, ⟨hp, hr, hpn, hn⟩, w0⟩
 rw [one_of e0, e1, e2, e3, e4]
 rcases (by omega : j = 0 ∨ j = 1 ∨ j = 2 ∨ j = 3 ∨ j = 4) with q | q | q | q | q <;> subst q <;> rfl
set_option maxRecDepth 100000 in
theorem links_many {H : Type} {enc : TypeId × Value → H} {W : World} {ao : Option Addr} {n cap : Nat} {fuel : Nat} {x : DataW H × List MemPlace}
  (hf : DataW.trod enc Tryz.prog W 0 (fun _ => true) true fuel 23 [.slice ao n cap] = some x) (hz : (x.1.weights Tryz.prog 23).all (· ≤ reachBytes) = true) : n * 48 ≤ reachBytes := by
 rcases Deep.open_slice Tryz.underlying23 hf with ⟨hcs, _⟩ | ⟨a, len, cap', m, k, D, Pl, hcs, _, hl, hm, hmm, hx, _⟩
 ·simp at hcs
  omega
 ·simp at hcs
  obtain ⟨_, rfl, rfl⟩ := hcs
  rw [if_pos rfl] at hmm
  rw [hx] at hz
  unfold DataW.weights at hz
  rw [Tryz.underlying23] at hz
  simp only [List.all_cons, Bool.and_eq_true, decide_eq_true_eq, List.length_map, List.length_range, bytesLk] at hz
  have := hz.1
  omega
set_option maxRecDepth 100000 in
theorem net_in {H : Type} {enc : TypeId × Value → H} {W : World} {base : Nat} {v : Value} {D : DataW H} {ps : List MemPlace}
  (hv : Value.okWide Tryz.prog W .any base 25 v) (h : DataW.Trod enc Tryz.prog W 0 (fun _ => true) true 25 v D ps) :
  ∃ n : Net, v = n.val ∧ n.at' W ∧ n.Wf ∧ ((D.weights Tryz.prog 25).all (· ≤ reachBytes) = true → n.L * 48 ≤ reachBytes) := by
 obtain ⟨cs, rfl, hcs⟩ := okWide_struct Tryz.underlying25 hv
 rw [cellsNt] at hcs
 obtain ⟨l⟩ := cs
 obtain ⟨c0, c1, rfl⟩ := plist2 (by simpa using hcs)
 obtain ⟨fuel, hf⟩ := h
 obtain ⟨xs, m, _, hxy, _, hlen, hfs⟩ := DataW.trod_struct Tryz.underlying25 hf
 obtain ⟨y0, y1, rfl⟩ := plist2 (by simpa using hlen)
 have g0 := hfs 0 _ rfl
 have g1 := hfs 1 _ rfl
 simp only [Value.cells] at g0 g1
 obtain ⟨bao, K, bcap, bs, rfl, hb, _, hbn, hb2⟩ := bridges_cell g0
 obtain ⟨lao, L, lcap, ls, rfl, hl, _, hln, hl2⟩ := links_cell g1
 refine ⟨⟨bao, K, bcap, bs, lao, L, lcap, ls⟩, rfl, ⟨hb, fun i hi => (hb2 i hi).1, hl, hbn, hln⟩, ⟨fun i hi => (hb2 i hi).2, hl2⟩, fun hz => ?_⟩
 simp only [Prod.mk.injEq] at hxy
 rw [hxy.1] at hz
 unfold DataW.weights at hz
 rw [Tryz.underlying25] at hz
 simp only [List.map_cons, List.map_nil, DataW.weightsEach, List.all_append, Bool.and_eq_true] at hz
 exact links_many g1 hz.2.1
end Go.Proofs.YtaneiffnhphkhaaGreatDoor
namespace Go.Proofs.YtaneiffnhphkhaaGreatDoor
open Go.ChangeShapes Go.WideShapes Go.ChangeAt Go.RowKit
open Tk (Dn)
theorem cellsDo : Tryz.prog.cellsOf 45 = 4 := by kernel_rfl
theorem bytesDo : Tryz.prog.bytesOf 45 = 32 := by kernel_rfl
theorem plist4 {α : Type} {l : List α} (h : l.length = 4) : ∃ c0 c1 c2 c3, l = [c0, c1, c2, c3] := by
 match l, h with
 | [c0, c1, c2, c3], _ => exact ⟨c0, c1, c2, c3, rfl⟩
set_option maxRecDepth 100000 in
theorem dos_cell {H : Type} {enc : TypeId × Value → H} {W : World} {v : Value} {fuel : Nat} {x : DataW H × List MemPlace}
  (hf : DataW.trod enc Tryz.prog W 0 (fun _ => true) true fuel 26 [v] = some x) :
  ∃ (ao : Option Addr) (n cap : Nat) (ds : Nat → Dn), v = .slice ao n cap ∧ DRow W ao n cap ds ∧ NilOk ao n cap ∧ n ≤ 9223372036854775807 ∧ ∀ i, i < n → True := by
 haveI : Inhabited Dn := ⟨⟨0, 0, 0, 0⟩⟩
 refine rows_cell (by omega) Tryz.underlying26 cellsDo dnC (fun _ => True) (fun fuel cs x hl h => ?_) hf
 obtain ⟨c0, c1, c2, c3, rfl⟩ := plist4 hl
 obtain ⟨xs, m, _, _, _, hlen, hfs⟩ := DataW.trod_struct Tryz.underlying45 h
 obtain ⟨y0, y1, y2, y3, rfl⟩ := plist4 (by simpa using hlen)
 obtain ⟨a, e0, _, _⟩ := DataW.trod_int Tryz.underlying3 (hfs 0 _ rfl)
 obtain ⟨b, e1, _, _⟩ := DataW.trod_int Tryz.underlying3 (hfs 1 _ rfl)
 obtain ⟨c, e2, _, _⟩ := DataW.trod_int Tryz.underlying3 (hfs 2 _ rfl)
 obtain ⟨d, e3, _, _⟩ := DataW.trod_int Tryz.underlying3 (hfs 3 _ rfl)
 refine ⟨⟨a, b, c, d⟩, fun j hj => ?_, trivial⟩
 rw [one_of e0, one_of e1, one_of e2, one_of e3]
 rcases (by omega : j = 0 ∨ j = 1 ∨ j = 2 ∨ j = 3) with q | q | q | q <;> subst q <;> rfl
set_option maxRecDepth 100000 in
theorem dos_many {H : Type} {enc : TypeId × Value → H} {W : World} {ao : Option Addr} {n cap : Nat} {fuel : Nat} {x : DataW H × List MemPlace}
  (hf : DataW.trod enc Tryz.prog W 0 (fun _ => true) true fuel 26 [.slice ao n cap] = some x) (hz : (x.1.weights Tryz.prog 26).all (· ≤ reachBytes) = true) : n * 32 ≤ reachBytes := by
 rcases Deep.open_slice Tryz.underlying26 hf with ⟨hcs, _⟩ | ⟨a, len, cap', m, k, D, Pl, hcs, _, hl, hm, hmm, hx, _⟩
 ·simp at hcs
  omega
 ·simp at hcs
  obtain ⟨_, rfl, rfl⟩ := hcs
  rw [if_pos rfl] at hmm
  rw [hx] at hz
  unfold DataW.weights at hz
  rw [Tryz.underlying26] at hz
  simp only [List.all_cons, Bool.and_eq_true, decide_eq_true_eq, List.length_map, List.length_range, bytesDo] at hz
  have := hz.1
  omega
set_option maxRecDepth 100000 in
theorem dos_in {H : Type} {enc : TypeId × Value → H} {W : World} {base : Nat} {v : Value} {D : DataW H} {ps : List MemPlace}
  (hv : Value.okWide Tryz.prog W .any base 26 v) (h : DataW.Trod enc Tryz.prog W 0 (fun _ => true) true 26 v D ps) :
  ∃ (ao : Option Addr) (n cap : Nat) (ds : Nat → Dn), v = .slice ao n cap ∧ DRow W ao n cap ds ∧ NilOk ao n cap ∧ n ≤ 9223372036854775807 ∧ ((D.weights Tryz.prog 26).all (· ≤ reachBytes) = true → n * 32 ≤ reachBytes) := by
 obtain ⟨a0, len0, cap0, rfl⟩ := okWide_slice Tryz.underlying26 hv
 obtain ⟨fuel, hf⟩ := h
 obtain ⟨ao, n, cap, ds, e, h1, h2, h3, _⟩ := dos_cell hf
 have e2 := e
 injection e2 with e3 e4 e5
 subst e3 e4 e5
 exact ⟨_, _, _, ds, rfl, h1, h2, h3, fun hz => dos_many hf hz⟩
end Go.Proofs.YtaneiffnhphkhaaGreatDoor
namespace Go.Proofs.YtaneiffnhphkhaaGreatDoor
namespace Pl
open Vc (V Of)
def lab (es : Nat → Nat × Nat) : Nat → (Nat → Nat)
 | 0 => fun i => i
 | k + 1 => fun i => if lab es k i = lab es k (es k).1 ∨ lab es k i = lab es k (es k).2 then min (lab es k (es k).1) (lab es k (es k).2) else lab es k i
def ring (es : Nat → Nat × Nat) : Nat → Bool
 | 0 => false
 | k + 1 => ring es k || decide (lab es k (es k).1 = lab es k (es k).2)
theorem lab_edge (es : Nat → Nat × Nat) : ∀ k j, j < k → lab es k (es j).1 = lab es k (es j).2
 | 0, j, h => by omega
 | k + 1, j, h => by
  simp only [lab]
  by_cases e : j = k
  ·subst e
   rw [if_pos (Or.inl rfl), if_pos (Or.inr rfl)]
  ·rw [lab_edge es k j (by omega)]
theorem lab_hit {es : Nat → Nat × Nat} {k i : Nat} (h : lab es k i = lab es k (es k).1 ∨ lab es k i = lab es k (es k).2) : lab es (k + 1) i = min (lab es k (es k).1) (lab es k (es k).2) := if_pos h
theorem lab_miss {es : Nat → Nat × Nat} {k i : Nat} (h : ¬ (lab es k i = lab es k (es k).1 ∨ lab es k i = lab es k (es k).2)) : lab es (k + 1) i = lab es k i := if_neg h
theorem lab_min (es : Nat → Nat × Nat) : ∀ k i, lab es k i ≤ i ∧ lab es k (lab es k i) = lab es k i
 | 0, i => ⟨Nat.le_refl _, rfl⟩
 | k + 1, i => by
  obtain ⟨h1, h2⟩ := lab_min es k i
  have ha := (lab_min es k (es k).1).2
  have hb := (lab_min es k (es k).2).2
  by_cases h : lab es k i = lab es k (es k).1 ∨ lab es k i = lab es k (es k).2
  ·rw [lab_hit h]
   refine ⟨by rcases h with h | h <;> omega, lab_hit ?_⟩
   rcases Nat.le_total (lab es k (es k).1) (lab es k (es k).2) with q | q
   ·rw [Nat.min_eq_left q]; exact Or.inl ha
   ·rw [Nat.min_eq_right q]; exact Or.inr hb
  ·rw [lab_miss h]
   exact ⟨h1, (lab_miss (by rw [h2]; exact h)).trans h2⟩
theorem lab_equiv (es : Nat → Nat × Nat) {R : Nat → Nat → Prop} (hr : ∀ u, R u u) (hs : ∀ u v, R u v → R v u) (ht : ∀ u v x, R u v → R v x → R u x) : ∀ k, (∀ j, j < k → R (es j).1 (es j).2) → ∀ u v, lab es k u = lab es k v → R u v
 | 0, _, u, v, h => by simp only [lab] at h; subst h; exact hr u
 | k + 1, hR, u, v, h => by
  have ih := lab_equiv es hr hs ht k (fun j hj => hR j (by omega))
  have hk := hR k (by omega)
  simp only [lab] at h
  have toE : ∀ x, lab es k x = lab es k (es k).1 ∨ lab es k x = lab es k (es k).2 → R x (es k).1 := fun x hx => by
   rcases hx with hx | hx
   ·exact ih _ _ hx
   ·exact ht _ _ _ (ih _ _ hx) (hs _ _ hk)
  by_cases h1 : lab es k u = lab es k (es k).1 ∨ lab es k u = lab es k (es k).2 <;> by_cases h2 : lab es k v = lab es k (es k).1 ∨ lab es k v = lab es k (es k).2
  ·exact ht _ _ _ (toE u h1) (hs _ _ (toE v h2))
  ·rw [if_pos h1, if_neg h2] at h
   exfalso
   apply h2
   rcases Nat.le_total (lab es k (es k).1) (lab es k (es k).2) with q | q
   ·rw [Nat.min_eq_left q] at h; exact Or.inl h.symm
   ·rw [Nat.min_eq_right q] at h; exact Or.inr h.symm
  ·rw [if_neg h1, if_pos h2] at h
   exfalso
   apply h1
   rcases Nat.le_total (lab es k (es k).1) (lab es k (es k).2) with q | q
   ·rw [Nat.min_eq_left q] at h; exact Or.inl h
   ·rw [Nat.min_eq_right q] at h; exact Or.inr h
  ·rw [if_neg h1, if_neg h2] at h
   exact ih u v h
theorem lab_same (es fs : Nat → Nat × Nat) (k m : Nat) (h1 : ∀ j, j < k → lab fs m (es j).1 = lab fs m (es j).2) (h2 : ∀ j, j < m → lab es k (fs j).1 = lab es k (fs j).2) (i : Nat) : lab es k i = lab fs m i := by
 have a : ∀ u v, lab es k u = lab es k v → lab fs m u = lab fs m v := lab_equiv es (R := fun u v => lab fs m u = lab fs m v) (fun _ => rfl) (fun _ _ h => h.symm) (fun _ _ _ h q => h.trans q) k h1
 have b : ∀ u v, lab fs m u = lab fs m v → lab es k u = lab es k v := lab_equiv fs (R := fun u v => lab es k u = lab es k v) (fun _ => rfl) (fun _ _ h => h.symm) (fun _ _ _ h q => h.trans q) m h2
 have x1 := lab_min es k i
 have x2 := lab_min fs m i
 have y1 := a _ _ x1.2
 have y2 := b _ _ x2.2
 have z1 := (lab_min fs m (lab es k i)).1
 have z2 := (lab_min es k (lab fs m i)).1
 omega
section
variable {K L : Nat} {ls : Nat → Lk} {ids : Nat → Int} {lv : Nat → Bool}
def isOn (ids : Nat → Int) (ls : Nat → Lk) (lv : Nat → Bool) (K L k : Nat) : Prop := (ls k).pa = (says ids ls lv K L (ls k).a.toNat).rp ∨ (ls k).pb = (says ids ls lv K L (ls k).b.toNat).rp
def edge (ls : Nat → Lk) (k : Nat) : Nat × Nat := ((ls k).a.toNat, (ls k).b.toNat)
inductive Sub (ids : Nat → Int) (ls : Nat → Lk) (lv : Nat → Bool) (K L c : Nat) : Nat → Prop
 | self : Sub ids ls lv K L c c
 | up (v : Nat) (e : En) : v < K → e ∈ ends ls lv L v → e.live = true → e.port = (says ids ls lv K L v).rp → Sub ids ls lv K L c e.other.toNat → Sub ids ls lv K L c v
theorem up_cost (R : RightL K L ls) (hK : K ≤ 12) {v : Nat} (hv : v < K) {e : En} (he : e ∈ ends ls lv L v) (hl : e.live = true) (hp : e.port = (says ids ls lv K L v).rp) :
  (says ids ls lv K L v).v.cost = (says ids ls lv K L e.other.toNat).v.cost + e.cost ∧ (says ids ls lv K L v).v.root = (says ids ls lv K L e.other.toNat).v.root ∧ 1 ≤ e.cost ∧ e.other.toNat < K := by
 have G := good R hK ids lv
 obtain ⟨g1, g2, _⟩ := G.lt v hv e he hl
 rcases fin_port G hv with ⟨h, _⟩ | ⟨_, _, q, q1, q2, q3, q4, q5, _⟩
 ·exfalso
  change (says ids ls lv K L v).rp = -1 at h
  obtain ⟨k, hk, hh⟩ := ends_mem.1 he
  obtain ⟨_, _, _, o4, o5, _⟩ := R.ok k hk
  rcases hh with ⟨_, rfl⟩ | ⟨_, rfl⟩ <;> simp only at hp <;> omega
 ·have := ends_one R lv he q1 (by rw [q3]; exact hp)
  subst this
  exact ⟨q5, q4, g2.1, toNat_lt g1⟩
theorem Sub.cost (R : RightL K L ls) (hK : K ≤ 12) {c v : Nat} (h : Sub ids ls lv K L c v) : (says ids ls lv K L c).v.cost ≤ (says ids ls lv K L v).v.cost := by
 induction h with
 | self => exact Int.le_refl _
 | up v e hv he hl hp _ ih => have := up_cost R hK hv he hl hp; omega
theorem Sub.iff (R : RightL K L ls) {c v : Nat} (hv : v < K) {e : En} (he : e ∈ ends ls lv L v) (hl : e.live = true) (hp : e.port = (says ids ls lv K L v).rp) (hne : v ≠ c) : Sub ids ls lv K L c v ↔ Sub ids ls lv K L c e.other.toNat := by
 constructor
 ·intro h
  cases h with
  | self => exact absurd rfl hne
  | up _ e' _ he' hl' hp' h =>
   have := ends_one R lv he he' (by rw [hp, hp'])
   rw [this]
   exact h
 ·intro h
  exact Sub.up v e hv he hl hp h
theorem child_one (R : RightL K L ls) {k m : Nat} (hk : k < L) (hm : m < L) (h : isEnd (ls k) (ls m).a (ls m).pa = true ∨ isEnd (ls k) (ls m).b (ls m).pb = true) : k = m := by
 rcases Nat.lt_trichotomy k m with q | q | q
 ·obtain ⟨h1, h2⟩ := R.one k m q hm
  rw [h1, h2] at h
  simp at h
 ·exact q
 ·obtain ⟨h1, h2⟩ := R.one m k q hk
  unfold isEnd at h h1 h2
  simp only [Bool.or_eq_false_iff, decide_eq_false_iff_not, Bool.or_eq_true, decide_eq_true_eq] at h h1 h2
  rcases h with (⟨a, b⟩ | ⟨a, b⟩) | (⟨a, b⟩ | ⟨a, b⟩)
  ·exact absurd ⟨a.symm, b.symm⟩ h1.1
  ·exact absurd ⟨a.symm, b.symm⟩ h2.1
  ·exact absurd ⟨a.symm, b.symm⟩ h1.2
  ·exact absurd ⟨a.symm, b.symm⟩ h2.2
theorem isEnd_a (l m : Lk) (h1 : l.a = m.a) (h2 : l.pa = m.pa) : isEnd l m.a m.pa = true := by simp [isEnd, h1, h2]
theorem isEnd_b (l m : Lk) (h1 : l.b = m.b) (h2 : l.pb = m.pb) : isEnd l m.b m.pb = true := by simp [isEnd, h1, h2]
theorem no_ring (R : RightL K L ls) (hK : K ≤ 12) {n : Nat} {on : Nat → Nat} (hon : ∀ j, j < n → on j < L ∧ lv (on j) = true ∧ isOn ids ls lv K L (on j)) (hne : ∀ i j, i < j → j < n → on i ≠ on j) : ring (fun j => edge ls (on j)) n = false := by
 have key : ∀ j, j < n → lab (fun j => edge ls (on j)) j (edge ls (on j)).1 ≠ lab (fun j => edge ls (on j)) j (edge ls (on j)).2 := by
  intro j hj he
  obtain ⟨hk, hl, ho⟩ := hon j hj
  obtain ⟨o1, o2, o3, _⟩ := R.ok (on j) hk
  have step : ∀ c, (∀ i, i < j → (Sub ids ls lv K L c (edge ls (on i)).1 ↔ Sub ids ls lv K L c (edge ls (on i)).2)) → (Sub ids ls lv K L c (edge ls (on j)).1 ↔ Sub ids ls lv K L c (edge ls (on j)).2) := fun c hc =>
   lab_equiv (fun j => edge ls (on j)) (R := fun u v => (Sub ids ls lv K L c u ↔ Sub ids ls lv K L c v)) (fun _ => Iff.rfl) (fun _ _ h => h.symm) (fun _ _ _ h q => h.trans q) j hc _ _ he
  rcases ho with ho | ho
  ·have S := step (ls (on j)).a.toNat (fun i hi => by
    obtain ⟨hk', hl', ho'⟩ := hon i (by omega)
    obtain ⟨p1, p2, p3, _⟩ := R.ok (on i) hk'
    have hd := hne i j hi hj
    rcases ho' with ho' | ho'
    ·refine Sub.iff R (by omega) (eA_mem R lv hk') hl' ho' (fun e => hd ?_)
     refine child_one R hk' hk (Or.inl (isEnd_a _ _ (by omega) ?_))
     rw [ho', ho, e]
    ·refine (Sub.iff R (by omega) (eB_mem R lv hk') hl' ho' (fun e => hd ?_)).symm
     refine child_one R hk' hk (Or.inl ?_)
     have : (ls (on i)).pb = (ls (on j)).pa := by rw [ho', ho, e]
     simp [isEnd, this, show (ls (on i)).b = (ls (on j)).a by omega])
   have c1 := (S.1 Sub.self).cost R hK
   have c2 := up_cost R hK (v := (ls (on j)).a.toNat) (by omega) (eA_mem R lv hk) hl ho
   simp only [edge, eA] at c1 c2
   omega
  ·have S := step (ls (on j)).b.toNat (fun i hi => by
    obtain ⟨hk', hl', ho'⟩ := hon i (by omega)
    obtain ⟨p1, p2, p3, _⟩ := R.ok (on i) hk'
    have hd := hne i j hi hj
    rcases ho' with ho' | ho'
    ·refine Sub.iff R (by omega) (eA_mem R lv hk') hl' ho' (fun e => hd ?_)
     refine child_one R hk' hk (Or.inr ?_)
     have : (ls (on i)).pa = (ls (on j)).pb := by rw [ho', ho, e]
     simp [isEnd, this, show (ls (on i)).a = (ls (on j)).b by omega]
    ·refine (Sub.iff R (by omega) (eB_mem R lv hk') hl' ho' (fun e => hd ?_)).symm
     refine child_one R hk' hk (Or.inr (isEnd_b _ _ (by omega) ?_))
     rw [ho', ho, e])
   have c1 := (S.2 Sub.self).cost R hK
   have c2 := up_cost R hK (v := (ls (on j)).b.toNat) (by omega) (eB_mem R lv hk) hl ho
   simp only [edge, eB] at c1 c2
   omega
 have all : ∀ m, m ≤ n → ring (fun j => edge ls (on j)) m = false := by
  intro m
  induction m with
  | zero => intro _; rfl
  | succ m ih =>
   intro hm
   simp only [ring]
   rw [ih (by omega), decide_eq_false (key m (by omega))]
   rfl
 exact all n (Nat.le_refl _)
theorem tree_joins (R : RightL K L ls) (hK : K ≤ 12) (hids : ∀ i j, i < K → j < K → ids i = ids j → i = j) {n m : Nat} {on al : Nat → Nat} (hon : ∀ j, j < n → on j < L ∧ lv (on j) = true ∧ isOn ids ls lv K L (on j)) (hall : ∀ j, j < m → al j < L ∧ lv (al j) = true)
  (on_all : ∀ k, k < L → lv k = true → isOn ids ls lv K L k → ∃ j, j < n ∧ on j = k) (all_all : ∀ k, k < L → lv k = true → ∃ j, j < m ∧ al j = k) (i : Nat) : lab (fun j => edge ls (al j)) m i = lab (fun j => edge ls (on j)) n i := by
 have G := good R hK ids lv
 have root : ∀ (c : Nat) (i : Nat), i < K → (says ids ls lv K L i).v.cost.toNat ≤ c → ∃ r, r < K ∧ ids r = (says ids ls lv K L i).v.root ∧ lab (fun j => edge ls (on j)) n i = lab (fun j => edge ls (on j)) n r := by
  intro c
  induction c with
  | zero =>
   intro i hi hc
   rcases fin_port G hi with ⟨_, h, _⟩ | ⟨_, _, q, q1, q2, q3, q4, q5, _⟩
   ·exact ⟨i, hi, h.symm, rfl⟩
   ·exfalso
    have := up_cost R hK hi q1 q2 q3
    have := fin_cost G this.2.2.2
    change 0 ≤ (says ids ls lv K L _).v.cost ∧ _ at this
    omega
  | succ c ih =>
   intro i hi hc
   rcases fin_port G hi with ⟨_, h, _⟩ | ⟨_, _, q, q1, q2, q3, q4, q5, _⟩
   ·exact ⟨i, hi, h.symm, rfl⟩
   ·obtain ⟨u1, u2, u3, u4⟩ := up_cost R hK hi q1 q2 q3
    have uc := fin_cost G u4
    change 0 ≤ (says ids ls lv K L _).v.cost ∧ _ at uc
    obtain ⟨r, r1, r2, r3⟩ := ih q.other.toNat u4 (by omega)
    refine ⟨r, r1, by rw [r2, u2], ?_⟩
    rw [← r3]
    obtain ⟨k, hk, hh⟩ := ends_mem.1 q1
    rcases hh with ⟨a1, rfl⟩ | ⟨a1, rfl⟩
    ·obtain ⟨j, hj, ej⟩ := on_all k hk q2 (Or.inl (by rw [show (ls k).a.toNat = i by omega]; exact q3))
     have := lab_edge (fun j => edge ls (on j)) n j hj
     simp only [ej, edge] at this
     rw [show (ls k).a.toNat = i by omega] at this
     exact this
    ·obtain ⟨j, hj, ej⟩ := on_all k hk q2 (Or.inr (by rw [show (ls k).b.toNat = i by omega]; exact q3))
     have := lab_edge (fun j => edge ls (on j)) n j hj
     simp only [ej, edge] at this
     rw [show (ls k).b.toNat = i by omega] at this
     exact this.symm
 refine lab_same _ _ m n (fun j hj => ?_) (fun j hj => ?_) i
 ·obtain ⟨hk, hl⟩ := hall j hj
  obtain ⟨o1, o2, _⟩ := R.ok (al j) hk
  obtain ⟨ra, a1, a2, a3⟩ := root _ (ls (al j)).a.toNat (by omega) (Nat.le_refl _)
  obtain ⟨rb, b1, b2, b3⟩ := root _ (ls (al j)).b.toNat (by omega) (Nat.le_refl _)
  have := (says_link R hK ids lv hk hl).1
  have e := hids ra rb a1 b1 (by rw [a2, b2, this])
  show lab (fun j => edge ls (on j)) n (ls (al j)).a.toNat = lab (fun j => edge ls (on j)) n (ls (al j)).b.toNat
  rw [a3, b3, e]
 ·obtain ⟨hk, hl, _⟩ := hon j hj
  obtain ⟨q, hq, eq⟩ := all_all (on j) hk hl
  have := lab_edge (fun j => edge ls (al j)) m q hq
  simp only [eq] at this
  exact this
end
end Pl
namespace Tk
open Vc (V Of)
open Pl (Lk En St fin offs RightL ends)
def Open (c : Cn) (s : Sc) (k i : Nat) (port : Int) : Prop := ∃ j e, (s.E c i)[j]? = some e ∧ e.port = port ∧ 50 ≤ (s.ms k i).calm.getD j 0
theorem map_getD {α : Type} (l : List α) (f : α → Int) {j : Nat} {e : α} (h : l[j]? = some e) : (l.map f).getD j 0 = f e := by
 rw [List.getD_eq_getElem?_getD, List.getElem?_map, h]; rfl
theorem get_lt {α : Type} {l : List α} {j : Nat} {e : α} (h : l[j]? = some e) : j < l.length := (List.getElem?_eq_some_iff.1 h).1
theorem Ok.opens {c : Cn} {s : Sc} {T : Nat} (h : Ok c s T) {t : Nat} (ht : 83 ≤ t) {k : Nat} (hk : k < T) {i : Nat} (hi : i < c.K) {j : Nat} {e : En} (he : (s.E c i)[j]? = some e) :
  50 ≤ ((s.ticks c t).ms k i).calm.getD j 0 ↔ ((s.roles c k i).getD j 0 = 1 ∨ (s.roles c k i).getD j 0 = 2) := by
 have hj := get_lt he
 have hr : ∀ u, 33 ≤ u → (ticksF (s.ids c k) (s.E c) (s.ms k) u i).roles = s.roles c k i := fun u hu => (settledF (h.fine.good _) h.fine.ports (s.ms k) hu hi).2.2
 constructor
 ·intro q
  have := (ticksF_Calm (ids := s.ids c k) (h.fit k hk) (h.calm k hk) t i hi j).2 (by change 50 ≤ _ at q; change 0 < _; exact Int.lt_of_lt_of_le (by decide) q)
  rw [hr t (by omega)] at this
  exact this
 ·intro q
  have := calm_on (ids := s.ids c k) (h.fit k hk) (h.calm k hk) hi hj (t - 50) (fun u hu => by rw [hr u (by omega)]; exact q) 50 (Nat.le_refl _)
  rw [show t - 50 + 50 = t by omega] at this
  exact this
theorem isOn_of {c : Cn} {s : Sc} (h : Fine c s) (k : Nat) {m : Nat} (hm : m < c.L) {ja jb : Nat} {ea eb : En} (ha : (s.E c (s.ls m).a.toNat)[ja]? = some ea) (hb : (s.E c (s.ls m).b.toNat)[jb]? = some eb) (pa : ea.port = (s.ls m).pa) (pb : eb.port = (s.ls m).pb)
  (ra : (s.roles c k (s.ls m).a.toNat).getD ja 0 = 1 ∨ (s.roles c k (s.ls m).a.toNat).getD ja 0 = 2) (rb : (s.roles c k (s.ls m).b.toNat).getD jb 0 = 1 ∨ (s.roles c k (s.ls m).b.toNat).getD jb 0 = 2) :
  s.lv c m = true ∧ Pl.isOn (s.ids c k) s.ls (s.lv c) c.K c.L m := by
 have ea' : ea = Pl.eA (s.ls m) (s.lv c m) := h.ports _ (by have := (h.links.ok m hm).1; omega) _ _ (List.mem_of_getElem? ha) (Pl.eA_mem h.links (s.lv c) hm) pa
 have eb' : eb = Pl.eB (s.ls m) (s.lv c m) := h.ports _ (by have := (h.links.ok m hm).2.1; omega) _ _ (List.mem_of_getElem? hb) (Pl.eB_mem h.links (s.lv c) hm) pb
 unfold Sc.roles at ra rb
 rw [map_getD _ _ ha, ea'] at ra
 rw [map_getD _ _ hb, eb'] at rb
 have hlv : s.lv c m = true := by
  cases q : s.lv c m with
  | true => rfl
  | false =>
   exfalso
   rw [q] at ra
   unfold Pl.roleAt Pl.eA at ra
   rw [if_neg (by simp)] at ra
   omega
 refine ⟨hlv, ?_⟩
 have ids_ne : ∀ i j, i < c.K → j < c.K → s.ids c k i = s.ids c k j → i = j := fun i j hi hj e => by
  apply h.apart i j hi hj
  have h1 := h.addr i hi
  have h2 := h.addr j hj
  unfold Sc.ids at e
  omega
 have key := Pl.says_roles h.links h.few (s.ids c k) ids_ne (s.lv c) hm hlv _ _ rfl rfl
 have e1 : Pl.roleAt (Pl.says (s.ids c k) s.ls (s.lv c) c.K c.L (s.ls m).a.toNat) (offs (ends s.ls (s.lv c) c.L (s.ls m).a.toNat) (Pl.says (s.ids c k) s.ls (s.lv c) c.K c.L)) (Pl.eA (s.ls m) (s.lv c m)) = Pl.roleAt (s.says c k (s.ls m).a.toNat) (offs (s.E c (s.ls m).a.toNat) (s.says c k)) (Pl.eA (s.ls m) (s.lv c m)) := rfl
 have e2 : Pl.roleAt (Pl.says (s.ids c k) s.ls (s.lv c) c.K c.L (s.ls m).b.toNat) (offs (ends s.ls (s.lv c) c.L (s.ls m).b.toNat) (Pl.says (s.ids c k) s.ls (s.lv c) c.K c.L)) (Pl.eB (s.ls m) (s.lv c m)) = Pl.roleAt (s.says c k (s.ls m).b.toNat) (offs (s.E c (s.ls m).b.toNat) (s.says c k)) (Pl.eB (s.ls m) (s.lv c m)) := rfl
 rw [← e1] at ra
 rw [← e2] at rb
 have root : ∀ {i : Nat} {e : En}, e.live = true → Pl.roleAt (Pl.says (s.ids c k) s.ls (s.lv c) c.K c.L i) (offs (ends s.ls (s.lv c) c.L i) (Pl.says (s.ids c k) s.ls (s.lv c) c.K c.L)) e = 1 → e.port = (Pl.says (s.ids c k) s.ls (s.lv c) c.K c.L i).rp := fun {i e} hl q => by
  unfold Pl.roleAt Vc.role at q
  rw [if_pos hl] at q
  by_cases z : e.port = (Pl.says (s.ids c k) s.ls (s.lv c) c.K c.L i).rp
  ·exact z
  ·rw [if_neg z] at q
   split at q <;> omega
 unfold Pl.isOn
 rcases key with ⟨_, q⟩ | ⟨_, q⟩
 ·refine Or.inr (root (e := Pl.eB (s.ls m) (s.lv c m)) hlv ?_)
  omega
 ·refine Or.inl (root (e := Pl.eA (s.ls m) (s.lv c m)) hlv ?_)
  omega
def NoRing (c : Cn) (s : Sc) (k : Nat) : Prop := ∀ (n : Nat) (on : Nat → Nat), (∀ j, j < n → on j < c.L ∧ s.lv c (on j) = true ∧ Open c s k (s.ls (on j)).a.toNat (s.ls (on j)).pa ∧ Open c s k (s.ls (on j)).b.toNat (s.ls (on j)).pb) → (∀ i j, i < j → j < n → on i ≠ on j) → Pl.ring (fun j => Pl.edge s.ls (on j)) n = false
def Before (c : Cn) (b : Sc) (T : Nat) : Prop := ∃ a : Sc, Ok c a T ∧ SameEnds c a b ∧ b.ms = a.ms ∧ ((∀ k, k < T → As c a k) ∨ ∀ k, k < T → ∀ i, i < c.K → ∀ j, (a.ms k i).calm.getD j 0 = 0)
theorem ring_congr {es fs : Nat → Nat × Nat} : ∀ n, (∀ j, j < n → es j = fs j) → Pl.ring es n = Pl.ring fs n ∧ ∀ i, Pl.lab es n i = Pl.lab fs n i
 | 0, _ => ⟨rfl, fun _ => rfl⟩
 | n + 1, h => by
  obtain ⟨h1, h2⟩ := ring_congr n (fun j hj => h j (by omega))
  have e := h n (by omega)
  refine ⟨?_, fun i => ?_⟩
  ·simp only [Pl.ring]; rw [h1, e, h2, h2]
  ·simp only [Pl.lab]; rw [e, h2, h2, h2]
theorem Before.rings {c : Cn} {b : Sc} {T : Nat} (h : Before c b T) (hb : Fine c b) (t : Nat) {k : Nat} (hk : k < T) : NoRing c (b.ticks c t) k := by
 obtain ⟨a, ha, hse, hms, hcase⟩ := h
 intro n on hon hne
 have hbo : Ok c b T := ⟨hb, fun q hq i hi => by rw [hms, (hse.len ha.fine hb i).2]; exact ha.fit q hq i hi, fun q hq => by rw [hms]; exact ha.calm q hq⟩
 by_cases ht : 33 ≤ t
 ·refine Pl.no_ring (ids := b.ids c k) (lv := b.lv c) hb.links hb.few (fun j hj => ?_) hne
  obtain ⟨h1, h2, ⟨ja, ea, a1, a2, a3⟩, ⟨jb, eb, b1, b2, b3⟩⟩ := hon j hj
  have hr : ∀ i, i < c.K → ((b.ticks c t).ms k i).roles = b.roles c k i := fun i hi => (settledF (hb.good _) hb.ports (b.ms k) ht hi).2.2
  have hcl := fun i hi q => ticksF_Calm (ids := b.ids c k) (hbo.fit k hk) (hbo.calm k hk) t i hi q
  have ia : (b.ls (on j)).a.toNat < c.K := by have := (hb.links.ok _ h1).1; omega
  have ib : (b.ls (on j)).b.toNat < c.K := by have := (hb.links.ok _ h1).2.1; omega
  have ra := (hcl _ ia ja).2 (by change 50 ≤ _ at a3; exact Int.lt_of_lt_of_le (by decide) a3)
  have rb := (hcl _ ib jb).2 (by change 50 ≤ _ at b3; exact Int.lt_of_lt_of_le (by decide) b3)
  change ((b.ticks c t).ms k _).roles.getD ja 0 = 1 ∨ ((b.ticks c t).ms k _).roles.getD ja 0 = 2 at ra
  change ((b.ticks c t).ms k _).roles.getD jb 0 = 1 ∨ ((b.ticks c t).ms k _).roles.getD jb 0 = 2 at rb
  rw [hr _ ia] at ra
  rw [hr _ ib] at rb
  obtain ⟨z1, z2⟩ := isOn_of hb k h1 a1 b1 a2 b2 ra rb
  exact ⟨h1, z1, z2⟩
 ·have back : ∀ i, i < c.K → ∀ j e, (b.E c i)[j]? = some e → 50 ≤ ((b.ticks c t).ms k i).calm.getD j 0 → 0 < (a.ms k i).calm.getD j 0 := fun i hi j e he hc => by
   have := calm_back (ids := b.ids c k) (hbo.fit k hk) hi (get_lt he) t 50 (by omega) hc
   rw [hms] at this
   omega
  have eqE : ∀ j, j < n → Pl.edge (b.ticks c t).ls (on j) = Pl.edge a.ls (on j) := fun j hj => by
   obtain ⟨q1, q2, _, _⟩ := hse (on j) (hon j hj).1
   unfold Pl.edge
   change ((b.ls (on j)).a.toNat, (b.ls (on j)).b.toNat) = _
   rw [q1, q2]
  rw [(ring_congr n eqE).1]
  refine Pl.no_ring (ids := a.ids c k) (lv := a.lv c) ha.fine.links ha.fine.few (fun j hj => ?_) hne
  obtain ⟨h1, h2, ⟨ja, ea, a1, a2, a3⟩, ⟨jb, eb, b1, b2, b3⟩⟩ := hon j hj
  obtain ⟨q1, q2, q3, q4⟩ := hse (on j) h1
  change (b.E c (b.ls (on j)).a.toNat)[ja]? = some ea at a1
  change (b.E c (b.ls (on j)).b.toNat)[jb]? = some eb at b1
  change ea.port = (b.ls (on j)).pa at a2
  change eb.port = (b.ls (on j)).pb at b2
  change 50 ≤ ((b.ticks c t).ms k (b.ls (on j)).a.toNat).calm.getD ja 0 at a3
  change 50 ≤ ((b.ticks c t).ms k (b.ls (on j)).b.toNat).calm.getD jb 0 at b3
  have ia : (b.ls (on j)).a.toNat < c.K := by have := (hb.links.ok _ h1).1; omega
  have ib : (b.ls (on j)).b.toNat < c.K := by have := (hb.links.ok _ h1).2.1; omega
  have ca := back _ ia ja ea a1 a3
  have cb := back _ ib jb eb b1 b3
  rcases hcase with hAs | h0
  ·have ra := (ha.calm k hk _ ia ja).2 ca
   have rb := (ha.calm k hk _ ib jb).2 cb
   rw [(hAs k hk _ ia).2.2] at ra
   rw [(hAs k hk _ ib).2.2] at rb
   have pe : ∀ (i j : Nat) (e : En), (b.E c i)[j]? = some e → ∃ e' : En, (a.E c i)[j]? = some e' ∧ e'.port = e.port := fun i j e he => by
    have hm := (hse.len ha.fine hb i).1
    have h3 : ((b.E c i).map (·.port))[j]? = some e.port := by rw [List.getElem?_map, he]; rfl
    rw [hm, List.getElem?_map] at h3
    cases h4 : (a.E c i)[j]? with
    | none => rw [h4] at h3; cases h3
    | some e' => rw [h4] at h3; exact ⟨e', rfl, by simpa using h3⟩
   obtain ⟨ea', a1', a2'⟩ := pe _ ja ea a1
   obtain ⟨eb', b1', b2'⟩ := pe _ jb eb b1
   rw [q1] at a1' ra
   rw [q2] at b1' rb
   obtain ⟨z1, z2⟩ := isOn_of ha.fine k h1 a1' b1' (by rw [a2', a2, q3]) (by rw [b2', b2, q4]) ra rb
   exact ⟨h1, z1, z2⟩
  ·exfalso
   have := h0 k hk _ ia ja
   omega
def lab7 (es : Nat → Nat × Nat) : Nat → (Nat → Nat)
 | 0 => fun i => i
 | k + 1 => fun i => if lab7 es k i = lab7 es k (es k).1 then lab7 es k (es k).2 else lab7 es k i
def ring7 (es : Nat → Nat × Nat) : Nat → Bool
 | 0 => false
 | k + 1 => ring7 es k || decide (lab7 es k (es k).1 = lab7 es k (es k).2)
theorem lab7_edge (es : Nat → Nat × Nat) : ∀ k j, j < k → lab7 es k (es j).1 = lab7 es k (es j).2
 | 0, j, h => by omega
 | k + 1, j, h => by
  simp only [lab7]
  by_cases e : j = k
  ·subst e
   rw [if_pos rfl]
   split <;> rfl
  ·rw [lab7_edge es k j (by omega)]
theorem lab7_equiv (es : Nat → Nat × Nat) {R : Nat → Nat → Prop} (hr : ∀ u, R u u) (hs : ∀ u v, R u v → R v u) (ht : ∀ u v x, R u v → R v x → R u x) : ∀ k, (∀ j, j < k → R (es j).1 (es j).2) → ∀ u v, lab7 es k u = lab7 es k v → R u v
 | 0, _, u, v, h => by simp only [lab7] at h; subst h; exact hr u
 | k + 1, hR, u, v, h => by
  have ih := lab7_equiv es hr hs ht k (fun j hj => hR j (by omega))
  have hk := hR k (by omega)
  simp only [lab7] at h
  by_cases h1 : lab7 es k u = lab7 es k (es k).1 <;> by_cases h2 : lab7 es k v = lab7 es k (es k).1
  ·exact ih u v (h1.trans h2.symm)
  ·rw [if_pos h1, if_neg h2] at h
   exact ht _ _ _ (ih _ _ h1) (ht _ _ _ hk (ih _ _ h))
  ·rw [if_neg h1, if_pos h2] at h
   exact ht _ _ _ (ih _ _ h) (ht _ _ _ (hs _ _ hk) (hs _ _ (ih _ _ h2)))
  ·rw [if_neg h1, if_neg h2] at h
   exact ih u v h
theorem lab7_iff (es : Nat → Nat × Nat) (k u v : Nat) : lab7 es k u = lab7 es k v ↔ Pl.lab es k u = Pl.lab es k v :=
 ⟨fun h => lab7_equiv es (R := fun u v => Pl.lab es k u = Pl.lab es k v) (fun _ => rfl) (fun _ _ h => h.symm) (fun _ _ _ h q => h.trans q) k (Pl.lab_edge es k) u v h,
  fun h => Pl.lab_equiv es (R := fun u v => lab7 es k u = lab7 es k v) (fun _ => rfl) (fun _ _ h => h.symm) (fun _ _ _ h q => h.trans q) k (lab7_edge es k) u v h⟩
theorem ring7_eq (es : Nat → Nat × Nat) : ∀ k, ring7 es k = Pl.ring es k
 | 0 => rfl
 | k + 1 => by
  simp only [ring7, Pl.ring]
  rw [ring7_eq es k]
  congr 1
  exact decide_eq_decide.2 (lab7_iff es k _ _)
end Tk
end Go.Proofs.YtaneiffnhphkhaaGreatDoor
