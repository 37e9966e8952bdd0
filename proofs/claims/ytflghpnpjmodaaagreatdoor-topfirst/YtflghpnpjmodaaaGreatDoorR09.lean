/- walks: package plan's Ident and identsOf -/
import Derived.Test.YtflghpnpjmodaaaGreatDoorR08
import Derived.Test.YtflghpnpjmodaaaGreatDoorR07
import Derived.Test.YtflghpnpjmodaaaGreatDoorR01
import Derived.Test.YtflghpnpjmodaaaGreatDoorR02
import Derived.Test.YtflghpnpjmodaaaGreatDoorR06
import Derived.Test.YtflghpnpjmodaaaGreatDoorR05
import Derived.Deep.Slices
import Derived.SizedLaws
namespace Go.Proofs.YtflghpnpjmodaaaGreatDoor
open Go.ChangeShapes Go.WideShapes Go.ChangeAt Go.RowKit
open Pl (Br Net Pc Lk En St)
theorem cellsNt : Tryz.prog.cellsOf 32 = 2 := by kernel_rfl
theorem cellsBg : Tryz.prog.cellsOf 58 = 5 := by kernel_rfl
theorem cellsLk : Tryz.prog.cellsOf 83 = 6 := by kernel_rfl
theorem bytesLk : Tryz.prog.bytesOf 83 = 48 := by kernel_rfl
theorem plist2 {α : Type} {l : List α} (h : l.length = 2) : ∃ c0 c1, l = [c0, c1] := by
 match l, h with
 | [c0, c1], _ => exact ⟨c0, c1, rfl⟩
theorem plist3 {α : Type} {l : List α} (h : l.length = 3) : ∃ c0 c1 c2, l = [c0, c1, c2] := by
 match l, h with
 | [c0, c1, c2], _ => exact ⟨c0, c1, c2, rfl⟩
theorem plist5 {α : Type} {l : List α} (h : l.length = 5) : ∃ c0 c1 c2 c3 c4, l = [c0, c1, c2, c3, c4] := by
 match l, h with
 | [c0, c1, c2, c3, c4], _ => exact ⟨c0, c1, c2, c3, c4, rfl⟩
theorem plist6 {α : Type} {l : List α} (h : l.length = 6) : ∃ c0 c1 c2 c3 c4 c5, l = [c0, c1, c2, c3, c4, c5] := by
 match l, h with
 | [c0, c1, c2, c3, c4, c5], _ => exact ⟨c0, c1, c2, c3, c4, c5, rfl⟩
theorem rows_cell {α : Type} [Inhabited α] {H : Type} {enc : TypeId × Value → H} {W : World} {t e : TypeId} {k : Nat} (hk : 0 < k) (ht : Tryz.prog.underlying t = some (.slice e)) (hc : Tryz.prog.cellsOf e = k) (C : α → Nat → Value) (Q : α → Prop)
  (elem : ∀ fuel cs x, cs.length = k → DataW.trod enc Tryz.prog W 0 (fun _ => true) true fuel e cs = some x → ∃ a : α, (∀ j, j < k → cs[j]? = some (C a j)) ∧ Q a)
  {v : Value} {fuel : Nat} {x : DataW H × List MemPlace} (hf : DataW.trod enc Tryz.prog W 0 (fun _ => true) true fuel t [v] = some x) :
  ∃ (ao : Option Addr) (n cap : Nat) (f : Nat → α), v = .slice ao n cap ∧ CRow W ao n cap k (fun i => C (f i)) ∧ NilOk ao n cap ∧ n ≤ 9223372036854775807 ∧ ∀ i, i < n → Q (f i) := by
 rcases Deep.open_slice ht hf with ⟨hcs, _⟩ | ⟨a, len, cap, m, q, D, Pl, hcs, _, hl, hm, hmm, _, hx⟩
 ·simp at hcs
  subst hcs
  exact ⟨none, 0, 0, fun _ => default, rfl, CRow.none _ _ _ _ _, fun _ => ⟨rfl, rfl⟩, by omega, fun i hi => absurd hi (by omega)⟩
 ·simp at hcs
  subst hcs
  rw [if_pos rfl] at hmm
  have each : ∀ i, i < len → ∃ t : α, (∀ j, j < k → W.cell? (a.add (i * k + j)) = some (C t j)) ∧ Q t := by
   intro i hi
   obtain ⟨cs', h1, h2⟩ := hx i (by omega)
   rw [hc] at h1
   obtain ⟨_, hlen, hcell⟩ := World.cells?_some h1
   obtain ⟨t, h3, h4⟩ := elem _ _ _ hlen h2
   refine ⟨t, fun j hj => ?_, h4⟩
   have kj := hcell j (by omega)
   rw [Deep.add_add] at kj
   rw [kj]
   exact h3 j hj
  obtain ⟨f, hq⟩ := Deep.choose_lt each
  refine ⟨some a, len, cap, f, rfl, ⟨hl, fun hp => ?_⟩, (fun e => by cases e), by unfold maxLen at hm; omega, fun i hi => (hq i hi).2⟩
  obtain ⟨b, off, spot⟩ := a
  have hspot : spot = none := by
   have h0 := (hq 0 (by omega)).1 0 (by omega)
   simpa [Addr.add] using World.cell?_spot h0
  subst hspot
  have hc : ∀ i, i < len → ∀ j, j < k → _ := fun i hi j hj => (hq i hi).1 j hj
  simp only [add_row] at hc
  refine ⟨b, off, rfl, block_lt_of_cell (hc 0 hp 0 hk), fun i hi j hj => ?_⟩
  have := hc i hi j hj
  rw [← Nat.add_assoc] at this
  exact this
set_option maxRecDepth 100000 in
theorem ints_cell {H : Type} {enc : TypeId × Value → H} {W : World} {v : Value} {fuel : Nat} {x : DataW H × List MemPlace}
  (hf : DataW.trod enc Tryz.prog W 0 (fun _ => true) true fuel 37 [v] = some x) :
  ∃ (ao : Option Addr) (n cap : Nat) (f : Nat → Int), v = .slice ao n cap ∧ IRow W ao n cap f ∧ NilOk ao n cap ∧ n ≤ 9223372036854775807 := by
 obtain ⟨ao, n, cap, f, h1, h2, h3, h4, _⟩ := rows_cell (by omega) Tryz.underlying37 cellsInt (fun (x : Int) _ => .int .i64 x) (fun _ => True) (fun fuel cs x hl h => by
  obtain ⟨y, e, _, _⟩ := DataW.trod_int Tryz.underlying3 h
  exact ⟨y, fun j hj => by
   obtain rfl : j = 0 := by omega
   rw [e]; rfl, trivial⟩) hf
 exact ⟨ao, n, cap, f, h1, h2, h3, h4⟩
set_option maxRecDepth 100000 in
theorem links_cell {H : Type} {enc : TypeId × Value → H} {W : World} {v : Value} {fuel : Nat} {x : DataW H × List MemPlace}
  (hf : DataW.trod enc Tryz.prog W 0 (fun _ => true) true fuel 30 [v] = some x) :
  ∃ (ao : Option Addr) (n cap : Nat) (f : Nat → Lk), v = .slice ao n cap ∧ LRow W ao n cap f ∧ NilOk ao n cap ∧ n ≤ 9223372036854775807 ∧ ∀ i, i < n → (Lit.int .i64 (f i).a).wf = true ∧ (Lit.int .i64 (f i).pa).wf = true ∧ (Lit.int .i64 (f i).b).wf = true ∧ (Lit.int .i64 (f i).pb).wf = true := by
 haveI : Inhabited Lk := ⟨⟨0, 0, 0, 0, 0, false⟩⟩
 refine rows_cell (by omega) Tryz.underlying30 cellsLk lkC (fun l => (Lit.int .i64 l.a).wf = true ∧ (Lit.int .i64 l.pa).wf = true ∧ (Lit.int .i64 l.b).wf = true ∧ (Lit.int .i64 l.pb).wf = true) (fun fuel cs x hl h => ?_) hf
 obtain ⟨c0, c1, c2, c3, c4, c5, rfl⟩ := plist6 hl
 obtain ⟨xs, m, _, _, _, hlen, hfs⟩ := DataW.trod_struct Tryz.underlying83 h
 obtain ⟨y0, y1, y2, y3, y4, y5, rfl⟩ := plist6 (by simpa using hlen)
 obtain ⟨a, e0, _, w0⟩ := DataW.trod_int Tryz.underlying3 (hfs 0 _ rfl)
 obtain ⟨pa, e1, _, w1⟩ := DataW.trod_int Tryz.underlying3 (hfs 1 _ rfl)
 obtain ⟨b, e2, _, w2⟩ := DataW.trod_int Tryz.underlying3 (hfs 2 _ rfl)
 obtain ⟨pb, e3, _, w3⟩ := DataW.trod_int Tryz.underlying3 (hfs 3 _ rfl)
 obtain ⟨co, e4, _, _⟩ := DataW.trod_int Tryz.underlying3 (hfs 4 _ rfl)
 obtain ⟨up, e5, _⟩ := DataW.trod_bool Tryz.underlying4 (hfs 5 _ rfl)
 refine ⟨⟨a, pa, b, pb, co, up⟩, fun j hj => ?_, w0, w1, w2, w3⟩
 rw [one_of e0, one_of e1, one_of e2, one_of e3, one_of e4, one_of e5]
 rcases (by omega : j = 0 ∨ j = 1 ∨ j = 2 ∨ j = 3 ∨ j = 4 ∨ j = 5) with q | q | q | q | q | q <;> subst q <;> rfl
set_option maxRecDepth 100000 in
theorem region_cells {H : Type} {enc : TypeId × Value → H} {W : World} {c0 c1 c2 : Value} {fuel : Nat} {x : DataW H × List MemPlace}
  (hf : DataW.trod enc Tryz.prog W 0 (fun _ => true) true fuel 56 [c0, c1, c2] = some x) :
  ∃ r : Rg.Reg, c0 = .string r.s ∧ c1 = .int .i64 r.rev ∧ c2 = .slice r.ao r.n r.cap ∧ r.at' W ∧ r.n ≤ 9223372036854775807 := by
 obtain ⟨xs, m, _, _, _, hlen, hfs⟩ := DataW.trod_struct Tryz.underlying56 hf
 obtain ⟨y0, y1, y2, rfl⟩ := plist3 (by simpa using hlen)
 have g2 := hfs 2 _ rfl
 obtain ⟨s, e0, _⟩ := DataW.trod_string Tryz.underlying9 (hfs 0 _ rfl)
 obtain ⟨rev, e1, _, _⟩ := DataW.trod_int Tryz.underlying3 (hfs 1 _ rfl)
 obtain ⟨ao, n, cap, vs, ts, e2, hr, hn⟩ := ways_cell g2
 exact ⟨⟨s, rev, ao, n, cap, vs, ts⟩, one_of e0, one_of e1, e2, hr, hn⟩
set_option maxRecDepth 100000 in
theorem bridges_cell {H : Type} {enc : TypeId × Value → H} {W : World} {v : Value} {fuel : Nat} {x : DataW H × List MemPlace}
  (hf : DataW.trod enc Tryz.prog W 0 (fun _ => true) true fuel 29 [v] = some x) :
  ∃ (ao : Option Addr) (n cap : Nat) (f : Nat → Br), v = .slice ao n cap ∧ BRow W ao n cap f ∧ NilOk ao n cap ∧ n ≤ 9223372036854775807 ∧ ∀ i, i < n → (f i).at' W ∧ (Lit.int .u64 (f i).addr).wf = true := by
 haveI : Inhabited Br := ⟨⟨0, none, 0, 0, fun _ => 0, ⟨⟨#[]⟩, 0, none, 0, 0, fun _ => 0, fun _ => 0⟩⟩⟩
 refine rows_cell (by omega) Tryz.underlying29 cellsBg brC (fun b => b.at' W ∧ (Lit.int .u64 b.addr).wf = true) (fun fuel cs x hl h => ?_) hf
 obtain ⟨c0, c1, c2, c3, c4, rfl⟩ := plist5 hl
 obtain ⟨xs, m, _, _, _, hlen, hfs⟩ := DataW.trod_struct Tryz.underlying58 h
 obtain ⟨y0, y1, y2, rfl⟩ := plist3 (by simpa using hlen)
 obtain ⟨a, e0, _, w0⟩ := DataW.trod_int Tryz.underlying34 (hfs 0 _ rfl)
 have g1 := hfs 1 _ rfl
 have g2 := hfs 2 _ rfl
 obtain ⟨pao, pn, pcap, pv, e1, hp, _, hpn⟩ := ints_cell g1
 obtain ⟨r, e2, e3, e4, hr, hn⟩ := region_cells g2
 refine ⟨⟨a, pao, pn, pcap, pv, r⟩, fun j hj => ?_, ⟨hp, hr, hpn, hn⟩, w0⟩
 rw [one_of e0, e1, e2, e3, e4]
 rcases (by omega : j = 0 ∨ j = 1 ∨ j = 2 ∨ j = 3 ∨ j = 4) with q | q | q | q | q <;> subst q <;> rfl
set_option maxRecDepth 100000 in
theorem links_many {H : Type} {enc : TypeId × Value → H} {W : World} {ao : Option Addr} {n cap : Nat} {fuel : Nat} {x : DataW H × List MemPlace}
  (hf : DataW.trod enc Tryz.prog W 0 (fun _ => true) true fuel 30 [.slice ao n cap] = some x) (hz : (x.1.weights Tryz.prog 30).all (· ≤ reachBytes) = true) : n * 48 ≤ reachBytes := by
 rcases Deep.open_slice Tryz.underlying30 hf with ⟨hcs, _⟩ | ⟨a, len, cap', m, k, D, Pl, hcs, _, hl, hm, hmm, hx, _⟩
 ·simp at hcs
  omega
 ·simp at hcs
  obtain ⟨_, rfl, rfl⟩ := hcs
  rw [if_pos rfl] at hmm
  rw [hx] at hz
  unfold DataW.weights at hz
  rw [Tryz.underlying30] at hz
  simp only [List.all_cons, Bool.and_eq_true, decide_eq_true_eq, List.length_map, List.length_range, bytesLk] at hz
  have := hz.1
  omega
theorem bytesBg : Tryz.prog.bytesOf 58 = 80 := by kernel_rfl
set_option maxRecDepth 100000 in
theorem bridges_many {H : Type} {enc : TypeId × Value → H} {W : World} {ao : Option Addr} {n cap : Nat} {fuel : Nat} {x : DataW H × List MemPlace}
  (hf : DataW.trod enc Tryz.prog W 0 (fun _ => true) true fuel 29 [.slice ao n cap] = some x) (hz : (x.1.weights Tryz.prog 29).all (· ≤ reachBytes) = true) : n * 80 ≤ reachBytes := by
 rcases Deep.open_slice Tryz.underlying29 hf with ⟨hcs, _⟩ | ⟨a, len, cap', m, k, D, Pl, hcs, _, hl, hm, hmm, hx, _⟩
 ·simp at hcs
  omega
 ·simp at hcs
  obtain ⟨_, rfl, rfl⟩ := hcs
  rw [if_pos rfl] at hmm
  rw [hx] at hz
  unfold DataW.weights at hz
  rw [Tryz.underlying29] at hz
  simp only [List.all_cons, Bool.and_eq_true, decide_eq_true_eq, List.length_map, List.length_range, bytesBg] at hz
  have := hz.1
  omega
set_option maxRecDepth 100000 in
theorem net_in2 {H : Type} {enc : TypeId × Value → H} {W : World} {base : Nat} {v : Value} {D : DataW H} {ps : List MemPlace}
  (hv : Value.okWide Tryz.prog W .any base 32 v) (h : DataW.Trod enc Tryz.prog W 0 (fun _ => true) true 32 v D ps) :
  ∃ n : Net, v = n.val ∧ n.at' W ∧ n.Wf ∧ ((D.weights Tryz.prog 32).all (· ≤ reachBytes) = true → n.L * 48 ≤ reachBytes ∧ n.K * 80 ≤ reachBytes) := by
 obtain ⟨cs, rfl, hcs⟩ := okWide_struct Tryz.underlying32 hv
 rw [cellsNt] at hcs
 obtain ⟨l⟩ := cs
 obtain ⟨c0, c1, rfl⟩ := plist2 (by simpa using hcs)
 obtain ⟨fuel, hf⟩ := h
 obtain ⟨xs, m, _, hxy, _, hlen, hfs⟩ := DataW.trod_struct Tryz.underlying32 hf
 obtain ⟨y0, y1, rfl⟩ := plist2 (by simpa using hlen)
 have g0 := hfs 0 _ rfl
 have g1 := hfs 1 _ rfl
 simp only [Value.cells] at g0 g1
 obtain ⟨bao, K, bcap, bs, rfl, hb, _, hbn, hb2⟩ := bridges_cell g0
 obtain ⟨lao, L, lcap, ls, rfl, hl, _, hln, hl2⟩ := links_cell g1
 refine ⟨⟨bao, K, bcap, bs, lao, L, lcap, ls⟩, rfl, ⟨hb, fun i hi => (hb2 i hi).1, hl, hbn, hln⟩, ⟨fun i hi => (hb2 i hi).2, hl2⟩, fun hz => ?_⟩
 simp only [Prod.mk.injEq] at hxy
 rw [hxy.1] at hz
 unfold DataW.weights at hz
 rw [Tryz.underlying32] at hz
 simp only [List.map_cons, List.map_nil, DataW.weightsEach, List.all_append, Bool.and_eq_true] at hz
 exact ⟨links_many g1 hz.2.1, bridges_many g0 hz.1⟩
end Go.Proofs.YtflghpnpjmodaaaGreatDoor
namespace Go.Proofs.YtflghpnpjmodaaaGreatDoor
namespace Pl
open Vc (V Of)
section
variable {ids : Nat → Int} {ls : Nat → Lk} {lv : Nat → Bool} {K L m : Nat} {on : Nat → Nat}
structure Lives (ls : Nat → Lk) (lv : Nat → Bool) (L m : Nat) (on : Nat → Nat) : Prop where
 mem : ∀ j, j < m → on j < L ∧ lv (on j) = true
 all : ∀ k, k < L → lv k = true → ∃ j, j < m ∧ on j = k
def Reach (ls : Nat → Lk) (lv : Nat → Bool) (K L : Nat) (i j : Nat) : Prop := ∃ vs c, Walk (fun i => (i : Int)) (fun i => ends ls lv L i) K i vs (j : Int) c
theorem Walk.ends {ids jds : Nat → Int} {E : Nat → List En} {i : Nat} {vs : List Nat} {ρ c : Int} (h : Walk ids E K i vs ρ c) : ∃ j, j < K ∧ ids j = ρ ∧ Walk jds E K i vs (jds j) c := by
 induction h with
 | here i hi => exact ⟨i, hi, rfl, Walk.here i hi⟩
 | over i e vs ρ c hi he hl _ ih =>
  obtain ⟨j, hj, h1, h2⟩ := ih
  exact ⟨j, hj, h1, Walk.over i e vs _ c hi he hl h2⟩
theorem Walk.to {ids : Nat → Int} {E : Nat → List En} {i j : Nat} {vs : List Nat} {c : Int} (h : Walk (fun i => (i : Int)) E K i vs (j : Int) c) : j < K ∧ Walk ids E K i vs (ids j) c := by
 obtain ⟨k, hk, h1, h2⟩ := h.ends (jds := ids)
 have e : k = j := by have : (k : Int) = (j : Int) := h1; omega
 subst e
 exact ⟨hk, h2⟩
theorem Reach.refl {i : Nat} (hi : i < K) : Reach ls lv K L i i := ⟨_, _, Walk.here i hi⟩
theorem Reach.over {i j : Nat} (R : RightL K L ls) {k : Nat} (hk : k < L) (hl : lv k = true) (h : ((ls k).a.toNat = i ∧ Reach ls lv K L (ls k).b.toNat j) ∨ ((ls k).b.toNat = i ∧ Reach ls lv K L (ls k).a.toNat j)) : Reach ls lv K L i j := by
 obtain ⟨o1, o2, _⟩ := R.ok k hk
 rcases h with ⟨rfl, vs, c, h⟩ | ⟨rfl, vs, c, h⟩
 ·exact ⟨_, _, Walk.over _ (eA (ls k) (lv k)) vs _ c (by omega) (eA_mem R lv hk) hl h⟩
 ·exact ⟨_, _, Walk.over _ (eB (ls k) (lv k)) vs _ c (by omega) (eB_mem R lv hk) hl h⟩
theorem Reach.trans {i j q : Nat} (h1 : Reach ls lv K L i j) (h2 : Reach ls lv K L j q) : Reach ls lv K L i q := by
 obtain ⟨vs, c, h1⟩ := h1
 have key : ∀ {i : Nat} {vs : List Nat} {ρ c : Int}, Walk (fun i => (i : Int)) (fun i => ends ls lv L i) K i vs ρ c → ρ = (j : Int) → Reach ls lv K L i q := by
  intro i vs ρ c h
  induction h with
  | here i hi =>
   intro e
   have : i = j := by omega
   rw [this]; exact h2
  | over i e vs ρ c hi he hl _ ih =>
   intro e'
   obtain ⟨ws, d, hw⟩ := ih e'
   exact ⟨_, _, Walk.over i e ws _ d hi he hl hw⟩
 exact key h1 rfl
theorem Reach.symm (R : RightL K L ls) {i j : Nat} (h1 : Reach ls lv K L i j) : Reach ls lv K L j i := by
 obtain ⟨vs, c, h1⟩ := h1
 have key : ∀ {i : Nat} {vs : List Nat} {ρ c : Int}, Walk (fun i => (i : Int)) (fun i => ends ls lv L i) K i vs ρ c → ρ = (j : Int) → Reach ls lv K L j i := by
  intro i vs ρ c h
  induction h with
  | here i hi =>
   intro e
   have : i = j := by omega
   subst this; exact Reach.refl hi
  | over i e vs ρ c hi he hl hw ih =>
   intro e'
   have h2 := ih e'
   refine h2.trans ?_
   obtain ⟨k, hk, hh⟩ := ends_mem.1 he
   obtain ⟨o1, o2, _⟩ := R.ok k hk
   rcases hh with ⟨q1, rfl⟩ | ⟨q1, rfl⟩
   ·exact Reach.over R hk hl (Or.inr ⟨rfl, by rw [show (ls k).a.toNat = i by omega]; exact Reach.refl hi⟩)
   ·exact Reach.over R hk hl (Or.inl ⟨rfl, by rw [show (ls k).b.toNat = i by omega]; exact Reach.refl hi⟩)
 exact key h1 rfl
def gStep (g : Nat → Nat) (l : Lk) (i : Nat) : Nat := if i = l.a.toNat ∨ i = l.b.toNat then min (g l.a.toNat) (g l.b.toNat) else g i
def gTo (es : Nat → Lk) (g : Nat → Nat) : Nat → (Nat → Nat)
 | 0 => g
 | j + 1 => gStep (gTo es g j) (es j)
def gRounds (es : Nat → Lk) (m : Nat) : Nat → (Nat → Nat)
 | 0 => fun i => i
 | r + 1 => gTo es (gRounds es m r) m
theorem gStep_le (g : Nat → Nat) (l : Lk) (i : Nat) : gStep g l i ≤ g i := by
 unfold gStep
 by_cases h : i = l.a.toNat ∨ i = l.b.toNat
 ·rw [if_pos h]
  rcases h with h | h <;> rw [h]
  ·exact Nat.min_le_left _ _
  ·exact Nat.min_le_right _ _
 ·rw [if_neg h]; exact Nat.le_refl _
theorem gTo_le (es : Nat → Lk) (g : Nat → Nat) (i : Nat) : ∀ j k, j ≤ k → gTo es g k i ≤ gTo es g j i
 | j, 0, h => by rw [show j = 0 by omega]; exact Nat.le_refl _
 | j, k + 1, h => by
  by_cases e : j = k + 1
  ·rw [e]; exact Nat.le_refl _
  ·exact Nat.le_trans (gStep_le _ _ i) (gTo_le es g i j k (by omega))
def GReal (ls : Nat → Lk) (lv : Nat → Bool) (K L : Nat) (g : Nat → Nat) : Prop := ∀ i, i < K → Reach ls lv K L i (g i)
def GUp (ls : Nat → Lk) (lv : Nat → Bool) (K L : Nat) (n : Nat) (g : Nat → Nat) : Prop := ∀ i vs (j : Nat) c, Walk (fun i => (i : Int)) (fun i => ends ls lv L i) K i vs (j : Int) c → vs.length ≤ n → g i ≤ j
theorem gTo_real (R : RightL K L ls) (V : Lives ls lv L m on) {g : Nat → Nat} (h : GReal ls lv K L g) : ∀ j, j ≤ m → GReal ls lv K L (gTo (fun j => ls (on j)) g j)
 | 0, _ => h
 | j + 1, hj => by
  have ih := gTo_real R V h j (by omega)
  obtain ⟨hk, hl⟩ := V.mem j (by omega)
  obtain ⟨o1, o2, _⟩ := R.ok (on j) hk
  have ha := ih (ls (on j)).a.toNat (by omega)
  have hb := ih (ls (on j)).b.toNat (by omega)
  intro i hi
  show Reach ls lv K L i (gStep (gTo (fun j => ls (on j)) g j) (ls (on j)) i)
  unfold gStep
  by_cases c : i = (ls (on j)).a.toNat ∨ i = (ls (on j)).b.toNat
  ·rw [if_pos c]
   rcases Nat.le_total (gTo (fun j => ls (on j)) g j (ls (on j)).a.toNat) (gTo (fun j => ls (on j)) g j (ls (on j)).b.toNat) with q | q
   ·rw [Nat.min_eq_left q]
    rcases c with c | c
    ·rw [c]; exact ha
    ·exact Reach.over R hk hl (Or.inr ⟨c.symm, ha⟩)
   ·rw [Nat.min_eq_right q]
    rcases c with c | c
    ·exact Reach.over R hk hl (Or.inl ⟨c.symm, hb⟩)
    ·rw [c]; exact hb
  ·rw [if_neg c]; exact ih i hi
theorem gTo_up (R : RightL K L ls) (V : Lives ls lv L m on) {g : Nat → Nat} {n : Nat} (h : GUp ls lv K L n g) (h0 : ∀ i, g i ≤ i) : GUp ls lv K L (n + 1) (gTo (fun j => ls (on j)) g m) := by
 intro i vs j c hw hn
 cases hw with
 | here _ hi => exact Nat.le_trans (gTo_le _ g i 0 m (by omega)) (h0 i)
 | over _ e vs _ c _ he hl hw =>
  have h1 := h e.other.toNat vs j c hw (by simp at hn; omega)
  obtain ⟨k, hk, hh⟩ := ends_mem.1 he
  obtain ⟨o1, o2, _⟩ := R.ok k hk
  have hlk : lv k = true := by rcases hh with ⟨_, rfl⟩ | ⟨_, rfl⟩ <;> exact hl
  obtain ⟨q, hq, eq⟩ := V.all k hk hlk
  have h2 := gTo_le (fun j => ls (on j)) g i (q + 1) m (by omega)
  refine Nat.le_trans h2 ?_
  show gStep (gTo (fun j => ls (on j)) g q) (ls (on q)) i ≤ j
  rw [eq]
  have hle : ∀ x, gTo (fun j => ls (on j)) g q x ≤ g x := fun x => gTo_le _ g x 0 q (by omega)
  unfold gStep
  rcases hh with ⟨q1, rfl⟩ | ⟨q1, rfl⟩
  ·rw [if_pos (Or.inl (by omega))]
   exact Nat.le_trans (Nat.min_le_right _ _) (Nat.le_trans (hle _) h1)
  ·rw [if_pos (Or.inr (by omega))]
   exact Nat.le_trans (Nat.min_le_left _ _) (Nat.le_trans (hle _) h1)
theorem gRounds_inv (R : RightL K L ls) (V : Lives ls lv L m on) : ∀ r, GReal ls lv K L (gRounds (fun j => ls (on j)) m r) ∧ GUp ls lv K L (r + 1) (gRounds (fun j => ls (on j)) m r) ∧ ∀ i, gRounds (fun j => ls (on j)) m r i ≤ i
 | 0 => by
  refine ⟨fun i hi => Reach.refl hi, fun i vs j c hw hn => ?_, fun i => Nat.le_refl _⟩
  cases hw with
  | here _ hi => exact Nat.le_refl _
  | over _ e vs _ c _ _ _ hw =>
   cases hw with
   | here => simp at hn
   | over => simp at hn
 | r + 1 => by
  obtain ⟨h1, h2, h3⟩ := gRounds_inv R V r
  exact ⟨gTo_real R V h1 m (Nat.le_refl _), gTo_up R V h2 h3, fun i => Nat.le_trans (gTo_le _ _ i 0 m (by omega)) (h3 i)⟩
theorem group_iff (R : RightL K L ls) (hK : K ≤ 12) (V : Lives ls lv L m on) {i j : Nat} (hi : i < K) (hj : j < K) : gRounds (fun j => ls (on j)) m K i = gRounds (fun j => ls (on j)) m K j ↔ Reach ls lv K L i j := by
 obtain ⟨h1, h2, _⟩ := gRounds_inv (m := m) (on := on) R V K
 have least : ∀ x y, Reach ls lv K L x y → gRounds (fun j => ls (on j)) m K x ≤ y := by
  rintro x y ⟨vs, c, hw⟩
  obtain ⟨us, d, k1, _, k3⟩ := hw.simple (good R hK (fun i => (i : Int)) lv)
  exact h2 x us y d k1 (Nat.le_trans (nodup_few K us k3 k1.all) (by omega))
 constructor
 ·intro e
  have a := h1 i hi
  have b := (h1 j hj).symm R
  rw [← e] at b
  exact a.trans b
 ·intro h
  have a := least i _ (h.trans (h1 j hj))
  have b := least j _ ((h.symm R).trans (h1 i hi))
  omega
def rootTo (ids : Nat → Int) (g : Nat → Nat) (i : Nat) : Nat → Int
 | 0 => ids i
 | k + 1 => if g k = g i ∧ ids k < rootTo ids g i k then ids k else rootTo ids g i k
theorem rootTo_le (ids : Nat → Int) (g : Nat → Nat) (i : Nat) : ∀ k, rootTo ids g i k ≤ ids i ∧ ∀ j, j < k → g j = g i → rootTo ids g i k ≤ ids j
 | 0 => ⟨Int.le_refl _, fun j hj => absurd hj (by omega)⟩
 | k + 1 => by
  obtain ⟨h1, h2⟩ := rootTo_le ids g i k
  simp only [rootTo]
  by_cases c : g k = g i ∧ ids k < rootTo ids g i k
  ·rw [if_pos c]
   refine ⟨by omega, fun j hj hg => ?_⟩
   by_cases e : j = k
   ·rw [e]; exact Int.le_refl _
   ·have := h2 j (by omega) hg; omega
  ·rw [if_neg c]
   refine ⟨h1, fun j hj hg => ?_⟩
   by_cases e : j = k
   ·subst e
    rcases Int.lt_or_le (ids j) (rootTo ids g i j) with q | q
    ·exact absurd ⟨hg, q⟩ c
    ·exact q
   ·exact h2 j (by omega) hg
theorem rootTo_is (ids : Nat → Int) (g : Nat → Nat) (i : Nat) : ∀ k, ∃ j, (j = i ∨ j < k) ∧ g j = g i ∧ rootTo ids g i k = ids j
 | 0 => ⟨i, Or.inl rfl, rfl, rfl⟩
 | k + 1 => by
  simp only [rootTo]
  by_cases c : g k = g i ∧ ids k < rootTo ids g i k
  ·rw [if_pos c]; exact ⟨k, Or.inr (by omega), c.1, rfl⟩
  ·rw [if_neg c]
   obtain ⟨j, h1, h2, h3⟩ := rootTo_is ids g i k
   exact ⟨j, by omega, h2, h3⟩
theorem root_same (R : RightL K L ls) (hK : K ≤ 12) (V : Lives ls lv L m on) {i : Nat} (hi : i < K) : rootTo ids (gRounds (fun j => ls (on j)) m K) i K = (says ids ls lv K L i).v.root := by
 have G := good R hK ids lv
 obtain ⟨j, h1, h2, h3⟩ := rootTo_is ids (gRounds (fun j => ls (on j)) m K) i K
 have hj : j < K := by omega
 obtain ⟨vs, c, hw⟩ := (group_iff R hK V hi hj).1 h2.symm
 have hup := fin_up G hi (hw.to (ids := ids)).2
 obtain ⟨us, hr⟩ := fin_real G i hi
 obtain ⟨q, hq, e1, hw2⟩ := hr.ends (jds := fun i => (i : Int))
 have hreach : Reach ls lv K L i q := ⟨_, _, hw2⟩
 have hle := (rootTo_le ids (gRounds (fun j => ls (on j)) m K) i K).2 q hq ((group_iff R hK V hi hq).2 hreach).symm
 unfold le2 at hup
 change ids q = (says ids ls lv K L i).v.root at e1
 have e2 : (says ids ls lv K L i).v.root = (fin ids (fun i => Pl.ends ls lv L i) K i).v.root := rfl
 omega
end
end Pl
end Go.Proofs.YtflghpnpjmodaaaGreatDoor
namespace Go.Proofs.YtflghpnpjmodaaaGreatDoor
open Go.RowKit
def rowC (n k : Nat) (c : Nat → Nat → Value) : Array Value := (cellsL n k c).toArray
theorem rowC_size (n k : Nat) (c : Nat → Nat → Value) : (rowC n k c).size = n * k := by simp [rowC, cellsL]
theorem mul_add_lt {n k i j : Nat} (hi : i < n) (hj : j < k) : i * k + j < n * k := by
 have : (i + 1) * k ≤ n * k := Nat.mul_le_mul_right k (by omega)
 rw [Nat.add_mul] at this
 omega
theorem div_of {k i j : Nat} (hj : j < k) : (i * k + j) / k = i ∧ (i * k + j) % k = j := by
 have hk : 0 < k := by omega
 refine ⟨?_, ?_⟩
 ·rw [Nat.add_comm, Nat.add_mul_div_right _ _ hk, Nat.div_eq_of_lt hj, Nat.zero_add]
 ·rw [Nat.add_comm, Nat.add_mul_mod_self_right, Nat.mod_eq_of_lt hj]
theorem rowC_get {n k i j : Nat} (c : Nat → Nat → Value) (hi : i < n) (hj : j < k) : (rowC n k c)[i * k + j]? = some (c i j) := by
 have h := mul_add_lt hi hj
 simp [rowC, cellsL, h]
 obtain ⟨e1, e2⟩ := div_of (i := i) hj
 first | rw [e1, e2] | rw [e1, Nat.mod_eq_of_lt hj]
def updC (c : Nat → Nat → Value) (i j : Nat) (v : Value) : Nat → Nat → Value := fun i' j' => if i' = i ∧ j' = j then v else c i' j'
theorem rowC_put {n k i j : Nat} (c : Nat → Nat → Value) (hi : i < n) (hj : j < k) (v : Value) : (rowC n k c).setIfInBounds (i * k + j) v = rowC n k (updC c i j v) := by
 have hk : 0 < k := by omega
 apply Array.ext_getElem?
 intro x
 rw [Array.getElem?_setIfInBounds]
 by_cases hx : x < n * k
 ·have ex : x = (x / k) * k + x % k := by rw [Nat.mul_comm]; exact (Nat.div_add_mod x k).symm
  have h4 : x % k < k := Nat.mod_lt _ hk
  have hq : x / k < n := div_lt_of hk hx
  have e1 := rowC_get (updC c i j v) hq h4
  have e2 := rowC_get c hq h4
  rw [← ex] at e1 e2
  rw [e1, e2]
  by_cases q : i * k + j = x
  ·obtain ⟨d1, d2⟩ := div_of (i := i) hj
   rw [if_pos q, if_pos (by rw [rowC_size]; omega)]
   unfold updC
   rw [if_pos ⟨by rw [← q]; exact d1, by rw [← q]; exact d2⟩]
  ·rw [if_neg q]
   unfold updC
   rw [if_neg (fun p => q (by rw [← p.1, ← p.2]; exact ex.symm))]
 ·have hs := rowC_size n k c
  have hs2 := rowC_size n k (updC c i j v)
  have hl := mul_add_lt hi hj
  rw [if_neg (by omega), Array.getElem?_eq_none (by omega), Array.getElem?_eq_none (by omega)]
theorem rowC_congr {n k : Nat} {c d : Nat → Nat → Value} (h : ∀ i, i < n → c i = d i) : rowC n k c = rowC n k d := by
 unfold rowC
 rw [cellsL_congr n k c d h]
theorem rowC_congr2 {n k : Nat} {c d : Nat → Nat → Value} (h : ∀ i, i < n → ∀ j, j < k → c i j = d i j) : rowC n k c = rowC n k d := by
 unfold rowC cellsL
 congr 1
 apply List.map_congr_left
 intro x hx
 have hx : x < n * k := by simpa using hx
 have hk : 0 < k := by
  rcases Nat.eq_zero_or_pos k with e | e
  ·subst e; omega
  ·exact e
 exact h _ (div_lt_of hk hx) _ (Nat.mod_lt _ hk)
section
variable {w : World} {g n k : Nat} {c : Nat → Nat → Value} {ty : TypeId}
theorem rowC_cell (h : w.heap[g]? = some (.cells (rowC n k c) ty (0, 0))) {i j : Nat} (hi : i < n) (hj : j < k) : w.cell? ⟨g, i * k + j, none⟩ = some (c i j) := by
 have := rowC_get c hi hj
 simp only [World.cell?, h]
 simpa using this
theorem rowC_crow (h : w.heap[g]? = some (.cells (rowC n k c) ty (0, 0))) : CRow w (some ⟨g, 0, none⟩) n n k c :=
 ⟨Nat.le_refl _, fun _ => ⟨g, 0, rfl, (Array.getElem?_eq_some_iff.1 h).1, fun i hi j hj => by rw [Nat.zero_add]; exact rowC_cell h hi hj⟩⟩
theorem rowC_set (h : w.heap[g]? = some (.cells (rowC n k c) ty (0, 0))) {i j : Nat} (hi : i < n) (hj : j < k) (v : Value) : (w.setCell ⟨g, i * k + j, none⟩ v).heap[g]? = some (.cells (rowC n k (updC c i j v)) ty (0, 0)) := by
 rw [heap_setCell_same _ _ _ _ _ _ h, rowC_put c hi hj]
end
theorem made_rowC (z : Array Value) (k n : Nat) (hk : 0 < k) (hz : z.size = k) : madeCells z (n * k) = rowC n k (fun _ j => z.getD j undef) := by
 apply Array.ext_getElem?
 intro i
 by_cases h : i < n * k
 ·have ei : i = (i / k) * k + i % k := by rw [Nat.mul_comm]; exact (Nat.div_add_mod i k).symm
  have h4 : i % k < k := Nat.mod_lt _ hk
  have e := rowC_get (fun _ j => z.getD j undef) (div_lt_of hk h) h4
  rw [← ei] at e
  rw [e]
  have hlt : i % k < z.size := by omega
  simp [madeCells, h, hz]
  rw [getElem!_pos z (i % k) hlt]
  simp [hlt]
 ·rw [Array.getElem?_eq_none (by simp [madeCells]; omega), Array.getElem?_eq_none (by rw [rowC_size]; omega)]
theorem make_rowC (w : World) (t e : TypeId) (z : Value) (k bytes n : Nat) (ht : Tryz.prog.underlying t = some (.slice e)) (hinfo : (Tryz.prog.info? e).map (fun i => (i.zero, i.size, i.bytes)) = some (some z, k, bytes)) (hk : 0 < k) (hz : z.cells.size = k) (hn : n ≤ 1000) (hb : bytes ≤ 1000) :
  (Instr.makeSlice t (.int .i64 (n : Int)) (.int .i64 (n : Int))).run Tryz.prog w = .ok (.slice (some ⟨w.heap.size, 0, none⟩) n n) (w.alloc (.cells (rowC n k (fun _ j => z.cells.getD j undef)) e)) := by
 obtain ⟨i0, hi, hz0, hz1, hz2⟩ := info_parts hinfo
 have hm : (bytes : Int) * (n : Int) ≤ 281474976710656 := by
  have h1 : bytes * n ≤ 1000 * 1000 := Nat.mul_le_mul hb hn
  have h2 : ((bytes * n : Nat) : Int) ≤ 1000000 := by omega
  rw [Int.natCast_mul] at h2
  omega
 have h := run_make (P := Tryz.prog) w t e i0 z ht hi hz0 .i64 .i64 (n : Int) (n : Int) (by omega) (Int.le_refl _) (by rw [hz2]; exact hm) (by omega)
 rw [hz1, Int.toNat_natCast, made_rowC _ k n hk hz] at h
 exact h
theorem make_rowD (w : World) (t e : TypeId) (z : Value) (k bytes n : Nat) (ht : Tryz.prog.underlying t = some (.slice e)) (hinfo : (Tryz.prog.info? e).map (fun i => (i.zero, i.size, i.bytes)) = some (some z, k, bytes)) (hk : 0 < k) (hz : z.cells.size = k) (hn : n ≤ 1000) (hb : bytes ≤ 1000) (d : Nat → Nat → Value) (hd : ∀ i j, j < k → z.cells.getD j undef = d i j) :
  (Instr.makeSlice t (.int .i64 (n : Int)) (.int .i64 (n : Int))).run Tryz.prog w = .ok (.slice (some ⟨w.heap.size, 0, none⟩) n n) (w.alloc (.cells (rowC n k d) e)) := by
 have := make_rowC w t e z k bytes n ht hinfo hk hz hn hb
 rw [rowC_congr2 (d := d) (fun i _ j hj => hd i j hj)] at this
 exact this
end Go.Proofs.YtflghpnpjmodaaaGreatDoor
namespace Go.Proofs.YtflghpnpjmodaaaGreatDoor
open Go.RowKit
open Pl (Br Net Pc Lk En St)
theorem lk_free0 {w : World} {g : Nat} {A : Array Value} {ty : TypeId} (h : w.heap[g]? = some (.cells A ty (0, 0))) (j : Nat) : w.frozen? ⟨g, j, none⟩ = false := frozen_of_row _ _ _ _ _ h
structure Pl.Br.Fine (b : Br) : Prop where
 addr : 0 ≤ b.addr ∧ b.addr ≤ 281474976710655
 few : b.pn ≤ 16
 prio : ∀ i, i < b.pn → 0 ≤ b.pv i ∧ b.pv i ≤ 61440
 reg : b.reg.ok
set_option maxRecDepth 100000 in
set_option maxHeartbeats 1000000 in
theorem pident_any (b : Br) (tree : Int) (w : World) (hb : b.at' w) (hf : b.Fine) :
  Calls Tryz.prog 17 #[.agg (brA b), .int .i64 tree] w fun e w' => e = .returned (.int .u64 (b.id tree)) ∧ Below w.heap.size w w' := by
 obtain ⟨hp, _, _, _⟩ := hb
 obtain ⟨ha, hfew, hpr, _⟩ := hf
 have HW : Hid (∀ W, Calls Tryz.prog 32 #[.int .i64 tree, .int .i64 0, .int .i64 ((b.pn : Int) - 1)] W fun e w' => e = .returned (.bool (decide (0 ≤ tree ∧ tree ≤ (b.pn : Int) - 1))) ∧ w' = W) := fun W => gwithin_any _ _ _ W
 have wk : IntKind.i64.wrap ((b.pn : Int) - 1) = (b.pn : Int) - 1 := by rw [IntKind.wrap_i64]; omega
 have hX := heap_alloc_last w (.cells (brA b) 58)
 have hpx : IRow (w.alloc (.cells (brA b) 58)) b.pao b.pn b.pcap b.pv := CRow.below hp (below_alloc1 _ _)
 unfold Pl.Br.id Pl.Br.prio
 obtain ⟨addr, pao, pn, pcap, pv, ⟨s, rev, ao, n, cap, vs, ts⟩⟩ := b
 simp only [brA] at *
 obtain ⟨q0, q1, q2, q3, q4⟩ := br_cells hX
 have shl : ∀ p : Int, 0 ≤ p → p ≤ 61440 → IntKind.u64.wrap (p * 281474976710656 + addr) = p * 281474976710656 + addr := fun p h1 h2 => wraps_u64 _ (by omega) (by omega)
 by_cases h : 0 ≤ tree ∧ tree ≤ (pn : Int) - 1
 ·rw [if_pos h]
  rw [decide_eq_true h] at HW
  obtain ⟨t, rfl⟩ : ∃ t : Nat, tree = t := ⟨tree.toNat, by omega⟩
  have ht : t < pn := by omega
  rw [Int.toNat_natCast]
  obtain ⟨pb, poff, rfl, _⟩ := CRow.some hpx (by omega)
  have hcap := hpx.1
  have c0 := IRow.cells hpx ht
  obtain ⟨p0, p1⟩ := hpr t ht
  have HS := shl (pv t) p0 p1
  have w1 : IntKind.u64.wrap (pv t) = pv t := wraps_u64 _ (by omega) (by omega)
  have w2 : IntKind.u64.wrap (pv t * 281474976710656) = pv t * 281474976710656 := wraps_u64 _ (by omega) (by omega)
  have i0 : (0 : Int) ≤ (t : Int) := by omega
  have i1 : (t : Int) < (pn : Int) := by omega
  generalize pv t = p at *
  clear hpx hp hpr shl hX
  go_enter Tryz.func17, Tryz.ntmps17
  go_wp2_with (go_at_call 32; refine (HW.out _).mono ?_; rintro e w1 ⟨rfl, rfl⟩)
  go_ret
  exact ⟨rfl, below_alloc1 _ _⟩
 ·rw [if_neg h]
  rw [decide_eq_false h] at HW
  have HS := shl 32768 (by omega) (by omega)
  clear hpx hp hpr shl hX
  go_enter Tryz.func17, Tryz.ntmps17
  go_wp2_with (go_at_call 32; refine (HW.out _).mono ?_; rintro e w1 ⟨rfl, rfl⟩)
  go_ret
  exact ⟨rfl, below_alloc1 _ _⟩
theorem infoBytes : (Tryz.prog.info? 60).map (fun i => (i.zero, i.size, i.bytes)) = some (some (.slice none 0 0), 1, 24) := by kernel_rfl
def IdsAt (w : World) (g K : Nat) (bs : Nat → Br) (v : Nat → Value) (k : Nat) : Prop :=
 w.heap[g]? = some (.cells (rowC K 1 (fun i _ => v i)) 60 (0, 0)) ∧ ∀ i, i < k → ∃ b off rc, v i = .slice (some ⟨b, off, none⟩) 50 rc ∧ ByteRow w (some ⟨b, off, none⟩) 50 rc (bs i).reg.id ∧ b ≠ g
theorem IdsAt.below {w w' : World} {g K : Nat} {bs : Nat → Br} {v : Nat → Value} {k : Nat} (h : IdsAt w g K bs v k) (hb : Below w.heap.size w w') : IdsAt w' g K bs v k :=
 ⟨keep h.1 hb, fun i hi => by
  obtain ⟨b, off, rc, e, h1, h2⟩ := h.2 i hi
  exact ⟨b, off, rc, e, h1.below hb, h2⟩⟩
theorem byteRow_other {w w' : World} {ao : Option Addr} {n cap : Nat} {f : Nat → Int} (h : ByteRow w ao n cap f) (e : ∀ b off, ao = some ⟨b, off, none⟩ → b < w.heap.size → w'.heap[b]? = w.heap[b]?) (hs : w.heap.size ≤ w'.heap.size) : ByteRow w' ao n cap f := by
 refine ⟨h.1, fun hp => ?_⟩
 obtain ⟨b, off, e1, hlt, hc⟩ := h.2 hp
 exact ⟨b, off, e1, Nat.lt_of_lt_of_le hlt hs, fun i hi => (World.cell?_of_block (w := w) (e b off e1 hlt)).trans (hc i hi)⟩
set_option maxRecDepth 100000 in
set_option maxHeartbeats 2000000 in
theorem pidents_any (ao : Option Addr) (K cap : Nat) (bs : Nat → Br) (w : World) (hK : K ≤ 12) (hr : BRow w ao K cap bs) (hb : ∀ i, i < K → (bs i).at' w) (hf : ∀ i, i < K → (bs i).Fine) (ht : Tabs w) (hbt : 2 ≤ w.heap.size) :
  Calls Tryz.prog 67 #[.slice ao K cap] w fun e w' => ∃ v, e = .returned (.slice (some ⟨w.heap.size, 0, none⟩) K K) ∧ IdsAt w' w.heap.size K bs v K ∧ Below w.heap.size w w' := by
 have HRW : Hid (∀ W, Below w.heap.size w W → BRow W ao K cap bs ∧ (∀ i, i < K → (bs i).at' W) ∧ Tabs W) := fun W hW => ⟨CRow.below hr hW, fun i hi => (hb i hi).below hW, ht.below hW hbt⟩
 have HFI : Hid (∀ i, i < K → (bs i).Fine) := hf
 have hcap := hr.1
 have hmk : ∀ W : World, (Instr.makeSlice 127 (.int .i64 (K : Int)) (.int .i64 (K : Int))).run Tryz.prog W = .ok (.slice (some ⟨W.heap.size, 0, none⟩) K K) (W.alloc (.cells (rowC K 1 (fun _ _ => .slice none 0 0)) 60)) := fun W => make_rowD W 127 60 (.slice none 0 0) 1 24 K Tryz.underlying127 infoBytes (by omega) rfl (by omega) (by omega) _ (fun _ j hj => by rw [show j = 0 by omega]; rfl)
 clear hr hb hf ht
 obtain ⟨G, HG⟩ : ∃ G, Hid (G = w.heap.size) := ⟨_, rfl⟩
 have H0 : Hid (∃ v, IdsAt (w.alloc (.cells (rowC K 1 (fun _ _ => .slice none 0 0)) 60)) G K bs v 0 ∧ Below w.heap.size w (w.alloc (.cells (rowC K 1 (fun _ _ => .slice none 0 0)) 60))) := ⟨fun _ => .slice none 0 0, ⟨by rw [HG.out]; exact heap_alloc_last _ _, fun i hi => absurd hi (by omega)⟩, below_alloc1 _ _⟩
 rw [← HG.out]
 go_enter Tryz.func67, Tryz.ntmps67
 go_wp2_with fail
 rw [← HG.out]
 go_loopw [11] (fun i wr => ∃ k : Nat, k ≤ K ∧ i = .int .i64 k ∧ Hid (∃ v, IdsAt wr G K bs v k ∧ Below w.heap.size w wr)) (fun i _ => K - (intOf i).toNat)
 case atStart => exact ⟨0, by omega, rfl, H0⟩
 case round =>
  obtain ⟨k, hk, rfl, hX⟩ := hrel
  clear H0
  obtain ⟨v, hI, hB⟩ := hX.out
  by_cases hlt : k < K
  ·obtain ⟨b, off, rfl, _⟩ := CRow.some (HRW.out wr hB).1 (by omega)
   obtain ⟨c0, c1, c2, c3, c4⟩ := BRow.cells (HRW.out wr hB).1 hlt
   obtain ⟨X, HX⟩ : ∃ X, Hid (X = wr.alloc (.cells (brA (bs k)) 58)) := ⟨_, rfl⟩
   have hXB : Below wr.heap.size wr X := by rw [HX.out]; exact below_alloc1 _ _
   have hX5 : X.heap[wr.heap.size]? = some (.cells (brA (bs k)) 58 (0, 0)) := by rw [HX.out]; exact heap_alloc_last _ _
   have hIX := hI.below hXB
   have hBX : Below w.heap.size w X := hB.trans (hXB.mono hB.size)
   obtain ⟨d0, d1, d2, d3, d4⟩ := br_cells hX5
   have HCL : Hid (Calls Tryz.prog 113 #[.agg #[.string (bs k).reg.s, .int .i64 (bs k).reg.rev, .slice (bs k).reg.ao (bs k).reg.n (bs k).reg.cap]] X fun e w' => ∃ ro rc, e = .returned (.slice ro 50 rc) ∧ w'.cell? ⟨G, k, none⟩ = some (v k) ∧ w'.frozen? ⟨G, k, none⟩ = false ∧ Hid (∃ v, IdsAt (w'.setCell ⟨G, k, none⟩ (.slice ro 50 rc)) G K bs v (k + 1) ∧ Below w.heap.size w (w'.setCell ⟨G, k, none⟩ (.slice ro 50 rc)))) := by
    obtain ⟨_, x2, x3⟩ := HRW.out X hBX
    refine (gident_reg_new (bs k).reg X (HFI.out k hlt).reg (x2 k hlt).2.1 x3).mono ?_
    rintro e w' ⟨ro, rc, rfl, y1, y2, y3⟩
    have z1 := hIX.below y2
    have hBw : Below w.heap.size w w' := hBX.trans (y2.mono hBX.size)
    have e1 : (⟨G, k, none⟩ : Addr) = ⟨G, k * 1 + 0, none⟩ := by simp
    have hGlt : G < X.heap.size := by have := (Array.getElem?_eq_some_iff.1 hIX.1).1; exact this
    obtain ⟨rb, roff, er, hrb, _⟩ := y1.2 (by omega)
    subst er
    have hne : rb ≠ G := by have := y3 _ rfl; simp only at this; omega
    refine ⟨_, rc, rfl, ?_, ?_, fun i => if i = k then .slice (some ⟨rb, roff, none⟩) 50 rc else v i, ⟨?_, fun i hi => ?_⟩, hBw.setCell (by rw [HG.out]; exact Nat.le_refl _) _⟩
    ·rw [e1]; exact rowC_cell z1.1 hlt (by omega)
    ·exact lk_free0 z1.1 _
    ·rw [e1, rowC_set z1.1 hlt (by omega), rowC_congr2 (d := fun i _ => if i = k then .slice (some ⟨rb, roff, none⟩) 50 rc else v i) (fun i _ j hj => by
      unfold updC
      by_cases q : i = k
      ·rw [if_pos ⟨q, by omega⟩, if_pos q]
      ·rw [if_neg (fun p => q p.1), if_neg q])]
    ·have oth : ∀ b, b ≠ G → (w'.setCell ⟨G, k, none⟩ (.slice (some ⟨rb, roff, none⟩) 50 rc)).heap[b]? = w'.heap[b]? := fun b hb => heap_setCell_other _ _ _ _ (by exact hb)
     by_cases q : i = k
     ·subst q
      exact ⟨rb, roff, rc, if_pos rfl, byteRow_other y1 (fun b off e _ => by cases e; exact oth _ hne) (by simp), hne⟩
     ·obtain ⟨b1, off1, rc1, q1, q2, q3⟩ := z1.2 i (by omega)
      exact ⟨b1, off1, rc1, by simp only; rw [if_neg q]; exact q1, byteRow_other q2 (fun b off e _ => by cases e; exact oth _ q3) (by simp), q3⟩
   clear hX hI hB hIX hBX hXB hX5 HRW HFI
   simp only [brA] at *
   generalize (bs k).reg.s = s at *
   have i0 : (0 : Int) ≤ (k : Int) := by omega
   have i1 : (k : Int) < (K : Int) := by omega
   go_wp2_with fail
   rw [← HX.out]
   refine HCL.out.mono ?_
   rintro e w1 ⟨ro, rc, rfl, k1, k2, HN⟩
   clear HCL
   go_wp2_with fail
   exact ⟨⟨k + 1, by omega, by go_num, HN⟩, by simp [intOf]; omega⟩
  ·obtain rfl : k = K := by omega
   go_wp2_with fail
   go_ret
   exact ⟨v, rfl, hI, by rw [HG.out]; exact hB⟩
end Go.Proofs.YtflghpnpjmodaaaGreatDoor
