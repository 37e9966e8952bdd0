/- 'hedgetop.TopShut' returns true for every number, and leaves it as it was: the row and its tied card. Conditions: none beyond the form's own (the tables lie as the program's text lays them: the card's tie). -/
import Derived.Test.YtflghpnpjmodaaaGreatDoorK38
import Derived.Test.YtflghpnpjmodaaaGreatDoorK39
import Derived.Test.YtflghpnpjmodaaaGreatDoorCards
import Derived.Test.YtflghpnpjmodaaaGreatDoorTie
import Derived.Test.YtflghpnpjmodaaaGreatDoorK02
namespace Go.Proofs.YtflghpnpjmodaaaGreatDoor
open Go.RowKit
open Vc (V Of)
open Pl (Br Net Pc Lk En St ringE lineE ringId)
open Tk (Md Mnd Cn Sc Dn ten yes)

/-- Roles of bridge i of a ring. -/
def roR (k i : Nat) : List Int := Pl.rolesL k ten yes (Pl.ringAll k ten yes) i
/-- How many of the first j ports of bridge i are shut. -/
def shR (k i : Nat) : Nat → Nat
  | 0 => 0
  | j + 1 => shR k i j + (if (roR k i).getD j 0 = 3 then 1 else 0)
/-- How many ports of the first m bridges. -/
def shT (k : Nat) : Nat → Nat
  | 0 => 0
  | m + 1 => shT k m + shR k m 2
theorem roR_len (k i : Nat) : (roR k i).length = 2 := by
  unfold roR Pl.rolesL
  rw [List.length_map]
  rfl
theorem shR_two (k i : Nat) : shR k i 2 = ((roR k i).filter (fun r => decide (r = 3))).length := by
  have h := roR_len k i
  match hr : roR k i, h with
  | [a, b], _ =>
    show 0 + (if (roR k i).getD 0 0 = 3 then 1 else 0) + (if (roR k i).getD 1 0 = 3 then 1 else 0) = _
    rw [hr]
    show 0 + (if a = 3 then 1 else 0) + (if b = 3 then 1 else 0) = _
    by_cases h1 : a = 3 <;> by_cases h2 : b = 3 <;> simp [h1, h2]
theorem shT_eq (k : Nat) : ∀ m, shT k m = (((List.range m).map (fun i => ((roR k i).filter (fun r => decide (r = 3))).length)).foldl (· + ·) 0)
  | 0 => rfl
  | m + 1 => by
    rw [List.range_succ, List.map_append, List.foldl_append, ← shT_eq k m]
    show shT k m + shR k m 2 = _
    rw [shR_two]
    rfl
theorem mem_ks {k : Nat} (hk : 3 ≤ k ∧ k ≤ 12) : k ∈ (List.range 13).drop 3 := by
  have : (List.range 13).drop 3 = [3, 4, 5, 6, 7, 8, 9, 10, 11, 12] := by decide
  rw [this]
  simp
  omega
/-- Just one port is shut. -/
theorem shT_one {k : Nat} (hk : 3 ≤ k ∧ k ≤ 12) : shT k k = 1 := by
  have h1 := List.all_eq_true.1 Tk.shut_one k (mem_ks hk)
  have h2 : Tk.shutN k = 1 := of_decide_eq_true h1
  rw [shT_eq]
  exact h2
section
variable {k : Nat} {a5 : Option Addr} {c5 : Nat} {a6 : Option Addr} {c6 : Nat}
theorem shut_at (hk : 3 ≤ k ∧ k ≤ 12) {i : Nat} (hi : i < k) :
    (Pl.rounds ((netL k true ten a5 c5 a6 c6).ids 0) (netL k true ten a5 c5 a6 c6).ends k k i).v.root = ringId 0 ∧ (Pl.rounds ((netL k true ten a5 c5 a6 c6).ids 0) (netL k true ten a5 c5 a6 c6).ends k k i).v.cost = 10 * (min i (k - i) : Nat) ∧ ((netL k true ten a5 c5 a6 c6).ends i).length = 2 ∧ (∀ j, j < 2 → Pl.roleAt (Pl.rounds ((netL k true ten a5 c5 a6 c6).ids 0) (netL k true ten a5 c5 a6 c6).ends k k i) (Pl.offs ((netL k true ten a5 c5 a6 c6).ends i) (Pl.rounds ((netL k true ten a5 c5 a6 c6).ids 0) (netL k true ten a5 c5 a6 c6).ends k k)) (EL ((netL k true ten a5 c5 a6 c6).ends i) j) = (roR k i).getD j 0) ∧ (∀ j, j < 2 → (roR k i).getD j 0 = 3 → i = (k + 1) / 2) := by
  rw [netL_ids]
  have hE : (netL k true ten a5 c5 a6 c6).ends i = ringE k ten yes i := netL_ring hk.1 ten_ok hi
  have hf : ∀ q, q < k → Pl.rounds ringId (netL k true ten a5 c5 a6 c6).ends k k q = Pl.sat (Pl.ringAll k ten yes) q := fun q hq => (Pl.finL_by (fun i hi => netL_ring hk.1 ten_ok hi) (Pl.ringE_in hk.1 ten yes) hq).symm
  have hoffs : Pl.offs (ringE k ten yes i) (Pl.rounds ringId (netL k true ten a5 c5 a6 c6).ends k k) = Pl.offs (ringE k ten yes i) (Pl.sat (Pl.ringAll k ten yes)) := Pl.offs_congr (fun e he _ => by rw [hf _ (Pl.ringE_in hk.1 ten yes i hi e he)])
  rw [hE, hf i hi, hoffs]
  have h1 := List.all_eq_true.1 Tk.shut_all k (mem_ks hk)
  have h2 := List.all_eq_true.1 h1 i (List.mem_range.2 hi)
  simp only [Bool.and_eq_true, decide_eq_true_eq] at h2
  obtain ⟨p1, p2, p3⟩ := h2
  refine ⟨p1, p2, rfl, fun j hj => ?_, fun j hj h3 => ?_⟩
  · unfold roR Pl.rolesL
    exact (Tk.map_getD _ _ (EL_get (by show j < 2; exact hj))).symm
  · have hm : (roR k i).getD j 0 ∈ roR k i := by
      have hl : j < (roR k i).length := by rw [roR_len]; exact hj
      simp [List.getD_eq_getElem?_getD, hl]
    have := List.all_eq_true.1 p3 _ hm
    rw [h3] at this
    simpa using this
theorem ring_name : (Pl.rounds ((netL k true ten a5 c5 a6 c6).ids 0) (netL k true ten a5 c5 a6 c6).ends k k 0).v.bridge = ringId 0 := by
  rw [netL_ids]
  exact (Pl.rounds_bridge _ _ _ _ _).1
end
end Go.Proofs.YtflghpnpjmodaaaGreatDoor

namespace Go.Proofs.YtflghpnpjmodaaaGreatDoor
open Go.RowKit
open Vc (V Of)
open Pl (Br Net Pc Lk En St ringE lineE ringId)
open Tk (Md Mnd Cn Sc Dn ten yes)

/-- What TopShut has behind its Plan. -/
structure ShG (Z w : World) (k P G : Nat) (x : Nat → St) (c : Nat → Nat → Value) : Prop where
  keep : ∀ V, Below Z.heap.size Z V → V.cell? ⟨G, 0, none⟩ = some (.int .i64 0) ∧ V.heap[P]? = some (.cells (rowC k 7 c) 39 (0, 0)) ∧ (∀ i, i < k → ∃ rb roff rcap, c i 6 = .slice (some ⟨rb, roff, none⟩) 2 rcap ∧ 2 ≤ rcap ∧ IRow V (some ⟨rb, roff, none⟩) 2 rcap (fun j => (roR k i).getD j 0)) ∧ Below w.heap.size w V
  cells : ∀ i, i < k → c i 0 = .int .u64 (ringId 0) ∧ c i 1 = .int .i64 (10 * (min i (k - i) : Nat)) ∧ c i 2 = .int .u64 (x i).v.bridge ∧ c i 3 = .int .i64 (x i).v.port ∧ c i 4 = .int .i64 (x i).rp ∧ ∃ pao pcap, c i 5 = .slice pao 2 pcap
  name : (x 0).v.bridge = ringId 0
  shut : ∀ i, i < k → ∀ j, j < 2 → (roR k i).getD j 0 = 3 → i = (k + 1) / 2
theorem shR_le (k i : Nat) : ∀ j, shR k i j ≤ j
  | 0 => Nat.le_refl _
  | j + 1 => by
    have := shR_le k i j
    show shR k i j + (if (roR k i).getD j 0 = 3 then 1 else 0) ≤ j + 1
    split <;> omega
theorem shT_le (k : Nat) : ∀ m, shT k m ≤ 2 * m
  | 0 => Nat.le_refl _
  | m + 1 => by
    have h1 := shT_le k m
    have h2 := shR_le k m 2
    show shT k m + shR k m 2 ≤ 2 * (m + 1)
    omega
set_option maxRecDepth 100000 in
set_option maxHeartbeats 6000000 in
theorem utopshut_any (k : Int) (w : World) (ht : Tabs w) (hbt : 2 ≤ w.heap.size) : Calls Tryz.prog 3 #[.int .i64 k] w fun e w' => e = .returned (.bool true) ∧ Below w.heap.size w w' := by
  have HT : Hid (∀ V, Below w.heap.size w V → Tabs V ∧ 2 ≤ V.heap.size) := fun V hV => ⟨ht.below hV hbt, Nat.le_trans hbt hV.size⟩
  have HAL : Hid (Calls Tryz.prog 12 #[] w fun e w' => e = .returned (.bool true) ∧ Below w.heap.size w w') := ualive_any w ht hbt
  clear ht hbt
  go_enter Tryz.func3, Tryz.ntmps3
  go_wp2_with fail
  refine HAL.out.mono ?_
  rintro e w1 ⟨rfl, HB1⟩
  have H1 : Hid (Below w.heap.size w w1) := HB1
  clear HAL HB1
  by_cases q1 : k < 3
  · clear HT
    go_wp2_with fail
    go_ret
    exact ⟨rfl, H1.out⟩
  by_cases q2 : 12 < k
  · clear HT
    go_wp2_with fail
    go_ret
    exact ⟨rfl, H1.out⟩
  obtain ⟨k, rfl⟩ : ∃ q : Nat, k = (q : Int) := ⟨k.toNat, by omega⟩
  have HLN : Hid (Calls Tryz.prog 14 #[.int .i64 (k : Int), .bool true] w1 fun e w' => ∃ a5 c5 a6 c6, e = .returned (.agg #[.slice a5 k c5, .slice a6 k c6]) ∧ Hid (LineW (w1.heap.size + 2) w' (Pl.lnk k ten yes) k k (.slice a5 k c5) (.slice a6 k c6) ∧ Below w1.heap.size w1 w')) := by
    have h := uline_any k true w1 (by omega)
    rw [lnL_ring (by omega)] at h
    exact h
  go_wp2_with fail
  refine HLN.out.mono ?_
  rintro e w2 ⟨a5, c5, a6, c6, rfl, H2⟩
  clear HLN
  have hw2 : Below w.heap.size w w2 := H1.out.trans (H2.out.2.mono H1.out.size)
  have HK : Hid (3 ≤ k ∧ k ≤ 12) := ⟨by omega, by omega⟩
  have HPL : Hid (Calls Tryz.prog 13 #[.agg #[.slice a5 k c5, .slice a6 k c6], .int .i64 0] w2 fun e w' => ∃ P, e = .returned (.tuple #[.slice (some ⟨P, 0, none⟩) k k, .agg #[.int .i64 0, .int .i64 0]]) ∧ Hid (Below w.heap.size w w' ∧ PlacesAt w' P k (Pl.rounds ((netL k true ten a5 c5 a6 c6).ids 0) (netL k true ten a5 c5 a6 c6).ends k k) (netL k true ten a5 c5 a6 c6).ends k)) := by
    have hr := netL_right (ring := true) (a5 := a5) (c5 := c5) (a6 := a6) (c6 := c6) HK.out.2 ten_ok
    have h := pplan_any (netL k true ten a5 c5 a6 c6) 0 w2 (H2.out.1.at (ring := true) (lnL_ring HK.out.1).symm (by have := HK.out.2; omega)) (netL_wf HK.out.2) (HT.out w2 hw2).1 (HT.out w2 hw2).2
    have e : (netL k true ten a5 c5 a6 c6).val = .agg #[.slice a5 k c5, .slice a6 k c6] := by
      unfold Pl.Net.val
      show Value.agg #[.slice a5 k c5, .slice a6 (lnL k true) c6] = _
      rw [lnL_ring HK.out.1]
    rw [e] at h
    refine h.mono ?_
    rintro e w' ⟨z1, ⟨y, _⟩ | ⟨_, y, _⟩ | ⟨_, _, P, rfl, y, _⟩⟩
    · exact absurd hr y
    · exact absurd ⟨by omega, by omega⟩ y
    · exact ⟨P, rfl, hw2.trans (z1.mono hw2.size), y⟩
  clear H1 H2 HT hw2
  go_wp2_with fail
  refine HPL.out.mono ?_
  rintro e w3 ⟨P, rfl, H3⟩
  clear HPL
  obtain ⟨Z, HZ⟩ : ∃ Z, Hid (Z = w3.alloc (.cells #[.int .i64 0, .int .i64 0] 26)) := ⟨_, rfl⟩
  have hZ3 : Below w3.heap.size w3 Z := by rw [HZ.out]; exact below_alloc1 _ _
  have hZf : Z.heap[w3.heap.size]? = some (.cells #[.int .i64 0, .int .i64 0] 26 (0, 0)) := by rw [HZ.out]; exact heap_alloc_last _ _
  obtain ⟨G, HGG⟩ : ∃ G, Hid (G = w3.heap.size) := ⟨_, rfl⟩
  obtain ⟨x, hx⟩ : ∃ x, x = Pl.rounds ((netL k true ten a5 c5 a6 c6).ids 0) (netL k true ten a5 c5 a6 c6).ends k k := ⟨_, rfl⟩
  obtain ⟨c, HG⟩ : ∃ c, Hid (ShG Z w k P G x c) := by
    have hp := H3.out.2
    rw [← hx] at hp
    obtain ⟨c, p1, p2, _, p4⟩ := hp
    refine ⟨c, fun V hV => ?_, fun i hi => ?_, ?_, fun i hi => ?_⟩
    · have hV3 := hZ3.trans (hV.mono hZ3.size)
      refine ⟨by rw [HGG.out]; exact (two_cells2 (keep hZf hV)).1, keep p1 hV3, fun i hi => ?_, H3.out.1.trans (hV3.mono H3.out.1.size)⟩
      obtain ⟨pao, rao, pcap, rcap, _, e6, _, r, _, _⟩ := p4 i hi
      obtain ⟨_, _, s3, s4, _⟩ := shut_at (a5 := a5) (c5 := c5) (a6 := a6) (c6 := c6) HK.out hi
      rw [← hx] at s4
      rw [s3] at e6 r
      have rV := CRow.below r hV3
      obtain ⟨rb, roff, erao, _⟩ := CRow.some rV (by omega)
      rw [erao] at e6 rV
      refine ⟨rb, roff, rcap, e6, rV.1, ?_⟩
      refine ⟨rV.1, fun q => ⟨rb, roff, rfl, ?_, fun j hj m hm => ?_⟩⟩
      · obtain ⟨b', o', e, hb, _⟩ := rV.2 (by omega)
        cases e
        exact hb
      · obtain ⟨b', o', e, _, hc⟩ := rV.2 (by omega)
        cases e
        have := hc j hj m hm
        show _ = some (Value.int .i64 ((roR k i).getD j 0))
        rw [← s4 j hj]
        exact this
    · obtain ⟨s1, s2, _⟩ := shut_at (a5 := a5) (c5 := c5) (a6 := a6) (c6 := c6) HK.out hi
      rw [← hx] at s1 s2
      obtain ⟨pao, _, pcap, _, e5, _⟩ := p4 i hi
      obtain ⟨_, _, s3, _⟩ := shut_at (a5 := a5) (c5 := c5) (a6 := a6) (c6 := c6) HK.out hi
      rw [s3] at e5
      refine ⟨?_, ?_, ?_, ?_, ?_, pao, pcap, e5⟩
      · rw [p2 i hi 0 (by omega), ← s1]
        rfl
      · rw [p2 i hi 1 (by omega), ← s2]
        rfl
      · rw [p2 i hi 2 (by omega)]
        rfl
      · rw [p2 i hi 3 (by omega)]
        rfl
      · rw [p2 i hi 4 (by omega)]
        rfl
    · rw [hx]
      exact ring_name
    · exact (shut_at (a5 := a5) (c5 := c5) (a6 := a6) (c6 := c6) HK.out hi).2.2.2.2
  obtain ⟨c9, _⟩ := HG.out.keep Z (Below.refl _ _)
  rw [HZ.out, HGG.out] at c9
  obtain ⟨hk1, hk2⟩ := HK.out
  clear H3 hZ3 hZf hx q1 q2
  go_wp2_with fail
  rw [← HZ.out]
  clear c9
  go_loopw [5, 35] (fun s5 s35 wr => ∃ i : Nat, i ≤ k ∧ s35 = .int .i64 i ∧ s5 = .int .i64 (shT k i) ∧ Hid (Below Z.heap.size Z wr)) (fun _ s35 _ => k - (intOf s35).toNat)
  case atStart => exact ⟨0, by omega, rfl, rfl, Below.refl _ _⟩
  case round =>
    obtain ⟨i, hi, rfl, rfl, hB⟩ := hrel
    by_cases hlt : i < k
    · have hi1 : (i : Int) < (k : Int) := by omega
      have hi0 : (0 : Int) ≤ (i : Int) := by omega
      obtain ⟨_, r0, r1, _⟩ := HG.out.keep wr hB.out
      obtain ⟨rb, roff, rcap, e6, hrc, _⟩ := r1 i hlt
      have m0 : wr.cell? ⟨P, i * 7, none⟩ = some (c i 0) := rowC_cell r0 hlt (show 0 < 7 by omega)
      have m1 : wr.cell? ⟨P, i * 7 + 1, none⟩ = some (c i 1) := rowC_cell r0 hlt (show 1 < 7 by omega)
      have m2 : wr.cell? ⟨P, i * 7 + 2, none⟩ = some (c i 2) := rowC_cell r0 hlt (show 2 < 7 by omega)
      have m3 : wr.cell? ⟨P, i * 7 + 3, none⟩ = some (c i 3) := rowC_cell r0 hlt (show 3 < 7 by omega)
      have m4 : wr.cell? ⟨P, i * 7 + 4, none⟩ = some (c i 4) := rowC_cell r0 hlt (show 4 < 7 by omega)
      have m5 : wr.cell? ⟨P, i * 7 + 5, none⟩ = some (c i 5) := rowC_cell r0 hlt (show 5 < 7 by omega)
      have m6 : wr.cell? ⟨P, i * 7 + 6, none⟩ = some (c i 6) := rowC_cell r0 hlt (show 6 < 7 by omega)
      obtain ⟨e0, e1, e2', e3, e4, pao, pcap, e5⟩ := HG.out.cells i hlt
      obtain ⟨_, _, e2, _⟩ := HG.out.cells 0 (by omega)
      rw [HG.out.name] at e2
      rw [e0] at m0
      rw [e1] at m1
      rw [e6] at m6
      rw [e2'] at m2
      rw [e3] at m3
      rw [e4] at m4
      rw [e5] at m5
      obtain ⟨Y, HY⟩ : ∃ Y, Hid (Y = wr.alloc (.cells #[.int .u64 (ringId 0), .int .i64 (10 * (min i (k - i) : Nat)), .int .u64 (x i).v.bridge, .int .i64 (x i).v.port, .int .i64 (x i).rp, .slice pao 2 pcap, .slice (some ⟨rb, roff, none⟩) 2 rcap] 39)) := ⟨_, rfl⟩
      have hYB : Below wr.heap.size wr Y := by rw [HY.out]; exact below_alloc1 _ _
      have hYx : Y.heap[wr.heap.size]? = some (.cells #[.int .u64 (ringId 0), .int .i64 (10 * (min i (k - i) : Nat)), .int .u64 (x i).v.bridge, .int .i64 (x i).v.port, .int .i64 (x i).rp, .slice pao 2 pcap, .slice (some ⟨rb, roff, none⟩) 2 rcap] 39 (0, 0)) := by rw [HY.out]; exact heap_alloc_last _ _
      have hZY : Below Z.heap.size Z Y := hB.out.trans (hYB.mono hB.out.size)
      obtain ⟨q, HQ⟩ : ∃ q, Hid (q = wr.heap.size) := ⟨_, rfl⟩
      have y0 : Y.cell? ⟨q, 0, none⟩ = some (.int .u64 (ringId 0)) := by rw [HQ.out]; exact cell_of_row _ _ 0 _ _ _ hYx
      have y1 : Y.cell? ⟨q, 1, none⟩ = some (.int .i64 (10 * (min i (k - i) : Nat))) := by rw [HQ.out]; exact cell_of_row _ _ 1 _ _ _ hYx
      have y6 : Y.cell? ⟨q, 6, none⟩ = some (.slice (some ⟨rb, roff, none⟩) 2 rcap) := by rw [HQ.out]; exact cell_of_row _ _ 6 _ _ _ hYx
      have hYr := HG.out.keep Y hZY
      have p2 : Y.cell? ⟨P, 0 * 7 + 2, none⟩ = some (c 0 2) := rowC_cell hYr.2.1 (show 0 < k by omega) (show 2 < 7 by omega)
      rw [e2] at p2
      simp only [Nat.zero_mul, Nat.zero_add] at p2
      have HRL : Hid (∀ V, Below Y.heap.size Y V → ∀ j, j < 2 → V.cell? ⟨rb, roff + j, none⟩ = some (.int .i64 ((roR k i).getD j 0))) := fun V hV j hj => by
        obtain ⟨rb', roff', rcap', e6', _, r⟩ := (HG.out.keep V (hZY.trans (hV.mono hZY.size))).2.2.1 i hlt
        rw [e6] at e6'
        injection e6' with ea eb ec
        injection ea with ea
        injection ea with ea1 ea2
        subst ea1 ea2 ec
        exact IRow.cells r hj
      have HZY : Hid (Below Z.heap.size Z Y) := hZY
      have wi : IntKind.i64.wrap ((i : Int) + 1) = ((i + 1 : Nat) : Int) := by rw [IntKind.wrap_i64]; omega
      have wk : IntKind.i64.wrap ((k : Int) - (i : Int)) = ((k - i : Nat) : Int) := by rw [IntKind.wrap_i64]; omega
      have wm : IntKind.i64.wrap (10 * ((min i (k - i) : Nat) : Int)) = 10 * ((min i (k - i) : Nat) : Int) := by rw [IntKind.wrap_i64]; omega
      have hmin : (if ((k - i : Nat) : Int) < (i : Int) then ((k - i : Nat) : Int) else (i : Int)) = ((min i (k - i) : Nat) : Int) := by
        by_cases h : ((k - i : Nat) : Int) < (i : Int)
        · rw [if_pos h]; omega
        · rw [if_neg h]; omega
      have hk0 : (0 : Int) < (k : Int) := by omega
      clear r0 r1 e0 e1 e2 e2' e3 e4 e5 e6 hYB hYx hZY hYr hB
      generalize ringId 0 = rr at *
      go_wp2_with fail
      rw [← HY.out, ← HQ.out]
      clear m0 m1 m2 m3 m4 m5 m6
      generalize min i (k - i) = mn at *
      have HSH : Hid (∀ j, j < 2 → (roR k i).getD j 0 = 3 → i = (k + 1) / 2) := HG.out.shut i hlt
      go_region
      all_goals go_wp2_with fail
      clear y0 y1 y6 p2
      go_loopw [5, 64] (fun s5 s64 wr2 => ∃ j : Nat, j ≤ 2 ∧ s64 = .int .i64 j ∧ s5 = .int .i64 ((shT k i + shR k i j : Nat) : Int) ∧ Hid (Below Y.heap.size Y wr2)) (fun _ s64 _ => 2 - (intOf s64).toNat)
      case atStart => exact ⟨0, by omega, rfl, rfl, by first | exact Below.refl _ _ | exact (Below.refl _ _).drew | exact below_drewN (Below.refl _ _) _⟩
      case round =>
        obtain ⟨j, hj, rfl, rfl, hB2⟩ := hrel
        by_cases hlj : j < 2
        · have hj1 : (j : Int) < 2 := by omega
          have hj0 : (0 : Int) ≤ (j : Int) := by omega
          have c0 := HRL.out wr hB2.out j hlj
          have wj : IntKind.i64.wrap ((j : Int) + 1) = ((j + 1 : Nat) : Int) := by rw [IntKind.wrap_i64]; omega
          have HSS : Hid (shR k i (j + 1) = shR k i j + (if (roR k i).getD j 0 = 3 then 1 else 0)) := rfl
          have HST : Hid ((roR k i).getD j 0 = 3 → i = (k + 1) / 2) := HSH.out j hlj
          by_cases h3 : (roR k i).getD j 0 = 3
          · have hik := HST.out h3
            have e : shR k i (j + 1) = shR k i j + 1 := by rw [HSS.out, if_pos h3]
            have hq1 : Int.tdiv ((k : Int) + 1) 2 = (i : Int) := by rw [Int.tdiv_eq_ediv_of_nonneg (by omega)]; omega
            have hq0 : IntKind.i64.wrap ((k : Int) + 1) = (k : Int) + 1 := by rw [IntKind.wrap_i64]; omega
            have hq2 : IntKind.i64.wrap (i : Int) = (i : Int) := by rw [IntKind.wrap_i64]; omega
            obtain ⟨S, HS⟩ : ∃ S, Hid (S = shT k i + shR k i j) := ⟨_, rfl⟩
            have hS : S ≤ 100 := by
              have h1 := shT_le k i
              have h2 := shR_le k i j
              have h3 := HS.out
              omega
            have HS2 : Hid (shT k i + shR k i (j + 1) = S + 1) := by rw [HS.out, e]; show _ = _; omega
            have ws : IntKind.i64.wrap ((S : Int) + 1) = (S : Int) + 1 := by rw [IntKind.wrap_i64]; omega
            rw [h3] at c0
            rw [← HS.out]
            clear HST HSS hik e h3
            go_wp2_with fail
            exact ⟨⟨j + 1, by omega, by go_num, by rw [HS2.out]; simp, hB2⟩, by simp [intOf]; omega⟩
          · have e : shR k i (j + 1) = shR k i j := by rw [HSS.out, if_neg h3]; rfl
            have HE : Hid (shR k i (j + 1) = shR k i j) := e
            clear HST HSS e
            generalize (roR k i).getD j 0 = ro at *
            go_wp2_with fail
            exact ⟨⟨j + 1, by omega, by go_num, by rw [HE.out], hB2⟩, by simp [intOf]; omega⟩
        · obtain rfl : j = 2 := by omega
          have HZ2 : Hid (Below Z.heap.size Z wr) := HZY.out.trans (hB2.out.mono HZY.out.size)
          have hj1 : ¬ ((2 : Nat) : Int) < 2 := by omega
          clear HSH HRL
          go_wp2_with fail
          exact ⟨⟨i + 1, by omega, by go_num, rfl, HZ2⟩, by simp [intOf]; omega⟩
    · obtain rfl : i = k := by omega
      obtain ⟨_, _, _, r6⟩ := HG.out.keep wr hB.out
      have HBW : Hid (Below w.heap.size w wr) := r6
      have hi1 : ¬ (i : Int) < (i : Int) := by omega
      rw [shT_one HK.out]
      clear HG r6
      go_wp2_with fail
      go_ret
      exact ⟨rfl, HBW.out⟩
end Go.Proofs.YtflghpnpjmodaaaGreatDoor

namespace Go.Proofs.YtflghpnpjmodaaaGreatDoor.topShut
open Go.ChangeShapes Go.WideShapes Go.ChangeAt Go.RowKit

set_option maxRecDepth 100000 in
theorem contract (H : Type) (enc : TypeId × Value → H) (W : World) (base : Nat) (args : Array Value) (ds gs : List (DataW H)) (before : List MemPlace)
    (hval : ∀ (j : Nat) t v, Tryz.f3.params[j]? = some t → args[j]? = some v → Value.okWide Tryz.prog W .any base t v)
    (hW : DataW.Whole enc Tryz.prog Tryz.f3.params.toList Rows.topShutSpec.vars false W args.toList ds gs before)
    (hsz : (DataW.weightsEach Tryz.prog (Tryz.f3.params.toList ++ (OpenSpec.ofChange Rows.topShutSpec).bare.plain.varTypes Tryz.prog) (ds ++ gs)).all (· ≤ reachBytes) = true)
    (hL : laidMetH Tryz.prog Rows.topShutRow.laid W) :
    Calls Tryz.prog 3 args W fun e W' => ∃ v, e = .returned v ∧ Rows.topShutSpec.post enc Tryz.prog Tryz.f3 false true false false W args v W' := by
  have hW' := hW
  obtain ⟨p, q, hA0, hV, rfl, hfz, hnd⟩ := hW
  have hA : DataW.TrodAll enc Tryz.prog W 0 (fun _ => true) true Tryz.f3.params.toList args.toList ds p := hA0
  rw [Tryz.params3] at hA hval hsz
  obtain ⟨v0, vs0, d0, ds0, p0, q0, hargs, rfl, rfl, h0, r0⟩ := trodAll_cons hA
  obtain ⟨rfl, rfl, rfl⟩ := trodAll_nil r0
  obtain rfl : args = #[v0] := by cases args; simp_all
  obtain ⟨rfl, rfl⟩ := trodVars_none hV
  have lt0 : ∀ x ∈ p0, x.block < W.heap.size := by obtain ⟨m, hm⟩ := h0; exact DataW.trod_lt m _ _ _ hm
  obtain ⟨z0, rfl⟩ := okWide_int Tryz.underlying3 (hval 0 3 v0 rfl rfl)
  have hT := tabs_of hL
  have hG : 2 ≤ W.heap.size := hT.lt
  clear hA0 hsz
  refine (utopshut_any z0 W hT hG).mono fun e W' ⟨he, bel⟩ => ?_
  subst he
  exact ⟨_, rfl, _, _, _, [], _, [], hW', trodAll_mk1 (shut_bool Tryz.underlying4 _), (trodAll_cons_mk (Below.trod laidOut (by kernel_rfl) (of_decide_eq_true (by kernel_rfl)) h0 bel lt0) trodAll_mk0), rfl, bel.frame _, fun h => by cases h⟩

theorem laid_met (os : Os) : laidMet Tryz.prog Rows.topShutRow.laid ((laidW (World.holding Tryz.prog os ⟨#[], #[], []⟩)).forCall (fun _ _ => 0) ⟨#[], #[.int .i64 0], []⟩).memory :=
  laidMet_of_run' 8 (by kernel_rfl) (by kernel_rfl)
theorem reads (os : Os) {H : Type} (enc : TypeId × Value → H) : ∃ places, DataW.whole enc Tryz.prog ((laidW (World.holding Tryz.prog os ⟨#[], #[], []⟩)).forCall (fun _ _ => 0) ⟨#[], #[.int .i64 0], []⟩).memory Tryz.f3.params.toList Rows.topShutSpec.vars false #[Value.int .i64 0].toList 8 = some ([.lit (.int .i64 0)], [], places) :=
  ⟨[], by kernel_rfl⟩

set_option maxRecDepth 100000 in
theorem lifted (os : Os) (started : os.Started) (H : Type) (enc : TypeId × Value → H) (F : Stop.Interp) :
    ReturnsInHanded {} Tryz.checked os 3 .any ((OpenSpec.ofChange Rows.topShutSpec).preRow enc Tryz.prog Tryz.f3 Rows.topShutRow.domain false Rows.topShutRow.laid) (((OpenSpec.ofChange Rows.topShutSpec).at F).post enc Tryz.prog Tryz.f3 false true false false) := by
  obtain ⟨places, hx⟩ := reads os enc
  refine returnsInHanded_of_row (C := Tryz.checked) (s := OpenSpec.ofChange Rows.topShutSpec) own started (by kernel_rfl) Tryz.func3
    (witness_row_at (enc := enc) (C := Tryz.checked) false (laidW (World.holding Tryz.prog os ⟨#[], #[], []⟩)) #[.int .i64 0] rfl (by kernel_rfl) (by kernel_rfl) (by kernel_rfl)
      (OpenSpec.preRow_of_cond 8 hx (by kernel_rfl) (fun k hk => by cases hk) (by kernel_rfl) (laid_met os))) ?_
  intro W base args ds gs before hval hW _ _ hsz hL _ _
  exact contract H enc W base args ds gs before hval hW hsz hL

theorem said : Rows.TopShutSaid :=
  OpenClaim.holds_of_cond 3 Tryz.f3 rfl rfl rfl rfl rfl rfl rfl ⟨rfl, rfl, rfl, rfl, rfl⟩ rfl rfl rfl rfl rfl (by kernel_rfl) Tryz.func3 (by kernel_rfl)
    (of_decide_eq_true (by kernel_rfl)) (by unfold Func.isWrapper; first | (rw [if_pos (by decide +kernel)]; kernel_rfl) | (rw [if_neg (by decide +kernel)]; exact ⟨rfl, rfl⟩))
    (fun os started H enc _ F => by rw [OpenClaim.pre_eq_preRow]; exact lifted os started H enc F)

theorem plain (f : FuncId) (fn : Func) (hf : Tryz.pinned.checked.prog.funcNamed "hedgerow/hedgetop.TopShut" = some f) (hfn : Tryz.pinned.checked.prog.funcs[f]? = some fn) :
    false = Tryz.pinned.checked.prog.looks [] ∧ ∀ (j : Nat) t, fn.params[j]? = some t → Tryz.pinned.checked.prog.wantsStandIn t = false := by
  obtain rfl : f = 3 := Option.some.inj ((show Tryz.prog.funcNamed "hedgerow/hedgetop.TopShut" = some 3 by kernel_rfl).symm.trans hf) |>.symm
  obtain rfl : fn = Tryz.f3 := (Option.some.inj (Tryz.func3.symm.trans hfn)).symm
  refine ⟨by kernel_rfl, fun j t ht => ?_⟩
  rw [Tryz.params3] at ht
  have h1 : Tryz.prog.wantsStandIn 3 = false := by kernel_rfl
  have ht2 : t = 3 := by simpa using Array.mem_of_getElem? ht
  subst ht2
  exact h1

/-- ████ THE CARD ████ -/
theorem card : Rows.TopShutCardSaid :=
  Claim7.holds_tied_plain_at .later [] _ _ _ _ said (fun _ h => by cases h) (by kernel_rfl) (fun _ h => by cases h) topShut_row_tie rfl ⟨rfl, rfl⟩ (by kernel_rfl) rfl plain (by kernel_rfl)
end Go.Proofs.YtflghpnpjmodaaaGreatDoor.topShut
namespace Go.Proofs.YtflghpnpjmodaaaGreatDoor
/-- WHICH LINK IS SHUT: the statement, as it was given. -/
theorem topShut_card : Rows.TopShutCardSaid := topShut.card
#print axioms topShut_card
end Go.Proofs.YtflghpnpjmodaaaGreatDoor
