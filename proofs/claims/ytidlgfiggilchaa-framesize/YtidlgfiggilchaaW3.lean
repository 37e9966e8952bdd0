/- walks: sizeOf, headOf, frameOf -/
import Derived.Test.YtidlgfiggilchaaW2
import Derived.Deep.DeepCutAuto
import Derived.Laws.ResultCell
namespace Go.Proofs.Ytidlgfiggilchaa
open Go.RowKit

theorem sizeH : (Try.prog.info? 41).map (·.size) = some 18 := by kernel_rfl
theorem sizeFr : (Try.prog.info? 25).map (·.size) = some 8 := by kernel_rfl
def sizeF (f : Nat → Int) : Nat := if f 12 * 256 + f 13 = 33024 then 18 else 14
set_option maxHeartbeats 400000 in
theorem sizeOf_any (f : Nat → Int) (w : World) (hf : ∀ i, i < 18 → 0 ≤ f i ∧ f i ≤ 255) :
    Calls Try.prog 20 #[.agg (rowF 18 f)] w fun e w' => e = .returned (.int .i64 (sizeF f)) ∧ Below w.heap.size w w' := by
  have HF : Hid (∀ i, i < 18 → 0 ≤ f i ∧ f i ≤ 255) := hf
  clear hf
  unfold sizeF
  by_cases c1 : f 12 * 256 + f 13 = 33024
  all_goals
    go_enter Try.func20, Try.ntmps20
    go_wp2_with (first | refine wpList_load_row rfl 41 _ rfl w.heap.size rfl 41 _ (0, 0) _ (heap_alloc_last w _) Try.underlying41 rfl (by rw [sizeH, rowF_size]) ?_ | (go_at_call 28; refine (pairAt_any 12 12 f _ HF.out rfl (by omega)).mono ?_; rintro e w1 ⟨rfl, hb⟩; simp only [Nat.reduceAdd]))
    go_ret
    exact ⟨by simp, (below_alloc1 _ _).trans (hb.mono (by simp))⟩
/-- Behind headOf's first steps: the frame, the answer's place, and the head. -/
def HeadW (w wx : World) (fr : Array Value) (f : Nat → Int) : Prop :=
  wx.heap[w.heap.size]? = some (.cells fr 25 (0, 0)) ∧ wx.heap[w.heap.size + 1]? = some (.cells (rowF 18 (fun _ => 0)) 41 (0, 0)) ∧ wx.heap[w.heap.size + 1 + 1]? = some (.cells (rowF 18 f) 41 (0, 0)) ∧ Below w.heap.size w wx
theorem HeadW.step {w wx w1 : World} {fr : Array Value} {f f' : Nat → Int} (h : HeadW w wx fr f) (h1 : w1.heap[w.heap.size + 1 + 1]? = some (.cells (rowF 18 f') 41 (0, 0))) (h3 : Below (w.heap.size + 1 + 1) wx w1) : HeadW w w1 fr f' :=
  ⟨(h3.block _ (by omega)).trans h.1, (h3.block _ (by omega)).trans h.2.1, h1, h.2.2.2.trans (h3.mono (by omega))⟩
theorem HeadW.lt {w wx : World} {fr : Array Value} {f : Nat → Int} (h : HeadW w wx fr f) : w.heap.size + 2 < wx.heap.size :=
  block_lt_of_cell ((cell_of_row wx _ 0 _ _ _ h.2.2.1).trans (rowF_get _ _ _ (by omega)))
theorem HeadW.grow {w wx w1 : World} {fr : Array Value} {f : Nat → Int} (h : HeadW w wx fr f) (h3 : Below wx.heap.size wx w1) : HeadW w w1 fr f := by
  have := h.lt
  exact ⟨(h3.block _ (by omega)).trans h.1, (h3.block _ (by omega)).trans h.2.1, (h3.block _ (by omega)).trans h.2.2.1, h.2.2.2.trans (h3.mono (by omega))⟩
theorem HeadW.congr {w wx : World} {fr : Array Value} {f f' : Nat → Int} (h : HeadW w wx fr f) (e : ∀ i, i < 18 → f i = f' i) : HeadW w wx fr f' :=
  ⟨h.1, h.2.1, by rw [← rowF_congr _ _ _ e]; exact h.2.2.1, h.2.2.2⟩
theorem HeadW.drew {w wx : World} {fr : Array Value} {f : Nat → Int} (h : HeadW w wx fr f) : HeadW w wx.drew fr f :=
  ⟨h.1, h.2.1, h.2.2.1, h.2.2.2.drew⟩
/-- The head behind its two addresses. -/
def head2 (d s : Int) (i : Nat) : Int := if i < 6 then be 6 d i else if i < 12 then be 6 s (i - 6) else 0
def head3 (d s : Int) (i : Nat) : Int := if 12 ≤ i ∧ i < 12 + 2 then be 2 33024 (i - 12) else head2 d s i
def head4 (d s T : Int) (i : Nat) : Int := if 14 ≤ i ∧ i < 14 + 2 then be 2 T (i - 14) else head3 d s i
theorem headF_plain (d s : Int) (p : Int) (dr : Bool) (v y : Int) (i : Nat) : (if 12 ≤ i ∧ i < 12 + 2 then be 2 y (i - 12) else head2 d s i) = headF d s false p dr v y i := by
  unfold headF head2
  by_cases e1 : i < 6
  · rw [if_neg (by omega), if_pos e1, if_pos e1]
  · by_cases e2 : i < 12
    · rw [if_neg (by omega), if_neg e1, if_pos e2, if_neg e1, if_pos e2]
    · by_cases e3 : i < 14
      · rw [if_pos (by omega), if_neg e1, if_neg e2, if_neg (by simp), if_pos e3]
      · rw [if_neg (by omega), if_neg e1, if_neg e2, if_neg e1, if_neg e2, if_neg (by simp), if_neg e3]
theorem headF_tagged (d s : Int) (p : Int) (dr : Bool) (v y : Int) (i : Nat) (hi : i < 18) :
    (if 16 ≤ i ∧ i < 16 + 2 then be 2 y (i - 16) else head4 d s (tag p dr v) i) = headF d s true p dr v y i := by
  unfold headF head4 head3 head2
  by_cases e1 : i < 6
  · rw [if_neg (by omega), if_neg (by omega), if_neg (by omega), if_pos e1, if_pos e1]
  · by_cases e2 : i < 12
    · rw [if_neg (by omega), if_neg (by omega), if_neg (by omega), if_neg e1, if_pos e2, if_neg e1, if_pos e2]
    · by_cases e3 : i < 14
      · rw [if_neg (by omega), if_neg (by omega), if_pos (by omega), if_neg e1, if_neg e2, if_pos rfl, if_pos e3]
      · by_cases e4 : i < 16
        · rw [if_neg (by omega), if_pos (by omega), if_neg e1, if_neg e2, if_pos rfl, if_neg e3, if_pos e4]
        · rw [if_pos (by omega), if_neg e1, if_neg e2, if_pos rfl, if_neg e3, if_neg e4]
theorem zeros18 : (#[.int .u8 0, .int .u8 0, .int .u8 0, .int .u8 0, .int .u8 0, .int .u8 0, .int .u8 0, .int .u8 0, .int .u8 0, .int .u8 0, .int .u8 0, .int .u8 0, .int .u8 0, .int .u8 0, .int .u8 0, .int .u8 0, .int .u8 0, .int .u8 0] : Array Value) = rowF 18 (fun _ => 0) := rfl
def frA (d s : Int) (t : Bool) (p : Int) (dr : Bool) (v y : Int) (ao : Option Addr) (n c : Nat) : Array Value := #[.int .u64 d, .int .u64 s, .bool t, .int .i64 p, .bool dr, .int .i64 v, .int .i64 y, .slice ao n c]
set_option maxHeartbeats 1000000 in
theorem headOf_any (d s : Int) (t : Bool) (p : Int) (dr : Bool) (v y : Int) (ao : Option Addr) (n c : Nat) (w : World) (hp : t = true → 0 ≤ p ∧ p ≤ 7) (hv : t = true → 0 ≤ v ∧ v ≤ 4094) (hy : 0 ≤ y ∧ y ≤ 65535) :
    Calls Try.prog 18 #[.agg #[.int .u64 d, .int .u64 s, .bool t, .int .i64 p, .bool dr, .int .i64 v, .int .i64 y, .slice ao n c]] w fun e w' => e = .returned (.tuple #[.agg (rowF 18 (headF d s t p dr v y)), .int .i64 (headN t)]) ∧ Below w.heap.size w w' := by
  obtain ⟨W0, HW0⟩ : ∃ W0, Hid (W0 = ((w.alloc (.cells #[.int .u64 d, .int .u64 s, .bool t, .int .i64 p, .bool dr, .int .i64 v, .int .i64 y, .slice ao n c] 25)).alloc (.cells (rowF 18 (fun _ => 0)) 41)).alloc (.cells (rowF 18 (fun _ => 0)) 41)) := ⟨_, rfl⟩
  have H0 : Hid (HeadW w W0 (frA d s t p dr v y ao n c) (fun _ => 0)) := by
    rw [HW0.out]
    have h := alloc3 w (.cells #[.int .u64 d, .int .u64 s, .bool t, .int .i64 p, .bool dr, .int .i64 v, .int .i64 y, .slice ao n c] 25) (.cells (rowF 18 (fun _ => 0)) 41) (.cells (rowF 18 (fun _ => 0)) 41)
    exact ⟨h.1, h.2.1, h.2.2.1, h.2.2.2⟩
  have HW : Hid _ := HW0.out
  rw [← zeros18] at HW
  clear HW0
  have HP : Hid (t = true → 0 ≤ p ∧ p ≤ 7) := hp
  have HV : Hid (t = true → 0 ≤ v ∧ v ≤ 4094) := hv
  clear hp hv
  go_enter Try.func18, Try.ntmps18
  go_wp2_with fail
  rw [← HW.out]
  clear HW
  obtain ⟨c0, c1, c2, c3, c4, c5, c6, c7⟩ := fr_cells H0.out.1
  go_cut [8] (fun _ wx => Hid (HeadW w wx (frA d s t p dr v y ao n c) (fun i => if i < 6 then be 6 d i else 0)))
  case first =>
    go_region_with (go_at_call 25; refine (putNumber_any (w.heap.size + 1 + 1) 0 6 18 18 41 (fun _ => 0) d _ H0.out.drew.2.2.1 (by omega) (by omega) (by omega)).mono ?_; rintro e w1 ⟨rfl, h1, h2, h3⟩; have HW1 : Hid (HeadW w w1 (frA d s t p dr v y ao n c) (fun i => if i < 6 then be 6 d i else 0)) := ((H0.out.drew.step h1 h3).congr (fun i _ => by simp)); clear h1 h2 h3)
    all_goals (go_wp2_with fail; go_meet; exact HW1)
  case rest =>
  have H1 := hcut
  clear hcut H0 c0 c1 c2 c3 c4 c5 c6 c7
  obtain ⟨c0, c1, c2, c3, c4, c5, c6, c7⟩ := fr_cells H1.out.1
  go_wp2_with fail
  go_cut [12] (fun _ wx => Hid (HeadW w wx (frA d s t p dr v y ao n c) (head2 d s)))
  case first =>
    go_region_with (go_at_call 25; refine (putNumber_any (w.heap.size + 1 + 1) 6 6 12 18 41 _ s _ H1.out.drew.2.2.1 (by omega) (by omega) (by omega)).mono ?_; rintro e w1 ⟨rfl, h1, h2, h3⟩; have HW1 : Hid (HeadW w w1 (frA d s t p dr v y ao n c) (head2 d s)) := ((H1.out.drew.step h1 h3).congr (fun i _ => by unfold head2; by_cases e : i < 6; rw [if_neg (by omega), if_pos e]; simp [e]; by_cases e2 : i < 12; rw [if_pos (by omega), if_neg e, if_pos e2]; simp [e, e2])); clear h1 h2 h3)
    all_goals (go_wp2_with fail; go_meet; exact HW1)
  case rest =>
  have H2 := hcut
  clear hcut H1 c0 c1 c2 c3 c4 c5 c6 c7
  obtain ⟨c0, c1, c2, c3, c4, c5, c6, c7⟩ := fr_cells H2.out.1
  have hy1 : y < 9223372036854775808 := by omega
  cases t with
  | false =>
    go_wp2_with (first | (go_at_call 26; refine (putPair_any (w.heap.size + 1 + 1) 12 12 41 (head2 d s) y _ hy.1 hy1 H2.out.2.2.1 rfl (by omega)).mono ?_; rintro e w1 ⟨rfl, h1, h2, h3⟩; have HW1 : Hid (HeadW w w1 (frA d s false p dr v y ao n c) (headF d s false p dr v y)) := ((H2.out.step h1 h3).congr (fun i _ => headF_plain d s p dr v y i)); clear h1 h2 h3) | refine wpList_load_row rfl 41 _ rfl (w.heap.size + 1 + 1) rfl 41 (rowF 18 (headF d s false p dr v y)) (0, 0) _ HW1.out.2.2.1 Try.underlying41 rfl (by rw [sizeH, rowF_size]) ?_ | refine wpList_store_row rfl 41 _ _ rfl (w.heap.size + 1) (rowF 18 (headF d s false p dr v y)) rfl rfl 41 (rowF 18 (fun _ => 0)) HW1.out.2.1 (by rw [sizeH, rowF_size]) (by rw [rowF_size, rowF_size]) (rowF_all _ _) ?_)
    exact bodyPost_ret (v := .tuple #[.agg (rowF 18 (headF d s false p dr v y)), .int .i64 14]) (results_row_tmp (p := 2) (u := 3) (ty := 41) Try.results18 _ _ (w.heap.size + 1) 41 (rowF 18 (headF d s false p dr v y)) (0, 0) _ rfl (setRow_heap _ _ _ _ _ _ HW1.out.2.1) Try.underlying41 rfl (by rw [sizeH, rowF_size])) rfl ⟨rfl, below_setRow HW1.out.2.2.2 (by omega) _⟩
  | true =>
    have HT : Hid (0 ≤ tag p dr v ∧ tag p dr v < 9223372036854775808) := by
      have h1 := HP.out rfl
      have h2 := HV.out rfl
      unfold tag
      exact ⟨by split <;> omega, by split <;> omega⟩
    have HP2 : Hid (0 ≤ p ∧ p ≤ 7) := HP.out rfl
    have HV2 : Hid (0 ≤ v ∧ v ≤ 4094) := HV.out rfl
    clear HP HV
    go_wp2_with (go_at_call 26; refine (putPair_any (w.heap.size + 1 + 1) 12 12 41 (head2 d s) 33024 _ (by omega) (by omega) H2.out.2.2.1 rfl (by omega)).mono ?_; rintro e w1 ⟨rfl, h1, h2, h3⟩; have H3 : Hid (HeadW w w1 (frA d s true p dr v y ao n c) (head3 d s)) := (H2.out.step h1 h3); obtain ⟨d0, d1, d2, d3, d4, d5, d6, d7⟩ := fr_cells H3.out.1; clear h1 h2 h3 H2 c0 c1 c2 c3 c4 c5 c6 c7)
    refine (tagOf_any d s true p dr v y ao n c _ HP2.out HV2.out).mono ?_
    rintro e w2 ⟨rfl, h3⟩
    have H4 : Hid (HeadW w w2 (frA d s true p dr v y ao n c) (head3 d s)) := (H3.out.grow h3)
    clear h3 H3 d0 d1 d2 d3 d4 d5 d6 d7
    go_wp2_with fail
    refine (putPair_any (w.heap.size + 1 + 1) 14 14 41 (head3 d s) (tag p dr v) _ HT.out.1 HT.out.2 H4.out.2.2.1 rfl (by omega)).mono ?_
    rintro e w3 ⟨rfl, h1, h2, h3⟩
    have H5 : Hid (HeadW w w3 (frA d s true p dr v y ao n c) (head4 d s (tag p dr v))) := (H4.out.step h1 h3)
    obtain ⟨e0, e1, e2, e3, e4, e5, e6, e7⟩ := fr_cells H5.out.1
    clear h1 h2 h3 H4
    go_wp2_with fail
    refine (putPair_any (w.heap.size + 1 + 1) 16 16 41 (head4 d s (tag p dr v)) y _ hy.1 hy1 H5.out.2.2.1 rfl (by omega)).mono ?_
    rintro e w4 ⟨rfl, h1, h2, h3⟩
    have HW1 : Hid (HeadW w w4 (frA d s true p dr v y ao n c) (headF d s true p dr v y)) := ((H5.out.step h1 h3).congr (fun i hi => headF_tagged d s p dr v y i hi))
    clear h1 h2 h3 H5 e0 e1 e2 e3 e4 e5 e6 e7
    go_wp2_with (first | refine wpList_load_row rfl 41 _ rfl (w.heap.size + 1 + 1) rfl 41 (rowF 18 (headF d s true p dr v y)) (0, 0) _ HW1.out.2.2.1 Try.underlying41 rfl (by rw [sizeH, rowF_size]) ?_ | refine wpList_store_row rfl 41 _ _ rfl (w.heap.size + 1) (rowF 18 (headF d s true p dr v y)) rfl rfl 41 (rowF 18 (fun _ => 0)) HW1.out.2.1 (by rw [sizeH, rowF_size]) (by rw [rowF_size, rowF_size]) (rowF_all _ _) ?_)
    exact bodyPost_ret (v := .tuple #[.agg (rowF 18 (headF d s true p dr v y)), .int .i64 18]) (results_row_tmp (p := 2) (u := 3) (ty := 41) Try.results18 _ _ (w.heap.size + 1) 41 (rowF 18 (headF d s true p dr v y)) (0, 0) _ rfl (setRow_heap _ _ _ _ _ _ HW1.out.2.1) Try.underlying41 rfl (by rw [sizeH, rowF_size])) rfl ⟨rfl, below_setRow HW1.out.2.2.2 (by omega) _⟩
end Go.Proofs.Ytidlgfiggilchaa
