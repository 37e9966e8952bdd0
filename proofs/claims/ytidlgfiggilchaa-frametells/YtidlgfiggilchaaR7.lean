/- walks: FrameTells -/
import Derived.Test.YtidlgfiggilchaaR6
namespace Go.Proofs.Ytidlgfiggilchaa
open Go.RowKit

/-- Two that answer the same. -/
def Both (n : Nat) (e1 e2 : Ending) (w1 w2 : World) : Prop :=
  (∃ E, e1 = .returned (.tuple #[.agg #[.int .u64 0, .int .u64 0, .bool false, .int .i64 0, .bool false, .int .i64 0, .int .i64 0, .slice none 0 0], .int .i64 E]) ∧ e2 = .returned (.tuple #[.agg #[.int .u64 0, .int .u64 0, .bool false, .int .i64 0, .bool false, .int .i64 0, .int .i64 0, .slice none 0 0], .int .i64 E])) ∨
  (∃ d s t p x v y a1 c1 a2 c2 m zs, e1 = .returned (.tuple #[.agg #[.int .u64 d, .int .u64 s, .bool t, .int .i64 p, .bool x, .int .i64 v, .int .i64 y, .slice a1 m c1], .int .i64 0]) ∧ e2 = .returned (.tuple #[.agg #[.int .u64 d, .int .u64 s, .bool t, .int .i64 p, .bool x, .int .i64 v, .int .i64 y, .slice a2 m c2], .int .i64 0]) ∧ ByteRow w1 a1 m c1 zs ∧ NilOk a1 m c1 ∧ ByteRow w2 a2 m c2 zs ∧ NilOk a2 m c2 ∧ m ≤ n)
theorem both_of {n : Nat} {bs : Nat → Int} {e1 e2 : Ending} {w1 w2 : World} (h1 : ParseOut n bs e1 w1) (h2 : ParseOut n bs e2 w2) : Both n e1 e2 w1 w2 := by
  rcases h1 with ⟨k1, e1⟩ | ⟨k1, q1, e1⟩ | ⟨k1, q1, a1, c1, e1, r1, n1⟩
  · rcases h2 with ⟨k2, e2⟩ | ⟨k2, q2, e2⟩ | ⟨k2, q2, a2, c2, e2, r2, n2⟩
    · exact Or.inl ⟨_, e1, e2⟩
    · omega
    · omega
  · rcases h2 with ⟨k2, e2⟩ | ⟨k2, q2, e2⟩ | ⟨k2, q2, a2, c2, e2, r2, n2⟩
    · omega
    · exact Or.inl ⟨_, e1, e2⟩
    · exact absurd q2 q1
  · rcases h2 with ⟨k2, e2⟩ | ⟨k2, q2, e2⟩ | ⟨k2, q2, a2, c2, e2, r2, n2⟩
    · omega
    · exact absurd q1 q2
    · exact Or.inr ⟨_, _, _, _, _, _, _, a1, c1, a2, c2, _, _, e1, e2, r1, n1, r2, n2, by omega⟩
theorem parse_form {n : Nat} {bs : Nat → Int} {e : Ending} {w : World} (h : ParseOut n bs e w) : ∃ d s t p x v y a k c E, e = .returned (.tuple #[.agg #[.int .u64 d, .int .u64 s, .bool t, .int .i64 p, .bool x, .int .i64 v, .int .i64 y, .slice a k c], .int .i64 E]) := by
  rcases h with ⟨_, e⟩ | ⟨_, _, e⟩ | ⟨_, _, a, c, e, _⟩
  · exact ⟨_, _, _, _, _, _, _, _, _, _, _, e⟩
  · exact ⟨_, _, _, _, _, _, _, _, _, _, _, e⟩
  · exact ⟨_, _, _, _, _, _, _, _, _, _, _, e⟩
set_option maxHeartbeats 2000000 in
theorem tells_any (d s : Int) (t : Bool) (p : Int) (dr : Bool) (v y : Int) (ao : Option Addr) (n c : Nat) (bs : Nat → Int) (bo : Option Addr) (m bc : Nat) (xs : Nat → Int) (w : World) (hd : 0 ≤ d) (h0 : 0 ≤ s) (h1 : s < 18446744073709551616)
    (hr : ByteRow w ao n c bs) (hnil : NilOk ao n c) (hx : ByteRow w bo m bc xs) (hnilx : NilOk bo m bc) (hxs : ∀ i, i < m → 0 ≤ xs i ∧ xs i ≤ 255) :
    Calls Try.prog 3 #[.agg #[.int .u64 d, .int .u64 s, .bool t, .int .i64 p, .bool dr, .int .i64 v, .int .i64 y, .slice ao n c], .slice bo m bc] w fun e w' => e = .returned (.bool true) ∧ Below w.heap.size w w' := by
  have HR : Hid (ByteRow w ao n c bs) := hr
  have HN : Hid (NilOk ao n c) := hnil
  have HX : Hid (ByteRow w bo m bc xs) := hx
  have HNX : Hid (NilOk bo m bc) := hnilx
  have HXS : Hid (∀ i, i < m → 0 ≤ xs i ∧ xs i ≤ 255) := hxs
  have HW1 : Hid (∀ W : World, Calls Try.prog 7 #[.agg #[.int .u64 d, .int .u64 s, .bool t, .int .i64 p, .bool dr, .int .i64 v, .int .i64 y, .slice ao n c]] W fun e w' => e = .returned (.int .i64 (wrong d s t p v y n)) ∧ Below W.heap.size W w') := fun W => wrong_any d s t p dr v y ao n c W h0 h1
  have HW2 : Hid (∀ W : World, Calls Try.prog 8 #[.agg #[.int .u64 d, .int .u64 s, .bool t, .int .i64 p, .bool dr, .int .i64 v, .int .i64 y, .slice ao n c]] W fun e w' => e = .returned (.int .i64 (wrong d s t p v y n)) ∧ Below W.heap.size W w') := fun W => rwrong_any d s t p dr v y ao n c W h0
  have HB1 : Hid (∀ W : World, ByteRow W ao n c bs → Calls Try.prog 9 #[.agg #[.int .u64 d, .int .u64 s, .bool t, .int .i64 p, .bool dr, .int .i64 v, .int .i64 y, .slice ao n c]] W fun e w' => (∃ a1 k c1 f, e = .returned (.tuple #[.slice a1 k c1, .int .i64 (wrong d s t p v y n)]) ∧ ByteRow w' a1 k c1 f ∧ NilOk a1 k c1 ∧ strOf k f = if wrong d s t p v y n = 0 then strOf (headN t + n) (bytF d s t p dr v y bs) else strOf 0 bs) ∧ Below W.heap.size W w') := fun W hW => by
    by_cases hw : wrong d s t p v y n = 0
    · refine (bytes_right d s t p dr v y ao n c bs W h0 h1 hw hW hnil).mono ?_
      rintro e w' ⟨a1, c1, rfl, hr1, hn1, hb1⟩
      rw [hw, if_pos rfl]
      exact ⟨⟨a1, _, c1, _, rfl, hr1, hn1, rfl⟩, hb1⟩
    · refine (bytes_wrong d s t p dr v y ao n c W h0 h1 hw).mono ?_
      rintro e w' ⟨rfl, hb1⟩
      rw [if_neg hw]
      exact ⟨⟨none, 0, 0, bs, rfl, ⟨Nat.le_refl _, fun h => absurd h (by omega)⟩, fun _ => ⟨rfl, rfl⟩, rfl⟩, hb1⟩
  have HB2 : Hid (∀ W : World, ByteRow W ao n c bs → Calls Try.prog 10 #[.agg #[.int .u64 d, .int .u64 s, .bool t, .int .i64 p, .bool dr, .int .i64 v, .int .i64 y, .slice ao n c]] W fun e w' => (∃ a1 k c1 f, e = .returned (.tuple #[.slice a1 k c1, .int .i64 (wrong d s t p v y n)]) ∧ ByteRow w' a1 k c1 f ∧ NilOk a1 k c1 ∧ strOf k f = if wrong d s t p v y n = 0 then strOf (headN t + n) (bytF d s t p dr v y bs) else strOf 0 bs) ∧ Below W.heap.size W w') := fun W hW => by
    by_cases hw : wrong d s t p v y n = 0
    · refine (rbytes_right d s t p dr v y ao n c bs W hd h0 hw hW hnil).mono ?_
      rintro e w' ⟨a1, c1, rfl, hr1, hn1, hb1⟩
      rw [hw, if_pos rfl]
      exact ⟨⟨a1, _, c1, _, rfl, hr1, hn1, rfl⟩, hb1⟩
    · refine (rbytes_wrong d s t p dr v y ao n c W h0 hw).mono ?_
      rintro e w' ⟨rfl, hb1⟩
      rw [if_neg hw]
      exact ⟨⟨none, 0, 0, bs, rfl, ⟨Nat.le_refl _, fun h => absurd h (by omega)⟩, fun _ => ⟨rfl, rfl⟩, rfl⟩, hb1⟩
  clear hr hnil hx hnilx hxs hd h0 h1
  generalize (if wrong d s t p v y n = 0 then strOf (headN t + n) (bytF d s t p dr v y bs) else strOf 0 bs) = S at *
  generalize wrong d s t p v y n = E at *
  have HF0 : Hid (∀ W : World, Below (w.heap.size + 1) (w.alloc (.cells #[.int .u64 d, .int .u64 s, .bool t, .int .i64 p, .bool dr, .int .i64 v, .int .i64 y, .slice ao n c] 25)) W → W.heap[w.heap.size]? = some (.cells #[.int .u64 d, .int .u64 s, .bool t, .int .i64 p, .bool dr, .int .i64 v, .int .i64 y, .slice ao n c] 25 (0, 0)) ∧ Below w.heap.size w W) := fun W hW => ⟨(hW.block _ (by omega)).trans (heap_alloc_last w _), (below_alloc1 w _).trans (hW.mono (by omega))⟩
  go_enter Try.func3, Try.ntmps3
  go_wp2_with fail
  go_cut [15] (fun s15 wx => s15 = .bool false ∧ Hid (wx.heap[w.heap.size]? = some (.cells #[.int .u64 d, .int .u64 s, .bool t, .int .i64 p, .bool dr, .int .i64 v, .int .i64 y, .slice ao n c] 25 (0, 0))) ∧ Hid (Below w.heap.size w wx))
  case first =>
    go_region_with (first | (go_at_call 7; refine (HW1.out _).mono ?_; rintro e w1 ⟨rfl, hb1⟩; have HBa : Hid (Below (w.heap.size + 1) (w.alloc (.cells #[.int .u64 d, .int .u64 s, .bool t, .int .i64 p, .bool dr, .int .i64 v, .int .i64 y, .slice ao n c] 25)) w1) := (Below.refl _ _).drew.trans (hb1.mono (by show w.heap.size + 1 ≤ (w.alloc _).heap.size; simp)); clear hb1; obtain ⟨k0, k1, k2, k3, k4, k5, k6, k7⟩ := fr_cells (HF0.out w1 HBa.out).1) | (go_at_call 8; refine (HW2.out _).mono ?_; rintro e w2 ⟨rfl, hb2⟩; have HBb : Hid (Below (w.heap.size + 1) (w.alloc (.cells #[.int .u64 d, .int .u64 s, .bool t, .int .i64 p, .bool dr, .int .i64 v, .int .i64 y, .slice ao n c] 25)) w2) := HBa.out.trans (hb2.mono (by have := HBa.out.size; simp at this; omega)); clear hb2))
    all_goals go_wp2_with fail
    all_goals go_meet
    all_goals exact ⟨by simp, HF0.out w2 HBb.out⟩
  case rest =>
  obtain ⟨rfl, HF1, HBL⟩ := hcut
  clear HW1 HW2 HF0
  obtain ⟨k0, k1, k2, k3, k4, k5, k6, k7⟩ := fr_cells HF1.out
  have HR1 : Hid (ByteRow wc ao n c bs) := HR.out.below HBL.out
  go_wp2_with fail
  refine (HB1.out _ HR1.out).mono ?_
  rintro e w2 ⟨⟨a2, l2, c2, f2, rfl, hr2, hn2, hs2⟩, hb2⟩
  have HBL2 : Hid (Below w.heap.size w w2) := HBL.out.trans (hb2.mono HBL.out.size)
  have HF2 : Hid (w2.heap[w.heap.size]? = some (.cells #[.int .u64 d, .int .u64 s, .bool t, .int .i64 p, .bool dr, .int .i64 v, .int .i64 y, .slice ao n c] 25 (0, 0))) := keep HF1.out hb2
  have HR2 : Hid (ByteRow w2 a2 l2 c2 f2) := hr2
  have HN2 : Hid (NilOk a2 l2 c2) := hn2
  have HS2 : Hid (strOf l2 f2 = S) := hs2
  clear hb2 hr2 hn2 hs2 HF1 HBL HR1 k0 k1 k2 k3 k4 k5 k6 k7
  obtain ⟨k0, k1, k2, k3, k4, k5, k6, k7⟩ := fr_cells HF2.out
  have HR3 : Hid (ByteRow w2 ao n c bs) := HR.out.below HBL2.out
  go_wp2_with fail
  refine (HB2.out _ HR3.out).mono ?_
  rintro e w3 ⟨⟨a3, l3, c3, f3, rfl, hr3, hn3, hs3⟩, hb3⟩
  have HBL3 : Hid (Below w.heap.size w w3) := HBL2.out.trans (hb3.mono HBL2.out.size)
  have q2 : (convert 23 9 (.slice a2 l2 c2)).run Try.prog w3 = .ok (.string S) w3 := by
    rw [← HS2.out]
    exact run_str w3 a2 l2 c2 f2 (HR2.out.below hb3) HN2.out
  have q3 : (convert 23 9 (.slice a3 l3 c3)).run Try.prog w3 = .ok (.string S) w3 := by
    rw [← hs3]
    exact run_str w3 a3 l3 c3 f3 hr3 hn3
  clear hb3 hr3 hn3 hs3 HF2 HBL2 HR2 HN2 HS2 HR3 HB1 HB2 k0 k1 k2 k3 k4 k5 k6 k7
  have hEE : (E != E) = false := by simp
  have HX3 : Hid (ByteRow w3 bo m bc xs) := HX.out.below HBL3.out
  go_wp2_with fail
  refine (parse_any bo m bc xs _ HX3.out HNX.out HXS.out).mono ?_
  rintro e5 w5 ⟨h5, hb5⟩
  have HBL5 : Hid (Below w.heap.size w w5) := HBL3.out.trans (hb5.mono HBL3.out.size)
  have HX5 : Hid (∀ o, ByteRow (w5.alloc o) bo m bc xs) := fun o => (HX.out.below HBL5.out).below (below_alloc1 w5 o)
  clear hb5 q2 q3 hEE HX3 HBL3
  obtain ⟨d5, s5, t5, p5, x5, v5, y5, a5, n5, c5, E5, rfl⟩ := parse_form h5
  have HP5 : Hid (ParseOut m xs (.returned (.tuple #[.agg #[.int .u64 d5, .int .u64 s5, .bool t5, .int .i64 p5, .bool x5, .int .i64 v5, .int .i64 y5, .slice a5 n5 c5], .int .i64 E5])) w5) := h5
  clear h5
  go_wp2_with fail
  refine (rparse_any bo m bc xs _ (HX5.out _) HXS.out).mono ?_
  rintro e6 w6 ⟨h6, hb6⟩
  have HBL6 : Hid (Below w.heap.size w w6) := HBL5.out.trans (((below_alloc1 w5 _).trans (hb6.mono (by simp))).mono HBL5.out.size)
  have HF6 : Hid (w6.heap[w5.heap.size]? = some (.cells #[.int .u64 d5, .int .u64 s5, .bool t5, .int .i64 p5, .bool x5, .int .i64 v5, .int .i64 y5, .slice a5 n5 c5] 25 (0, 0))) := keep (heap_alloc_last w5 _) hb6
  have HUP : Hid (Below w5.heap.size w5 w6) := (below_alloc1 w5 _).trans (hb6.mono (by simp))
  clear hb6 HX5
  obtain ⟨k0, k1, k2, k3, k4, k5, k6, k7⟩ := fr_cells HF6.out
  have hlt6 : w5.heap.size < w6.heap.size := block_lt_of_cell k0
  rcases both_of HP5.out h6 with ⟨E', e1, rfl⟩ | ⟨d', s', t', p', x', v', y', a1, c1, a2', c2', m', zs, e1, rfl, r1, n1, r2, n2, _⟩
  · simp only [Ending.returned.injEq, Value.tuple.injEq, Array.mk.injEq, List.cons.injEq, Value.agg.injEq, Value.int.injEq, Value.bool.injEq, Value.slice.injEq, true_and, and_true] at e1
    obtain ⟨⟨rfl, rfl, rfl, rfl, rfl, rfl, rfl, rfl, rfl, rfl⟩, rfl⟩ := e1
    have HS : Hid (∀ W : World, Calls Try.prog 13 #[.agg #[.int .u64 0, .int .u64 0, .bool false, .int .i64 0, .bool false, .int .i64 0, .int .i64 0, .slice none 0 0], .agg #[.int .u64 0, .int .u64 0, .bool false, .int .i64 0, .bool false, .int .i64 0, .int .i64 0, .slice none 0 0]] W fun e w' => e = .returned (.bool true) ∧ Below W.heap.size W w') := fun W => same_any 0 0 false 0 false 0 0 0 false 0 none none 0 0 0 (fun _ => 0) (fun _ => 0) W (fun e => by cases e) ⟨Nat.le_refl _, fun h => absurd h (by omega)⟩ (fun _ => ⟨rfl, rfl⟩) ⟨Nat.le_refl _, fun h => absurd h (by omega)⟩ (fun _ => ⟨rfl, rfl⟩) (fun _ _ => rfl)
    clear HP5 h6
    go_wp2_with (go_at_call 13; refine (HS.out _).mono ?_; rintro e w7 ⟨rfl, hb7⟩; have HBL7 : Hid (Below w.heap.size w w7) := HBL6.out.trans (((below_alloc1 w6 _).trans (hb7.mono (by simp))).mono HBL6.out.size); clear hb7)
    go_ret
    exact ⟨by simp, HBL7.out⟩
  · simp only [Ending.returned.injEq, Value.tuple.injEq, Array.mk.injEq, List.cons.injEq, Value.agg.injEq, Value.int.injEq, Value.bool.injEq, Value.slice.injEq, true_and, and_true] at e1
    obtain ⟨⟨rfl, rfl, rfl, rfl, rfl, rfl, rfl, rfl, rfl, rfl⟩, rfl⟩ := e1
    have HS : Hid (∀ o, Calls Try.prog 13 #[.agg #[.int .u64 d5, .int .u64 s5, .bool t5, .int .i64 p5, .bool x5, .int .i64 v5, .int .i64 y5, .slice a5 n5 c5], .agg #[.int .u64 d5, .int .u64 s5, .bool t5, .int .i64 p5, .bool x5, .int .i64 v5, .int .i64 y5, .slice a2' n5 c2']] (w6.alloc o) fun e w' => e = .returned (.bool true) ∧ Below (w6.alloc o).heap.size (w6.alloc o) w') := fun o => same_any d5 s5 t5 p5 x5 v5 y5 p5 x5 v5 a5 a2' n5 c5 c2' zs zs (w6.alloc o) (fun _ => ⟨rfl, rfl, rfl⟩) ((r1.below HUP.out).below (below_alloc1 w6 o)) n1 (r2.below (below_alloc1 w6 o)) n2 (fun _ _ => rfl)
    clear HP5 h6 r1 r2 n1 n2
    go_wp2_with (go_at_call 13; refine (HS.out _).mono ?_; rintro e w7 ⟨rfl, hb7⟩; have HBL7 : Hid (Below w.heap.size w w7) := HBL6.out.trans (((below_alloc1 w6 _).trans (hb7.mono (by simp))).mono HBL6.out.size); clear hb7)
    go_ret
    exact ⟨by simp, HBL7.out⟩
end Go.Proofs.Ytidlgfiggilchaa
