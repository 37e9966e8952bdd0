/- walks: FrameTurns -/
import Derived.Test.YtidlgfiggilchaaH1
namespace Go.Proofs.Ytidlgfiggilchaa
open Go.RowKit

/-- Parse, of whatever bytes: an error beside nothing, or a frame whose bytes are those. -/
theorem parse_back (bo : Option Addr) (m bc : Nat) (xs : Nat → Int) (W : World) (hr : ByteRow W bo m bc xs) (hnil : NilOk bo m bc) (hxs : ∀ i, i < m → 0 ≤ xs i ∧ xs i ≤ 255) :
    Calls Try.prog 11 #[.slice bo m bc] W fun e w' => ((∃ E, E ≠ 0 ∧ e = .returned (.tuple #[.agg #[.int .u64 0, .int .u64 0, .bool false, .int .i64 0, .bool false, .int .i64 0, .int .i64 0, .slice none 0 0], .int .i64 E])) ∨
      (∃ d s t p x v y a n c zs, e = .returned (.tuple #[.agg #[.int .u64 d, .int .u64 s, .bool t, .int .i64 p, .bool x, .int .i64 v, .int .i64 y, .slice a n c], .int .i64 0]) ∧ wrong d s t p v y n = 0 ∧ 0 ≤ s ∧ ByteRow w' a n c zs ∧ NilOk a n c ∧ headN t + n = m ∧ 14 ≤ m ∧ ∀ i, i < m → bytF d s t p x v y zs i = xs i)) ∧ Below W.heap.size W w' := by
  refine (parse_any bo m bc xs W hr hnil hxs).mono ?_
  rintro e w' ⟨h, hb⟩
  refine ⟨?_, hb⟩
  rcases h with ⟨_, h⟩ | ⟨_, h3, h⟩ | ⟨h2, h3, a2, c2, h, hrow, hn⟩
  · exact Or.inl ⟨2, by omega, h⟩
  · exact Or.inl ⟨_, h3, h⟩
  · refine Or.inr ⟨_, _, _, _, _, _, _, a2, _, c2, _, h, h3, (num_range _ (fun i => pad_range hxs _) 6).1, hrow, hn, ?_, ?_, turn_back m xs hxs⟩
    · rw [head_size]; omega
    · have := sizeF_le (pad m xs); omega
/-- Parse, of a right frame's bytes: that frame. -/
theorem parse_there (d s : Int) (t : Bool) (p : Int) (dr : Bool) (v y : Int) (n : Nat) (bs : Nat → Int) (a1 : Option Addr) (c1 : Nat) (W : World) (hd : 0 ≤ d) (hs : 0 ≤ s) (hw : wrong d s t p v y n = 0) (hbs : ∀ i, i < n → 0 ≤ bs i ∧ bs i ≤ 255) (hr : ByteRow W a1 (headN t + n) c1 (bytF d s t p dr v y bs)) (hn : NilOk a1 (headN t + n) c1) :
    Calls Try.prog 11 #[.slice a1 (headN t + n) c1] W fun e w' => (∃ p3 x3 v3 a3 c3, e = .returned (.tuple #[.agg #[.int .u64 d, .int .u64 s, .bool t, .int .i64 p3, .bool x3, .int .i64 v3, .int .i64 y, .slice a3 n c3], .int .i64 0]) ∧ (t = true → p3 = p ∧ x3 = dr ∧ v3 = v) ∧ ByteRow w' a3 n c3 bs ∧ NilOk a3 n c3) ∧ Below W.heap.size W w' := by
  obtain ⟨k1, k2, k3, k4, k5, k6, k7⟩ := turn_there d s t p dr v y bs n hd hs hw
  refine (parse_any a1 (headN t + n) c1 _ W hr hn (fun i hi => bytF_range d s t p dr v y bs n hbs i hi)).mono ?_
  rintro e w' ⟨h, hb⟩
  refine ⟨?_, hb⟩
  have h14 := headN_ge t
  rcases h with ⟨h2, h⟩ | ⟨_, h3, h⟩ | ⟨h2, h3, a2, c2, h, hrow, hn⟩
  · rw [k1] at h2; omega
  · exact absurd k7 h3
  · rw [k1, show headN t + n - headN t = n by omega] at hrow hn h
    rw [k2, k3, k4, k6] at h
    refine ⟨_, _, _, a2, c2, h, k5, hrow.congr (fun i hi => ?_), hn⟩
    show bytF d s t p dr v y bs (headN t + i) = bs i
    unfold bytF
    rw [if_neg (by omega), show headN t + i - headN t = i by omega]
set_option maxHeartbeats 2000000 in
theorem turns_any (d s : Int) (t : Bool) (p : Int) (dr : Bool) (v y : Int) (ao : Option Addr) (n c : Nat) (bs : Nat → Int) (bo : Option Addr) (m bc : Nat) (xs : Nat → Int) (w : World) (hd : 0 ≤ d) (h0 : 0 ≤ s) (h1 : s < 18446744073709551616)
    (hr : ByteRow w ao n c bs) (hnil : NilOk ao n c) (hbs : ∀ i, i < n → 0 ≤ bs i ∧ bs i ≤ 255) (hx : ByteRow w bo m bc xs) (hnilx : NilOk bo m bc) (hxs : ∀ i, i < m → 0 ≤ xs i ∧ xs i ≤ 255) :
    Calls Try.prog 4 #[.agg #[.int .u64 d, .int .u64 s, .bool t, .int .i64 p, .bool dr, .int .i64 v, .int .i64 y, .slice ao n c], .slice bo m bc] w fun e w' => e = .returned (.bool true) ∧ Below w.heap.size w w' := by
  have HR : Hid (ByteRow w ao n c bs) := hr
  have HN : Hid (NilOk ao n c) := hnil
  have HX : Hid (ByteRow w bo m bc xs) := hx
  have HNX : Hid (NilOk bo m bc) := hnilx
  have HXS : Hid (∀ i, i < m → 0 ≤ xs i ∧ xs i ≤ 255) := hxs
  have HBR : Hid (∀ (d s : Int) (t : Bool) (p : Int) (dr : Bool) (v y : Int) (ao : Option Addr) (n c : Nat) (bs : Nat → Int) (W : World), 0 ≤ s → wrong d s t p v y n = 0 → ByteRow W ao n c bs → NilOk ao n c → Calls Try.prog 9 #[.agg #[.int .u64 d, .int .u64 s, .bool t, .int .i64 p, .bool dr, .int .i64 v, .int .i64 y, .slice ao n c]] W fun e w' => ∃ ao' c', e = .returned (.tuple #[.slice ao' (headN t + n) c', .int .i64 0]) ∧ ByteRow w' ao' (headN t + n) c' (bytF d s t p dr v y bs) ∧ NilOk ao' (headN t + n) c' ∧ Below W.heap.size W w') := fun d s t p dr v y ao n c bs W hs hw hW hn => bytes_right d s t p dr v y ao n c bs W hs (by have := (wrong_zero hw).2.2.2.2.2.2.1; omega) hw hW hn
  clear hr hnil hx hnilx hxs
  by_cases hw : wrong d s t p v y n = 0
  · have HPT : Hid (∀ (W : World) (a1 : Option Addr) (c1 : Nat), ByteRow W a1 (headN t + n) c1 (bytF d s t p dr v y bs) → NilOk a1 (headN t + n) c1 → Calls Try.prog 11 #[.slice a1 (headN t + n) c1] W fun e w' => (∃ p3 x3 v3 a3 c3, e = .returned (.tuple #[.agg #[.int .u64 d, .int .u64 s, .bool t, .int .i64 p3, .bool x3, .int .i64 v3, .int .i64 y, .slice a3 n c3], .int .i64 0]) ∧ (t = true → p3 = p ∧ x3 = dr ∧ v3 = v) ∧ ByteRow w' a3 n c3 bs ∧ NilOk a3 n c3) ∧ Below W.heap.size W w') := fun W a1 c1 h2 h3 => parse_there d s t p dr v y n bs a1 c1 W hd h0 hw hbs h2 h3
    have HWR : Hid (0 ≤ s ∧ wrong d s t p v y n = 0) := ⟨h0, hw⟩
    clear hd h0 h1 hbs hw
    go_enter Try.func4, Try.ntmps4
    go_wp2_with fail
    refine (alive_any _).mono ?_
    rintro e w1 ⟨rfl, hb1⟩
    have HB1 : Hid (Below w.heap.size w w1) := (below_alloc1 w _).trans (hb1.mono (by simp))
    have HF1 : Hid (w1.heap[w.heap.size]? = some (.cells #[.int .u64 d, .int .u64 s, .bool t, .int .i64 p, .bool dr, .int .i64 v, .int .i64 y, .slice ao n c] 25 (0, 0))) := keep (heap_alloc_last w _) hb1
    clear hb1
    obtain ⟨k0, k1, k2, k3, k4, k5, k6, k7⟩ := fr_cells HF1.out
    have HR1 : Hid (ByteRow w1 ao n c bs) := HR.out.below HB1.out
    go_wp2_with fail
    refine (HBR.out d s t p dr v y ao n c bs _ HWR.out.1 HWR.out.2 HR1.out HN.out).mono ?_
    rintro e w2 ⟨a2, c2, rfl, hr2, hn2, hb2⟩
    have HB2 : Hid (Below w.heap.size w w2) := HB1.out.trans (hb2.mono HB1.out.size)
    have HF2 : Hid (w2.heap[w.heap.size]? = some (.cells #[.int .u64 d, .int .u64 s, .bool t, .int .i64 p, .bool dr, .int .i64 v, .int .i64 y, .slice ao n c] 25 (0, 0))) := keep HF1.out hb2
    have HR2 : Hid (ByteRow w2 a2 (headN t + n) c2 (bytF d s t p dr v y bs)) := hr2
    have HN2 : Hid (NilOk a2 (headN t + n) c2) := hn2
    clear hb2 hr2 hn2 HF1 HB1 HR1 k0 k1 k2 k3 k4 k5 k6 k7
    go_wp2_with fail
    refine (HPT.out _ _ _ HR2.out HN2.out).mono ?_
    rintro e w3 ⟨⟨p3, x3, v3, a3, c3, rfl, ht3, hr3, hn3⟩, hb3⟩
    have HB3 : Hid (Below w.heap.size w w3) := HB2.out.trans (hb3.mono HB2.out.size)
    have HF3 : Hid (w3.heap[w.heap.size]? = some (.cells #[.int .u64 d, .int .u64 s, .bool t, .int .i64 p, .bool dr, .int .i64 v, .int .i64 y, .slice ao n c] 25 (0, 0))) := keep HF2.out hb3
    have HS : Hid (∀ o, Calls Try.prog 13 #[.agg #[.int .u64 d, .int .u64 s, .bool t, .int .i64 p, .bool dr, .int .i64 v, .int .i64 y, .slice ao n c], .agg #[.int .u64 d, .int .u64 s, .bool t, .int .i64 p3, .bool x3, .int .i64 v3, .int .i64 y, .slice a3 n c3]] (w3.alloc o) fun e w' => e = .returned (.bool true) ∧ Below (w3.alloc o).heap.size (w3.alloc o) w') := fun o => same_any d s t p dr v y p3 x3 v3 ao a3 n c c3 bs bs (w3.alloc o) ht3 ((HR.out.below HB3.out).below (below_alloc1 w3 o)) HN.out (hr3.below (below_alloc1 w3 o)) hn3 (fun _ _ => rfl)
    clear hb3 hr3 hn3 ht3 HF2 HB2 HR2 HN2 HPT
    obtain ⟨k0, k1, k2, k3, k4, k5, k6, k7⟩ := fr_cells HF3.out
    have hlt3 : w.heap.size < w3.heap.size := block_lt_of_cell k0
    go_wp2_with (go_at_call 13; refine (HS.out _).mono ?_; rintro e w4 ⟨rfl, hb4⟩; have HB4 : Hid (Below w.heap.size w w4) := HB3.out.trans (((below_alloc1 w3 _).trans (hb4.mono (by simp))).mono HB3.out.size); clear hb4)
    have HX4 : Hid (ByteRow w4 bo m bc xs) := HX.out.below HB4.out
    refine (parse_back bo m bc xs _ HX4.out HNX.out HXS.out).mono ?_
    rintro e w5 ⟨h5, hb5⟩
    have HB5 : Hid (Below w.heap.size w w5) := HB4.out.trans (hb5.mono HB4.out.size)
    clear hb5
    rcases h5 with ⟨E, hE, rfl⟩ | ⟨d5, s5, t5, p5, x5, v5, y5, a5, n5, c5, z5, rfl, hw5, hs5, hr5, hn5, hm5, h14, hby5⟩
    · have hE1 : (E != 0) = true := by simp [hE]
      go_wp2_with (go_at_call 13; refine (same_any 0 0 false 0 false 0 0 0 false 0 none none 0 0 0 (fun _ => 0) (fun _ => 0) _ (fun e => by cases e) ⟨Nat.le_refl _, fun h => absurd h (by omega)⟩ (fun _ => ⟨rfl, rfl⟩) ⟨Nat.le_refl _, fun h => absurd h (by omega)⟩ (fun _ => ⟨rfl, rfl⟩) (fun _ _ => rfl)).mono ?_; rintro e w6 ⟨rfl, hb6⟩; have HB6 : Hid (Below w.heap.size w w6) := HB5.out.trans (((below_alloc1 w5 _).trans (hb6.mono (by simp))).mono HB5.out.size); clear hb6)
      go_ret
      exact ⟨rfl, HB6.out⟩
    · have HR5 : Hid (∀ o, ByteRow (w5.alloc o) a5 n5 c5 z5) := fun o => hr5.below (below_alloc1 w5 o)
      have HN5 : Hid (NilOk a5 n5 c5) := hn5
      have HW5 : Hid (0 ≤ s5 ∧ wrong d5 s5 t5 p5 v5 y5 n5 = 0) := ⟨hs5, hw5⟩
      have HM5 : Hid (headN t5 + n5 = m ∧ 14 ≤ m) := ⟨hm5, h14⟩
      have HY5 : Hid (∀ i, i < m → bytF d5 s5 t5 p5 x5 v5 y5 z5 i = xs i) := hby5
      clear hr5 hn5 hw5 hs5 hm5 h14 hby5
      go_wp2_with fail
      refine (HBR.out d5 s5 t5 p5 x5 v5 y5 a5 n5 c5 z5 _ HW5.out.1 HW5.out.2 (HR5.out _) HN5.out).mono ?_
      rintro e w6 ⟨a6, c6, rfl, hr6, hn6, hb6⟩
      have HB6 : Hid (Below w.heap.size w w6) := HB5.out.trans (((below_alloc1 w5 _).trans (hb6.mono (by simp))).mono HB5.out.size)
      rw [HM5.out.1] at hr6 hn6 ⊢
      have q1 : (convert 23 9 (.slice a6 m c6)).run Try.prog w6 = .ok (.string (strOf m xs)) w6 := by
        rw [← strOf_congr m _ xs HY5.out]
        exact run_str w6 a6 m c6 _ hr6 hn6
      have q2 : (convert 23 9 (.slice bo m bc)).run Try.prog w6 = .ok (.string (strOf m xs)) w6 := run_str w6 bo m bc xs (HX.out.below HB6.out) HNX.out
      clear hr6 hn6 hb6 HY5 HR5 HN5 HW5
      generalize strOf m xs = S at *
      go_wp2_with fail
      go_ret
      exact ⟨by simp, HB6.out⟩
  · have HBW : Hid (∀ W : World, Calls Try.prog 9 #[.agg #[.int .u64 d, .int .u64 s, .bool t, .int .i64 p, .bool dr, .int .i64 v, .int .i64 y, .slice ao n c]] W fun e w' => e = .returned (.tuple #[.slice none 0 0, .int .i64 (wrong d s t p v y n)]) ∧ Below W.heap.size W w') := fun W => bytes_wrong d s t p dr v y ao n c W h0 h1 hw
    clear hd h0 h1 hbs
    generalize wrong d s t p v y n = E0 at *
    have hE0 : (E0 == 0) = false := by simp [hw]
    go_enter Try.func4, Try.ntmps4
    go_wp2_with fail
    refine (alive_any _).mono ?_
    rintro e w1 ⟨rfl, hb1⟩
    have HB1 : Hid (Below w.heap.size w w1) := (below_alloc1 w _).trans (hb1.mono (by simp))
    have HF1 : Hid (w1.heap[w.heap.size]? = some (.cells #[.int .u64 d, .int .u64 s, .bool t, .int .i64 p, .bool dr, .int .i64 v, .int .i64 y, .slice ao n c] 25 (0, 0))) := keep (heap_alloc_last w _) hb1
    clear hb1
    obtain ⟨k0, k1, k2, k3, k4, k5, k6, k7⟩ := fr_cells HF1.out
    go_wp2_with fail
    refine (HBW.out _).mono ?_
    rintro e w4 ⟨rfl, hb4⟩
    have HB4 : Hid (Below w.heap.size w w4) := HB1.out.trans (hb4.mono HB1.out.size)
    clear hb4 HF1 HB1 k0 k1 k2 k3 k4 k5 k6 k7
    go_wp2_with fail
    have HX4 : Hid (ByteRow w4 bo m bc xs) := HX.out.below HB4.out
    refine (parse_back bo m bc xs _ HX4.out HNX.out HXS.out).mono ?_
    rintro e w5 ⟨h5, hb5⟩
    have HB5 : Hid (Below w.heap.size w w5) := HB4.out.trans (hb5.mono HB4.out.size)
    clear hb5
    rcases h5 with ⟨E, hE, rfl⟩ | ⟨d5, s5, t5, p5, x5, v5, y5, a5, n5, c5, z5, rfl, hw5, hs5, hr5, hn5, hm5, h14, hby5⟩
    · have hE1 : (E != 0) = true := by simp [hE]
      go_wp2_with (go_at_call 13; refine (same_any 0 0 false 0 false 0 0 0 false 0 none none 0 0 0 (fun _ => 0) (fun _ => 0) _ (fun e => by cases e) ⟨Nat.le_refl _, fun h => absurd h (by omega)⟩ (fun _ => ⟨rfl, rfl⟩) ⟨Nat.le_refl _, fun h => absurd h (by omega)⟩ (fun _ => ⟨rfl, rfl⟩) (fun _ _ => rfl)).mono ?_; rintro e w6 ⟨rfl, hb6⟩; have HB6 : Hid (Below w.heap.size w w6) := HB5.out.trans (((below_alloc1 w5 _).trans (hb6.mono (by simp))).mono HB5.out.size); clear hb6)
      go_ret
      exact ⟨rfl, HB6.out⟩
    · have HR5 : Hid (∀ o, ByteRow (w5.alloc o) a5 n5 c5 z5) := fun o => hr5.below (below_alloc1 w5 o)
      have HN5 : Hid (NilOk a5 n5 c5) := hn5
      have HW5 : Hid (0 ≤ s5 ∧ wrong d5 s5 t5 p5 v5 y5 n5 = 0) := ⟨hs5, hw5⟩
      have HM5 : Hid (headN t5 + n5 = m ∧ 14 ≤ m) := ⟨hm5, h14⟩
      have HY5 : Hid (∀ i, i < m → bytF d5 s5 t5 p5 x5 v5 y5 z5 i = xs i) := hby5
      clear hr5 hn5 hw5 hs5 hm5 h14 hby5
      go_wp2_with fail
      refine (HBR.out d5 s5 t5 p5 x5 v5 y5 a5 n5 c5 z5 _ HW5.out.1 HW5.out.2 (HR5.out _) HN5.out).mono ?_
      rintro e w6 ⟨a6, c6, rfl, hr6, hn6, hb6⟩
      have HB6 : Hid (Below w.heap.size w w6) := HB5.out.trans (((below_alloc1 w5 _).trans (hb6.mono (by simp))).mono HB5.out.size)
      rw [HM5.out.1] at hr6 hn6 ⊢
      have q1 : (convert 23 9 (.slice a6 m c6)).run Try.prog w6 = .ok (.string (strOf m xs)) w6 := by
        rw [← strOf_congr m _ xs HY5.out]
        exact run_str w6 a6 m c6 _ hr6 hn6
      have q2 : (convert 23 9 (.slice bo m bc)).run Try.prog w6 = .ok (.string (strOf m xs)) w6 := run_str w6 bo m bc xs (HX.out.below HB6.out) HNX.out
      clear hr6 hn6 hb6 HY5 HR5 HN5 HW5
      generalize strOf m xs = S at *
      go_wp2_with fail
      go_ret
      exact ⟨by simp, HB6.out⟩
end Go.Proofs.Ytidlgfiggilchaa
