/- walks: FrameSize -/
import Derived.Test.YtidlgfiggilchaaW7
namespace Go.Proofs.Ytidlgfiggilchaa
open Go.RowKit

theorem headF_range (d s : Int) (t : Bool) (p : Int) (dr : Bool) (v y : Int) (i : Nat) : 0 ≤ headF d s t p dr v y i ∧ headF d s t p dr v y i ≤ 255 := by
  unfold headF
  repeat' split
  all_goals first | exact be_range _ _ _ | omega
theorem bytF_range (d s : Int) (t : Bool) (p : Int) (dr : Bool) (v y : Int) (bs : Nat → Int) (n : Nat) (hbs : ∀ i, i < n → 0 ≤ bs i ∧ bs i ≤ 255) (i : Nat) (hi : i < headN t + n) : 0 ≤ bytF d s t p dr v y bs i ∧ bytF d s t p dr v y bs i ≤ 255 := by
  unfold bytF
  split
  · exact headF_range _ _ _ _ _ _ _ _
  · exact hbs _ (by omega)
set_option maxHeartbeats 1000000 in
theorem size_any (d s : Int) (t : Bool) (p : Int) (dr : Bool) (v y : Int) (ao : Option Addr) (n c : Nat) (bs : Nat → Int) (k : Int) (w : World) (h0 : 0 ≤ s) (h1 : s < 18446744073709551616) (hr : ByteRow w ao n c bs) (hnil : ao = none → n = 0 ∧ c = 0) (hbs : ∀ i, i < n → 0 ≤ bs i ∧ bs i ≤ 255) :
    Calls Try.prog 6 #[.agg #[.int .u64 d, .int .u64 s, .bool t, .int .i64 p, .bool dr, .int .i64 v, .int .i64 y, .slice ao n c], .int .i64 k] w fun e w' => e = .returned (.bool true) ∧ Below w.heap.size w w' := by
  have HR : Hid (ByteRow w ao n c bs) := hr
  have HN : Hid (NilOk ao n c) := hnil
  by_cases hw : wrong d s t p v y n = 0
  · have hz := wrong_zero hw
    have HBY : Hid (∀ W : World, ByteRow W ao n c bs → Calls Try.prog 9 #[.agg #[.int .u64 d, .int .u64 s, .bool t, .int .i64 p, .bool dr, .int .i64 v, .int .i64 y, .slice ao n c]] W fun e w' => ∃ ao' c', e = .returned (.tuple #[.slice ao' (headN t + n) c', .int .i64 0]) ∧ ByteRow w' ao' (headN t + n) c' (bytF d s t p dr v y bs) ∧ (ao' = none → headN t + n = 0 ∧ c' = 0) ∧ Below W.heap.size W w') := fun W hW => bytes_right d s t p dr v y ao n c bs W h0 h1 hw hW hnil
    have HPA : Hid (∀ (W : World) (a1 : Option Addr) (m c1 : Nat), ByteRow W a1 m c1 (bytF d s t p dr v y bs) → NilOk a1 m c1 → m < headN t + n → Calls Try.prog 11 #[.slice a1 m c1] W fun e w' => (∃ d s t p x v y a2 n2 c2 E, e = .returned (.tuple #[.agg #[.int .u64 d, .int .u64 s, .bool t, .int .i64 p, .bool x, .int .i64 v, .int .i64 y, .slice a2 n2 c2], .int .i64 E]) ∧ (E ≠ 0 ∨ n2 < n)) ∧ Below W.heap.size W w') := by
      intro W a1 m c1 hW hn1 hm
      refine (parse_any a1 m c1 _ W hW hn1 (fun i hi => bytF_range d s t p dr v y bs n hbs i (by omega))).mono ?_
      rintro e w' ⟨h, hb⟩
      refine ⟨?_, hb⟩
      rcases h with ⟨_, h⟩ | ⟨_, h3, h⟩ | ⟨h2, _, a2, c2, h, _⟩
      · exact ⟨_, _, _, _, _, _, _, _, _, _, _, h, Or.inl (by omega)⟩
      · exact ⟨_, _, _, _, _, _, _, _, _, _, _, h, Or.inl h3⟩
      · refine ⟨_, _, _, _, _, _, _, _, _, _, _, h, Or.inr ?_⟩
        by_cases h14 : m < 14
        · have := short_size m (bytF d s t p dr v y bs) h14
          omega
        · rw [size_back d s t p dr v y bs m (by omega) (by omega) hz.2.2.2.1] at h2 ⊢
          omega
    have hN : headN t = 14 ∨ headN t = 18 := by cases t <;> simp [headN]
    have HT : Hid ((t = true → headN t = 18) ∧ (t = false → headN t = 14)) := by constructor <;> intro e <;> subst e <;> rfl
    have hn : n ≤ 1500 := hz.2.2.2.2.1
    clear hz hw hr hnil hbs h0 h1
    generalize bytF d s t p dr v y bs = B at *
    generalize headN t = N at *
    go_enter Try.func6, Try.ntmps6
    go_wp2_with fail
    refine (alive_any _).mono ?_
    rintro e w1 ⟨rfl, hb1⟩
    have HB1 : Hid (Below w.heap.size w w1) := (below_alloc1 w _).trans (hb1.mono (by simp))
    have HF1 : Hid (w1.heap[w.heap.size]? = some (.cells #[.int .u64 d, .int .u64 s, .bool t, .int .i64 p, .bool dr, .int .i64 v, .int .i64 y, .slice ao n c] 25 (0, 0))) := keep (heap_alloc_last w _) hb1
    clear hb1
    obtain ⟨k0, k1, k2, k3, k4, k5, k6, k7⟩ := fr_cells HF1.out
    have HR1 : Hid (ByteRow w1 ao n c bs) := HR.out.below HB1.out
    go_wp2_with fail
    refine (HBY.out _ HR1.out).mono ?_
    rintro e w2 ⟨a2, c2, rfl, hr2, hn2, hb2⟩
    have HB2 : Hid (Below w.heap.size w w2) := HB1.out.trans (hb2.mono HB1.out.size)
    have HF2 : Hid (w2.heap[w.heap.size]? = some (.cells #[.int .u64 d, .int .u64 s, .bool t, .int .i64 p, .bool dr, .int .i64 v, .int .i64 y, .slice ao n c] 25 (0, 0))) := keep HF1.out hb2
    have HR2 : Hid (ByteRow w2 a2 (N + n) c2 B) := hr2
    have HN2 : Hid (a2 ≠ none) := fun e => by have := (hn2 e).1; omega
    have hc2 : N + n ≤ c2 := hr2.1
    clear hb2 hr2 hn2 HF1 HB1 HR1 HBY k0 k1 k2 k3 k4 k5 k6 k7
    obtain ⟨k0, k1, k2, k3, k4, k5, k6, k7⟩ := fr_cells HF2.out
    cases t
    · obtain rfl : N = 14 := HT.out.2 rfl
      clear HT hN
      by_cases hk0 : k < 0
      · go_wp2_with fail
        go_ret
        exact ⟨by simp, HB2.out⟩
      · by_cases hk1 : (14 : Int) + n ≤ k
        · go_wp2_with fail
          go_ret
          exact ⟨by simp, HB2.out⟩
        · obtain ⟨m, rfl⟩ := Int.eq_ofNat_of_zero_le (show 0 ≤ k by omega)
          have HP2 : Hid (ByteRow w2 a2 m c2 B) := HR2.out.prefix (by omega)
          have HNO : Hid (NilOk a2 m c2) := fun e => absurd e HN2.out
          have HML : Hid (m < 14 + n) := (show m < 14 + n by omega)
          go_wp2_with fail
          refine (HPA.out _ _ _ _ HP2.out HNO.out HML.out).mono ?_
          rintro e w3 ⟨⟨d3, s3, t3, p3, x3, v3, y3, a3, n3, c3, E, rfl, hE⟩, hb3⟩
          have HB3 : Hid (Below w.heap.size w w3) := HB2.out.trans (hb3.mono HB2.out.size)
          have HF3 : Hid (w3.heap[w.heap.size]? = some (.cells #[.int .u64 d, .int .u64 s, .bool false, .int .i64 p, .bool dr, .int .i64 v, .int .i64 y, .slice ao n c] 25 (0, 0))) := keep HF2.out hb3
          clear hb3 HB2 HF2 HR2 HPA HP2 HNO k0 k1 k2 k3 k4 k5 k6 k7
          obtain ⟨k0, k1, k2, k3, k4, k5, k6, k7⟩ := fr_cells HF3.out
          have hlt3 : w.heap.size < w3.heap.size := block_lt_of_cell k0
          by_cases hE0 : E = 0
          · subst hE0
            have hn3 : n3 < n := by rcases hE with h | h; exact absurd rfl h; exact h
            have hn4 : (n3 : Int) < (n : Int) := by omega
            clear hE
            go_wp2_with fail
            go_ret
            exact ⟨by simp, HB3.out.alloc HB3.out.size _⟩
          · have hE1 : (E != 0) = true := by simp [hE0]
            clear hE
            go_wp2_with fail
            go_ret
            exact ⟨by simp, HB3.out.alloc HB3.out.size _⟩
    · obtain rfl : N = 18 := HT.out.1 rfl
      clear HT hN
      by_cases hk0 : k < 0
      · go_wp2_with fail
        go_ret
        exact ⟨by simp, HB2.out⟩
      · by_cases hk1 : (18 : Int) + n ≤ k
        · go_wp2_with fail
          go_ret
          exact ⟨by simp, HB2.out⟩
        · obtain ⟨m, rfl⟩ := Int.eq_ofNat_of_zero_le (show 0 ≤ k by omega)
          have HP2 : Hid (ByteRow w2 a2 m c2 B) := HR2.out.prefix (by omega)
          have HNO : Hid (NilOk a2 m c2) := fun e => absurd e HN2.out
          have HML : Hid (m < 18 + n) := (show m < 18 + n by omega)
          go_wp2_with fail
          refine (HPA.out _ _ _ _ HP2.out HNO.out HML.out).mono ?_
          rintro e w3 ⟨⟨d3, s3, t3, p3, x3, v3, y3, a3, n3, c3, E, rfl, hE⟩, hb3⟩
          have HB3 : Hid (Below w.heap.size w w3) := HB2.out.trans (hb3.mono HB2.out.size)
          have HF3 : Hid (w3.heap[w.heap.size]? = some (.cells #[.int .u64 d, .int .u64 s, .bool true, .int .i64 p, .bool dr, .int .i64 v, .int .i64 y, .slice ao n c] 25 (0, 0))) := keep HF2.out hb3
          clear hb3 HB2 HF2 HR2 HPA HP2 HNO k0 k1 k2 k3 k4 k5 k6 k7
          obtain ⟨k0, k1, k2, k3, k4, k5, k6, k7⟩ := fr_cells HF3.out
          have hlt3 : w.heap.size < w3.heap.size := block_lt_of_cell k0
          by_cases hE0 : E = 0
          · subst hE0
            have hn3 : n3 < n := by rcases hE with h | h; exact absurd rfl h; exact h
            have hn4 : (n3 : Int) < (n : Int) := by omega
            clear hE
            go_wp2_with fail
            go_ret
            exact ⟨by simp, HB3.out.alloc HB3.out.size _⟩
          · have hE1 : (E != 0) = true := by simp [hE0]
            clear hE
            go_wp2_with fail
            go_ret
            exact ⟨by simp, HB3.out.alloc HB3.out.size _⟩
  · have HBY : Hid (∀ W : World, Calls Try.prog 9 #[.agg #[.int .u64 d, .int .u64 s, .bool t, .int .i64 p, .bool dr, .int .i64 v, .int .i64 y, .slice ao n c]] W fun e w' => e = .returned (.tuple #[.slice none 0 0, .int .i64 (wrong d s t p v y n)]) ∧ Below W.heap.size W w') := fun W => bytes_wrong d s t p dr v y ao n c W h0 h1 hw
    clear hr hnil hbs h0 h1 HR HN
    generalize wrong d s t p v y n = E at *
    have hE : (E != 0) = true := by simp [hw]
    go_enter Try.func6, Try.ntmps6
    go_wp2_with fail
    refine (alive_any _).mono ?_
    rintro e w1 ⟨rfl, hb1⟩
    have HB1 : Hid (Below w.heap.size w w1) := (below_alloc1 w _).trans (hb1.mono (by simp))
    have HF1 : Hid (w1.heap[w.heap.size]? = some (.cells #[.int .u64 d, .int .u64 s, .bool t, .int .i64 p, .bool dr, .int .i64 v, .int .i64 y, .slice ao n c] 25 (0, 0))) := keep (heap_alloc_last w _) hb1
    clear hb1
    obtain ⟨k0, k1, k2, k3, k4, k5, k6, k7⟩ := fr_cells HF1.out
    go_wp2_with fail
    refine (HBY.out _).mono ?_
    rintro e w2 ⟨rfl, hb2⟩
    have HB2 : Hid (Below w.heap.size w w2) := HB1.out.trans (hb2.mono HB1.out.size)
    clear hb2
    go_wp2_with fail
    go_ret
    exact ⟨by simp, HB2.out⟩
end Go.Proofs.Ytidlgfiggilchaa
