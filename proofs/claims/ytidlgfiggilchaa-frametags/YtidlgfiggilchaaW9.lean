/- walks: FrameTags -/
import Derived.Test.YtidlgfiggilchaaW8
namespace Go.Proofs.Ytidlgfiggilchaa
open Go.RowKit

theorem wrong_tag (d s p v y : Int) (n : Nat) (vid prio : Int) (h : (0 ≤ vid ∧ vid ≤ 4094) ∧ 0 ≤ prio ∧ prio ≤ 7) : wrong d s true prio vid y n = wrong d s false p v y n := by
  unfold wrong
  rw [if_neg (c := true = true ∧ ¬ ((0 ≤ vid ∧ vid ≤ 4094) ∧ 0 ≤ prio ∧ prio ≤ 7)) (fun q => q.2 h), if_neg (c := false = true ∧ ¬ ((0 ≤ v ∧ v ≤ 4094) ∧ 0 ≤ p ∧ p ≤ 7)) (fun q => by cases q.1)]
theorem tag_bytes (d s : Int) (p : Int) (dr : Bool) (v y : Int) (n : Nat) (bs : Nat → Int) (vid prio : Int) : (∀ i, i < 12 → bytF d s false p dr v y bs i = bytF d s true prio dr vid y bs i) ∧ (∀ i, i < n + 2 → bytF d s false p dr v y bs (12 + i) = bytF d s true prio dr vid y bs (16 + i)) := by
  constructor
  · intro i hi
    unfold bytF
    rw [if_pos (by simp [headN]; omega), if_pos (by simp [headN]; omega)]
    unfold headF
    by_cases e : i < 6
    · rw [if_pos e, if_pos e]
    · rw [if_neg e, if_neg e, if_pos hi, if_pos hi]
  · intro i _
    unfold bytF
    by_cases e : i < 2
    · rw [if_pos (by simp [headN]; omega), if_pos (by simp [headN]; omega)]
      unfold headF
      rw [if_neg (by omega), if_neg (by omega), if_neg (by simp), if_pos (by omega), if_neg (by omega), if_neg (by omega), if_pos rfl, if_neg (by omega), if_neg (by omega)]
      congr 1; omega
    · rw [if_neg (by simp [headN]; omega), if_neg (by simp [headN]; omega)]
      congr 1; simp [headN]; omega
set_option maxHeartbeats 1000000 in
theorem tags_any (d s : Int) (t : Bool) (p : Int) (dr : Bool) (v y : Int) (ao : Option Addr) (n c : Nat) (bs : Nat → Int) (vid prio : Int) (w : World) (h0 : 0 ≤ s) (h1 : s < 18446744073709551616) (hr : ByteRow w ao n c bs) (hnil : ao = none → n = 0 ∧ c = 0) :
    Calls Try.prog 5 #[.agg #[.int .u64 d, .int .u64 s, .bool t, .int .i64 p, .bool dr, .int .i64 v, .int .i64 y, .slice ao n c], .int .i64 vid, .int .i64 prio] w fun e w' => e = .returned (.bool true) ∧ Below w.heap.size w w' := by
  have HR : Hid (ByteRow w ao n c bs) := hr
  have HN : Hid (NilOk ao n c) := hnil
  clear hr hnil
  go_enter Try.func5, Try.ntmps5
  go_wp2_with fail
  refine (alive_any _).mono ?_
  rintro e w1 ⟨rfl, hb1⟩
  have HB1 : Hid (Below w.heap.size w w1) := (below_alloc1 w _).trans (hb1.mono (by simp))
  have HF1 : Hid (w1.heap[w.heap.size]? = some (.cells #[.int .u64 d, .int .u64 s, .bool t, .int .i64 p, .bool dr, .int .i64 v, .int .i64 y, .slice ao n c] 25 (0, 0))) := keep (heap_alloc_last w _) hb1
  clear hb1
  obtain ⟨k0, k1, k2, k3, k4, k5, k6, k7⟩ := fr_cells HF1.out
  obtain ⟨f0, f1, f2, f3, f4, f5, f6, f7⟩ := fr_free HF1.out
  have hlt1 : w.heap.size < w1.heap.size := block_lt_of_cell k0
  have HR1 : Hid (ByteRow w1 ao n c bs) := HR.out.below HB1.out
  have HTW : Hid ((0 ≤ vid ∧ vid ≤ 4094) ∧ 0 ≤ prio ∧ prio ≤ 7 → wrong d s true prio vid y n = wrong d s false p v y n) := wrong_tag d s p v y n vid prio
  have HBW : Hid (∀ (t : Bool) (p v : Int) (W : World), wrong d s t p v y n ≠ 0 → Calls Try.prog 9 #[.agg #[.int .u64 d, .int .u64 s, .bool t, .int .i64 p, .bool dr, .int .i64 v, .int .i64 y, .slice ao n c]] W fun e w' => e = .returned (.tuple #[.slice none 0 0, .int .i64 (wrong d s t p v y n)]) ∧ Below W.heap.size W w') := fun t p v W hw => bytes_wrong d s t p dr v y ao n c W h0 h1 hw
  have HBR : Hid (∀ (t : Bool) (p v : Int) (W : World), wrong d s t p v y n = 0 → ByteRow W ao n c bs → Calls Try.prog 9 #[.agg #[.int .u64 d, .int .u64 s, .bool t, .int .i64 p, .bool dr, .int .i64 v, .int .i64 y, .slice ao n c]] W fun e w' => ∃ ao' c', e = .returned (.tuple #[.slice ao' (headN t + n) c', .int .i64 0]) ∧ ByteRow w' ao' (headN t + n) c' (bytF d s t p dr v y bs) ∧ (ao' = none → headN t + n = 0 ∧ c' = 0) ∧ Below W.heap.size W w') := fun t p v W hw hW => bytes_right d s t p dr v y ao n c bs W h0 h1 hw hW HN.out
  have HZ2 : Hid (wrong d s true prio vid y n = 0 → ((0 ≤ vid ∧ vid ≤ 4094) ∧ 0 ≤ prio ∧ prio ≤ 7) ∧ n ≤ 1500) := fun h => by
    have hz := wrong_zero h
    exact ⟨⟨hz.2.1 rfl, hz.1 rfl⟩, hz.2.2.2.2.1⟩
  have HBY : Hid ((∀ i, i < 12 → bytF d s false p dr v y bs i = bytF d s true prio dr vid y bs i) ∧ (∀ i, i < n + 2 → bytF d s false p dr v y bs (12 + i) = bytF d s true prio dr vid y bs (16 + i))) := tag_bytes d s p dr v y n bs vid prio
  clear h0 h1
  generalize hE1 : wrong d s false p v y n = E1 at HTW
  generalize hE2 : wrong d s true prio vid y n = E2 at HTW HZ2
  generalize hG1 : bytF d s false p dr v y bs = G1 at HBY
  generalize hG2 : bytF d s true prio dr vid y bs = G2 at HBY
  have HE1 : Hid (wrong d s false p v y n = E1) := hE1
  have HE2 : Hid (wrong d s true prio vid y n = E2) := hE2
  have HG1 : Hid (bytF d s false p dr v y bs = G1) := hG1
  have HG2 : Hid (bytF d s true prio dr vid y bs = G2) := hG2
  clear hE1 hE2 hG1 hG2
  go_wp2_with fail
  obtain ⟨W1, HW1⟩ : ∃ W1, Hid (W1 = (w1.setCell ⟨w.heap.size, 2, none⟩ (.bool false)).alloc (.cells #[.int .u64 d, .int .u64 s, .bool true, .int .i64 prio, .bool dr, .int .i64 vid, .int .i64 y, .slice ao n c] 25)) := ⟨_, rfl⟩
  rw [← HW1.out]
  have HBL : Hid (Below w.heap.size w W1) := by rw [HW1.out]; exact (HB1.out.setCell (Nat.le_refl _) _).alloc (by have := HB1.out.size; simp [World.setCell]; omega) _
  have hs1 : (w1.setCell ⟨w.heap.size, 2, none⟩ (.bool false)).heap.size = w1.heap.size := by simp [World.setCell]
  have HF2 : Hid (W1.heap[w1.heap.size]? = some (.cells #[.int .u64 d, .int .u64 s, .bool true, .int .i64 prio, .bool dr, .int .i64 vid, .int .i64 y, .slice ao n c] 25 (0, 0))) := by
    rw [HW1.out]
    have h := heap_alloc_last (w1.setCell ⟨w.heap.size, 2, none⟩ (.bool false)) (.cells #[.int .u64 d, .int .u64 s, .bool true, .int .i64 prio, .bool dr, .int .i64 vid, .int .i64 y, .slice ao n c] 25)
    rw [hs1] at h
    exact h
  have HR2 : Hid (ByteRow W1 ao n c bs) := HR.out.below HBL.out
  clear HW1 hs1 HF1 HB1 HR1 k0 k1 k2 k3 k4 k5 k6 k7 f0 f1 f2 f3 f4 f5 f6 f7
  by_cases hw1 : E1 = 0
  · refine (HBR.out false p v _ (HE1.out.trans hw1) HR2.out).mono ?_
    rintro e w2 ⟨a2, c2, rfl, hr2, hn2, hb2⟩
    have HB2 : Hid (Below w.heap.size w w2) := HBL.out.trans (hb2.mono HBL.out.size)
    have HF3 : Hid (w2.heap[w1.heap.size]? = some (.cells #[.int .u64 d, .int .u64 s, .bool true, .int .i64 prio, .bool dr, .int .i64 vid, .int .i64 y, .slice ao n c] 25 (0, 0))) := keep HF2.out hb2
    have HR3 : Hid (ByteRow w2 a2 (14 + n) c2 G1) := by rw [← HG1.out]; exact hr2
    have HR4 : Hid (ByteRow w2 ao n c bs) := HR2.out.below hb2
    clear hb2 hr2 hn2 HBL HF2 HR2
    obtain ⟨k0, k1, k2, k3, k4, k5, k6, k7⟩ := fr_cells HF3.out
    by_cases hw2 : E2 = 0
    · have HNE : Hid (wrong d s true prio vid y n = 0) := HE2.out.trans hw2
      obtain ⟨_, hn⟩ := HZ2.out hw2
      obtain ⟨b2, o2, rfl, hlb2, _⟩ := HR3.out.2 (by omega)
      have hc2 : 14 + n ≤ c2 := HR3.out.1
      have hN14 : headN false = 14 := rfl
      rw [hN14]
      go_wp2_with fail
      refine (HBR.out true prio vid _ HNE.out HR4.out).mono ?_
      rintro e w3 ⟨a3, c3, rfl, hr3, hn3, hb3⟩
      have HB3 : Hid (Below w.heap.size w w3) := HB2.out.trans (hb3.mono HB2.out.size)
      have HR5 : Hid (ByteRow w3 a3 (18 + n) c3 G2) := by rw [← HG2.out]; exact hr3
      have HR6 : Hid (ByteRow w3 (some ⟨b2, o2, none⟩) (14 + n) c2 G1) := HR3.out.below hb3
      have hN18 : headN true = 18 := rfl
      rw [hN18]
      clear hb3 hr3 hn3 HB2 HF3 HR3 HR4 HBR HBW HZ2 HTW hN14 hN18 k0 k1 k2 k3 k4 k5 k6 k7
      obtain ⟨b3, o3, rfl, hlb3, _⟩ := HR5.out.2 (by omega)
      have hc3 : 18 + n ≤ c3 := HR5.out.1
      obtain ⟨S, hS⟩ : ∃ S, S = strOf 12 G1 := ⟨_, rfl⟩
      obtain ⟨T, hT⟩ : ∃ T, T = strOf (2 + n) (fun i => G1 (12 + i)) := ⟨_, rfl⟩
      have qs1 : ∀ k, (convert 23 9 (.slice (some ⟨b2, o2, none⟩) 12 c2)).run Try.prog (w3.drewN k) = .ok (.string S) (w3.drewN k) := fun k => by rw [hS]; exact run_str (w3.drewN k) _ 12 c2 G1 (HR6.out.prefix (by omega)) (fun e => by cases e)
      have qs2 : ∀ k, (convert 23 9 (.slice (some ⟨b3, o3, none⟩) 12 c3)).run Try.prog (w3.drewN k) = .ok (.string S) (w3.drewN k) := fun k => by rw [hS, strOf_congr 12 G1 G2 HBY.out.1]; exact run_str (w3.drewN k) _ 12 c3 G2 (HR5.out.prefix (by omega)) (fun e => by cases e)
      have qs3 : ∀ k, (convert 23 9 (.slice (some ⟨b2, o2 + 12, none⟩) (14 + n - 12) (c2 - 12))).run Try.prog (w3.drewN k) = .ok (.string T) (w3.drewN k) := fun k => by rw [hT, show 2 + n = 14 + n - 12 by omega]; exact run_str (w3.drewN k) _ _ _ _ (HR6.out.behind 12 (by omega)) (fun e => by cases e)
      have qs4 : ∀ k, (convert 23 9 (.slice (some ⟨b3, o3 + 16, none⟩) (18 + n - 16) (c3 - 16))).run Try.prog (w3.drewN k) = .ok (.string T) (w3.drewN k) := fun k => by rw [hT, strOf_congr (2 + n) _ (fun i => G2 (16 + i)) (fun i hi => HBY.out.2 i (by omega)), show 2 + n = 18 + n - 16 by omega]; exact run_str (w3.drewN k) _ _ _ _ (HR5.out.behind 16 (by omega)) (fun e => by cases e)
      clear hS hT HR5 HR6 HBY HG1 HG2 HE1 HE2 HNE
      have hq : IntKind.i64.wrap (((14 + n : Nat) : Int) + 4) = ((18 + n : Nat) : Int) := by simp [IntKind.wrap, IntKind.bits, IntKind.signed]; omega
      generalize hL1 : 14 + n = L1 at *
      generalize hL2 : 18 + n = L2 at *
      have l1 : (12 : Int) ≤ L1 := by omega
      have l2 : (16 : Int) ≤ L2 := by omega
      have l3 : (12 : Int) ≤ c2 := by omega
      have l4 : (12 : Int) ≤ c3 := by omega
      have l5 : ¬ c2 = 12 := by omega
      have l6 : ¬ c3 = 16 := by omega
      clear hL1 hL2
      go_wp2_with fail
      go_quiet (fail)
      go_wp2
      go_ret
      exact ⟨rfl, ⟨HB3.out.os, HB3.out.tape, HB3.out.output, HB3.out.size, HB3.out.block⟩⟩
    · have hbad : ¬ ((0 ≤ vid ∧ vid ≤ 4094) ∧ 0 ≤ prio ∧ prio ≤ 7) := fun q => hw2 ((HTW.out q).trans hw1)
      have hw3 : (E2 != 0) = true := by simp [hw2]
      have hne : wrong d s true prio vid y n ≠ 0 := by rw [HE2.out]; exact hw2
      have HNE : Hid (wrong d s true prio vid y n ≠ 0) := hne
      clear hne
      go_wp2_with (go_at_call 9; refine (HBW.out true prio vid _ HNE.out).mono ?_; rw [HE2.out]; rintro e w3 ⟨rfl, hb3⟩; have HB3 : Hid (Below w.heap.size w w3) := HB2.out.trans (hb3.mono HB2.out.size); clear hb3)
      all_goals go_ret
      all_goals refine ⟨?_, HB3.out⟩
      all_goals first | rfl | (simp; omega)
  · have hne1 : wrong d s false p v y n ≠ 0 := by rw [HE1.out]; exact hw1
    have HNE1 : Hid (wrong d s false p v y n ≠ 0) := hne1
    clear hne1
    have hw2 : E2 ≠ 0 := fun q => hw1 ((HTW.out (HZ2.out q).1).symm.trans q)
    have HNE : Hid (wrong d s true prio vid y n ≠ 0) := by rw [HE2.out]; exact hw2
    have hbad : E1 = E2 ∨ ¬ ((0 ≤ vid ∧ vid ≤ 4094) ∧ 0 ≤ prio ∧ prio ≤ 7) := by
      by_cases q : (0 ≤ vid ∧ vid ≤ 4094) ∧ 0 ≤ prio ∧ prio ≤ 7
      · exact Or.inl (HTW.out q).symm
      · exact Or.inr q
    have HBAD : Hid (E1 = E2 ∨ ¬ ((0 ≤ vid ∧ vid ≤ 4094) ∧ 0 ≤ prio ∧ prio ≤ 7)) := hbad
    clear hbad HTW HZ2
    have hw3 : (E1 != 0) = true := by simp [hw1]
    refine (HBW.out false p v _ HNE1.out).mono ?_
    rw [HE1.out]
    rintro e w2 ⟨rfl, hb2⟩
    have HB2 : Hid (Below w.heap.size w w2) := HBL.out.trans (hb2.mono HBL.out.size)
    have HF3 : Hid (w2.heap[w1.heap.size]? = some (.cells #[.int .u64 d, .int .u64 s, .bool true, .int .i64 prio, .bool dr, .int .i64 vid, .int .i64 y, .slice ao n c] 25 (0, 0))) := keep HF2.out hb2
    clear hb2 HBL HF2 HR2
    obtain ⟨k0, k1, k2, k3, k4, k5, k6, k7⟩ := fr_cells HF3.out
    go_wp2_with (go_at_call 9; refine (HBW.out true prio vid _ HNE.out).mono ?_; rw [HE2.out]; rintro e w3 ⟨rfl, hb3⟩; have HB3 : Hid (Below w.heap.size w w3) := HB2.out.trans (hb3.mono HB2.out.size); clear hb3)
    all_goals go_ret
    all_goals refine ⟨?_, HB3.out⟩
    all_goals have hbad := HBAD.out
    all_goals first | rfl | (simp; omega)
end Go.Proofs.Ytidlgfiggilchaa
