/- walks: the document's Wrong and Tree of regions -/
import Derived.Test.YtgkmaihleilchaaGW3
namespace Go.Proofs.Ytgkmaihleilchaa
open Go.RowKit

/-- One way of the document's Wrong. -/
theorem size_zero {s : ByteArray} (h : s.size = 0) : s = ⟨#[]⟩ := by
  obtain ⟨d⟩ := s
  have : d.size = 0 := h
  rw [Array.eq_empty_of_size_eq_zero this]
set_option maxRecDepth 10000 in
set_option maxHeartbeats 2000000 in
theorem rwrong_any (s : ByteArray) (rev : Int) (ao : Option Addr) (n cap : Nat) (vs ts : Nat → Int) (w : World) (hn : n ≤ 9223372036854775807) (hr : WayRow w ao n cap vs ts) :
    Calls Try.prog 39 #[.agg #[.string s, .int .i64 rev, .slice ao n cap]] w fun e w' => e = .returned (.int .i64 (Rg.wrong s rev vs ts n)) ∧ Below w.heap.size w w' := by
  have HR : Hid (WayRow w ao n cap vs ts) := hr
  clear hr
  by_cases h0 : s.size = 0
  · have e1 : Rg.wrong s rev vs ts n = 7 := by
      unfold Rg.wrong Rg.isName
      simp [h0]
    have hs := size_zero h0
    subst hs
    rw [e1]
    go_enter Try.func39, Try.ntmps39
    go_wp2
    go_ret
    exact ⟨rfl, below_alloc1 _ _⟩
  · have hne : ¬ s.toList = [] := by
      intro h
      rw [ByteArray.toList_eq] at h
      exact h0 (by show s.data.size = 0; rw [← Array.length_toList, h]; rfl)
    have hne2 : (s.toList == []) = false := by simpa using hne
    have hne3 : decide (s.toList = []) = false := decide_eq_false hne
    by_cases h1 : (32 : Int) < s.size
    · have e1 : Rg.wrong s rev vs ts n = 7 := by
        have : ¬ s.size ≤ 32 := by omega
        unfold Rg.wrong Rg.isName
        simp [this]
      rw [e1]
      go_enter Try.func39, Try.ntmps39
      go_wp2
      go_ret
      exact ⟨rfl, below_alloc1 _ _⟩
    · have hs32 : s.size ≤ 32 := by omega
      have hnm : Hid (Rg.isName s = !Rg.anyOdd (Rg.nb s) s.size) := by
        show _ = _
        unfold Rg.isName
        rw [decide_eq_true (show 1 ≤ s.size by omega), decide_eq_true hs32]
        rfl
      obtain ⟨ccap, cur, w1, hrun, hbr, hb1, hz1, _, _, _⟩ := conv_bytes (w.alloc (.cells #[.string s, .int .i64 rev, .slice ao n cap] 24)) s
      have hza : (w.alloc (.cells #[.string s, .int .i64 rev, .slice ao n cap] 24)).heap.size = w.heap.size + 1 := by simp
      rw [hza] at hrun hbr hb1 hz1
      have HBR : Hid (ByteRow w1 (some ⟨w.heap.size + 1, 0, none⟩) s.size ccap (Rg.nb s)) := hbr
      have hccap := hbr.1
      have HW : Hid (∀ W, Below (w.heap.size + 1) w1 W → W.cell? ⟨w.heap.size, 1, none⟩ = some (.int .i64 rev) ∧ W.cell? ⟨w.heap.size, 2, none⟩ = some (.slice ao n cap) ∧ WayRow W ao n cap vs ts ∧ Below w.heap.size w W) := by
        intro W hW
        have hb2 := hb1.trans hW
        have h := rg_cells ((hb2.block w.heap.size (by omega)).trans (heap_alloc_last w (.cells #[.string s, .int .i64 rev, .slice ao n cap] 24)))
        have hl : Below w.heap.size w W := (below_alloc1 w _).trans (hb2.mono (by omega))
        exact ⟨h.2.1, h.2.2, HR.out.below hl, hl⟩
      clear hbr hb1 hza HR
      go_enter Try.func39, Try.ntmps39
      go_wp2_with fail
      go_loopw [21] (fun i wr => ∃ k : Nat, k ≤ s.size ∧ i = .int .i64 k ∧ Hid (Rg.anyOdd (Rg.nb s) k = false) ∧ wr = w1) (fun i _ => s.size - (intOf i).toNat)
      case atStart => exact ⟨0, by omega, rfl, rfl, rfl⟩
      case round =>
        obtain ⟨k, hk, rfl, hX, rfl⟩ := hrel
        by_cases hlt : k < s.size
        · obtain ⟨b, off, e0, _, hc⟩ := HBR.out.2 (by omega)
          cases e0
          have c4 : wr.cell? ⟨w.heap.size + 1, k, none⟩ = some (.int .u8 (Rg.nb s k)) := by have := hc k hlt; rw [Nat.zero_add] at this; exact this
          have HS1 : Hid (Rg.odd (Rg.nb s k) = true → Rg.wrong s rev vs ts n = 7) := by
            intro h
            unfold Rg.wrong
            rw [hnm.out, Rg.anyOdd_here (Rg.nb s) k s.size hlt h]
            rfl
          have HS2 : Hid (Rg.odd (Rg.nb s k) = false → Rg.anyOdd (Rg.nb s) (k + 1) = false) := fun h => Rg.anyOdd_next (Rg.nb s) k hX.out h
          have HL : Hid (Below w.heap.size w wr) := (HW.out _ (Below.refl _ _)).2.2.2
          clear hc HBR hX hrun HW
          generalize Rg.nb s k = c at *
          by_cases q1 : c < 32
          · have ho : Hid (Rg.odd c = true) := by show _ = _; unfold Rg.odd; simp [q1]
            go_wp2
            go_ret
            exact ⟨by rw [HS1.out ho.out]; rfl, HL.out⟩
          · by_cases q2 : 126 < c
            · have ho : Hid (Rg.odd c = true) := by show _ = _; unfold Rg.odd; simp [q2]
              go_wp2
              go_ret
              exact ⟨by rw [HS1.out ho.out]; rfl, HL.out⟩
            · have ho : Hid (Rg.odd c = false) := by show _ = _; unfold Rg.odd; simp [q1, q2]
              go_wp2
              exact ⟨⟨k + 1, by omega, by go_num, HS2.out ho.out, trivial⟩, by simp [intOf]; omega⟩
        · obtain rfl : k = s.size := by omega
          have HN : Hid (Rg.isName s = true) := by rw [hnm.out, hX.out]; rfl
          clear hX hrun HBR
          by_cases q1 : 0 ≤ rev ∧ rev ≤ 65535
          · have HE : Hid (Rg.wrong s rev vs ts n = Rg.wrongTo vs ts n) := by show _ = _; unfold Rg.wrong; rw [if_pos HN.out, if_pos q1]
            obtain ⟨q2, q3⟩ := q1
            obtain ⟨d1, d2, _, _⟩ := HW.out _ (Below.refl _ _)
            rename World => w2
            go_wp2_with fail
            go_loopw [5, 43] (fun a i wr => ∃ k : Nat, k ≤ n ∧ i = .int .i64 k ∧ a = .int .i64 (Rg.last vs k) ∧ Hid (Rg.wrongTo vs ts k = 0) ∧ Hid (Below (w.heap.size + 1) w2 wr)) (fun _ i _ => n - (intOf i).toNat)
            case atStart => exact ⟨0, by omega, rfl, rfl, rfl, Below.refl _ _⟩
            case round =>
              obtain ⟨k, hk, rfl, rfl, hX, hB⟩ := hrel
              by_cases hlt : k < n
              · obtain ⟨_, _, hway, hlow⟩ := HW.out _ hB.out
                obtain ⟨b, off, rfl, hb, hc⟩ := hway.2 (by omega)
                have hcap := hway.1
                have c0 : wr.cell? ⟨b, off + k * 2, none⟩ = some (.int .i64 (vs k)) := (hc k hlt).1
                have c1 : wr.cell? ⟨b, off + k * 2 + 1, none⟩ = some (.int .i64 (ts k)) := (hc k hlt).2
                have HE2 : Hid (Rg.wayErr (Rg.last vs k) (vs k) (ts k) ≠ 0 → Rg.wrong s rev vs ts n = Rg.wayErr (Rg.last vs k) (vs k) (ts k)) := fun h => HE.out.trans (Rg.wrongTo_here vs ts k n hlt hX.out h)
                have HZ : Hid (Rg.wayErr (Rg.last vs k) (vs k) (ts k) = 0 → Rg.wrongTo vs ts (k + 1) = 0) := fun h => Rg.wrongTo_succ vs ts k hX.out h
                have HL : Hid (Rg.last vs (k + 1) = vs k) := by show Rg.last vs (k + 1) = vs k; unfold Rg.last; rw [if_neg (by omega)]; rfl
                have HBL : Hid (∀ o, Below w.heap.size w (wr.alloc o)) := fun o => hlow.alloc hlow.size _
                have HBK : Hid (∀ o, Below (w.heap.size + 1) w2 (wr.alloc o)) := fun o => hB.out.alloc (by have := hB.out.size; omega) _
                clear hc hway hlow hX hB HE HW
                generalize Rg.last vs k = l at *
                generalize vs k = v at *
                generalize ts k = t at *
                by_cases g1 : v < 1
                · have HW : Hid (Rg.wayErr l v t = 3) := by show Rg.wayErr l v t = 3; unfold Rg.wayErr; rw [if_neg (by omega)]
                  go_wp2
                  go_ret
                  exact ⟨by rw [HE2.out (by rw [HW.out]; decide), HW.out]; rfl, HBL.out _⟩
                · by_cases g2 : 4094 < v
                  · have HW : Hid (Rg.wayErr l v t = 3) := by show Rg.wayErr l v t = 3; unfold Rg.wayErr; rw [if_neg (by omega)]
                    go_wp2
                    go_ret
                    exact ⟨by rw [HE2.out (by rw [HW.out]; decide), HW.out]; rfl, HBL.out _⟩
                  · by_cases g3 : t < 1
                    · have HW : Hid (Rg.wayErr l v t = 3) := by show Rg.wayErr l v t = 3; unfold Rg.wayErr; rw [if_neg (by omega)]
                      go_wp2
                      go_ret
                      exact ⟨by rw [HE2.out (by rw [HW.out]; decide), HW.out]; rfl, HBL.out _⟩
                    · by_cases g4 : 15 < t
                      · have HW : Hid (Rg.wayErr l v t = 3) := by show Rg.wayErr l v t = 3; unfold Rg.wayErr; rw [if_neg (by omega)]
                        go_wp2
                        go_ret
                        exact ⟨by rw [HE2.out (by rw [HW.out]; decide), HW.out]; rfl, HBL.out _⟩
                      · by_cases g5 : v ≤ l
                        · have HW : Hid (Rg.wayErr l v t = 2) := by show Rg.wayErr l v t = 2; unfold Rg.wayErr; rw [if_pos (by omega), if_pos g5]
                          go_wp2
                          go_ret
                          exact ⟨by rw [HE2.out (by rw [HW.out]; decide), HW.out]; rfl, HBL.out _⟩
                        · have HW : Hid (Rg.wayErr l v t = 0) := by show Rg.wayErr l v t = 0; unfold Rg.wayErr; rw [if_pos (by omega), if_neg g5]
                          go_wp2
                          exact ⟨⟨k + 1, by omega, by go_num, by rw [HL.out], HZ.out HW.out, HBK.out _⟩, by simp [intOf]; omega⟩
              · obtain rfl : k = n := by omega
                have HLo : Hid (Below w.heap.size w wr) := (HW.out _ hB.out).2.2.2
                go_wp2
                go_ret
                exact ⟨by rw [HE.out, hX.out]; rfl, HLo.out⟩
          · have HE : Hid (Rg.wrong s rev vs ts n = 3) := by show _ = _; unfold Rg.wrong; rw [if_pos HN.out, if_neg q1]
            obtain ⟨d1, d2, _, hlow⟩ := HW.out _ (Below.refl _ _)
            have HLo : Hid (Below w.heap.size w wr) := hlow
            clear hlow HW
            by_cases q2 : rev < 0
            · clear q1
              go_wp2
              go_ret
              exact ⟨by rw [HE.out]; rfl, HLo.out⟩
            · have q3 : 65535 < rev := by omega
              clear q1
              go_wp2
              go_ret
              exact ⟨by rw [HE.out]; rfl, HLo.out⟩
end Go.Proofs.Ytgkmaihleilchaa
