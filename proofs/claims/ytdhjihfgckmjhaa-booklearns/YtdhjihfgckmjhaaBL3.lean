/- walks: hedgelaw8.BookLearns -/
import Derived.Test.YtdhjihfgckmjhaaBL2
namespace Go.Proofs.Ytdhjihfgckmjhaa
open Go.RowKit
open Bk (E at')

theorem and1_u64 (a : Int) (h0 : 0 ≤ a) (h1 : a < 18446744073709551616) : bits BinOp.and IntKind.u64 a 1 = a % 2 := by
  obtain ⟨n, rfl⟩ := Int.eq_ofNat_of_zero_le h0
  have h := bits_and_u64_nat n 1 (by omega) (by omega)
  rw [show ((1 : Nat) : Int) = 1 from rfl] at h
  rw [h, Nat.and_one_is_mod]
  omega
set_option maxHeartbeats 8000000 in
theorem bklearns_law (ao : Option Addr) (cap : Nat) (l : List E) (vid addr port other : Int) (w : World) (hn : l.length ≤ 9223372036854775807) (hr : BEL w ao cap l) (hnil : NilOk ao l.length cap) (h0 : 0 ≤ addr) (h1 : addr < 18446744073709551616) :
    Calls Try.prog 4 #[.slice ao l.length cap, .int .i64 vid, .int .u64 addr, .int .i64 port, .int .u64 other] w fun e w' => e = .returned (.bool true) ∧ Below w.heap.size w w' := by
  have HRW : Hid (∀ W, Below w.heap.size w W → BEL W ao cap l) := fun W hW => BEL.below hr hW
  have HA : Hid (Calls Try.prog 19 #[] w fun e w' => e = .returned (.bool true) ∧ Hid (Below w.heap.size w w')) := balive_any w
  have HT : Hid (∀ W W', Below w.heap.size w W → Below W.heap.size W W' → Below w.heap.size w W') := fun W W' h h' => h.trans (h'.mono h.size)
  have HNL : Hid (NilOk ao l.length cap) := hnil
  have HAD : Hid (0 ≤ addr ∧ addr < 18446744073709551616) := ⟨h0, h1⟩
  clear hr hnil h0 h1
  go_enter Try.func4, Try.ntmps4
  go_wp2_with fail
  refine HA.out.mono ?_
  rintro e w1 ⟨rfl, HB1⟩
  clear HA
  have hfd : ∀ (a b : Int) (W : World), (Instr.field 27 (.agg #[.int .i64 a, .int .i64 b]) 0).run Try.prog W = .ok (.int .i64 a) W := fa_err
  rcases bwrong_two ao cap l w1 hn (HRW.out w1 HB1.out) with ⟨hbk, hw⟩ | ⟨_, f1, f2, hf, hw⟩
  · have hlen := hbk.many
    obtain ⟨M, hM⟩ : ∃ M, M = Bk.learn l ⟨vid, addr, port, 0⟩ := ⟨_, rfl⟩
    have hbM : Bk.Book M := by rw [hM]; exact Bk.learn_book hbk _
    obtain ⟨hl1, hl2⟩ : l.length ≤ M.length ∧ M.length ≤ l.length + 1 := by rw [hM]; exact Bk.learn_length hbk _
    have hMn := hbM.many
    have HP : Hid (∀ W, Below w.heap.size w W → Calls Try.prog 13 #[.slice ao l.length cap, .int .i64 vid, .int .u64 addr, .int .i64 port] W fun e w' => ∃ x c, e = .returned (.slice x M.length c) ∧ Hid (BEL w' x c M ∧ NilOk x M.length c ∧ Below W.heap.size W w')) := fun W hW => blearn_el ao cap l _ rfl vid addr port W M hM.symm hbk (HRW.out W hW) HNL.out HAD.out.1 HAD.out.2
    have HWM : Hid (∀ W x c, BEL W x c M → Calls Try.prog 8 #[.slice x M.length c] W fun e w' => e = .returned (.agg #[.int .i64 0, .int .i64 0]) ∧ Below W.heap.size W w') := fun W x c h => by
      have := bwrong_any x c M W (by omega) h
      rw [Bk.wrong_zero hbM] at this
      exact this
    have HLL : Hid (∀ W a, Below w.heap.size w W → Calls Try.prog 10 #[.slice ao l.length cap, .int .i64 vid, .int .u64 a] W fun e w' => e = .returned (.tuple #[.int .i64 (Bk.lookP l (sought vid a)), .bool (decide (Bk.Known l (sought vid a)))]) ∧ Below W.heap.size W w') := fun W a hW => blook_any ao cap l vid a W hbk (HRW.out W hW)
    have HLM : Hid (∀ W x c a, BEL W x c M → Calls Try.prog 10 #[.slice x M.length c, .int .i64 vid, .int .u64 a] W fun e w' => e = .returned (.tuple #[.int .i64 (Bk.lookP M (sought vid a)), .bool (decide (Bk.Known M (sought vid a)))]) ∧ Below W.heap.size W w') := fun W x c a h => blook_any x c M vid a W hbM h
    have HSEEN : Hid (Bk.may ⟨vid, addr, port, 0⟩ → Bk.Known l (sought vid addr) ∨ l.length < 30 → Bk.Known M (sought vid addr) ∧ Bk.lookP M (sought vid addr) = port) := fun hm hk => by
      have := Bk.learn_seen (t := sought vid addr) hbk (s := ⟨vid, addr, port, 0⟩) ⟨rfl, rfl⟩ hm hk
      rw [← hM] at this
      refine ⟨this.1, ?_⟩
      unfold Bk.lookP
      rw [this.2]
    have HOTH : Hid (other ≠ addr → Bk.lookP M (sought vid other) = Bk.lookP l (sought vid other) ∧ decide (Bk.Known M (sought vid other)) = decide (Bk.Known l (sought vid other))) := fun h => by
      have hk : ¬ Bk.key ⟨vid, addr, port, 0⟩ (sought vid other) := fun q => h q.2.symm
      constructor
      · unfold Bk.lookP
        rw [hM, Bk.learn_look hbk hk]
      · rw [hM]
        exact decide_eq_decide.2 (Bk.learn_known hk)
    have HNOT : Hid (¬ Bk.may ⟨vid, addr, port, 0⟩ → M = l) := fun h => by rw [hM]; exact if_pos (Or.inl h)
    clear hbM hM hbk
    go_wp2_with fail
    refine hw.mono ?_
    rintro e w2 ⟨rfl, hb2⟩
    have HB2 : Hid (Below w.heap.size w w2) := HT.out _ _ HB1.out hb2
    clear hb2 hw
    go_wp2_with fail
    refine (HP.out w2 HB2.out).mono ?_
    rintro e w3 ⟨x, c, rfl, H3⟩
    have HB3 : Hid (Below w.heap.size w w3) := HT.out _ _ HB2.out H3.out.2.2
    go_wp2_with fail
    refine (HWM.out w3 x c H3.out.1).mono ?_
    rintro e w4 ⟨rfl, hb4⟩
    have HB4 : Hid (Below w.heap.size w w4) := HT.out _ _ HB3.out hb4
    have H4 : Hid (BEL w4 x c M) := BEL.below H3.out.1 hb4
    have d1 : ¬ (M.length : Int) < (l.length : Int) := by omega
    have d2 : ¬ (l.length : Int) + 1 < (M.length : Int) := by omega
    clear hb4 H3
    go_wp2_with fail
    refine (HLL.out w4 addr HB4.out).mono ?_
    rintro e w5 ⟨rfl, hb5⟩
    have HB5 : Hid (Below w.heap.size w w5) := HT.out _ _ HB4.out hb5
    have H5 : Hid (BEL w5 x c M) := BEL.below H4.out hb5
    clear hb5 H4
    go_wp2_with fail
    refine (HLM.out w5 x c addr H5.out).mono ?_
    rintro e w6 ⟨rfl, hb6⟩
    have HB6 : Hid (Below w.heap.size w w6) := HT.out _ _ HB5.out hb6
    have H6 : Hid (BEL w6 x c M) := BEL.below H5.out hb6
    clear hb6 H5
    have HLO : Hid (other ≠ addr → ∀ W, BEL W x c M → Calls Try.prog 10 #[.slice x M.length c, .int .i64 vid, .int .u64 other] W fun e w' => e = .returned (.tuple #[.int .i64 (Bk.lookP l (sought vid other)), .bool (decide (Bk.Known l (sought vid other)))]) ∧ Below W.heap.size W w') := fun h W hW => by
      have := HLM.out W x c other hW
      rw [(HOTH.out h).1, (HOTH.out h).2] at this
      exact this
    have HSM : Hid (¬ Bk.may ⟨vid, addr, port, 0⟩ → Calls Try.prog 12 #[.slice ao l.length cap, .slice x M.length c] w6 fun e w' => e = .returned (.bool true) ∧ Hid (Below w.heap.size w w' ∧ BEL w' x c M)) := fun h => by
      refine (rsame8_yes ao cap x c _ _ l M w6 rfl rfl (HNOT.out h).symm hn (HRW.out w6 HB6.out) H6.out).mono ?_
      rintro e w' ⟨rfl, hb⟩
      exact ⟨rfl, HT.out _ _ HB6.out hb, BEL.below H6.out hb⟩
    obtain ⟨kl, hkl⟩ : ∃ kl, kl = decide (Bk.Known l (sought vid addr)) := ⟨_, rfl⟩
    obtain ⟨km, hkm⟩ : ∃ km, km = decide (Bk.Known M (sought vid addr)) := ⟨_, rfl⟩
    obtain ⟨pm, hpm⟩ : ∃ pm, pm = Bk.lookP M (sought vid addr) := ⟨_, rfl⟩
    rw [← hkl, ← hkm, ← hpm]
    have HKL : Hid (kl = decide (Bk.Known l (sought vid addr))) := hkl
    have HKM : Hid (km = decide (Bk.Known M (sought vid addr))) := hkm
    have HPM : Hid (pm = Bk.lookP M (sought vid addr)) := hpm
    clear hkl hkm hpm HLM HOTH HNOT HP HWM
    generalize Bk.lookP l (sought vid addr) = pl
    have dQ : (other == addr) = true ∨ (other == addr) = false := by cases (other == addr) <;> simp
    have HNE : Hid ((other == addr) = false → other ≠ addr) := fun h q => by subst q; simp at h
    by_cases q1 : 1 ≤ vid
    · by_cases q2 : vid ≤ 4094
      · by_cases q3 : addr ≤ 281474976710655
        · have hb40 : bits BinOp.and IntKind.u64 (addr / 1099511627776) 1 = addr / 1099511627776 % 2 := and1_u64 _ (by have := HAD.out.1; omega) (by have := HAD.out.2; omega)
          by_cases q4 : addr / 1099511627776 % 2 = 0
          · have e4 : (addr / 1099511627776 % 2 == 0) = true := by simp [q4]
            by_cases q5 : 0 ≤ port
            · by_cases q6 : port ≤ 30
              · have hmy : Bk.may ⟨vid, addr, port, 0⟩ := by unfold Bk.may Bk.rng; simp only; omega
                by_cases hroom : Bk.Known l (sought vid addr) ∨ l.length < 30
                · obtain ⟨g1, g2⟩ := HSEEN.out hmy hroom
                  obtain rfl : km = true := HKM.out.trans (decide_eq_true g1)
                  obtain rfl : pm = port := HPM.out.trans g2
                  clear HSM g1 g2 hmy HSEEN
                  cases kl with
                  | true =>
                    clear hroom HKL HKM HPM
                    rcases dQ with dQ | dQ
                    · go_wp2_with fail
                      go_ret
                      exact ⟨rfl, HB6.out⟩
                    · have HNE2 : Hid _ := HNE.out dQ
                      go_wp2_with fail
                      refine (HLL.out w6 other (HB6.out)).mono ?_
                      rintro e w8 ⟨rfl, hb8⟩
                      have HB8 : Hid (Below w.heap.size w w8) := HT.out _ _ (HB6.out) hb8
                      have H8 : Hid (BEL w8 x c M) := BEL.below (H6.out) hb8
                      clear hb8
                      go_wp2_with fail
                      refine (HLO.out HNE2.out w8 H8.out).mono ?_
                      rintro e w9 ⟨rfl, hb9⟩
                      have HB9 : Hid (Below w.heap.size w w9) := HT.out _ _ HB8.out hb9
                      clear hb9
                      go_wp2_with fail
                      go_ret
                      exact ⟨by simp, HB9.out⟩
                  | false =>
                    have hroom2 : l.length < 30 := hroom.elim (fun q => absurd q (of_decide_eq_false HKL.out.symm)) id
                    have h30 : (l.length : Int) < 30 := by omega
                    clear hroom HKL HKM HPM
                    rcases dQ with dQ | dQ
                    · go_wp2_with fail
                      go_ret
                      exact ⟨rfl, HB6.out⟩
                    · have HNE2 : Hid _ := HNE.out dQ
                      go_wp2_with fail
                      refine (HLL.out w6 other (HB6.out)).mono ?_
                      rintro e w8 ⟨rfl, hb8⟩
                      have HB8 : Hid (Below w.heap.size w w8) := HT.out _ _ (HB6.out) hb8
                      have H8 : Hid (BEL w8 x c M) := BEL.below (H6.out) hb8
                      clear hb8
                      go_wp2_with fail
                      refine (HLO.out HNE2.out w8 H8.out).mono ?_
                      rintro e w9 ⟨rfl, hb9⟩
                      have HB9 : Hid (Below w.heap.size w w9) := HT.out _ _ HB8.out hb9
                      clear hb9
                      go_wp2_with fail
                      go_ret
                      exact ⟨by simp, HB9.out⟩
                · obtain rfl : kl = false := HKL.out.trans (decide_eq_false (fun q => hroom (Or.inl q)))
                  have hroom2 : ¬ l.length < 30 := fun q => hroom (Or.inr q)
                  have h30 : ¬ (l.length : Int) < 30 := by omega
                  clear hroom HKL HKM HPM HSM hmy HSEEN
                  rcases dQ with dQ | dQ
                  · go_wp2_with fail
                    go_ret
                    exact ⟨rfl, HB6.out⟩
                  · have HNE2 : Hid _ := HNE.out dQ
                    go_wp2_with fail
                    refine (HLL.out w6 other (HB6.out)).mono ?_
                    rintro e w8 ⟨rfl, hb8⟩
                    have HB8 : Hid (Below w.heap.size w w8) := HT.out _ _ (HB6.out) hb8
                    have H8 : Hid (BEL w8 x c M) := BEL.below (H6.out) hb8
                    clear hb8
                    go_wp2_with fail
                    refine (HLO.out HNE2.out w8 H8.out).mono ?_
                    rintro e w9 ⟨rfl, hb9⟩
                    have HB9 : Hid (Below w.heap.size w w9) := HT.out _ _ HB8.out hb9
                    clear hb9
                    go_wp2_with fail
                    go_ret
                    exact ⟨by simp, HB9.out⟩
              · have HSM2 := HSM.out (by unfold Bk.may Bk.rng; simp only; omega)
                clear HSM HKL HKM HPM
                go_wp2_with fail
                refine HSM2.mono ?_
                rintro e w7 ⟨rfl, H7⟩
                clear HSM2
                rcases dQ with dQ | dQ
                · go_wp2_with fail
                  go_ret
                  exact ⟨rfl, H7.out.1⟩
                · have HNE2 : Hid _ := HNE.out dQ
                  go_wp2_with fail
                  refine (HLL.out w7 other (H7.out.1)).mono ?_
                  rintro e w8 ⟨rfl, hb8⟩
                  have HB8 : Hid (Below w.heap.size w w8) := HT.out _ _ (H7.out.1) hb8
                  have H8 : Hid (BEL w8 x c M) := BEL.below (H7.out.2) hb8
                  clear hb8
                  go_wp2_with fail
                  refine (HLO.out HNE2.out w8 H8.out).mono ?_
                  rintro e w9 ⟨rfl, hb9⟩
                  have HB9 : Hid (Below w.heap.size w w9) := HT.out _ _ HB8.out hb9
                  clear hb9
                  go_wp2_with fail
                  go_ret
                  exact ⟨by simp, HB9.out⟩
            · have HSM2 := HSM.out (by unfold Bk.may Bk.rng; simp only; omega)
              clear HSM HKL HKM HPM
              go_wp2_with fail
              refine HSM2.mono ?_
              rintro e w7 ⟨rfl, H7⟩
              clear HSM2
              rcases dQ with dQ | dQ
              · go_wp2_with fail
                go_ret
                exact ⟨rfl, H7.out.1⟩
              · have HNE2 : Hid _ := HNE.out dQ
                go_wp2_with fail
                refine (HLL.out w7 other (H7.out.1)).mono ?_
                rintro e w8 ⟨rfl, hb8⟩
                have HB8 : Hid (Below w.heap.size w w8) := HT.out _ _ (H7.out.1) hb8
                have H8 : Hid (BEL w8 x c M) := BEL.below (H7.out.2) hb8
                clear hb8
                go_wp2_with fail
                refine (HLO.out HNE2.out w8 H8.out).mono ?_
                rintro e w9 ⟨rfl, hb9⟩
                have HB9 : Hid (Below w.heap.size w w9) := HT.out _ _ HB8.out hb9
                clear hb9
                go_wp2_with fail
                go_ret
                exact ⟨by simp, HB9.out⟩
          · have e4 : (addr / 1099511627776 % 2 == 0) = false := by simpa using q4
            have HSM2 := HSM.out (by unfold Bk.may Bk.rng; simp only; omega)
            clear HSM HKL HKM HPM
            go_wp2_with fail
            refine HSM2.mono ?_
            rintro e w7 ⟨rfl, H7⟩
            clear HSM2
            rcases dQ with dQ | dQ
            · go_wp2_with fail
              go_ret
              exact ⟨rfl, H7.out.1⟩
            · have HNE2 : Hid _ := HNE.out dQ
              go_wp2_with fail
              refine (HLL.out w7 other (H7.out.1)).mono ?_
              rintro e w8 ⟨rfl, hb8⟩
              have HB8 : Hid (Below w.heap.size w w8) := HT.out _ _ (H7.out.1) hb8
              have H8 : Hid (BEL w8 x c M) := BEL.below (H7.out.2) hb8
              clear hb8
              go_wp2_with fail
              refine (HLO.out HNE2.out w8 H8.out).mono ?_
              rintro e w9 ⟨rfl, hb9⟩
              have HB9 : Hid (Below w.heap.size w w9) := HT.out _ _ HB8.out hb9
              clear hb9
              go_wp2_with fail
              go_ret
              exact ⟨by simp, HB9.out⟩
        · have HSM2 := HSM.out (by unfold Bk.may Bk.rng; simp only; omega)
          clear HSM HKL HKM HPM
          go_wp2_with fail
          refine HSM2.mono ?_
          rintro e w7 ⟨rfl, H7⟩
          clear HSM2
          rcases dQ with dQ | dQ
          · go_wp2_with fail
            go_ret
            exact ⟨rfl, H7.out.1⟩
          · have HNE2 : Hid _ := HNE.out dQ
            go_wp2_with fail
            refine (HLL.out w7 other (H7.out.1)).mono ?_
            rintro e w8 ⟨rfl, hb8⟩
            have HB8 : Hid (Below w.heap.size w w8) := HT.out _ _ (H7.out.1) hb8
            have H8 : Hid (BEL w8 x c M) := BEL.below (H7.out.2) hb8
            clear hb8
            go_wp2_with fail
            refine (HLO.out HNE2.out w8 H8.out).mono ?_
            rintro e w9 ⟨rfl, hb9⟩
            have HB9 : Hid (Below w.heap.size w w9) := HT.out _ _ HB8.out hb9
            clear hb9
            go_wp2_with fail
            go_ret
            exact ⟨by simp, HB9.out⟩
      · have HSM2 := HSM.out (by unfold Bk.may Bk.rng; simp only; omega)
        clear HSM HKL HKM HPM
        go_wp2_with fail
        refine HSM2.mono ?_
        rintro e w7 ⟨rfl, H7⟩
        clear HSM2
        rcases dQ with dQ | dQ
        · go_wp2_with fail
          go_ret
          exact ⟨rfl, H7.out.1⟩
        · have HNE2 : Hid _ := HNE.out dQ
          go_wp2_with fail
          refine (HLL.out w7 other (H7.out.1)).mono ?_
          rintro e w8 ⟨rfl, hb8⟩
          have HB8 : Hid (Below w.heap.size w w8) := HT.out _ _ (H7.out.1) hb8
          have H8 : Hid (BEL w8 x c M) := BEL.below (H7.out.2) hb8
          clear hb8
          go_wp2_with fail
          refine (HLO.out HNE2.out w8 H8.out).mono ?_
          rintro e w9 ⟨rfl, hb9⟩
          have HB9 : Hid (Below w.heap.size w w9) := HT.out _ _ HB8.out hb9
          clear hb9
          go_wp2_with fail
          go_ret
          exact ⟨by simp, HB9.out⟩
    · have HSM2 := HSM.out (by unfold Bk.may Bk.rng; simp only; omega)
      clear HSM HKL HKM HPM
      go_wp2_with fail
      refine HSM2.mono ?_
      rintro e w7 ⟨rfl, H7⟩
      clear HSM2
      rcases dQ with dQ | dQ
      · go_wp2_with fail
        go_ret
        exact ⟨rfl, H7.out.1⟩
      · have HNE2 : Hid _ := HNE.out dQ
        go_wp2_with fail
        refine (HLL.out w7 other (H7.out.1)).mono ?_
        rintro e w8 ⟨rfl, hb8⟩
        have HB8 : Hid (Below w.heap.size w w8) := HT.out _ _ (H7.out.1) hb8
        have H8 : Hid (BEL w8 x c M) := BEL.below (H7.out.2) hb8
        clear hb8
        go_wp2_with fail
        refine (HLO.out HNE2.out w8 H8.out).mono ?_
        rintro e w9 ⟨rfl, hb9⟩
        have HB9 : Hid (Below w.heap.size w w9) := HT.out _ _ HB8.out hb9
        clear hb9
        go_wp2_with fail
        go_ret
        exact ⟨by simp, HB9.out⟩
  · have dq : (f1 != 0) = true := by simp [hf]
    go_wp2_with (go_at_call 8; refine hw.mono ?_; rintro e w2 ⟨rfl, hb2⟩)
    go_ret
    exact ⟨rfl, HT.out _ _ HB1.out hb2⟩
end Go.Proofs.Ytdhjihfgckmjhaa
