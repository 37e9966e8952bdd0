/- walks: hedgelaw8.BookTwice -/
import Derived.Test.YtdhjihfgckmjhaaBL1
import Derived.Test.YtdhjihfgckmjhaaBLe
namespace Go.Proofs.Ytdhjihfgckmjhaa
open Go.RowKit
open Bk (E at')

theorem may_port {vid addr p q : Int} (hp : 0 ≤ p ∧ p ≤ 30) (hq : 0 ≤ q ∧ q ≤ 30) : Bk.may ⟨vid, addr, p, 0⟩ ↔ Bk.may ⟨vid, addr, q, 0⟩ := by
  unfold Bk.may Bk.rng
  simp only
  omega
set_option maxHeartbeats 4000000 in
theorem bktwice_law (ao : Option Addr) (cap : Nat) (l : List E) (vid addr p q : Int) (w : World) (hn : l.length ≤ 9223372036854775807) (hr : BEL w ao cap l) (hnil : NilOk ao l.length cap) (h0 : 0 ≤ addr) (h1 : addr < 18446744073709551616) :
    Calls Try.prog 7 #[.slice ao l.length cap, .int .i64 vid, .int .u64 addr, .int .i64 p, .int .i64 q] w fun e w' => e = .returned (.bool true) ∧ Below w.heap.size w w' := by
  have HRW : Hid (∀ W, Below w.heap.size w W → BEL W ao cap l) := fun W hW => BEL.below hr hW
  have HA : Hid (Calls Try.prog 19 #[] w fun e w' => e = .returned (.bool true) ∧ Hid (Below w.heap.size w w')) := balive_any w
  have HT : Hid (∀ W W', Below w.heap.size w W → Below W.heap.size W W' → Below w.heap.size w W') := fun W W' h h' => h.trans (h'.mono h.size)
  have HNL : Hid (NilOk ao l.length cap) := hnil
  clear hr hnil
  go_enter Try.func7, Try.ntmps7
  go_wp2_with fail
  refine HA.out.mono ?_
  rintro e w1 ⟨rfl, HB1⟩
  clear HA
  have hfd : ∀ (a b : Int) (W : World), (Instr.field 27 (.agg #[.int .i64 a, .int .i64 b]) 0).run Try.prog W = .ok (.int .i64 a) W := fa_err
  rcases bwrong_two ao cap l w1 hn (HRW.out w1 HB1.out) with ⟨hbk, hw⟩ | ⟨_, f1, f2, hf, hw⟩
  · by_cases hq : q < 0
    · go_wp2_with (go_at_call 8; refine hw.mono ?_; rintro e w2 ⟨rfl, hb2⟩)
      go_ret
      exact ⟨rfl, HT.out _ _ HB1.out hb2⟩
    · by_cases hq2 : 30 < q
      · go_wp2_with (go_at_call 8; refine hw.mono ?_; rintro e w2 ⟨rfl, hb2⟩)
        go_ret
        exact ⟨rfl, HT.out _ _ HB1.out hb2⟩
      · by_cases hp : p < 0
        · go_wp2_with (go_at_call 8; refine hw.mono ?_; rintro e w2 ⟨rfl, hb2⟩)
          go_ret
          exact ⟨rfl, HT.out _ _ HB1.out hb2⟩
        · by_cases hp2 : 30 < p
          · go_wp2_with (go_at_call 8; refine hw.mono ?_; rintro e w2 ⟨rfl, hb2⟩)
            go_ret
            exact ⟨rfl, HT.out _ _ HB1.out hb2⟩
          · have hlen := hbk.many
            obtain ⟨M, hM⟩ : ∃ M, M = Bk.learn l ⟨vid, addr, p, 0⟩ := ⟨_, rfl⟩
            obtain ⟨R, hR⟩ : ∃ R, R = Bk.learn l ⟨vid, addr, q, 0⟩ := ⟨_, rfl⟩
            have hbM : Bk.Book M := by rw [hM]; exact Bk.learn_book hbk _
            have hbR : Bk.Book R := by rw [hR]; exact Bk.learn_book hbk _
            have hMR : Bk.learn M ⟨vid, addr, q, 0⟩ = R := by rw [hM, hR]; exact Bk.learn_twice ⟨rfl, rfl⟩ (may_port ⟨by omega, by omega⟩ ⟨by omega, by omega⟩)
            have hRR : Bk.learn R ⟨vid, addr, q, 0⟩ = R := by rw [hR]; exact Bk.learn_twice ⟨rfl, rfl⟩ Iff.rfl
            have hRn := hbR.many
            have HP : Hid (∀ W, Below w.heap.size w W → Calls Try.prog 13 #[.slice ao l.length cap, .int .i64 vid, .int .u64 addr, .int .i64 p] W fun e w' => ∃ x c, e = .returned (.slice x M.length c) ∧ Hid (BEL w' x c M ∧ NilOk x M.length c ∧ Below W.heap.size W w')) := fun W hW => blearn_el ao cap l _ rfl vid addr p W M hM.symm hbk (HRW.out W hW) HNL.out h0 h1
            have HQ : Hid (∀ W, Below w.heap.size w W → Calls Try.prog 13 #[.slice ao l.length cap, .int .i64 vid, .int .u64 addr, .int .i64 q] W fun e w' => ∃ x c, e = .returned (.slice x R.length c) ∧ Hid (BEL w' x c R ∧ NilOk x R.length c ∧ Below W.heap.size W w')) := fun W hW => blearn_el ao cap l _ rfl vid addr q W R hR.symm hbk (HRW.out W hW) HNL.out h0 h1
            have HPQ : Hid (∀ W x c, BEL W x c M → NilOk x M.length c → Calls Try.prog 13 #[.slice x M.length c, .int .i64 vid, .int .u64 addr, .int .i64 q] W fun e w' => ∃ x c, e = .returned (.slice x R.length c) ∧ Hid (BEL w' x c R ∧ NilOk x R.length c ∧ Below W.heap.size W w')) := fun W x c h h' => blearn_el x c M _ rfl vid addr q W R hMR hbM h h' h0 h1
            have HRQ : Hid (∀ W x c, BEL W x c R → NilOk x R.length c → Calls Try.prog 13 #[.slice x R.length c, .int .i64 vid, .int .u64 addr, .int .i64 q] W fun e w' => ∃ x c, e = .returned (.slice x R.length c) ∧ Hid (BEL w' x c R ∧ NilOk x R.length c ∧ Below W.heap.size W w')) := fun W x c h h' => blearn_el x c R _ rfl vid addr q W R hRR hbR h h' h0 h1
            have HS : Hid (∀ W x c y d, BEL W x c R → BEL W y d R → Calls Try.prog 12 #[.slice x R.length c, .slice y R.length d] W fun e w' => e = .returned (.bool true) ∧ Below W.heap.size W w') := fun W x c y d h1 h2 => rsame8_yes x c y d _ _ _ _ W rfl rfl rfl (by omega) h1 h2
            clear hM hR hbM hbR hMR hRR hbk
            go_wp2_with fail
            refine hw.mono ?_
            rintro e w2 ⟨rfl, hb2⟩
            have HB2 : Hid (Below w.heap.size w w2) := HT.out _ _ HB1.out hb2
            clear hb2 hw
            go_wp2_with fail
            refine (HP.out w2 HB2.out).mono ?_
            rintro e w3 ⟨x3, c3, rfl, H3⟩
            have HB3 : Hid (Below w.heap.size w w3) := HT.out _ _ HB2.out H3.out.2.2
            go_wp2_with fail
            refine (HPQ.out w3 x3 c3 H3.out.1 H3.out.2.1).mono ?_
            rintro e w4 ⟨x4, c4, rfl, H4⟩
            have HB4 : Hid (Below w.heap.size w w4) := HT.out _ _ HB3.out H4.out.2.2
            go_wp2_with fail
            refine (HQ.out w4 HB4.out).mono ?_
            rintro e w5 ⟨x5, c5, rfl, H5⟩
            have HB5 : Hid (Below w.heap.size w w5) := HT.out _ _ HB4.out H5.out.2.2
            go_wp2_with fail
            refine (HS.out w5 x4 c4 x5 c5 (BEL.below H4.out.1 H5.out.2.2) H5.out.1).mono ?_
            rintro e w6 ⟨rfl, hb6⟩
            have HB6 : Hid (Below w.heap.size w w6) := HT.out _ _ HB5.out hb6
            have H56 : Hid (BEL w6 x5 c5 R) := BEL.below H5.out.1 hb6
            clear hb6
            go_wp2_with fail
            refine (HRQ.out w6 x5 c5 H56.out H5.out.2.1).mono ?_
            rintro e w7 ⟨x7, c7, rfl, H7⟩
            have HB7 : Hid (Below w.heap.size w w7) := HT.out _ _ HB6.out H7.out.2.2
            go_wp2_with fail
            refine (HS.out w7 x7 c7 x5 c5 H7.out.1 (BEL.below H56.out H7.out.2.2)).mono ?_
            rintro e w9 ⟨rfl, hb9⟩
            have HB9 : Hid (Below w.heap.size w w9) := HT.out _ _ HB7.out hb9
            clear hb9
            go_wp2_with fail
            go_ret
            exact ⟨rfl, HB9.out⟩
  · have dq : (f1 != 0) = true := by simp [hf]
    go_wp2_with (go_at_call 8; refine hw.mono ?_; rintro e w2 ⟨rfl, hb2⟩)
    go_ret
    exact ⟨rfl, HT.out _ _ HB1.out hb2⟩
end Go.Proofs.Ytdhjihfgckmjhaa
