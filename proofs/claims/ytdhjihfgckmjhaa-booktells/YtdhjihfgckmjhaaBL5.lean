/- walks: hedgelaw8.BookTells -/
import Derived.Test.YtdhjihfgckmjhaaBR2
import Derived.Test.YtdhjihfgckmjhaaBR3
import Derived.Test.YtdhjihfgckmjhaaBR4
namespace Go.Proofs.Ytdhjihfgckmjhaa
open Go.RowKit
open Bk (E at')

theorem fa_neq (a b : Int) (w : World) : (binOp .neq 27 (.agg #[.int .i64 a, .int .i64 b]) (.agg #[.int .i64 a, .int .i64 b])).run Try.prog w = .ok (.bool false) w := by
  go_simp
set_option maxHeartbeats 4000000 in
theorem bktells_law (ao : Option Addr) (cap : Nat) (l : List E) (vid addr port later : Int) (wo : Option Addr) (wcap : Nat) (ways : List Int) (w : World) (hn : l.length ≤ 9223372036854775807) (hr : BEL w ao cap l) (hnil : NilOk ao l.length cap) (h0 : 0 ≤ addr) (h1 : addr < 18446744073709551616) (hwn : ways.length ≤ 9223372036854775807) (hw : ILs w wo wcap ways) :
    Calls Try.prog 3 #[.slice ao l.length cap, .int .i64 vid, .int .u64 addr, .int .i64 port, .int .i64 later, .slice wo ways.length wcap] w fun e w' => e = .returned (.bool true) ∧ Below w.heap.size w w' := by
  have HRW : Hid (∀ W, Below w.heap.size w W → BEL W ao cap l) := fun W hW => BEL.below hr hW
  have HT : Hid (∀ W W', Below w.heap.size w W → Below W.heap.size W W' → Below w.heap.size w W') := fun W W' h h' => h.trans (h'.mono h.size)
  have hfd : ∀ (a b : Int) (W : World), (Instr.field 27 (.agg #[.int .i64 a, .int .i64 b]) 0).run Try.prog W = .ok (.int .i64 a) W := fa_err
  have hne : ∀ (a b : Int) (W : World), (binOp .neq 27 (.agg #[.int .i64 a, .int .i64 b]) (.agg #[.int .i64 a, .int .i64 b])).run Try.prog W = .ok (.bool false) W := fa_neq
  obtain ⟨f1, f2, hf12⟩ : ∃ f1 f2, Bk.wrong (at' l) l.length = (f1, f2) := ⟨_, _, rfl⟩
  have HP : Hid (∀ W, Below w.heap.size w W → Calls Try.prog 8 #[.slice ao l.length cap] W fun e w' => e = .returned (.agg #[.int .i64 f1, .int .i64 f2]) ∧ Below W.heap.size W w') := fun W hW => by
    have := bwrong_any ao cap l W hn (HRW.out W hW)
    rw [hf12] at this
    exact this
  have HR : Hid (∀ W, Below w.heap.size w W → Calls Try.prog 9 #[.slice ao l.length cap] W fun e w' => e = .returned (.agg #[.int .i64 f1, .int .i64 f2]) ∧ Below W.heap.size W w') := fun W hW => by
    have := rwrong8_any ao cap l W hn (HRW.out W hW)
    rw [hf12] at this
    exact this
  have HBK : Hid (f1 = 0 → Bk.Book l) := fun h => Bk.wrong_book.1 (by rw [hf12]; exact h)
  have HLK : Hid (Bk.Book l → ∀ W, Below w.heap.size w W → Calls Try.prog 10 #[.slice ao l.length cap, .int .i64 vid, .int .u64 addr] W fun e w' => e = .returned (.tuple #[.int .i64 (Bk.lookP l (sought vid addr)), .bool (decide (Bk.Known l (sought vid addr)))]) ∧ Below W.heap.size W w') := fun hb W hW => blook_any ao cap l vid addr W hb (HRW.out W hW)
  have HRK : Hid (Bk.Book l → ∀ W, Below w.heap.size w W → Calls Try.prog 11 #[.slice ao l.length cap, .int .i64 vid, .int .u64 addr] W fun e w' => e = .returned (.tuple #[.int .i64 (Bk.lookP l (sought vid addr)), .bool (decide (Bk.Known l (sought vid addr)))]) ∧ Below W.heap.size W w') := fun hb W hW => rlook8_any ao cap l vid addr W hb (HRW.out W hW)
  have HLN : Hid (Bk.Book l → ∀ W, Below w.heap.size w W → Calls Try.prog 13 #[.slice ao l.length cap, .int .i64 vid, .int .u64 addr, .int .i64 port] W fun e w' => ∃ a c, e = .returned (.slice a (Bk.learn l ⟨vid, addr, port, 0⟩).length c) ∧ Hid (BEL w' a c (Bk.learn l ⟨vid, addr, port, 0⟩) ∧ NilOk a (Bk.learn l ⟨vid, addr, port, 0⟩).length c ∧ Below W.heap.size W w')) := fun hb W hW => blearn_el ao cap l _ rfl vid addr port W _ rfl hb (HRW.out W hW) hnil h0 h1
  have HRN : Hid (Bk.Book l → ∀ W, Below w.heap.size w W → Calls Try.prog 14 #[.slice ao l.length cap, .int .i64 vid, .int .u64 addr, .int .i64 port] W fun e w' => ∃ a c, e = .returned (.slice a (Bk.learn l ⟨vid, addr, port, 0⟩).length c) ∧ BEL w' a c (Bk.learn l ⟨vid, addr, port, 0⟩) ∧ Below W.heap.size W w') := fun hb W hW => rlearn8_any ao cap l vid addr port W hb (HRW.out W hW) h0 h1
  have HOL : Hid (Bk.Book l → ∀ W, Below w.heap.size w W → Calls Try.prog 15 #[.slice ao l.length cap, .int .i64 later] W fun e w' => ∃ a c, e = .returned (.slice a (Bk.old l later).length c) ∧ Hid (BEL w' a c (Bk.old l later) ∧ Below W.heap.size W w')) := fun hb W hW => bold_el ao cap l later W _ rfl hb.many (fun x hx => (hb.rng x hx).2.2.2) (HRW.out W hW)
  have HRO : Hid (Bk.Book l → ∀ W, Below w.heap.size w W → Calls Try.prog 16 #[.slice ao l.length cap, .int .i64 later] W fun e w' => ∃ a c, e = .returned (.slice a (Bk.old l later).length c) ∧ Hid (BEL w' a c (Bk.old l later) ∧ Below W.heap.size W w')) := fun hb W hW => by
    refine (rold8_any ao cap l later W (by have := hb.many; omega) (fun x hx => (hb.rng x hx).2.2.2) (HRW.out W hW)).mono ?_
    rintro e w' ⟨v, rfl, ho, hb'⟩
    obtain ⟨a, c, rfl, h1, _⟩ := ho.el
    exact ⟨a, c, rfl, h1, hb'⟩
  have HFL : Hid (Bk.Book l → ∀ W, Below w.heap.size w W → Calls Try.prog 17 #[.slice ao l.length cap, .int .i64 port, .slice wo ways.length wcap] W fun e w' => ∃ a c, e = .returned (.slice a (Bk.flush l port ways).length c) ∧ Hid (BEL w' a c (Bk.flush l port ways) ∧ Below W.heap.size W w')) := fun hb W hW => by
    refine (bflush_any ao cap l port wo wcap ways W (by have := hb.many; omega) (HRW.out W hW) hwn (hw.below hW)).mono ?_
    rintro e w' ⟨v, rfl, ho, hb'⟩
    obtain ⟨a, c, rfl, h1, _⟩ := ho.el
    exact ⟨a, c, rfl, h1, hb'⟩
  have HRF : Hid (Bk.Book l → ∀ W, Below w.heap.size w W → Calls Try.prog 18 #[.slice ao l.length cap, .int .i64 port, .slice wo ways.length wcap] W fun e w' => ∃ a c, e = .returned (.slice a (Bk.flush l port ways).length c) ∧ Hid (BEL w' a c (Bk.flush l port ways) ∧ Below W.heap.size W w')) := fun hb W hW => by
    refine (rflush8_any ao cap l port wo wcap ways W (by have := hb.many; omega) (HRW.out W hW) hwn (hw.below hW)).mono ?_
    rintro e w' ⟨v, rfl, ho, hb'⟩
    obtain ⟨a, c, rfl, h1, _⟩ := ho.el
    exact ⟨a, c, rfl, h1, hb'⟩
  have HSL : Hid (Bk.Book l → (Bk.learn l ⟨vid, addr, port, 0⟩).length ≤ 30 ∧ (Bk.old l later).length ≤ 30 ∧ (Bk.flush l port ways).length ≤ 30) := fun hb => ⟨(Bk.learn_book hb _).many, Nat.le_trans (Bk.old_length _ _) hb.many, (Bk.flush_book hb _ _).many⟩
  have HSM : Hid (∀ W x c y d (m : List E), m.length ≤ 30 → BEL W x c m → BEL W y d m → Calls Try.prog 12 #[.slice x m.length c, .slice y m.length d] W fun e w' => e = .returned (.bool true) ∧ Below W.heap.size W w') := fun W x c y d m hm a1 a2 => rsame8_yes x c y d _ _ m m W rfl rfl rfl (by omega) a1 a2
  have HB0 : Hid (Below w.heap.size w w) := Below.refl _ _
  clear hr hnil h0 h1 hw hf12
  generalize Bk.learn l ⟨vid, addr, port, 0⟩ = LN at *
  generalize Bk.old l later = OL at *
  generalize Bk.flush l port ways = FL at *
  generalize Bk.lookP l (sought vid addr) = LP at *
  generalize decide (Bk.Known l (sought vid addr)) = KN at *
  go_enter Try.func3, Try.ntmps3
  go_wp2_with fail
  refine (HP.out w HB0.out).mono ?_
  rintro e w1 ⟨rfl, hb1⟩
  have HB1 : Hid (Below w.heap.size w w1) := HT.out _ _ HB0.out hb1
  clear hb1
  go_wp2_with fail
  refine (HR.out w1 HB1.out).mono ?_
  rintro e w2 ⟨rfl, hb2⟩
  have HB2 : Hid (Below w.heap.size w w2) := HT.out _ _ HB1.out hb2
  clear hb2
  go_wp2_with fail
  refine (HR.out w2 HB2.out).mono ?_
  rintro e w3 ⟨rfl, hb3⟩
  have HB3 : Hid (Below w.heap.size w w3) := HT.out _ _ HB2.out hb3
  clear hb3
  by_cases hf : f1 = 0
  · have hb := HBK.out hf
    obtain ⟨n1, n2, n3⟩ := HSL.out hb
    have HK1 : Hid _ := HLK.out hb
    have HK2 : Hid _ := HRK.out hb
    have HN1 : Hid _ := HLN.out hb
    have HN2 : Hid _ := HRN.out hb
    have HO1 : Hid _ := HOL.out hb
    have HO2 : Hid _ := HRO.out hb
    have HF1 : Hid _ := HFL.out hb
    have HF2 : Hid _ := HRF.out hb
    subst hf
    clear hb HLK HRK HLN HRN HOL HRO HFL HRF HP HR HBK HSL
    go_wp2_with fail
    refine (HK1.out w3 HB3.out).mono ?_
    rintro e w4 ⟨rfl, hb4⟩
    have HB4 : Hid (Below w.heap.size w w4) := HT.out _ _ HB3.out hb4
    clear hb4
    go_wp2_with fail
    refine (HK2.out w4 HB4.out).mono ?_
    rintro e w5 ⟨rfl, hb5⟩
    have HB5 : Hid (Below w.heap.size w w5) := HT.out _ _ HB4.out hb5
    clear hb5
    go_wp2_with fail
    refine (HN1.out w5 HB5.out).mono ?_
    rintro e w6 ⟨x6, c6, rfl, H6⟩
    have HB6 : Hid (Below w.heap.size w w6) := HT.out _ _ HB5.out H6.out.2.2
    go_wp2_with fail
    refine (HN2.out w6 HB6.out).mono ?_
    rintro e w7 ⟨x7, c7, rfl, h7, hb7⟩
    have H7 : Hid (BEL w7 x7 c7 LN ∧ BEL w7 x6 c6 LN) := ⟨h7, BEL.below H6.out.1 hb7⟩
    have HB7 : Hid (Below w.heap.size w w7) := HT.out _ _ HB6.out hb7
    clear hb7 h7
    go_wp2_with fail
    refine (HSM.out w7 x6 c6 x7 c7 LN n1 H7.out.2 H7.out.1).mono ?_
    rintro e w8 ⟨rfl, hb8⟩
    have HB8 : Hid (Below w.heap.size w w8) := HT.out _ _ HB7.out hb8
    clear hb8
    go_wp2_with fail
    refine (HO1.out w8 HB8.out).mono ?_
    rintro e w9 ⟨x9, c9, rfl, H9⟩
    have HB9 : Hid (Below w.heap.size w w9) := HT.out _ _ HB8.out H9.out.2
    go_wp2_with fail
    refine (HO2.out w9 HB9.out).mono ?_
    rintro e w10 ⟨x10, c10, rfl, H10⟩
    have HB10 : Hid (Below w.heap.size w w10) := HT.out _ _ HB9.out H10.out.2
    go_wp2_with fail
    refine (HSM.out w10 x9 c9 x10 c10 OL n2 (BEL.below H9.out.1 H10.out.2) H10.out.1).mono ?_
    rintro e w11 ⟨rfl, hb11⟩
    have HB11 : Hid (Below w.heap.size w w11) := HT.out _ _ HB10.out hb11
    clear hb11
    go_wp2_with fail
    refine (HF1.out w11 HB11.out).mono ?_
    rintro e w12 ⟨x12, c12, rfl, H12⟩
    have HB12 : Hid (Below w.heap.size w w12) := HT.out _ _ HB11.out H12.out.2
    go_wp2_with fail
    refine (HF2.out w12 HB12.out).mono ?_
    rintro e w13 ⟨x13, c13, rfl, H13⟩
    have HB13 : Hid (Below w.heap.size w w13) := HT.out _ _ HB12.out H13.out.2
    go_wp2_with fail
    refine (HSM.out w13 x12 c12 x13 c13 FL n3 (BEL.below H12.out.1 H13.out.2) H13.out.1).mono ?_
    rintro e w14 ⟨rfl, hb14⟩
    have HB14 : Hid (Below w.heap.size w w14) := HT.out _ _ HB13.out hb14
    clear hb14
    go_wp2_with fail
    go_ret
    exact ⟨rfl, HB14.out⟩
  · have dq : (f1 != 0) = true := by simp [hf]
    clear HLK HRK HLN HRN HOL HRO HFL HRF HP HR HBK HSL
    go_wp2_with fail
    go_ret
    exact ⟨rfl, HB3.out⟩
end Go.Proofs.Ytdhjihfgckmjhaa
