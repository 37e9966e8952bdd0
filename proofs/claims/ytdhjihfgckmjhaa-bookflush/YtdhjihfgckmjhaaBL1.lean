/- walks: hedgelaw8.BookOld -/
import Derived.Test.YtdhjihfgckmjhaaBL0
namespace Go.Proofs.Ytdhjihfgckmjhaa
open Go.RowKit
open Bk (E at')

theorem bold_el (ao : Option Addr) (cap : Nat) (l : List E) (later : Int) (w : World) (m : List E) (hm : Bk.old l later = m) (hn : l.length ≤ 30) (hag : ∀ x ∈ l, 0 ≤ x.age ∧ x.age ≤ 300) (hr : BEL w ao cap l) :
    Calls Try.prog 15 #[.slice ao l.length cap, .int .i64 later] w fun e w' => ∃ a c, e = .returned (.slice a m.length c) ∧ Hid (BEL w' a c m ∧ Below w.heap.size w w') := by
  subst hm
  refine (bold_any ao cap l later w (by omega) hag hr).mono ?_
  rintro e w' ⟨v, rfl, ho, hb⟩
  obtain ⟨a, c, rfl, h1, _⟩ := ho.el
  exact ⟨a, c, rfl, h1, hb⟩
/-- Wrong, where there is a fault, and where there is none. -/
theorem bwrong_two (ao : Option Addr) (cap : Nat) (l : List E) (w : World) (hn : l.length ≤ 9223372036854775807) (hr : BEL w ao cap l) :
    (Bk.Book l ∧ Calls Try.prog 8 #[.slice ao l.length cap] w fun e w' => e = .returned (.agg #[.int .i64 0, .int .i64 0]) ∧ Below w.heap.size w w') ∨
    (¬ Bk.Book l ∧ ∃ f1 f2, f1 ≠ 0 ∧ Calls Try.prog 8 #[.slice ao l.length cap] w fun e w' => e = .returned (.agg #[.int .i64 f1, .int .i64 f2]) ∧ Below w.heap.size w w') := by
  have h := bwrong_any ao cap l w hn hr
  by_cases q : Bk.Book l
  · rw [Bk.wrong_zero q] at h
    exact Or.inl ⟨q, h⟩
  · exact Or.inr ⟨q, _, _, fun e => q (Bk.wrong_book.1 e), h⟩
set_option maxHeartbeats 4000000 in
theorem bkold_law (ao : Option Addr) (cap : Nat) (l : List E) (a b : Int) (w : World) (hn : l.length ≤ 9223372036854775807) (hr : BEL w ao cap l) :
    Calls Try.prog 5 #[.slice ao l.length cap, .int .i64 a, .int .i64 b] w fun e w' => e = .returned (.bool true) ∧ Below w.heap.size w w' := by
  have HRW : Hid (∀ W, Below w.heap.size w W → BEL W ao cap l) := fun W hW => BEL.below hr hW
  have HA : Hid (Calls Try.prog 19 #[] w fun e w' => e = .returned (.bool true) ∧ Hid (Below w.heap.size w w')) := balive_any w
  have HT : Hid (∀ W W', Below w.heap.size w W → Below W.heap.size W W' → Below w.heap.size w W') := fun W W' h h' => h.trans (h'.mono h.size)
  clear hr
  go_enter Try.func5, Try.ntmps5
  go_wp2_with fail
  refine HA.out.mono ?_
  rintro e w1 ⟨rfl, HB1⟩
  clear HA
  have hfd : ∀ (a b : Int) (W : World), (Instr.field 27 (.agg #[.int .i64 a, .int .i64 b]) 0).run Try.prog W = .ok (.int .i64 a) W := fa_err
  rcases bwrong_two ao cap l w1 hn (HRW.out w1 HB1.out) with ⟨hbk, hw⟩ | ⟨_, f1, f2, hf, hw⟩
  · by_cases ha : a < 0
    · go_wp2_with (go_at_call 8; refine hw.mono ?_; rintro e w2 ⟨rfl, hb2⟩)
      go_ret
      exact ⟨rfl, HT.out _ _ HB1.out hb2⟩
    · by_cases hb : b < 0
      · go_wp2_with (go_at_call 8; refine hw.mono ?_; rintro e w2 ⟨rfl, hb2⟩)
        go_ret
        exact ⟨rfl, HT.out _ _ HB1.out hb2⟩
      · by_cases ha2 : 1000 < a
        · go_wp2_with (go_at_call 8; refine hw.mono ?_; rintro e w2 ⟨rfl, hb2⟩)
          go_ret
          exact ⟨rfl, HT.out _ _ HB1.out hb2⟩
        · by_cases hb3 : 1000 < b
          · go_wp2_with (go_at_call 8; refine hw.mono ?_; rintro e w2 ⟨rfl, hb2⟩)
            go_ret
            exact ⟨rfl, HT.out _ _ HB1.out hb2⟩
          · have hlen := hbk.many
            have hag : ∀ x ∈ l, 0 ≤ x.age ∧ x.age ≤ 300 := fun x hx => (hbk.rng x hx).2.2.2
            have wp : IntKind.i64.wrap (a + b) = a + b := wraps_i64 _ (by omega) (by omega)
            have HOA : Hid (∀ W, Below w.heap.size w W → Calls Try.prog 15 #[.slice ao l.length cap, .int .i64 a] W fun e w' => ∃ x c, e = .returned (.slice x (Bk.old l a).length c) ∧ Hid (BEL w' x c (Bk.old l a) ∧ Below W.heap.size W w')) := fun W hW => bold_el ao cap l a W _ rfl hlen hag (HRW.out W hW)
            have HOB : Hid (∀ W x c, BEL W x c (Bk.old l a) → Calls Try.prog 15 #[.slice x (Bk.old l a).length c, .int .i64 b] W fun e w' => ∃ x c, e = .returned (.slice x (Bk.old l (a + b)).length c) ∧ Hid (BEL w' x c (Bk.old l (a + b)) ∧ Below W.heap.size W w')) := fun W x c h => bold_el x c (Bk.old l a) b W _ (Bk.old_old l a b (by omega) (by omega)) (Nat.le_trans (Bk.old_length l a) hlen) (Bk.old_age hag a) h
            have HOC : Hid (∀ W, Below w.heap.size w W → Calls Try.prog 15 #[.slice ao l.length cap, .int .i64 (a + b)] W fun e w' => ∃ x c, e = .returned (.slice x (Bk.old l (a + b)).length c) ∧ Hid (BEL w' x c (Bk.old l (a + b)) ∧ Below W.heap.size W w')) := fun W hW => bold_el ao cap l (a + b) W _ rfl hlen hag (HRW.out W hW)
            have HOD : Hid (∀ W, Below w.heap.size w W → Calls Try.prog 15 #[.slice ao l.length cap, .int .i64 301] W fun e w' => ∃ x c, e = .returned (.slice x 0 c) ∧ Hid (BEL w' x c [] ∧ Below W.heap.size W w')) := fun W hW => bold_el ao cap l 301 W [] (Bk.old_gone (fun e he => (hag e he).1) 301 (by omega)) hlen hag (HRW.out W hW)
            have HOE : Hid (∀ W, Below w.heap.size w W → Calls Try.prog 15 #[.slice ao l.length cap, .int .i64 0] W fun e w' => ∃ x c, e = .returned (.slice x l.length c) ∧ Hid (BEL w' x c l ∧ Below W.heap.size W w')) := fun W hW => bold_el ao cap l 0 W l (Bk.old_zero (fun e he => (hag e he).2)) hlen hag (HRW.out W hW)
            have hmn : (Bk.old l (a + b)).length ≤ 30 := Nat.le_trans (Bk.old_length _ _) hlen
            have HS1 : Hid (∀ W x c y d, BEL W x c (Bk.old l (a + b)) → BEL W y d (Bk.old l (a + b)) → Calls Try.prog 12 #[.slice x (Bk.old l (a + b)).length c, .slice y (Bk.old l (a + b)).length d] W fun e w' => e = .returned (.bool true) ∧ Below W.heap.size W w') := fun W x c y d h1 h2 => rsame8_yes x c y d _ _ _ _ W rfl rfl rfl (by omega) h1 h2
            have HS2 : Hid (∀ W x c, Below w.heap.size w W → BEL W x c l → Calls Try.prog 12 #[.slice x l.length c, .slice ao l.length cap] W fun e w' => e = .returned (.bool true) ∧ Below W.heap.size W w') := fun W x c hW h1 => rsame8_yes x c ao cap _ _ _ _ W rfl rfl rfl (by omega) h1 (HRW.out W hW)
            clear hag hbk hmn
            go_wp2_with fail
            refine hw.mono ?_
            rintro e w2 ⟨rfl, hb2⟩
            have HB2 : Hid (Below w.heap.size w w2) := HT.out _ _ HB1.out hb2
            clear hb2 hw
            go_wp2_with fail
            refine (HOA.out w2 HB2.out).mono ?_
            rintro e w3 ⟨x3, c3, rfl, H3⟩
            have HB3 : Hid (Below w.heap.size w w3) := HT.out _ _ HB2.out H3.out.2
            go_wp2_with fail
            refine (HOB.out w3 x3 c3 H3.out.1).mono ?_
            rintro e w4 ⟨x4, c4, rfl, H4⟩
            have HB4 : Hid (Below w.heap.size w w4) := HT.out _ _ HB3.out H4.out.2
            go_wp2_with fail
            refine (HOC.out w4 HB4.out).mono ?_
            rintro e w5 ⟨x5, c5, rfl, H5⟩
            have HB5 : Hid (Below w.heap.size w w5) := HT.out _ _ HB4.out H5.out.2
            go_wp2_with fail
            refine (HS1.out w5 x4 c4 x5 c5 (BEL.below H4.out.1 H5.out.2) H5.out.1).mono ?_
            rintro e w6 ⟨rfl, hb6⟩
            have HB6 : Hid (Below w.heap.size w w6) := HT.out _ _ HB5.out hb6
            clear hb6
            go_wp2_with fail
            refine (HOD.out w6 HB6.out).mono ?_
            rintro e w7 ⟨x7, c7, rfl, H7⟩
            have HB7 : Hid (Below w.heap.size w w7) := HT.out _ _ HB6.out H7.out.2
            go_wp2_with fail
            refine (HOE.out w7 HB7.out).mono ?_
            rintro e w8 ⟨x8, c8, rfl, H8⟩
            have HB8 : Hid (Below w.heap.size w w8) := HT.out _ _ HB7.out H8.out.2
            go_wp2_with fail
            refine (HS2.out w8 x8 c8 HB8.out H8.out.1).mono ?_
            rintro e w9 ⟨rfl, hb9⟩
            have HB9 : Hid (Below w.heap.size w w9) := HT.out _ _ HB8.out hb9
            clear hb9
            go_wp2_with fail
            go_ret
            exact ⟨rfl, HB9.out⟩
  · have dq : (f1 != 0) = true := by simp [hf]
    go_wp2_with (go_at_call 8; refine hw.mono ?_; rintro e w2 ⟨rfl, hb2⟩)
    go_ret
    exact ⟨rfl, HT.out _ _ HB1.out hb2⟩
end Go.Proofs.Ytdhjihfgckmjhaa
