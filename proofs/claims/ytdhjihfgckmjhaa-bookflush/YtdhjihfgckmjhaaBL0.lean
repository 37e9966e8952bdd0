/- walks: hedgeref8.Same, where it says yes; hedgelaw8.alive -/
import Derived.Test.YtdhjihfgckmjhaaBW6
import Derived.Test.YtdhjihfgckmjhaaBS8
import Derived.Test.YtdhjihfgckmjhaaBMd2
namespace Go.Proofs.Ytdhjihfgckmjhaa
open Go.RowKit
open Bk (E at')

def aE : E := ⟨5, 7, 3, 0⟩
theorem alive_learn : Bk.learn [] ⟨5, 7, 3, 0⟩ = [aE] := by decide
theorem alive_look : Bk.lookP [aE] (sought 5 7) = 3 ∧ Bk.Known [aE] (sought 5 7) := by
  refine ⟨rfl, ⟨aE, by simp, rfl, rfl⟩⟩
theorem alive_old : Bk.old [aE] 301 = [] ∧ Bk.old [aE] 300 = [Bk.older 300 aE] := by decide
theorem book_nil : Bk.Book [] := ⟨by simp, fun e h => by simp at h, List.Pairwise.nil⟩
theorem book_aE : Bk.Book [aE] := ⟨by simp, fun e h => by simp at h; subst h; decide, by simp⟩
set_option maxHeartbeats 2000000 in
theorem balive_any (w : World) : Calls Try.prog 19 #[] w fun e w' => e = .returned (.bool true) ∧ Below w.heap.size w w' := by
  have HLN : Hid (Calls Try.prog 13 #[.slice none 0 0, .int .i64 5, .int .u64 7, .int .i64 3] w fun e w' => ∃ a c, e = .returned (.slice a 1 c) ∧ Hid (BEL w' a c [aE] ∧ NilOk a 1 c ∧ Below w.heap.size w w')) := by
    refine (blearn_any none 0 [] 5 7 3 w book_nil (CRow.none _ _ _ _ _) (fun _ => ⟨rfl, rfl⟩) (by omega) (by omega)).mono ?_
    rintro e w' ⟨v, rfl, ho, hb⟩
    rw [alive_learn] at ho
    obtain ⟨a, c, rfl, h1, h2, _⟩ := ho.el
    exact ⟨a, c, rfl, ⟨h1, h2, hb⟩⟩
  have HLK : Hid (∀ W a c, BEL W a c [aE] → Calls Try.prog 10 #[.slice a 1 c, .int .i64 5, .int .u64 7] W fun e w' => e = .returned (.tuple #[.int .i64 3, .bool true]) ∧ Below W.heap.size W w') := fun W a c h => by
    have := blook_any a c [aE] 5 7 W book_aE h
    rw [alive_look.1, decide_eq_true alive_look.2] at this
    exact this
  have HO1 : Hid (∀ W a c, BEL W a c [aE] → Calls Try.prog 15 #[.slice a 1 c, .int .i64 301] W fun e w' => ∃ a c, e = .returned (.slice a 0 c) ∧ Below W.heap.size W w') := fun W a c h => by
    refine (bold_any a c [aE] 301 W (by simp) (fun x hx => by simp at hx; subst hx; decide) h).mono ?_
    rintro e w' ⟨v, rfl, ho, hb⟩
    rw [alive_old.1] at ho
    obtain ⟨a, c, rfl, _⟩ := ho.el
    exact ⟨a, c, rfl, hb⟩
  have HO2 : Hid (∀ W a c, BEL W a c [aE] → Calls Try.prog 15 #[.slice a 1 c, .int .i64 300] W fun e w' => ∃ a c, e = .returned (.slice a 1 c) ∧ Below W.heap.size W w') := fun W a c h => by
    refine (bold_any a c [aE] 300 W (by simp) (fun x hx => by simp at hx; subst hx; decide) h).mono ?_
    rintro e w' ⟨v, rfl, ho, hb⟩
    rw [alive_old.2] at ho
    obtain ⟨a, c, rfl, _⟩ := ho.el
    exact ⟨a, c, rfl, hb⟩
  go_enter Try.func19, Try.ntmps19
  go_wp2_with fail
  refine HLN.out.mono ?_
  rintro e w1 ⟨a, c, rfl, H1⟩
  go_wp2_with fail
  refine (HLK.out w1 a c H1.out.1).mono ?_
  rintro e w2 ⟨rfl, hb2⟩
  have H2 : Hid (BEL w2 a c [aE] ∧ Below w.heap.size w w2) := ⟨BEL.below H1.out.1 hb2, H1.out.2.2.trans (hb2.mono H1.out.2.2.size)⟩
  clear hb2
  go_wp2_with fail
  refine (HO1.out w2 a c H2.out.1).mono ?_
  rintro e w3 ⟨a3, c3, rfl, hb3⟩
  have H3 : Hid (BEL w3 a c [aE] ∧ Below w.heap.size w w3) := ⟨BEL.below H2.out.1 hb3, H2.out.2.trans (hb3.mono H2.out.2.size)⟩
  clear hb3
  go_wp2_with fail
  refine (HO2.out w3 a c H3.out.1).mono ?_
  rintro e w4 ⟨a4, c4, rfl, hb4⟩
  have H4 : Hid (Below w.heap.size w w4) := H3.out.2.trans (hb4.mono H3.out.2.size)
  clear hb4
  go_wp2_with fail
  go_ret
  exact ⟨rfl, H4.out⟩
end Go.Proofs.Ytdhjihfgckmjhaa
