/- walks: hedgeref8.Same, where it says yes; hedgelaw8.alive -/
import Derived.Test.YtcicenmlpoonaaaBW6
import Derived.Test.YtcicenmlpoonaaaBMd2
namespace Go.Proofs.Ytcicenmlpoonaaa
open Go.RowKit
open Bk (E at')

set_option maxHeartbeats 1000000 in
theorem rsame8_yes (ao : Option Addr) (cap : Nat) (bo : Option Addr) (bcap : Nat) (n m : Nat) (l l2 : List E) (w : World) (e1 : n = l.length) (e2 : m = l2.length) (hl : l = l2) (hn : n ≤ 9223372036854775807) (hr : EL w ao cap l) (hr2 : EL w bo bcap l2) :
    Calls Try.prog 12 #[.slice ao n cap, .slice bo m bcap] w fun e w' => e = .returned (.bool true) ∧ Below w.heap.size w w' := by
  subst hl
  obtain rfl : m = n := by omega
  subst e1
  have hcap : l.length ≤ cap := hr.1
  have hcap2 : l.length ≤ bcap := hr2.1
  have HR : Hid (∀ W, Below w.heap.size w W → EL W ao cap l) := fun W hW => EL.below hr hW
  have HR2 : Hid (∀ W, Below w.heap.size w W → EL W bo bcap l) := fun W hW => EL.below hr2 hW
  clear hr hr2 e2
  go_enter Try.func12, Try.ntmps12
  go_wp2_with fail
  go_loopw [13] (fun i wr => ∃ k : Nat, k ≤ l.length ∧ i = .int .i64 k ∧ Hid (Below w.heap.size w wr)) (fun i _ => l.length - (intOf i).toNat)
  case atStart => exact ⟨0, by omega, rfl, Below.refl _ _⟩
  case round =>
    obtain ⟨k, hk, rfl, hB⟩ := hrel
    by_cases hlt : k < l.length
    · obtain ⟨b, off, rfl, _⟩ := (HR.out wr hB.out).place (by omega)
      obtain ⟨b2, off2, rfl, _⟩ := (HR2.out wr hB.out).place (by omega)
      obtain ⟨c0, c1, c2, c3⟩ := (HR.out wr hB.out).cells hlt
      obtain ⟨d0, d1, d2, d3⟩ := (HR2.out wr hB.out).cells hlt
      have ik : (0 : Int) ≤ (k : Int) := by omega
      have nk : (k : Int) < (l.length : Int) := by omega
      clear HR HR2
      generalize at' l k = x at *
      go_wp2_with fail
      go_quiet (fail)
      go_wp2_with fail
      exact ⟨⟨k + 1, by omega, by go_num, below_drewN hB.out _⟩, by simp [intOf]; omega⟩
    · obtain rfl : k = l.length := by omega
      clear HR HR2
      go_wp2_with fail
      go_ret
      exact ⟨rfl, hB.out⟩
theorem fa_err (a b : Int) (w : World) : (Instr.field 27 (.agg #[.int .i64 a, .int .i64 b]) 0).run Try.prog w = .ok (.int .i64 a) w := by kernel_rfl
def aE : E := ⟨5, 7, 3, 0⟩
theorem alive_learn : Bk.learn [] ⟨5, 7, 3, 0⟩ = [aE] := by decide
theorem alive_look : Bk.lookP [aE] (sought 5 7) = 3 ∧ Bk.Known [aE] (sought 5 7) := by
  refine ⟨rfl, ⟨aE, by simp, rfl, rfl⟩⟩
theorem alive_old : Bk.old [aE] 301 = [] ∧ Bk.old [aE] 300 = [Bk.older 300 aE] := by decide
theorem book_nil : Bk.Book [] := ⟨by simp, fun e h => by simp at h, List.Pairwise.nil⟩
theorem book_aE : Bk.Book [aE] := ⟨by simp, fun e h => by simp at h; subst h; decide, by simp⟩
set_option maxHeartbeats 2000000 in
theorem balive_any (w : World) : Calls Try.prog 19 #[] w fun e w' => e = .returned (.bool true) ∧ Below w.heap.size w w' := by
  have HLN : Hid (Calls Try.prog 13 #[.slice none 0 0, .int .i64 5, .int .u64 7, .int .i64 3] w fun e w' => ∃ a c, e = .returned (.slice a 1 c) ∧ Hid (EL w' a c [aE] ∧ NilOk a 1 c ∧ Below w.heap.size w w')) := by
    refine (blearn_any none 0 [] 5 7 3 w book_nil (CRow.none _ _ _ _ _) (fun _ => ⟨rfl, rfl⟩) (by omega) (by omega)).mono ?_
    rintro e w' ⟨v, rfl, ho, hb⟩
    rw [alive_learn] at ho
    obtain ⟨a, c, rfl, h1, h2, _⟩ := ho.el
    exact ⟨a, c, rfl, ⟨h1, h2, hb⟩⟩
  have HLK : Hid (∀ W a c, EL W a c [aE] → Calls Try.prog 10 #[.slice a 1 c, .int .i64 5, .int .u64 7] W fun e w' => e = .returned (.tuple #[.int .i64 3, .bool true]) ∧ Below W.heap.size W w') := fun W a c h => by
    have := blook_any a c [aE] 5 7 W book_aE h
    rw [alive_look.1, decide_eq_true alive_look.2] at this
    exact this
  have HO1 : Hid (∀ W a c, EL W a c [aE] → Calls Try.prog 15 #[.slice a 1 c, .int .i64 301] W fun e w' => ∃ a c, e = .returned (.slice a 0 c) ∧ Below W.heap.size W w') := fun W a c h => by
    refine (bold_any a c [aE] 301 W (by simp) (fun x hx => by simp at hx; subst hx; decide) h).mono ?_
    rintro e w' ⟨v, rfl, ho, hb⟩
    rw [alive_old.1] at ho
    obtain ⟨a, c, rfl, _⟩ := ho.el
    exact ⟨a, c, rfl, hb⟩
  have HO2 : Hid (∀ W a c, EL W a c [aE] → Calls Try.prog 15 #[.slice a 1 c, .int .i64 300] W fun e w' => ∃ a c, e = .returned (.slice a 1 c) ∧ Below W.heap.size W w') := fun W a c h => by
    refine (bold_any a c [aE] 300 W (by simp) (fun x hx => by simp at hx; subst hx; decide) h).mono ?_
    rintro e w' ⟨v, rfl, ho, hb⟩
    rw [alive_old.2] at ho
    obtain ⟨a, c, rfl, _⟩ := ho.el
    exact ⟨a, c, rfl, hb⟩
  go_enter Try.func19, Try.ntmps19
  go_wp2_with fail
  refine HLN.out.mono ?_
  rintro e w1 ⟨a, c, rfl, H1⟩
  go_wp2_with fail
  refine (HLK.out w1 a c H1.out.1).mono ?_
  rintro e w2 ⟨rfl, hb2⟩
  have H2 : Hid (EL w2 a c [aE] ∧ Below w.heap.size w w2) := ⟨EL.below H1.out.1 hb2, H1.out.2.2.trans (hb2.mono H1.out.2.2.size)⟩
  clear hb2
  go_wp2_with fail
  refine (HO1.out w2 a c H2.out.1).mono ?_
  rintro e w3 ⟨a3, c3, rfl, hb3⟩
  have H3 : Hid (EL w3 a c [aE] ∧ Below w.heap.size w w3) := ⟨EL.below H2.out.1 hb3, H2.out.2.trans (hb3.mono H2.out.2.size)⟩
  clear hb3
  go_wp2_with fail
  refine (HO2.out w3 a c H3.out.1).mono ?_
  rintro e w4 ⟨a4, c4, rfl, hb4⟩
  have H4 : Hid (Below w.heap.size w w4) := H3.out.2.trans (hb4.mono H3.out.2.size)
  clear hb4
  go_wp2_with fail
  go_ret
  exact ⟨rfl, H4.out⟩
end Go.Proofs.Ytcicenmlpoonaaa
