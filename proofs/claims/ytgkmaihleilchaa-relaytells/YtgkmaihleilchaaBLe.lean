/- book.Learn, as laws ask it -/
import Derived.Test.YtgkmaihleilchaaBW5
namespace Go.Proofs.Ytgkmaihleilchaa
open Go.RowKit
open Bk (E at')

theorem blearn_el (ao : Option Addr) (cap : Nat) (l : List E) (n : Nat) (en : n = l.length) (vid addr port : Int) (w : World) (m : List E) (hm : Bk.learn l ⟨vid, addr, port, 0⟩ = m) (hbk : Bk.Book l) (hr : BEL w ao cap l) (hnil : NilOk ao n cap) (h0 : 0 ≤ addr) (h1 : addr < 18446744073709551616) :
    Calls Try.prog 35 #[.slice ao n cap, .int .i64 vid, .int .u64 addr, .int .i64 port] w fun e w' => ∃ a c, e = .returned (.slice a m.length c) ∧ Hid (BEL w' a c m ∧ NilOk a m.length c ∧ Below w.heap.size w w') := by
  subst hm en
  refine (blearn_any ao cap l vid addr port w hbk hr hnil h0 h1).mono ?_
  rintro e w' ⟨v, rfl, ho, hb⟩
  obtain ⟨a, c, rfl, h1, h2, _⟩ := ho.el
  exact ⟨a, c, rfl, h1, h2, hb⟩
theorem blearn_ow (ao : Option Addr) (cap : Nat) (l : List E) (n : Nat) (en : n = l.length) (vid addr port : Int) (w : World) (m : List E) (hm : Bk.learn l ⟨vid, addr, port, 0⟩ = m) (hbk : Bk.Book l) (hr : BEL w ao cap l) (hnil : NilOk ao n cap) (h0 : 0 ≤ addr) (h1 : addr < 18446744073709551616) :
    Calls Try.prog 35 #[.slice ao n cap, .int .i64 vid, .int .u64 addr, .int .i64 port] w fun e w' => ∃ a c, e = .returned (.slice a m.length c) ∧ Hid (BEL w' a c m ∧ NilOk a m.length c ∧ Below w.heap.size w w' ∧ OwnE w' w.heap.size (.slice a m.length c) m) := by
  subst hm en
  refine (blearn_any ao cap l vid addr port w hbk hr hnil h0 h1).mono ?_
  rintro e w' ⟨v, rfl, ho, hb⟩
  obtain ⟨a, c, rfl, h1, h2, _⟩ := ho.el
  exact ⟨a, c, rfl, h1, h2, hb, ho⟩
end Go.Proofs.Ytgkmaihleilchaa
