/- walks: package book's Look -/
import Derived.Test.YtgkmaihleilchaaBW3
namespace Go.Proofs.Ytgkmaihleilchaa
open Go.RowKit
open Bk (E at')

/-- The port of what was found. -/
def Bk.lookP (l : List E) (s : E) : Int := match Bk.look l s with | some e => e.port | none => 0
theorem Bk.lookP_some {l : List E} {s : E} (hb : Bk.Book l) {e : E} (he : e ∈ l) (hk : Bk.key e s) : Bk.lookP l s = e.port := by
  unfold Bk.lookP
  rw [Bk.look_some hb he hk]
theorem Bk.lookP_none {l : List E} {s : E} (h : ¬ Bk.Known l s) : Bk.lookP l s = 0 := by
  unfold Bk.lookP
  rw [Bk.look_none h]
set_option maxHeartbeats 1000000 in
theorem blook_any (ao : Option Addr) (cap : Nat) (l : List E) (vid addr : Int) (w : World) (hbk : Bk.Book l) (hr : BEL w ao cap l) :
    Calls Try.prog 19 #[.slice ao l.length cap, .int .i64 vid, .int .u64 addr] w fun e w' => e = .returned (.tuple #[.int .i64 (Bk.lookP l (sought vid addr)), .bool (decide (Bk.Known l (sought vid addr)))]) ∧ Below w.heap.size w w' := by
  have hn := hbk.many
  have hcap : l.length ≤ cap := hr.1
  have HRW : Hid (∀ W, Below w.heap.size w W → BEL W ao cap l) := fun W hW => BEL.below hr hW
  have HF : Hid (Calls Try.prog 47 #[.slice ao l.length cap, .int .i64 vid, .int .u64 addr] w fun e w' => ∃ (k : Nat) (kn : Bool), e = .returned (.tuple #[.int .i64 k, .bool kn]) ∧ Hid (decide (Bk.Known l (sought vid addr)) = kn) ∧ (kn = true → k < l.length ∧ Bk.lookP l (sought vid addr) = (at' l k).port) ∧ Hid (Below w.heap.size w w')) := by
    refine (bfind_any ao cap l vid addr w hbk hr).mono ?_
    rintro e w' ⟨k, rfl, hs, hb⟩
    refine ⟨k, _, rfl, rfl, fun h => ?_, hb⟩
    have h2 := (hs.known hbk).1 (of_decide_eq_true h)
    exact ⟨h2.1, Bk.lookP_some hbk (Bk.at_mem l k h2.1) h2.2⟩
  have HNO : Hid (¬ Bk.Known l (sought vid addr) → Bk.lookP l (sought vid addr) = 0) := fun h => Bk.lookP_none h
  clear hbk hr
  go_enter Try.func19, Try.ntmps19
  go_wp2_with fail
  refine HF.out.mono ?_
  rintro e w1 ⟨k, kn, rfl, HD, hK, HB⟩
  clear HF
  cases kn with
  | false =>
    have HP : Hid _ := HNO.out (of_decide_eq_false HD.out)
    clear hK HNO HRW
    go_wp2_with fail
    go_ret2
    exact ⟨by rw [HD.out, HP.out]; rfl, HB.out⟩
  | true =>
    obtain ⟨hlt, hp⟩ := hK rfl
    have HP : Hid _ := hp
    obtain ⟨b, off, rfl, hb⟩ := (HRW.out w1 HB.out).place (by omega)
    obtain ⟨c0, c1, c2, c3⟩ := (HRW.out w1 HB.out).cells hlt
    have ik : (0 : Int) ≤ (k : Int) := by omega
    have nk : (k : Int) < (l.length : Int) := by omega
    clear hK HNO HRW hp
    generalize at' l k = x at *
    go_wp2_with fail
    go_ret2
    exact ⟨by rw [HD.out, HP.out]; rfl, HB.out⟩
end Go.Proofs.Ytgkmaihleilchaa
