/- walks: package book's Flush; slices.Index and Contains at ints -/
import Derived.Test.YtdhjihfgckmjhaaBKF
import Derived.Test.YtdhjihfgckmjhaaBI
namespace Go.Proofs.Ytdhjihfgckmjhaa
open Go.RowKit
open Bk (E at')

set_option maxHeartbeats 1000000 in
theorem bflush1_any (B1 B2 : Nat) (port : Int) (wo : Option Addr) (wcap : Nat) (ways : List Int) (x : E) (w : World) (hwn : ways.length ≤ 9223372036854775807) (hw : ILs w wo wcap ways) (h1 : w.heap[B1]? = some (.cells #[.int .i64 port] 3 (0, 0))) (h2 : w.heap[B2]? = some (.cells #[.slice wo ways.length wcap] 24 (0, 0))) :
    Calls Try.prog 28 #[.agg #[.int .i64 x.vid, .int .u64 x.addr, .int .i64 x.port, .int .i64 x.age], .pointer (some ⟨B1, 0, none⟩), .pointer (some ⟨B2, 0, none⟩)] w fun e w' => e = .returned (.bool (Bk.left port ways x)) ∧ Below w.heap.size w w' := by
  have c1 : w.cell? ⟨B1, 0, none⟩ = some (.int .i64 port) := cell_of_row w B1 0 _ _ _ h1
  have c2 : w.cell? ⟨B2, 0, none⟩ = some (.slice wo ways.length wcap) := cell_of_row w B2 0 _ _ _ h2
  have l1 := block_lt_of_cell c1
  have l2 := block_lt_of_cell c2
  have HC : Hid (∀ W, Below w.heap.size w W → Calls Try.prog 29 #[.slice wo ways.length wcap, .int .i64 x.vid] W fun e w' => e = .returned (.bool (ways.contains x.vid)) ∧ w' = W) := fun W hW => bcontains_any wo wcap ways x.vid W hwn (hw.below hW)
  have HB : Hid (∀ o, Below w.heap.size w (w.alloc o)) := fun o => below_alloc1 w o
  by_cases hp : x.port = port
  · have HD : Hid (Bk.left port ways x = !ways.contains x.vid) := by
      show (!(decide (x.port = port) && ways.contains x.vid)) = !ways.contains x.vid
      rw [decide_eq_true hp, Bool.true_and]
    have dq : (x.port != port) = false := by simp [hp]
    clear h1 h2 hw hp
    go_enter Try.func28, Try.ntmps28
    go_wp2_with (go_at_call 29; refine (HC.out _ (HB.out _)).mono ?_; rintro e w1 ⟨rfl, rfl⟩)
    go_ret
    exact ⟨by rw [HD.out]; simp, HB.out _⟩
  · have HD : Hid (Bk.left port ways x = true) := by
      show (!(decide (x.port = port) && ways.contains x.vid)) = true
      rw [decide_eq_false hp]
      rfl
    have dq : (x.port != port) = true := by simp [hp]
    clear h1 h2 hw hp HC
    go_enter Try.func28, Try.ntmps28
    go_wp2_with fail
    go_ret
    exact ⟨by rw [HD.out]; rfl, HB.out _⟩
set_option maxHeartbeats 1000000 in
theorem bflush_any (ao : Option Addr) (cap : Nat) (l : List E) (port : Int) (wo : Option Addr) (wcap : Nat) (ways : List Int) (w : World) (hn : l.length ≤ 1000) (hr : BEL w ao cap l) (hwn : ways.length ≤ 9223372036854775807) (hw : ILs w wo wcap ways) :
    Calls Try.prog 17 #[.slice ao l.length cap, .int .i64 port, .slice wo ways.length wcap] w fun e w' => ∃ v, e = .returned v ∧ OwnE w' w.heap.size v (Bk.flush l port ways) ∧ Below w.heap.size w w' := by
  have HK : Hid (∀ W, W = (w.alloc (.cells #[.int .i64 port] 3)).alloc (.cells #[.slice wo ways.length wcap] 24) → Calls Try.prog 25 #[.slice ao l.length cap, .func (.func 28) #[] #[.pointer (some ⟨w.heap.size, 0, none⟩), .pointer (some ⟨w.heap.size + 1, 0, none⟩)]] W fun e w' => ∃ v, e = .returned v ∧ Hid (OwnE w' w.heap.size v (Bk.flush l port ways) ∧ Below w.heap.size w w')) := by
    intro W hW
    have hb : Below w.heap.size w W := by rw [hW]; exact below_alloc2 _ _ _
    have h0 : W.heap[w.heap.size]? = some (.cells #[.int .i64 port] 3 (0, 0)) := by rw [hW]; exact heap_alloc2_old _ _ _
    have h1 : W.heap[w.heap.size + 1]? = some (.cells #[.slice wo ways.length wcap] 24 (0, 0)) := by rw [hW]; exact heap_alloc2_new _ _ _
    refine (bkeptF_any ao cap l (Bk.left port ways) w.heap.size (w.heap.size + 1) W hn (BEL.below hr hb) (fun V hV x _ => bflush1_any _ _ port wo wcap ways x V hwn ((hw.below hb).below hV) (keep h0 hV) (keep h1 hV))).mono ?_
    rintro e w' ⟨v, rfl, ho, hb'⟩
    exact ⟨v, rfl, ⟨ho.mono hb.size, hb.trans (hb'.mono hb.size)⟩⟩
  clear hr hw
  go_enter Try.func17, Try.ntmps17
  go_wp2_with fail
  refine (HK.out _ rfl).mono ?_
  rintro e w1 ⟨v, rfl, HX1⟩
  clear HK
  go_wp2_with fail
  go_ret
  exact ⟨_, rfl, HX1.out.1, HX1.out.2⟩
end Go.Proofs.Ytdhjihfgckmjhaa
