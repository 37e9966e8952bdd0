/- walks: alive -/
import Derived.Test.YtidlgfiggilchaaMd
namespace Go.Proofs.Ytidlgfiggilchaa
open Go.RowKit

def aliveF : Nat → Int := bytF 5 6 true 0 false 7 2048 (fun _ => 0)
theorem alive_k1 : wrong 5 6 true 0 7 2048 0 = 0 := by decide
theorem alive_k2 : sizeF (pad 18 aliveF) = 18 ∧ wrongB 18 (pad 18 aliveF) = 0 ∧ rV (pad 18 aliveF) = 7 := by decide +kernel
theorem alive_k3 : ∀ i, i < 18 → 0 ≤ aliveF i ∧ aliveF i ≤ 255 := by decide +kernel
set_option maxHeartbeats 400000 in
theorem alive_any (w : World) :
    Calls Try.prog 14 #[] w fun e w' => e = .returned (.bool true) ∧ Below w.heap.size w w' := by
  have HB : Hid (∀ W : World, Calls Try.prog 9 #[.agg #[.int .u64 5, .int .u64 6, .bool true, .int .i64 0, .bool false, .int .i64 7, .int .i64 2048, .slice none 0 0]] W fun e w' => ∃ ao' c', e = .returned (.tuple #[.slice ao' 18 c', .int .i64 0]) ∧ ByteRow w' ao' 18 c' aliveF ∧ (ao' = none → 18 = 0 ∧ c' = 0) ∧ Below W.heap.size W w') := fun W =>
    bytes_right 5 6 true 0 false 7 2048 none 0 0 (fun _ => 0) W (by omega) (by omega) alive_k1 ⟨Nat.le_refl _, fun h => absurd h (by omega)⟩ (fun _ => ⟨rfl, rfl⟩)
  have HP : Hid (∀ (W : World) (ao : Option Addr) (c : Nat), ByteRow W ao 18 c aliveF → NilOk ao 18 c → Calls Try.prog 11 #[.slice ao 18 c] W fun e w' => (∃ d s t p x y a1 n1 c1, e = .returned (.tuple #[.agg #[.int .u64 d, .int .u64 s, .bool t, .int .i64 p, .bool x, .int .i64 7, .int .i64 y, .slice a1 n1 c1], .int .i64 0])) ∧ Below W.heap.size W w') := by
    intro W ao c hr hn
    refine (parse_any ao 18 c aliveF W hr hn alive_k3).mono ?_
    rintro e w' ⟨h, hb⟩
    refine ⟨?_, hb⟩
    obtain ⟨k1, k2, k3⟩ := alive_k2
    rcases h with ⟨h1, _⟩ | ⟨_, h1, _⟩ | ⟨_, _, a1, c1, h1, _⟩
    · omega
    · exact absurd k2 h1
    · rw [k3] at h1
      exact ⟨_, _, _, _, _, _, _, _, _, h1⟩
  go_enter Try.func14, Try.ntmps14
  go_wp2_with (first | (go_at_call 9; refine (HB.out _).mono ?_; rintro e w1 ⟨a1, c1, rfl, hr1, hn1, hb1⟩; have HR1 : Hid (ByteRow w1 a1 18 c1 aliveF) := hr1; have HN1 : Hid (NilOk a1 18 c1) := hn1; have HB1 : Hid (Below w.heap.size w w1) := hb1; clear hr1 hn1 hb1) | (go_at_call 11; refine (HP.out _ _ _ HR1.out HN1.out).mono ?_; rintro e w2 ⟨⟨d, s, t, p, x, y, a2, n2, c2, rfl⟩, hb2⟩; have HB2 : Hid (Below w.heap.size w w2) := HB1.out.trans (hb2.mono HB1.out.size); clear hb2))
  go_ret
  exact ⟨by simp, HB2.out.alloc HB2.out.size _⟩
end Go.Proofs.Ytidlgfiggilchaa
