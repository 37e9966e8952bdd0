/- walks: the document's own answer: turn, Round, Table -/
import Derived.Test.YtconlnoolenhjaaDoorDW4
namespace Go.Proofs.YtconlnoolenhjaaDoor
open Go.RowKit

set_option maxHeartbeats 1000000 in
theorem turn_any (x k : Int) (w : World) (h0 : 0 ≤ k) (h1 : k < 32) :
    Calls Tryd.prog 43 #[.int .u32 x, .int .i64 k] w fun e w' => e = .returned (.int .u32 (Md.rotl x k)) ∧ ∃ n, w' = w.drewN n := by
  have hw : IntKind.i64.wrap (32 - k) = 32 - k := by simp [IntKind.wrap, IntKind.bits, IntKind.signed]; omega
  have h2 : 0 ≤ 32 - k := by omega
  go_enter Tryd.func43, Tryd.ntmps43
  go_wp2_with fail
  go_quiet (fail)
  go_wp2
  go_ret
  exact ⟨rfl, nq, rfl⟩

set_option maxHeartbeats 1000000 in
theorem table_any (w : World) :
    Calls Tryd.prog 41 #[] w fun e w' => e = .returned (.slice (some ⟨w.heap.size, 0, none⟩) 64 64) ∧ (∀ i, i < 64 → w'.cell? ⟨w.heap.size, i, none⟩ = some (.int .u32 (Md.tabAt i))) ∧ w.heap.size < w'.heap.size ∧ Below w.heap.size w w' := by
  go_enter Tryd.func41, Tryd.ntmps41
  go_wp2
  go_ret
  refine ⟨rfl, fun i hi => ?_, by simp, (Below.refl _ _).alloc (Nat.le_refl _) _⟩
  rw [World.cell?_alloc_at _ _ _ _ rfl]
  have h : ∀ i, i < 64 → Md.tab[i]? = some (Md.tabAt i) := by decide
  have e := h i hi
  show ((Md.tab.map (Value.int .u32)).toArray)[i]? = _
  simp [e]

set_option maxHeartbeats 1000000 in
theorem round0 (k : Nat) (b c d : Int) (w : World) (hk : k < 16) :
    Calls Tryd.prog 42 #[.int .i64 0, .int .i64 k, .int .u32 b, .int .u32 c, .int .u32 d] w fun e w' => e = .returned (.tuple #[.int .u32 (Md.fsel (16 * 0 + k) b c d), .int .i64 (Md.ksel (16 * 0 + k)), .int .i64 (Md.trnAt ((16 * 0 + k) / 16 * 4 + (16 * 0 + k) % 4))]) ∧ Below w.heap.size w w' := by
  obtain ⟨j, hj⟩ : ∃ j, j = k % 4 := ⟨_, rfl⟩
  have k2 : Int.tmod (k : Int) 4 = (j : Int) := by rw [Int.tmod_eq_emod_of_nonneg (by omega)]; omega
  have k3 : (k : Int) % 4 = (j : Int) := by omega
  have k4 : (j : Int) < 4 := by omega
  have k5 : j < 4 := by omega
  have HF : Hid (Md.fsel (16 * 0 + k) b c d = bits BinOp.or IntKind.u32 (bits BinOp.and IntKind.u32 b c) (bits BinOp.and IntKind.u32 (bits BinOp.xor IntKind.u32 IntKind.u32.max b) d)) := by
    show _ = _
    simp [Md.fsel, hk]
  have HT : Hid (Value.int .i64 (Md.trnAt ((16 * 0 + k) / 16 * 4 + (16 * 0 + k) % 4)) = [Value.int .i64 7, .int .i64 12, .int .i64 17, .int .i64 22][j]'(by simpa using k5)) := by
    show _ = _
    have e : (16 * 0 + k) / 16 * 4 + (16 * 0 + k) % 4 = 0 + j := by omega
    rw [e]
    rcases (show j = 0 ∨ j = 1 ∨ j = 2 ∨ j = 3 by omega) with rfl | rfl | rfl | rfl <;> rfl
  have HK : Hid (((Md.ksel (16 * 0 + k) : Nat) : Int) = (k : Int)) := by
    show _ = _
    simp [Md.ksel, hk]
  clear hj
  rw [HF.out, HK.out, HT.out]
  clear HF HK HT
  go_enter Tryd.func42, Tryd.ntmps42
  go_wp2_with fail
  go_region
  all_goals go_wp2
  all_goals go_ret3
  all_goals exact ⟨rfl, ((Below.refl _ _).alloc (Nat.le_refl _) _).drew⟩
set_option maxHeartbeats 1000000 in
theorem round1 (k : Nat) (b c d : Int) (w : World) (hk : k < 16) :
    Calls Tryd.prog 42 #[.int .i64 1, .int .i64 k, .int .u32 b, .int .u32 c, .int .u32 d] w fun e w' => e = .returned (.tuple #[.int .u32 (Md.fsel (16 * 1 + k) b c d), .int .i64 (Md.ksel (16 * 1 + k)), .int .i64 (Md.trnAt ((16 * 1 + k) / 16 * 4 + (16 * 1 + k) % 4))]) ∧ Below w.heap.size w w' := by
  obtain ⟨j, hj⟩ : ∃ j, j = k % 4 := ⟨_, rfl⟩
  have k2 : Int.tmod (k : Int) 4 = (j : Int) := by rw [Int.tmod_eq_emod_of_nonneg (by omega)]; omega
  have k3 : (k : Int) % 4 = (j : Int) := by omega
  have k4 : (j : Int) < 4 := by omega
  have k5 : j < 4 := by omega
  have HF : Hid (Md.fsel (16 * 1 + k) b c d = bits BinOp.or IntKind.u32 (bits BinOp.and IntKind.u32 b d) (bits BinOp.andNot IntKind.u32 c d)) := by
    show _ = _
    simp [Md.fsel, show 16 + k < 32 by omega, show ¬ 16 + k < 16 by omega]
  have HT : Hid (Value.int .i64 (Md.trnAt ((16 * 1 + k) / 16 * 4 + (16 * 1 + k) % 4)) = [Value.int .i64 5, .int .i64 9, .int .i64 14, .int .i64 20][j]'(by simpa using k5)) := by
    show _ = _
    have e : (16 * 1 + k) / 16 * 4 + (16 * 1 + k) % 4 = 4 + j := by omega
    rw [e]
    rcases (show j = 0 ∨ j = 1 ∨ j = 2 ∨ j = 3 by omega) with rfl | rfl | rfl | rfl <;> rfl
  obtain ⟨q, hq⟩ : ∃ q, q = (1 + 5 * k) % 16 := ⟨_, rfl⟩
  have m1 : IntKind.i64.wrap (5 * (k : Int)) = 5 * (k : Int) := by simp [IntKind.wrap, IntKind.bits, IntKind.signed]; omega
  have m2 : IntKind.i64.wrap (1 + 5 * (k : Int)) = 1 + 5 * (k : Int) := by simp [IntKind.wrap, IntKind.bits, IntKind.signed]; omega
  have m3 : Int.tmod (1 + 5 * (k : Int)) 16 = (q : Int) := by rw [Int.tmod_eq_emod_of_nonneg (by omega)]; omega
  have m4 : (1 + 5 * (k : Int)) % 16 = (q : Int) := by omega
  have HK : Hid (((Md.ksel (16 * 1 + k) : Nat) : Int) = (q : Int)) := by
    show _ = _
    have e : Md.ksel (16 * 1 + k) = q := by
      simp [Md.ksel, show 16 + k < 32 by omega, show ¬ 16 + k < 16 by omega]
      omega
    rw [e]
  clear hj hq
  go_enter Tryd.func42, Tryd.ntmps42
  go_wp2_with fail
  go_region
  all_goals go_wp2
  all_goals go_ret3
  all_goals exact ⟨by rw [HF.out, HK.out, HT.out]; rfl, ((Below.refl _ _).alloc (Nat.le_refl _) _).drew⟩
set_option maxHeartbeats 1000000 in
theorem round2 (k : Nat) (b c d : Int) (w : World) (hk : k < 16) :
    Calls Tryd.prog 42 #[.int .i64 2, .int .i64 k, .int .u32 b, .int .u32 c, .int .u32 d] w fun e w' => e = .returned (.tuple #[.int .u32 (Md.fsel (16 * 2 + k) b c d), .int .i64 (Md.ksel (16 * 2 + k)), .int .i64 (Md.trnAt ((16 * 2 + k) / 16 * 4 + (16 * 2 + k) % 4))]) ∧ Below w.heap.size w w' := by
  obtain ⟨j, hj⟩ : ∃ j, j = k % 4 := ⟨_, rfl⟩
  have k2 : Int.tmod (k : Int) 4 = (j : Int) := by rw [Int.tmod_eq_emod_of_nonneg (by omega)]; omega
  have k3 : (k : Int) % 4 = (j : Int) := by omega
  have k4 : (j : Int) < 4 := by omega
  have k5 : j < 4 := by omega
  have HF : Hid (Md.fsel (16 * 2 + k) b c d = bits BinOp.xor IntKind.u32 (bits BinOp.xor IntKind.u32 b c) d) := by
    show _ = _
    simp [Md.fsel, show 32 + k < 48 by omega, show ¬ 32 + k < 16 by omega, show ¬ 32 + k < 32 by omega]
  have HT : Hid (Value.int .i64 (Md.trnAt ((16 * 2 + k) / 16 * 4 + (16 * 2 + k) % 4)) = [Value.int .i64 4, .int .i64 11, .int .i64 16, .int .i64 23][j]'(by simpa using k5)) := by
    show _ = _
    have e : (16 * 2 + k) / 16 * 4 + (16 * 2 + k) % 4 = 8 + j := by omega
    rw [e]
    rcases (show j = 0 ∨ j = 1 ∨ j = 2 ∨ j = 3 by omega) with rfl | rfl | rfl | rfl <;> rfl
  obtain ⟨q, hq⟩ : ∃ q, q = (5 + 3 * k) % 16 := ⟨_, rfl⟩
  have m1 : IntKind.i64.wrap (3 * (k : Int)) = 3 * (k : Int) := by simp [IntKind.wrap, IntKind.bits, IntKind.signed]; omega
  have m2 : IntKind.i64.wrap (5 + 3 * (k : Int)) = 5 + 3 * (k : Int) := by simp [IntKind.wrap, IntKind.bits, IntKind.signed]; omega
  have m3 : Int.tmod (5 + 3 * (k : Int)) 16 = (q : Int) := by rw [Int.tmod_eq_emod_of_nonneg (by omega)]; omega
  have m4 : (5 + 3 * (k : Int)) % 16 = (q : Int) := by omega
  have HK : Hid (((Md.ksel (16 * 2 + k) : Nat) : Int) = (q : Int)) := by
    show _ = _
    have e : Md.ksel (16 * 2 + k) = q := by
      simp [Md.ksel, show 32 + k < 48 by omega, show ¬ 32 + k < 16 by omega, show ¬ 32 + k < 32 by omega]
      omega
    rw [e]
  clear hj hq
  go_enter Tryd.func42, Tryd.ntmps42
  go_wp2_with fail
  go_region
  all_goals go_wp2
  all_goals go_ret3
  all_goals exact ⟨by rw [HF.out, HK.out, HT.out]; rfl, ((Below.refl _ _).alloc (Nat.le_refl _) _).drew⟩
set_option maxHeartbeats 1000000 in
theorem round3 (k : Nat) (b c d : Int) (w : World) (hk : k < 16) :
    Calls Tryd.prog 42 #[.int .i64 3, .int .i64 k, .int .u32 b, .int .u32 c, .int .u32 d] w fun e w' => e = .returned (.tuple #[.int .u32 (Md.fsel (16 * 3 + k) b c d), .int .i64 (Md.ksel (16 * 3 + k)), .int .i64 (Md.trnAt ((16 * 3 + k) / 16 * 4 + (16 * 3 + k) % 4))]) ∧ Below w.heap.size w w' := by
  obtain ⟨j, hj⟩ : ∃ j, j = k % 4 := ⟨_, rfl⟩
  have k2 : Int.tmod (k : Int) 4 = (j : Int) := by rw [Int.tmod_eq_emod_of_nonneg (by omega)]; omega
  have k3 : (k : Int) % 4 = (j : Int) := by omega
  have k4 : (j : Int) < 4 := by omega
  have k5 : j < 4 := by omega
  have HF : Hid (Md.fsel (16 * 3 + k) b c d = bits BinOp.xor IntKind.u32 c (bits BinOp.or IntKind.u32 b (bits BinOp.xor IntKind.u32 IntKind.u32.max d))) := by
    show _ = _
    simp [Md.fsel, show ¬ 48 + k < 16 by omega, show ¬ 48 + k < 32 by omega, show ¬ 48 + k < 48 by omega]
  have HT : Hid (Value.int .i64 (Md.trnAt ((16 * 3 + k) / 16 * 4 + (16 * 3 + k) % 4)) = [Value.int .i64 6, .int .i64 10, .int .i64 15, .int .i64 21][j]'(by simpa using k5)) := by
    show _ = _
    have e : (16 * 3 + k) / 16 * 4 + (16 * 3 + k) % 4 = 12 + j := by omega
    rw [e]
    rcases (show j = 0 ∨ j = 1 ∨ j = 2 ∨ j = 3 by omega) with rfl | rfl | rfl | rfl <;> rfl
  obtain ⟨q, hq⟩ : ∃ q, q = (7 * k) % 16 := ⟨_, rfl⟩
  have m1 : IntKind.i64.wrap (7 * (k : Int)) = 7 * (k : Int) := by simp [IntKind.wrap, IntKind.bits, IntKind.signed]; omega
  have m3 : Int.tmod (7 * (k : Int)) 16 = (q : Int) := by rw [Int.tmod_eq_emod_of_nonneg (by omega)]; omega
  have m4 : (7 * (k : Int)) % 16 = (q : Int) := by omega
  have HK : Hid (((Md.ksel (16 * 3 + k) : Nat) : Int) = (q : Int)) := by
    show _ = _
    have e : Md.ksel (16 * 3 + k) = q := by
      simp [Md.ksel, show ¬ 48 + k < 16 by omega, show ¬ 48 + k < 32 by omega, show ¬ 48 + k < 48 by omega]
      omega
    rw [e]
  clear hj hq
  go_enter Tryd.func42, Tryd.ntmps42
  go_wp2_with fail
  go_region
  all_goals go_wp2
  all_goals go_ret3
  all_goals exact ⟨by rw [HF.out, HK.out, HT.out]; rfl, ((Below.refl _ _).alloc (Nat.le_refl _) _).drew⟩

theorem round_any (r k : Nat) (b c d : Int) (w : World) (hr : r < 4) (hk : k < 16) :
    Calls Tryd.prog 42 #[.int .i64 r, .int .i64 k, .int .u32 b, .int .u32 c, .int .u32 d] w fun e w' => e = .returned (.tuple #[.int .u32 (Md.fsel (16 * r + k) b c d), .int .i64 (Md.ksel (16 * r + k)), .int .i64 (Md.trnAt ((16 * r + k) / 16 * 4 + (16 * r + k) % 4))]) ∧ Below w.heap.size w w' := by
  rcases (show r = 0 ∨ r = 1 ∨ r = 2 ∨ r = 3 by omega) with rfl | rfl | rfl | rfl
  · exact round0 k b c d w hk
  · exact round1 k b c d w hk
  · exact round2 k b c d w hk
  · exact round3 k b c d w hk
end Go.Proofs.YtconlnoolenhjaaDoor
