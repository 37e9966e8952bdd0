/- walks: the document's Live links -/
import Derived.Test.YtcbpafpaimpfnaaGreatDoorGW4
import Derived.Test.YtcbpafpaimpfnaaGreatDoorDW7
import Derived.Test.YtcbpafpaimpfnaaGreatDoorDW4
import Derived.Test.YtcbpafpaimpfnaaGreatDoorDW10
import Derived.Test.YtcbpafpaimpfnaaGreatDoorDS0
import Derived.Test.YtcbpafpaimpfnaaGreatDoorME
import Derived.ArgAppend
import Derived.Lib.LazyBuf
namespace Go.Proofs.YtcbpafpaimpfnaaGreatDoor
open Go.RowKit

set_option maxRecDepth 100000 in
set_option maxHeartbeats 1000000 in
theorem rtable_any (s : ByteArray) (rev : Int) (ao : Option Addr) (n cap : Nat) (vs ts : Nat → Int) (w : World) (hR : Rg.Right vs ts n) (hr : WayRow w ao n cap vs ts) :
    Calls Tryz.prog 77 #[.agg #[.string s, .int .i64 rev, .slice ao n cap]] w fun e w' => ∃ g, e = .returned (.slice (some ⟨g, 0, none⟩) 4096 4096) ∧ w'.heap[g]? = some (.cells (rowF 4096 (fun i => Rg.tree vs ts (i : Int) n)) 5 (0, 0)) ∧ Below w.heap.size w w' := by
  have hn := hR.many
  have HRt : Hid (Rg.Right vs ts n) := hR
  have HW : Hid (∀ W, Below w.heap.size w W → WayRow W ao n cap vs ts) := fun W hW => hr.below hW
  clear hr hR
  have hmk : ∀ W : World, (Instr.makeSlice 93 (.int .i64 4096) (.int .i64 4096)).run Tryz.prog W = .ok (.slice (some ⟨W.heap.size, 0, none⟩) 4096 4096) (W.alloc (.cells (rowF 4096 (fun _ => 0)) 5)) := fun W => make_room W 4096 4096 (by omega) (by omega)
  go_enter Tryz.func77, Tryz.ntmps77
  go_wp2_with fail
  go_loopw [10] (fun i wr => ∃ k : Nat, k ≤ n ∧ i = .int .i64 k ∧ Hid (wr.heap[w.heap.size + 1]? = some (.cells (rowF 4096 (fun i => Rg.tree vs ts (i : Int) k)) 5 (0, 0))) ∧ Hid (Below w.heap.size w wr)) (fun i _ => n - (intOf i).toNat)
  case atStart => exact ⟨0, by omega, rfl, heap_alloc2_new w _ _, below_alloc2 _ _ _⟩
  case round =>
    clear hmk
    obtain ⟨k, hk, rfl, hX, hB⟩ := hrel
    by_cases hlt : k < n
    · obtain ⟨b, off, rfl, hb, hc⟩ := (HW.out _ hB.out).2 (by omega)
      have hcap := (HW.out _ hB.out).1
      have c0 : wr.cell? ⟨b, off + k * 2, none⟩ = some (.int .i64 (vs k)) := (hc k hlt).1
      have c1 : wr.cell? ⟨b, off + k * 2 + 1, none⟩ = some (.int .i64 (ts k)) := (hc k hlt).2
      have hv := HRt.out.vid k hlt
      have ht := HRt.out.tree k hlt
      obtain ⟨m, hm⟩ := Int.eq_ofNat_of_zero_le (show 0 ≤ vs k by omega)
      have hz : w.heap.size + 1 < wr.heap.size := block_lt_of_cell ((cell_of_row wr _ 0 _ _ _ hX.out).trans (rowF_get _ _ _ (by omega)))
      have c4 : wr.cell? ⟨w.heap.size + 1, m, none⟩ = some (.int .u8 (Rg.tree vs ts (m : Int) k)) := (cell_of_row _ _ _ _ _ _ hX.out).trans (rowF_get _ _ _ (by omega))
      have f4 : wr.frozen? ⟨w.heap.size + 1, m, none⟩ = false := frozen_of_row _ _ _ _ _ hX.out
      have HX : Hid (∀ o, ((wr.setCell ⟨w.heap.size + 1, m, none⟩ (.int .u8 (ts k))).alloc o).heap[w.heap.size + 1]? = some (.cells (rowF 4096 (fun i => Rg.tree vs ts (i : Int) (k + 1))) 5 (0, 0))) := by
        intro o
        rw [Below.heap_alloc _ _ _ (by simpa [World.setCell] using hz), heap_setCell_same _ _ _ _ _ _ hX.out, rowF_set _ _ _ _ (by omega)]
        congr 2
        apply rowF_congr
        intro i _
        simp only [Rg.tree, hm]
        by_cases e : i = m
        · rw [if_pos e, if_pos (by omega)]
        · rw [if_neg e, if_neg (by omega)]
      have HB : Hid (∀ o, Below w.heap.size w ((wr.setCell ⟨w.heap.size + 1, m, none⟩ (.int .u8 (ts k))).alloc o)) := fun o => (hB.out.setCell (Nat.le_succ _) _).alloc (by have := hB.out.size; simpa [World.setCell] using this) _
      have hm1 : (m : Int) < 4096 := by omega
      have HM : Hid (vs k = (m : Int)) := hm
      rw [hm] at c0 hv
      clear hm hc HW HRt hX hB
      generalize ts k = t at *
      go_wp2
      exact ⟨⟨k + 1, by omega, by go_num, HX.out _, HB.out _⟩, by simp [intOf]; omega⟩
    · obtain rfl : k = n := by omega
      go_wp2
      go_ret
      exact ⟨_, rfl, hX.out, hB.out⟩
end Go.Proofs.YtcbpafpaimpfnaaGreatDoor

namespace Go.Proofs.YtcbpafpaimpfnaaGreatDoor
namespace Md
def padM (n : Nat) : Nat := n / 64 + lastN (n % 64)
/-- The bytes of a message of n bytes, filled up. -/
def pad (n : Nat) (bs : Nat → Int) (i : Nat) : Int :=
  if i < n then bs i else if i = n then 128 else if i + 8 < 64 * padM n then 0 else (8 * (n : Int)) / 2 ^ (8 * (i + 8 - 64 * padM n)) % 256
theorem padM_ge (n : Nat) : n + 9 ≤ 64 * padM n ∧ 64 * padM n < n + 9 + 64 := by
  unfold padM lastN
  split <;> omega
theorem wd_congr (f g : Nat → Int) (i : Nat) (h : ∀ j, j < 64 → f j = g j) (hi : i < 16) : wd f i = wd g i := by
  unfold wd
  rw [h (4 * i) (by omega), h (4 * i + 1) (by omega), h (4 * i + 2) (by omega), h (4 * i + 3) (by omega)]
theorem runTo_congr (f g : Nat → Int) (h : ∀ j, j < 64 → f j = g j) (s : St) : ∀ k, runTo f k s = runTo g k s
  | 0 => rfl
  | k + 1 => by
    show stp f k (runTo f k s) = stp g k (runTo g k s)
    rw [runTo_congr f g h s k]
    unfold stp
    rw [wd_congr f g _ h (ksel_lt k)]
theorem mixS_congr (f g : Nat → Int) (h : ∀ j, j < 64 → f j = g j) (s : St) : mixS s f = mixS s g := by
  unfold mixS
  rw [runTo_congr f g h s 64]
theorem mixN_congr (f g : Nat → Int) (s : St) : ∀ m, (∀ j, j < 64 * m → f j = g j) → mixN s f m = mixN s g m
  | 0, _ => rfl
  | m + 1, h => by
    show mixS (mixN s f m) _ = mixS (mixN s g m) _
    rw [mixN_congr f g s m (fun j hj => h j (by omega))]
    exact mixS_congr _ _ (fun j hj => h (64 * m + j) (by omega)) _
theorem mixN_add (f : Nat → Int) (s : St) (a : Nat) : ∀ b, mixN s f (a + b) = mixN (mixN s f a) (fun i => f (64 * a + i)) b
  | 0 => rfl
  | b + 1 => by
    show mixS (mixN s f (a + b)) (fun i => f (64 * (a + b) + i)) = mixS (mixN (mixN s f a) (fun i => f (64 * a + i)) b) (fun i => f (64 * a + (64 * b + i)))
    rw [mixN_add f s a b]
    exact mixS_congr _ _ (fun j _ => by rw [show 64 * (a + b) + j = 64 * a + (64 * b + j) by omega]) _
theorem last_pad (n : Nat) (bs : Nat → Int) (i : Nat) (h : i < 64 * lastN (n % 64)) : pad n bs (64 * (n / 64) + i) = lastB (n % 64) (fun i => bs (64 * (n / 64) + i)) (((0 : Nat) : Int) + (n : Int) * 1 * 8) i := by
  unfold pad lastB lastTo
  have e : 64 * padM n = 64 * (n / 64) + 64 * lastN (n % 64) := by unfold padM; omega
  have h9 := (padM_ge n).1
  rw [e] at h9 ⊢
  by_cases h1 : i < n % 64
  · rw [if_pos (by omega), if_pos h1]
  · rw [if_neg (by omega), if_neg h1]
    by_cases h2 : i = n % 64
    · rw [if_pos (by omega), if_pos h2]
    · rw [if_neg (by omega), if_neg h2]
      by_cases h3 : i + 8 < 64 * lastN (n % 64)
      · rw [if_pos (by omega), if_neg (by omega)]
      · rw [if_neg (by omega), if_pos (by omega)]
        have e2 : 64 * (n / 64) + i + 8 - (64 * (n / 64) + 64 * lastN (n % 64)) = i + 8 - 64 * lastN (n % 64) := by omega
        rw [e2]
        congr 2
        omega
/-- BOTH SUMS ARE THE SAME. -/
theorem sum_same (n : Nat) (bs : Nat → Int) : mixN st0 (pad n bs) (padM n) = fin st0 0 n bs := by
  unfold padM fin
  rw [mixN_add, mixN_congr (pad n bs) bs st0 (n / 64) (fun j hj => by unfold pad; rw [if_pos (by omega)])]
  apply mixN_congr
  intro j hj
  have h := last_pad n bs j hj
  simp only [Int.mul_one] at h
  rw [h]
  congr 1
  simp
end Md
end Go.Proofs.YtcbpafpaimpfnaaGreatDoor

namespace Go.Proofs.YtcbpafpaimpfnaaGreatDoor
open Go.RowKit

set_option maxHeartbeats 1000000 in
theorem turn_any (x k : Int) (w : World) (h0 : 0 ≤ k) (h1 : k < 32) :
    Calls Tryz.prog 116 #[.int .u32 x, .int .i64 k] w fun e w' => e = .returned (.int .u32 (Md.rotl x k)) ∧ ∃ n, w' = w.drewN n := by
  have hw : IntKind.i64.wrap (32 - k) = 32 - k := by simp [IntKind.wrap, IntKind.bits, IntKind.signed]; omega
  have h2 : 0 ≤ 32 - k := by omega
  go_enter Tryz.func116, Tryz.ntmps116
  go_wp2_with fail
  go_quiet (fail)
  go_wp2
  go_ret
  exact ⟨rfl, nq, rfl⟩

set_option maxHeartbeats 1000000 in
theorem table_any (w : World) :
    Calls Tryz.prog 114 #[] w fun e w' => e = .returned (.slice (some ⟨w.heap.size, 0, none⟩) 64 64) ∧ (∀ i, i < 64 → w'.cell? ⟨w.heap.size, i, none⟩ = some (.int .u32 (Md.tabAt i))) ∧ w.heap.size < w'.heap.size ∧ Below w.heap.size w w' := by
  go_enter Tryz.func114, Tryz.ntmps114
  go_wp2
  go_ret
  refine ⟨rfl, fun i hi => ?_, by simp, (Below.refl _ _).alloc (Nat.le_refl _) _⟩
  rw [World.cell?_alloc_at _ _ _ _ rfl]
  have h : ∀ i, i < 64 → Md.tab[i]? = some (Md.tabAt i) := by decide
  have e := h i hi
  show ((Md.tab.map (Value.int .u32)).toArray)[i]? = _
  simp [e]

set_option maxHeartbeats 1000000 in
theorem round0 (k : Nat) (b c d : Int) (w : World) (hk : k < 16) :
    Calls Tryz.prog 115 #[.int .i64 0, .int .i64 k, .int .u32 b, .int .u32 c, .int .u32 d] w fun e w' => e = .returned (.tuple #[.int .u32 (Md.fsel (16 * 0 + k) b c d), .int .i64 (Md.ksel (16 * 0 + k)), .int .i64 (Md.trnAt ((16 * 0 + k) / 16 * 4 + (16 * 0 + k) % 4))]) ∧ Below w.heap.size w w' := by
  obtain ⟨j, hj⟩ : ∃ j, j = k % 4 := ⟨_, rfl⟩
  have k2 : Int.tmod (k : Int) 4 = (j : Int) := by rw [Int.tmod_eq_emod_of_nonneg (by omega)]; omega
  have k3 : (k : Int) % 4 = (j : Int) := by omega
  have k4 : (j : Int) < 4 := by omega
  have k5 : j < 4 := by omega
  have HF : Hid (Md.fsel (16 * 0 + k) b c d = bits BinOp.or IntKind.u32 (bits BinOp.and IntKind.u32 b c) (bits BinOp.and IntKind.u32 (bits BinOp.xor IntKind.u32 IntKind.u32.max b) d)) := by
    show _ = _
    simp [Md.fsel, hk]
  have HT : Hid (Value.int .i64 (Md.trnAt ((16 * 0 + k) / 16 * 4 + (16 * 0 + k) % 4)) = [Value.int .i64 7, .int .i64 12, .int .i64 17, .int .i64 22][j]'(by simpa using k5)) := by
    show _ = _
    have e : (16 * 0 + k) / 16 * 4 + (16 * 0 + k) % 4 = 0 + j := by omega
    rw [e]
    rcases (show j = 0 ∨ j = 1 ∨ j = 2 ∨ j = 3 by omega) with rfl | rfl | rfl | rfl <;> rfl
  have HK : Hid (((Md.ksel (16 * 0 + k) : Nat) : Int) = (k : Int)) := by
    show _ = _
    simp [Md.ksel, hk]
  clear hj
  rw [HF.out, HK.out, HT.out]
  clear HF HK HT
  go_enter Tryz.func115, Tryz.ntmps115
  go_wp2_with fail
  go_region
  all_goals go_wp2
  all_goals go_ret3
  all_goals exact ⟨rfl, ((Below.refl _ _).alloc (Nat.le_refl _) _).drew⟩
set_option maxHeartbeats 1000000 in
theorem round1 (k : Nat) (b c d : Int) (w : World) (hk : k < 16) :
    Calls Tryz.prog 115 #[.int .i64 1, .int .i64 k, .int .u32 b, .int .u32 c, .int .u32 d] w fun e w' => e = .returned (.tuple #[.int .u32 (Md.fsel (16 * 1 + k) b c d), .int .i64 (Md.ksel (16 * 1 + k)), .int .i64 (Md.trnAt ((16 * 1 + k) / 16 * 4 + (16 * 1 + k) % 4))]) ∧ Below w.heap.size w w' := by
  obtain ⟨j, hj⟩ : ∃ j, j = k % 4 := ⟨_, rfl⟩
  have k2 : Int.tmod (k : Int) 4 = (j : Int) := by rw [Int.tmod_eq_emod_of_nonneg (by omega)]; omega
  have k3 : (k : Int) % 4 = (j : Int) := by omega
  have k4 : (j : Int) < 4 := by omega
  have k5 : j < 4 := by omega
  have HF : Hid (Md.fsel (16 * 1 + k) b c d = bits BinOp.or IntKind.u32 (bits BinOp.and IntKind.u32 b d) (bits BinOp.andNot IntKind.u32 c d)) := by
    show _ = _
    simp [Md.fsel, show 16 + k < 32 by omega, show ¬ 16 + k < 16 by omega]
  have HT : Hid (Value.int .i64 (Md.trnAt ((16 * 1 + k) / 16 * 4 + (16 * 1 + k) % 4)) = [Value.int .i64 5, .int .i64 9, .int .i64 14, .int .i64 20][j]'(by simpa using k5)) := by
    show _ = _
    have e : (16 * 1 + k) / 16 * 4 + (16 * 1 + k) % 4 = 4 + j := by omega
    rw [e]
    rcases (show j = 0 ∨ j = 1 ∨ j = 2 ∨ j = 3 by omega) with rfl | rfl | rfl | rfl <;> rfl
  obtain ⟨q, hq⟩ : ∃ q, q = (1 + 5 * k) % 16 := ⟨_, rfl⟩
  have m1 : IntKind.i64.wrap (5 * (k : Int)) = 5 * (k : Int) := by simp [IntKind.wrap, IntKind.bits, IntKind.signed]; omega
  have m2 : IntKind.i64.wrap (1 + 5 * (k : Int)) = 1 + 5 * (k : Int) := by simp [IntKind.wrap, IntKind.bits, IntKind.signed]; omega
  have m3 : Int.tmod (1 + 5 * (k : Int)) 16 = (q : Int) := by rw [Int.tmod_eq_emod_of_nonneg (by omega)]; omega
  have m4 : (1 + 5 * (k : Int)) % 16 = (q : Int) := by omega
  have HK : Hid (((Md.ksel (16 * 1 + k) : Nat) : Int) = (q : Int)) := by
    show _ = _
    have e : Md.ksel (16 * 1 + k) = q := by
      simp [Md.ksel, show 16 + k < 32 by omega, show ¬ 16 + k < 16 by omega]
      omega
    rw [e]
  clear hj hq
  go_enter Tryz.func115, Tryz.ntmps115
  go_wp2_with fail
  go_region
  all_goals go_wp2
  all_goals go_ret3
  all_goals exact ⟨by rw [HF.out, HK.out, HT.out]; rfl, ((Below.refl _ _).alloc (Nat.le_refl _) _).drew⟩
set_option maxHeartbeats 1000000 in
theorem round2 (k : Nat) (b c d : Int) (w : World) (hk : k < 16) :
    Calls Tryz.prog 115 #[.int .i64 2, .int .i64 k, .int .u32 b, .int .u32 c, .int .u32 d] w fun e w' => e = .returned (.tuple #[.int .u32 (Md.fsel (16 * 2 + k) b c d), .int .i64 (Md.ksel (16 * 2 + k)), .int .i64 (Md.trnAt ((16 * 2 + k) / 16 * 4 + (16 * 2 + k) % 4))]) ∧ Below w.heap.size w w' := by
  obtain ⟨j, hj⟩ : ∃ j, j = k % 4 := ⟨_, rfl⟩
  have k2 : Int.tmod (k : Int) 4 = (j : Int) := by rw [Int.tmod_eq_emod_of_nonneg (by omega)]; omega
  have k3 : (k : Int) % 4 = (j : Int) := by omega
  have k4 : (j : Int) < 4 := by omega
  have k5 : j < 4 := by omega
  have HF : Hid (Md.fsel (16 * 2 + k) b c d = bits BinOp.xor IntKind.u32 (bits BinOp.xor IntKind.u32 b c) d) := by
    show _ = _
    simp [Md.fsel, show 32 + k < 48 by omega, show ¬ 32 + k < 16 by omega, show ¬ 32 + k < 32 by omega]
  have HT : Hid (Value.int .i64 (Md.trnAt ((16 * 2 + k) / 16 * 4 + (16 * 2 + k) % 4)) = [Value.int .i64 4, .int .i64 11, .int .i64 16, .int .i64 23][j]'(by simpa using k5)) := by
    show _ = _
    have e : (16 * 2 + k) / 16 * 4 + (16 * 2 + k) % 4 = 8 + j := by omega
    rw [e]
    rcases (show j = 0 ∨ j = 1 ∨ j = 2 ∨ j = 3 by omega) with rfl | rfl | rfl | rfl <;> rfl
  obtain ⟨q, hq⟩ : ∃ q, q = (5 + 3 * k) % 16 := ⟨_, rfl⟩
  have m1 : IntKind.i64.wrap (3 * (k : Int)) = 3 * (k : Int) := by simp [IntKind.wrap, IntKind.bits, IntKind.signed]; omega
  have m2 : IntKind.i64.wrap (5 + 3 * (k : Int)) = 5 + 3 * (k : Int) := by simp [IntKind.wrap, IntKind.bits, IntKind.signed]; omega
  have m3 : Int.tmod (5 + 3 * (k : Int)) 16 = (q : Int) := by rw [Int.tmod_eq_emod_of_nonneg (by omega)]; omega
  have m4 : (5 + 3 * (k : Int)) % 16 = (q : Int) := by omega
  have HK : Hid (((Md.ksel (16 * 2 + k) : Nat) : Int) = (q : Int)) := by
    show _ = _
    have e : Md.ksel (16 * 2 + k) = q := by
      simp [Md.ksel, show 32 + k < 48 by omega, show ¬ 32 + k < 16 by omega, show ¬ 32 + k < 32 by omega]
      omega
    rw [e]
  clear hj hq
  go_enter Tryz.func115, Tryz.ntmps115
  go_wp2_with fail
  go_region
  all_goals go_wp2
  all_goals go_ret3
  all_goals exact ⟨by rw [HF.out, HK.out, HT.out]; rfl, ((Below.refl _ _).alloc (Nat.le_refl _) _).drew⟩
set_option maxHeartbeats 1000000 in
theorem round3 (k : Nat) (b c d : Int) (w : World) (hk : k < 16) :
    Calls Tryz.prog 115 #[.int .i64 3, .int .i64 k, .int .u32 b, .int .u32 c, .int .u32 d] w fun e w' => e = .returned (.tuple #[.int .u32 (Md.fsel (16 * 3 + k) b c d), .int .i64 (Md.ksel (16 * 3 + k)), .int .i64 (Md.trnAt ((16 * 3 + k) / 16 * 4 + (16 * 3 + k) % 4))]) ∧ Below w.heap.size w w' := by
  obtain ⟨j, hj⟩ : ∃ j, j = k % 4 := ⟨_, rfl⟩
  have k2 : Int.tmod (k : Int) 4 = (j : Int) := by rw [Int.tmod_eq_emod_of_nonneg (by omega)]; omega
  have k3 : (k : Int) % 4 = (j : Int) := by omega
  have k4 : (j : Int) < 4 := by omega
  have k5 : j < 4 := by omega
  have HF : Hid (Md.fsel (16 * 3 + k) b c d = bits BinOp.xor IntKind.u32 c (bits BinOp.or IntKind.u32 b (bits BinOp.xor IntKind.u32 IntKind.u32.max d))) := by
    show _ = _
    simp [Md.fsel, show ¬ 48 + k < 16 by omega, show ¬ 48 + k < 32 by omega, show ¬ 48 + k < 48 by omega]
  have HT : Hid (Value.int .i64 (Md.trnAt ((16 * 3 + k) / 16 * 4 + (16 * 3 + k) % 4)) = [Value.int .i64 6, .int .i64 10, .int .i64 15, .int .i64 21][j]'(by simpa using k5)) := by
    show _ = _
    have e : (16 * 3 + k) / 16 * 4 + (16 * 3 + k) % 4 = 12 + j := by omega
    rw [e]
    rcases (show j = 0 ∨ j = 1 ∨ j = 2 ∨ j = 3 by omega) with rfl | rfl | rfl | rfl <;> rfl
  obtain ⟨q, hq⟩ : ∃ q, q = (7 * k) % 16 := ⟨_, rfl⟩
  have m1 : IntKind.i64.wrap (7 * (k : Int)) = 7 * (k : Int) := by simp [IntKind.wrap, IntKind.bits, IntKind.signed]; omega
  have m3 : Int.tmod (7 * (k : Int)) 16 = (q : Int) := by rw [Int.tmod_eq_emod_of_nonneg (by omega)]; omega
  have m4 : (7 * (k : Int)) % 16 = (q : Int) := by omega
  have HK : Hid (((Md.ksel (16 * 3 + k) : Nat) : Int) = (q : Int)) := by
    show _ = _
    have e : Md.ksel (16 * 3 + k) = q := by
      simp [Md.ksel, show ¬ 48 + k < 16 by omega, show ¬ 48 + k < 32 by omega, show ¬ 48 + k < 48 by omega]
      omega
    rw [e]
  clear hj hq
  go_enter Tryz.func115, Tryz.ntmps115
  go_wp2_with fail
  go_region
  all_goals go_wp2
  all_goals go_ret3
  all_goals exact ⟨by rw [HF.out, HK.out, HT.out]; rfl, ((Below.refl _ _).alloc (Nat.le_refl _) _).drew⟩

theorem round_any (r k : Nat) (b c d : Int) (w : World) (hr : r < 4) (hk : k < 16) :
    Calls Tryz.prog 115 #[.int .i64 r, .int .i64 k, .int .u32 b, .int .u32 c, .int .u32 d] w fun e w' => e = .returned (.tuple #[.int .u32 (Md.fsel (16 * r + k) b c d), .int .i64 (Md.ksel (16 * r + k)), .int .i64 (Md.trnAt ((16 * r + k) / 16 * 4 + (16 * r + k) % 4))]) ∧ Below w.heap.size w w' := by
  rcases (show r = 0 ∨ r = 1 ∨ r = 2 ∨ r = 3 by omega) with rfl | rfl | rfl | rfl
  · exact round0 k b c d w hk
  · exact round1 k b c d w hk
  · exact round2 k b c d w hk
  · exact round3 k b c d w hk
end Go.Proofs.YtcbpafpaimpfnaaGreatDoor

namespace Go.Proofs.YtcbpafpaimpfnaaGreatDoor
open Go.RowKit

theorem grown_empty {w w' : World} (h : (w.alloc (.cells #[] 5)).grownBy w' (Value.ownBlock (.slice (some ⟨w.heap.size, 0, none⟩) 0 0))) : Below w.heap.size w w' :=
  ((Below.refl _ w).alloc (Nat.le_refl _) _).grown h (by simp) (fun k hk => by simp [Value.ownBlock] at hk; omega)
theorem ByteRow.cast {w : World} {ao : Option Addr} {n n' cap : Nat} {f : Nat → Int} (h : ByteRow w ao n cap f) (e : n = n') : ByteRow w ao n' cap f := e ▸ h
theorem owns_cast {w : World} {base n : Nat} {v : Value} {xs : List Value} (h : w.ownsRow base 5 1 v (0 + n) ([] ++ xs)) : w.ownsRow base 5 1 v n xs := by
  rw [Nat.zero_add, List.nil_append] at h
  exact h
/-- One byte more. -/
theorem wpList_append_byte {w : World} {ops : Array Oper} {rest : List Oper} {o : Oper} {a : Act} {Q : Exit → Act → World → Prop} (hgd : o.guard = none) (s x : Operand)
    (ho : o.op = .call { callee := .builtin .append, args := #[s, x], argTypes := #[93, 93] }) (base : Nat)
    (v : Value) (n : Nat) (P : Nat → Int) (hs : a.eval s = v) (y : Int) (hown : w.ownsRow base 5 1 v n (bytesL n P)) (hbase : base ≤ w.heap.size)
    (hx : a.eval x = .slice (some ⟨w.heap.size, 0, none⟩) 1 1) (hy : y = P n) (hb : n + 1 ≤ 140737488355328)
    (h : ∀ v' w', w'.ownsRow base 5 1 v' (n + 1) (bytesL (n + 1) P) → Below base w w' → wpList Tryz.prog ops Q rest (a.put o.dst v') w') : wpList Tryz.prog ops Q (o :: rest) a (w.alloc (.cells #[.int .u8 y] 5)) := by
  obtain ⟨i0, hi, hz0, hz1, hz2⟩ := info_parts info5
  refine wpList_append_own _ hgd s x 93 ho base 5 i0 (.int .u8 0) 1 1 Tryz.underlying93 hi hz0 hz1 hz2 rfl (by decide) v n _ hs (hown.alloc _) ⟨w.heap.size, 0, none⟩ 1 1 [.int .u8 y] hx rfl (cell_one_new _ _ _) (by simp [Value.oneCell']) (by unfold maxLen; omega) (by omega) (by simp; omega) ?_
  intro v' w' h1 h2 _
  refine h v' w' ?_ (((Below.refl _ w).alloc hbase _).grown h2 (by simp; omega) (owns_block hown))
  rw [show bytesL (n + 1) P = bytesL n P ++ [.int .u8 y] by rw [hy]; simp [bytesL, List.range_succ]]
  exact h1
end Go.Proofs.YtcbpafpaimpfnaaGreatDoor

namespace Go.Proofs.YtcbpafpaimpfnaaGreatDoor
open Go.RowKit

def lenV : Value → Nat
  | .slice _ n _ => n
  | _ => 0
theorem owns_shape {w : World} {base n : Nat} {v : Value} {P : Nat → Int} (h : w.ownsRow base 5 1 v n (bytesL n P)) : ∃ ao c, v = .slice ao n c ∧ ByteRow w ao n c P := by
  obtain ⟨ao, c, h1, h2, _⟩ := owns_row (f := P) h
  exact ⟨ao, c, h1, h2⟩

theorem four32 {w2 : World} {g : Nat} {q : Md.St} (h2 : w2.heap[g]? = some (.cells (Md.stA q) 150 (0, 0))) :
    w2.cell? ⟨g, 0, none⟩ = some (.int .u32 q.a) ∧ w2.cell? ⟨g, 1, none⟩ = some (.int .u32 q.b) ∧ w2.cell? ⟨g, 2, none⟩ = some (.int .u32 q.c) ∧ w2.cell? ⟨g, 3, none⟩ = some (.int .u32 q.d) ∧
    w2.frozen? ⟨g, 0, none⟩ = false ∧ w2.frozen? ⟨g, 1, none⟩ = false ∧ w2.frozen? ⟨g, 2, none⟩ = false ∧ w2.frozen? ⟨g, 3, none⟩ = false :=
  ⟨cell_of_row w2 g 0 _ _ _ h2, cell_of_row w2 g 1 _ _ _ h2, cell_of_row w2 g 2 _ _ _ h2, cell_of_row w2 g 3 _ _ _ h2, frozen_of_row _ _ _ _ _ h2, frozen_of_row _ _ _ _ _ h2, frozen_of_row _ _ _ _ _ h2, frozen_of_row _ _ _ _ _ h2⟩
theorem set32 {w : World} {g : Nat} {q s' : Md.St} (hA : w.heap[g]? = some (.cells (Md.stA q) 150 (0, 0))) :
    ((((w.setCell ⟨g, 0, none⟩ (.int .u32 s'.a)).setCell ⟨g, 1, none⟩ (.int .u32 s'.b)).setCell ⟨g, 2, none⟩ (.int .u32 s'.c)).setCell ⟨g, 3, none⟩ (.int .u32 s'.d)).heap[g]? = some (.cells (Md.stA s') 150 (0, 0)) ∧
    (∀ B a, B ≤ g → Below B a w → Below B a ((((w.setCell ⟨g, 0, none⟩ (.int .u32 s'.a)).setCell ⟨g, 1, none⟩ (.int .u32 s'.b)).setCell ⟨g, 2, none⟩ (.int .u32 s'.c)).setCell ⟨g, 3, none⟩ (.int .u32 s'.d))) := by
  refine ⟨?_, fun B a hB hb => (((hb.setCell hB _).setCell hB _).setCell hB _).setCell hB _⟩
  rw [heap_setCell_same _ _ _ _ _ _ (heap_setCell_same _ _ _ _ _ _ (heap_setCell_same _ _ _ _ _ _ (heap_setCell_same _ _ _ _ _ _ hA)))]
  rfl
/-- A word, its bytes taken from the last one on. -/
def wdTo (B : Nat → Int) (kk : Nat) : Nat → Int
  | 0 => 0
  | t + 1 => (256 * wdTo B kk t % 4294967296 + B (4 * kk + (3 - t)) % 4294967296) % 4294967296
theorem wraps32 (n : Int) (h0 : 0 ≤ n) (h1 : n < 2 ^ 32) : IntKind.u32.wrap n = n := by
  simp [IntKind.wrap, IntKind.bits, IntKind.signed]; omega
theorem or_comm32 (x y : Int) : bits .or .u32 x y = bits .or .u32 y x := by
  unfold bits
  simp only [BitVec.or_comm]
theorem wdTo_wd (B : Nat → Int) (kk : Nat) (h : ∀ i, i < 64 → 0 ≤ B i ∧ B i ≤ 255) (hk : kk < 16) : wdTo B kk 4 = Md.wd B kk := by
  have h0 := h (4 * kk) (by omega)
  have h1 := h (4 * kk + 1) (by omega)
  have h2 := h (4 * kk + 2) (by omega)
  have h3 := h (4 * kk + 3) (by omega)
  simp only [wdTo, Md.wd, Nat.sub_zero, Nat.reduceSub, Nat.add_zero]
  generalize B (4 * kk) = x0 at *
  generalize B (4 * kk + 1) = x1 at *
  generalize B (4 * kk + 2) = x2 at *
  generalize B (4 * kk + 3) = x3 at *
  have e1 : x0 % 4294967296 = x0 := by omega
  have e2 : x1 % 4294967296 * 256 % 4294967296 = x1 * 256 := by omega
  have e3 : x2 % 4294967296 * 65536 % 4294967296 = x2 * 65536 := by omega
  have e4 : x3 % 4294967296 * 16777216 % 4294967296 = x3 * 16777216 := by omega
  rw [e1, e2, e3, e4]
  have c (x y : Int) : bits .or .u32 x y = bits .or .u32 y x := or_comm32 x y
  have j1 : bits .or .u32 x0 (x1 * 256) = x1 * 256 + x0 := by
    rw [c]; exact bits_join .u32 32 (by decide) wraps32 8 _ _ (by omega) (by omega) (by omega) (by omega) (by omega) (by omega)
  rw [j1]
  have j2 : bits .or .u32 (x1 * 256 + x0) (x2 * 65536) = x2 * 65536 + (x1 * 256 + x0) := by
    rw [c]; exact bits_join .u32 32 (by decide) wraps32 16 _ _ (by omega) (by omega) (by omega) (by omega) (by omega) (by omega)
  rw [j2]
  have j3 : bits .or .u32 (x2 * 65536 + (x1 * 256 + x0)) (x3 * 16777216) = x3 * 16777216 + (x2 * 65536 + (x1 * 256 + x0)) := by
    rw [c]; exact bits_join .u32 32 (by decide) wraps32 24 _ _ (by omega) (by omega) (by omega) (by omega) (by omega) (by omega)
  rw [j3]
  omega
theorem pad_range (n : Nat) (bs : Nat → Int) (h : ∀ i, i < n → 0 ≤ bs i ∧ bs i ≤ 255) (i : Nat) (_hi : i < 64 * Md.padM n) : 0 ≤ Md.pad n bs i ∧ Md.pad n bs i ≤ 255 := by
  unfold Md.pad
  split
  · exact h i (by assumption)
  · split
    · omega
    · split
      · omega
      · have := Int.emod_nonneg (8 * (n : Int) / 2 ^ (8 * (i + 8 - 64 * Md.padM n))) (show (256 : Int) ≠ 0 by decide)
        have := Int.emod_lt_of_pos (8 * (n : Int) / 2 ^ (8 * (i + 8 - 64 * Md.padM n))) (show (0 : Int) < 256 by decide)
        omega
theorem pad_head (n : Nat) (bs : Nat → Int) : bytesL n bs = bytesL n (Md.pad n bs) := by
  unfold bytesL
  apply List.map_congr_left
  intro i hi
  have : i < n := by simpa using hi
  simp [Md.pad, this]

set_option maxRecDepth 100000 in
set_option maxHeartbeats 4000000 in
theorem rsum_any (ao : Option Addr) (n cap : Nat) (bs : Nat → Int) (w : World) (hr : ByteRow w ao n cap bs) (hnil : ao = none → n = 0 ∧ cap = 0) (hn : n ≤ 140737488351300) (hrange : ∀ i, i < n → 0 ≤ bs i ∧ bs i ≤ 255) :
    Calls Tryz.prog 100 #[.slice ao n cap] w fun e w' => ∃ ro rcap, e = .returned (.slice ro 16 rcap) ∧ ByteRow w' ro 16 rcap (Md.dg (Md.mixN Md.st0 (Md.pad n bs) (Md.padM n))) ∧ Below w.heap.size w w' := by
  have HR : Hid (ByteRow (w.alloc (.cells #[] 5)) ao n cap bs) := hr.below ((Below.refl _ w).alloc (Nat.le_refl _) _)
  have HN : Hid _ := hnil
  have HP : Hid _ := Md.padM_ge n
  have HPd : Hid (Md.pad n bs n = 128) := by show _ = _; simp [Md.pad]
  have HPz : Hid (∀ i, n < i → i + 8 < 64 * Md.padM n → Md.pad n bs i = 0) := fun i h1 h2 => by simp [Md.pad, h2, show ¬ i < n by omega, show ¬ i = n by omega]
  have HPl : Hid (∀ j, j < 8 → Md.pad n bs (64 * Md.padM n - 8 + j) = 8 * (n : Int) / 2 ^ (8 * j) % 256) := fun j h1 => by
    have h9 := HP.out.1
    simp only [Md.pad]
    rw [if_neg (by omega), if_neg (by omega), if_neg (by omega), show 64 * Md.padM n - 8 + j + 8 - 64 * Md.padM n = j by omega]
  have HE : Hid (bytesL n bs = bytesL n (Md.pad n bs)) := pad_head n bs
  have HPr : Hid (∀ i, i < 64 * Md.padM n → 0 ≤ Md.pad n bs i ∧ Md.pad n bs i ≤ 255) := pad_range n bs hrange
  clear hr hnil hrange
  generalize Md.pad n bs = P at *
  obtain ⟨M, HM⟩ : ∃ M, Hid (M = Md.padM n) := ⟨_, rfl⟩
  rw [← HM.out] at HP HPz HPl HPr ⊢
  have hM1 : n + 9 ≤ 64 * M := HP.out.1
  have hM2 : 64 * M < n + 9 + 64 := HP.out.2
  clear HP
  go_enter Tryz.func100, Tryz.ntmps100
  go_wp2_with (first | (at_builtin; refine wpList_append_bytes rfl (.tmp 25) (.tmp 26) rfl w.heap.size _ 0 [] rfl (owns_empty w) ao n cap bs rfl HR.out HN.out (by omega) (by simp) ?_; intro v1 w1 ho1 hg1; have HO1 : Hid (w1.ownsRow w.heap.size 5 1 v1 n (bytesL n P)) := (by rw [← HE.out]; exact owns_cast ho1); have HB1 : Hid (Below w.heap.size w w1) := grown_empty hg1; clear ho1 hg1) | (at_builtin; refine wpList_append_byte rfl (.tmp 28) (.tmp 29) rfl w.heap.size _ n P rfl 128 HO1.out HB1.out.size rfl HPd.out.symm (by omega) ?_; intro v2 w2 ho2 hb2; have HO2 : Hid _ := ho2; have HB2 : Hid (Below w.heap.size w w2) := HB1.out.trans hb2; clear ho2 hb2))
  go_loopw [3] (fun v wr => ∃ L : Nat, n + 1 ≤ L ∧ L + 8 ≤ 64 * M ∧ Hid (wr.ownsRow w.heap.size 5 1 v L (bytesL L P) ∧ Below w.heap.size w wr)) (fun v _ => 64 * M - lenV v)
  case atStart => exact ⟨n + 1, by omega, by omega, HO2.out, HB2.out⟩
  case round =>
    obtain ⟨L, hL1, hL2, hX⟩ := hrel
    obtain ⟨lo, lc, rfl, _⟩ := owns_shape hX.out.1
    clear HO1 HB1 HO2 HB2
    by_cases hL : L % 64 = 56
    · have hd : ((L : Int) % 64 != 56) = false := by simp; omega
      obtain rfl : L = 64 * M - 8 := by omega
      go_wp2_with fail
      rename World => wc
      go_loopw [3, 5] (fun v i wr => ∃ j : Nat, j ≤ 8 ∧ i = .int .i64 j ∧ Hid (wr.ownsRow w.heap.size 5 1 v (64 * M - 8 + j) (bytesL (64 * M - 8 + j) P) ∧ Below w.heap.size w wr)) (fun _ i _ => 8 - (intOf i).toNat)
      case atStart => exact ⟨0, by omega, rfl, hX.out.1, hX.out.2⟩
      case round =>
        clear hX
        obtain ⟨j, hj, rfl, hX⟩ := hrel
        obtain ⟨lo, lc, rfl, hlr⟩ := owns_shape hX.out.1
        have HLR : Hid (ByteRow wr lo (64 * M - 8 + j) lc P) := hlr
        clear hlr
        by_cases hlt : j < 8
        · have HZ : Hid (8 * (n : Int) / 2 ^ (8 * j) % 256 = P (64 * M - 8 + j)) := (HPl.out j hlt).symm
          go_wp2_with (at_builtin; refine wpList_append_byte rfl (.tmp 46) (.tmp 52) rfl w.heap.size _ (64 * M - 8 + j) P rfl _ hX.out.1 hX.out.2.size rfl HZ.out (by omega) ?_; intro v3 w3 ho3 hb3; have HO3 : Hid _ := ho3; have HB3 : Hid (Below w.heap.size w w3) := hX.out.2.trans hb3; clear ho3 hb3)
          exact ⟨⟨j + 1, by omega, by go_num, HO3.out, HB3.out⟩, by simp [intOf]; omega⟩
        · obtain rfl : j = 8 := by omega
          have e64 : 64 * M - 8 + 8 = 64 * M := by omega
          rw [e64]
          rename World => wd
          have HLM : Hid (ByteRow wd lo (64 * M) lc P) := HLR.out.cast e64
          have HBD : Hid (Below w.heap.size w wd) := hX.out.2
          clear hX e64 HPz HPl HPd HN HR HE
          go_wp2_with fail
          refine (table_any _).mono ?_
          rintro e w6 ⟨rfl, ht6, hs6, hb6⟩
          have HT6 : Hid (∀ i, i < 64 → w6.cell? ⟨wd.heap.size, i, none⟩ = some (.int .u32 (Md.tabAt i))) := ht6
          have HL6 : Hid (ByteRow w6 lo (64 * M) lc P) := HLM.out.below hb6
          have HB6 : Hid (Below w.heap.size w w6) := HBD.out.trans (hb6.mono HBD.out.size)
          clear ht6 hb6 HLR HLM
          obtain ⟨lb, loff, rfl, hlb, hlc⟩ := HL6.out.2 (by omega)
          have HLC : Hid _ := hlc
          have hlcap : 64 * M ≤ lc := HL6.out.1
          clear hlc HL6
          go_wp2_with fail
          go_loopw [8] (fun i wr => ∃ q : Nat, q ≤ M ∧ i = .int .i64 (64 * q) ∧ Hid (wr.heap[w6.heap.size]? = some (.cells (Md.stA (Md.mixN Md.st0 P q)) 150 (0, 0)) ∧ Below w6.heap.size w6 wr)) (fun i _ => 64 * M - (intOf i).toNat)
          case atStart => exact ⟨0, by omega, rfl, heap_alloc_last _ _, (Below.refl _ w6).alloc (Nat.le_refl _) _⟩
          case round =>
            obtain ⟨q, hq, rfl, hX⟩ := hrel
            rename World => w8
            by_cases hlt : q < M
            · obtain ⟨B, HBq⟩ : ∃ B : Nat → Int, Hid (B = fun i => P (64 * q + i)) := ⟨_, rfl⟩
              have HQ : Hid (Md.mixN Md.st0 P (q + 1) = Md.mixS (Md.mixN Md.st0 P q) B) := by rw [HBq.out]; rfl
              have HH8 : Hid (w8.heap[w6.heap.size]? = some (.cells (Md.stA (Md.mixN Md.st0 P q)) 150 (0, 0))) := hX.out.1
              have HB8 : Hid (Below w6.heap.size w6 w8) := hX.out.2
              have hl8 : w6.heap.size < w8.heap.size := block_lt_of_cell (cell_of_row w8 _ 0 _ _ _ HH8.out)
              have a0 : w8.cell? ⟨w6.heap.size, 0, none⟩ = some (.int .u32 (Md.mixN Md.st0 P q).a) := cell_of_row w8 _ 0 _ _ _ HH8.out
              have a1 : w8.cell? ⟨w6.heap.size, 1, none⟩ = some (.int .u32 (Md.mixN Md.st0 P q).b) := cell_of_row w8 _ 1 _ _ _ HH8.out
              have a2 : w8.cell? ⟨w6.heap.size, 2, none⟩ = some (.int .u32 (Md.mixN Md.st0 P q).c) := cell_of_row w8 _ 2 _ _ _ HH8.out
              have a3 : w8.cell? ⟨w6.heap.size, 3, none⟩ = some (.int .u32 (Md.mixN Md.st0 P q).d) := cell_of_row w8 _ 3 _ _ _ HH8.out
              have HT8 : Hid (∀ i, i < 64 → w8.cell? ⟨wd.heap.size, i, none⟩ = some (.int .u32 (Md.tabAt i))) := fun i hi => (HB8.out.cell (by exact hs6)).trans (HT6.out i hi)
              have HL8 : Hid (∀ i, i < 64 → w8.cell? ⟨lb, loff + (64 * q + i), none⟩ = some (.int .u8 (B i))) := fun i hi => by rw [HBq.out]; exact (HB8.out.cell (by exact hlb)).trans (HLC.out _ (by omega))
              have HBr : Hid (∀ i, i < 64 → 0 ≤ B i ∧ B i ≤ 255) := fun i hi => by rw [HBq.out]; exact HPr.out _ (by omega)
              clear hX
              generalize Md.mixN Md.st0 P q = s0 at *
              clear HBq HLC HT6
              have hdq : decide (64 * (q : Int) < 64 * (M : Int)) = true := by simp; omega
              go_wp2_with fail
              go_quiet (fail)
              go_wp2_with fail
              go_loopw [9, 10, 11, 12, 13] (fun ra rb rc rd i wr => ∃ r : Nat, r ≤ 4 ∧ i = .int .i64 r ∧ ra = .int .u32 (Md.runTo B (16 * r) s0).a ∧ rb = .int .u32 (Md.runTo B (16 * r) s0).b ∧ rc = .int .u32 (Md.runTo B (16 * r) s0).c ∧ rd = .int .u32 (Md.runTo B (16 * r) s0).d ∧ Hid (Below w8.heap.size w8 wr)) (fun _ _ _ _ i _ => 4 - (intOf i).toNat)
              case atStart => exact ⟨0, by omega, rfl, rfl, rfl, rfl, rfl, below_drewN (Below.refl _ _) _⟩
              case round =>
                obtain ⟨r, hr, rfl, rfl, rfl, rfl, rfl, hX⟩ := hrel
                rename World => w9
                by_cases hrlt : r < 4
                · have hdr : decide ((r : Int) < 4) = true := by simp; omega
                  go_wp2_with fail
                  go_loopw [9, 10, 11, 12, 14] (fun ra rb rc rd i wr => ∃ k : Nat, k ≤ 16 ∧ i = .int .i64 k ∧ ra = .int .u32 (Md.runTo B (16 * r + k) s0).a ∧ rb = .int .u32 (Md.runTo B (16 * r + k) s0).b ∧ rc = .int .u32 (Md.runTo B (16 * r + k) s0).c ∧ rd = .int .u32 (Md.runTo B (16 * r + k) s0).d ∧ Hid (Below w8.heap.size w8 wr)) (fun _ _ _ _ i _ => 16 - (intOf i).toNat)
                  case atStart => exact ⟨0, by omega, rfl, rfl, rfl, rfl, rfl, hX.out⟩
                  case round =>
                    clear hX
                    obtain ⟨k, hk, rfl, rfl, rfl, rfl, rfl, hX⟩ := hrel
                    rename World => wa
                    by_cases hklt : k < 16
                    · have HXx : Hid (Md.runTo B (16 * r + (k + 1)) s0 = Md.stp B (16 * r + k) (Md.runTo B (16 * r + k) s0)) := rfl
                      generalize Md.runTo B (16 * r + k) s0 = s1 at *
                      go_wp2_with fail
                      refine (round_any r k _ _ _ _ hrlt hklt).mono ?_
                      rintro e wb ⟨rfl, hbb⟩
                      have HBb : Hid (Below w8.heap.size w8 wb) := hX.out.trans (hbb.mono hX.out.size)
                      have hkk : Md.ksel (16 * r + k) < 16 := Md.ksel_lt _
                      have HKK : Hid (16 * r + k < 64) := by show _ < _; omega
                      have htr := Md.trnAt_range ((16 * r + k) / 16 * 4 + (16 * r + k) % 4) (by omega)
                      have htr0 := htr.1
                      have htr1 := htr.2
                      have c6 : wb.cell? ⟨wd.heap.size, 16 * r + k, none⟩ = some (.int .u32 (Md.tabAt (16 * r + k))) := (HBb.out.cell (by show wd.heap.size < w8.heap.size; omega)).trans (HT8.out _ (by omega))
                      clear hbb htr hX
                      have HXs : Hid (Md.runTo B (16 * r + (k + 1)) s0 = ⟨s1.d, (s1.b + Md.rotl ((s1.a + Md.fsel (16 * r + k) s1.b s1.c s1.d + Md.tabAt (16 * r + k) + wdTo B (Md.ksel (16 * r + k)) 4) % 4294967296) (Md.trnAt ((16 * r + k) / 16 * 4 + (16 * r + k) % 4))) % 4294967296, s1.b, s1.c⟩) := by
                        rw [HXx.out, wdTo_wd B _ HBr.out hkk]; rfl
                      clear HXx
                      generalize Md.trnAt ((16 * r + k) / 16 * 4 + (16 * r + k) % 4) = tn at *
                      generalize Md.fsel (16 * r + k) s1.b s1.c s1.d = fs at *
                      generalize Md.tabAt (16 * r + k) = ta at *
                      generalize Md.ksel (16 * r + k) = kk at *
                      go_wp2_with fail
                      go_loop [18, 19] (fun x i => ∃ t u : Nat, t + u = 4 ∧ i = .int .i64 ((u : Int) - 1) ∧ x = .int .u32 (wdTo B kk t)) (fun _ i => ((intOf i) + 1).toNat)
                      case atStart => exact ⟨0, 4, by omega, rfl, rfl⟩
                      case round =>
                        obtain ⟨t, u, htu, rfl, rfl⟩ := hrel
                        cases u with
                        | zero =>
                          obtain rfl : t = 4 := by omega
                          rw [show (((0 : Nat) : Int) - 1) = (-1 : Int) by omega]
                          go_wp2_with fail
                          refine (turn_any _ _ _ htr0 htr1).mono ?_
                          rintro e wt ⟨rfl, nt, hwt⟩
                          subst hwt
                          go_wp2
                          refine ⟨⟨k + 1, by omega, by go_num, ?_⟩, by simp [intOf]; omega⟩
                          rw [HXs.out]
                          exact ⟨rfl, rfl, rfl, rfl, below_drewN HBb.out _⟩
                        | succ u =>
                          rw [show (((u + 1 : Nat) : Int) - 1) = (u : Int) by omega]
                          have cu : wb.cell? ⟨lb, loff + (64 * q + 4 * kk + u), none⟩ = some (.int .u8 (B (4 * kk + u))) := by
                            rw [show 64 * q + 4 * kk + u = 64 * q + (4 * kk + u) by omega]
                            exact (HBb.out.cell (by show lb < w8.heap.size; omega)).trans (HL8.out _ (by omega))
                          have hu : 64 * q + 4 * kk + u < 64 * M := by omega
                          have hu4 : u < 4 := by omega
                          have ht4 : t = 3 - u := by omega
                          have HTT : Hid (t = 3 - u) := ht4
                          clear ht4 htu
                          have HW1 : Hid (wdTo B kk (t + 1) = (256 * wdTo B kk t % 4294967296 + B (4 * kk + u) % 4294967296) % 4294967296) := by
                            show _ = _
                            rw [wdTo, show 3 - t = u by have := HTT.out; omega]
                          go_wp2
                          exact ⟨⟨t + 1, u, by have := HTT.out; omega, rfl, by rw [HW1.out]⟩, by simp [intOf]⟩
                    · obtain rfl : k = 16 := by omega
                      go_wp2
                      exact ⟨⟨r + 1, by omega, by go_num, by rw [show 16 * (r + 1) = 16 * r + 16 by omega]; exact ⟨rfl, rfl, rfl, rfl, hX.out⟩⟩, by simp [intOf]; omega⟩
                · obtain rfl : r = 4 := by omega
                  have HH9 : Hid (w9.heap[w6.heap.size]? = some (.cells (Md.stA s0) 150 (0, 0))) := (hX.out.block _ hl8).trans HH8.out
                  have HB9 : Hid (Below w6.heap.size w6 w9) := HB8.out.trans (hX.out.mono (by omega))
                  obtain ⟨b0, b1, b2, b3, f0, f1, f2, f3⟩ := four32 HH9.out
                  clear hX a0 a1 a2 a3
                  have HM6 : Hid (Md.mixN Md.st0 P (q + 1) = ⟨(s0.a + (Md.runTo B (16 * 4) s0).a) % 4294967296, (s0.b + (Md.runTo B (16 * 4) s0).b) % 4294967296, (s0.c + (Md.runTo B (16 * 4) s0).c) % 4294967296, (s0.d + (Md.runTo B (16 * 4) s0).d) % 4294967296⟩) := by rw [HQ.out]; rfl
                  generalize Md.runTo B (16 * 4) s0 = s4 at *
                  go_wp2_with fail
                  go_region
                  all_goals go_wp2
                  all_goals
                    have hset := set32 (s' := ⟨(s0.a + s4.a) % 4294967296, (s0.b + s4.b) % 4294967296, (s0.c + s4.c) % 4294967296, (s0.d + s4.d) % 4294967296⟩) HH9.out
                    exact ⟨⟨q + 1, by omega, by go_num, by rw [HM6.out]; exact hset.1, (hset.2 _ _ (Nat.le_refl _) HB9.out).drew⟩, by simp [intOf]; omega⟩
            · obtain rfl : q = M := by omega
              have hdq : decide (64 * (q : Int) < 64 * (q : Int)) = false := by simp
              have HH8 : Hid (w8.heap[w6.heap.size]? = some (.cells (Md.stA (Md.mixN Md.st0 P q)) 150 (0, 0))) := hX.out.1
              have HB8 : Hid (Below w.heap.size w w8) := HB6.out.trans (hX.out.2.mono HB6.out.size)
              have hl8 : w6.heap.size < w8.heap.size := block_lt_of_cell (cell_of_row w8 _ 0 _ _ _ HH8.out)
              clear hX HLC HT6
              generalize hsF : Md.mixN Md.st0 P q = sF at *
              have HSF : Hid (Md.mixN Md.st0 P q = sF) := hsF
              clear hsF
              go_wp2_with fail
              go_loopw [21, 160] (fun v i wr => ∃ j : Nat, j ≤ 4 ∧ i = .int .i64 j ∧ Hid (wr.ownsRow w8.heap.size 5 1 v (4 * j) (bytesL (4 * j) (Md.dg sF)) ∧ Below w8.heap.size w8 wr)) (fun _ i _ => 4 - (intOf i).toNat)
              case atStart => exact ⟨0, by omega, rfl, World.ownsRow_nil _ _ _ _, Below.refl _ _⟩
              case round =>
                obtain ⟨j, hj, rfl, hX⟩ := hrel
                rename World => w9
                by_cases hjlt : j < 4
                · have hdj : decide ((j : Int) < 4) = true := by simp; omega
                  have cj : w9.cell? ⟨w6.heap.size, j, none⟩ = some (.int .u32 (Md.wordOf sF j)) := by
                    rw [hX.out.2.cell (by exact hl8), cell_of_row w8 _ j _ _ _ HH8.out]
                    rcases (show j = 0 ∨ j = 1 ∨ j = 2 ∨ j = 3 by omega) with rfl | rfl | rfl | rfl <;> rfl
                  have HDG : Hid (∀ t, t < 4 → Md.wordOf sF j / 2 ^ (8 * t) % 256 = Md.dg sF (4 * j + t)) := fun t ht => by
                    unfold Md.dg
                    rw [show (4 * j + t) / 4 = j by omega, show (4 * j + t) % 4 = t by omega]
                  generalize Md.wordOf sF j = x at *
                  go_wp2_with fail
                  go_loopw [21, 24] (fun v i wr => ∃ t : Nat, t ≤ 4 ∧ i = .int .i64 t ∧ Hid (wr.ownsRow w8.heap.size 5 1 v (4 * j + t) (bytesL (4 * j + t) (Md.dg sF)) ∧ Below w8.heap.size w8 wr)) (fun _ i _ => 4 - (intOf i).toNat)
                  case atStart => exact ⟨0, by omega, rfl, hX.out.1, hX.out.2⟩
                  case round =>
                    clear hX
                    obtain ⟨t, ht, rfl, hX⟩ := hrel
                    by_cases htlt : t < 4
                    · have HZ : Hid (x / 2 ^ (8 * t) % 256 = Md.dg sF (4 * j + t)) := HDG.out t htlt
                      go_wp2_with (at_builtin; refine wpList_append_byte rfl (.tmp 168) (.tmp 174) rfl w8.heap.size _ (4 * j + t) (Md.dg sF) rfl _ hX.out.1 hX.out.2.size rfl HZ.out (by omega) ?_; intro v3 w3 ho3 hb3; have HO3 : Hid _ := ho3; have HB3 : Hid (Below w8.heap.size w8 w3) := hX.out.2.trans hb3; clear ho3 hb3)
                      exact ⟨⟨t + 1, by omega, by go_num, HO3.out, HB3.out⟩, by simp [intOf]; omega⟩
                    · obtain rfl : t = 4 := by omega
                      go_wp2
                      exact ⟨⟨j + 1, by omega, by go_num, by rw [show 4 * (j + 1) = 4 * j + 4 by omega]; exact hX.out.1, hX.out.2⟩, by simp [intOf]; omega⟩
                · obtain rfl : j = 4 := by omega
                  obtain ⟨ro, rcap, rfl, hrr⟩ := owns_shape hX.out.1
                  have HRR : Hid (ByteRow w9 ro 16 rcap (Md.dg sF)) := hrr
                  clear hrr
                  go_wp2
                  go_ret
                  exact ⟨ro, rcap, rfl, by rw [HSF.out]; exact HRR.out, HB8.out.trans (hX.out.2.mono HB8.out.size)⟩
    · have hd : ((L : Int) % 64 != 56) = true := by simp; omega
      have HZ : Hid (0 = P L) := (HPz.out L (by omega) (by omega)).symm
      go_wp2_with (at_builtin; refine wpList_append_byte rfl (.tmp 35) (.tmp 36) rfl w.heap.size _ L P rfl 0 hX.out.1 hX.out.2.size rfl HZ.out (by omega) ?_; intro v3 w3 ho3 hb3; obtain ⟨lo3, lc3, rfl, hr3⟩ := owns_shape ho3; have HO3 : Hid _ := ho3; have HB3 : Hid (Below w.heap.size w w3) := hX.out.2.trans hb3; clear ho3 hb3 hr3)
      exact ⟨⟨L + 1, by omega, by omega, HO3.out, HB3.out⟩, by simp [lenV]; omega⟩
end Go.Proofs.YtcbpafpaimpfnaaGreatDoor

namespace Go.Proofs.YtcbpafpaimpfnaaGreatDoor
open Go.RowKit

def cat64 (f g : Nat → Int) (i : Nat) : Int := if i < 64 then f i else g (i - 64)
theorem fin_cat (f bs : Nat → Int) (n : Nat) : Md.fin Md.st0 0 (64 + n) (cat64 f bs) = Md.fin (Md.mixS Md.st0 f) 64 n bs := by
  unfold Md.fin
  have e1 : (64 + n) / 64 = 1 + n / 64 := by omega
  have e2 : (64 + n) % 64 = n % 64 := by omega
  rw [e1, e2, Md.mixN_add]
  have e3 : Md.mixN Md.st0 (cat64 f bs) 1 = Md.mixS Md.st0 f := Md.mixS_congr _ _ (fun j hj => by simp [cat64, hj]) _
  have e4 : (fun i => cat64 f bs (64 * 1 + i)) = bs := by
    funext i
    unfold cat64
    rw [if_neg (by omega), show 64 * 1 + i - 64 = i by omega]
  have e5 : (fun i => cat64 f bs (64 * (1 + n / 64) + i)) = (fun i => bs (64 * (n / 64) + i)) := by
    funext i
    unfold cat64
    rw [if_neg (by omega), show 64 * (1 + n / 64) + i - 64 = 64 * (n / 64) + i by omega]
  rw [e3, e4, e5]
  have e6 : (((0 : Nat) : Int) + ((64 + n : Nat) : Int)) * 8 = (((64 : Nat) : Int) + (n : Int)) * 8 := by omega
  rw [e6]

theorem xk_range (K : Nat → Int) (m : Int) (i : Nat) : 0 ≤ Md.xk K m i ∧ Md.xk K m i ≤ 255 := ⟨bits_lo_u8 _ _ _, bits_hi_u8 _ _ _⟩
theorem dg_range (s : Md.St) (i : Nat) : 0 ≤ Md.dg s i ∧ Md.dg s i ≤ 255 := by
  unfold Md.dg
  have h1 := Int.emod_nonneg (Md.wordOf s (i / 4) / 2 ^ (8 * (i % 4))) (show (256 : Int) ≠ 0 by decide)
  have h2 := Int.emod_lt_of_pos (Md.wordOf s (i / 4) / 2 ^ (8 * (i % 4))) (show (0 : Int) < 256 by decide)
  omega
theorem cat_list (f bs : Nat → Int) (n : Nat) : bytesL 64 f ++ bytesL n bs = bytesL (64 + n) (cat64 f bs) := by
  apply List.ext_getElem?
  intro i
  by_cases h1 : i < 64
  · rw [List.getElem?_append_left (by simpa [bytesL_length] using h1)]
    simp [bytesL, cat64, h1, show i < 64 + n by omega]
  · rw [List.getElem?_append_right (by simp [bytesL_length]; omega), bytesL_length]
    by_cases h2 : i < 64 + n
    · simp [bytesL, cat64, h1, h2, show i - 64 < n by omega]
    · simp [bytesL, h2, show ¬ i - 64 < n by omega]

/-- One byte more: and the row is the old one, or a new one. -/
theorem wpList_append_byte2 {w : World} {ops : Array Oper} {rest : List Oper} {o : Oper} {a : Act} {Q : Exit → Act → World → Prop} (hgd : o.guard = none) (s x : Operand)
    (ho : o.op = .call { callee := .builtin .append, args := #[s, x], argTypes := #[93, 93] }) (base : Nat)
    (v : Value) (n : Nat) (P : Nat → Int) (hs : a.eval s = v) (y : Int) (hown : w.ownsRow base 5 1 v n (bytesL n P)) (hbase : base ≤ w.heap.size)
    (hx : a.eval x = .slice (some ⟨w.heap.size, 0, none⟩) 1 1) (hy : y = P n) (hb : n + 1 ≤ 1000)
    (h : ∀ v' w', w'.ownsRow base 5 1 v' (n + 1) (bytesL (n + 1) P) → w.grownBy w' v.ownBlock → (v'.ownBlock = v.ownBlock ∨ ∃ g, v'.ownBlock = some g ∧ w.heap.size ≤ g) → wpList Tryz.prog ops Q rest (a.put o.dst v') w') : wpList Tryz.prog ops Q (o :: rest) a (w.alloc (.cells #[.int .u8 y] 5)) := by
  obtain ⟨i0, hi, hz0, hz1, hz2⟩ := info_parts info5
  refine wpList_plain hgd fun K hK => ?_
  have hnews : ∀ j u, ([Value.int .u8 y] : List Value)[j]? = some u → (w.alloc (.cells #[.int .u8 y] 5)).cell? ((⟨w.heap.size, 0, none⟩ : Addr).add j) = some u := cell_one_new _ _ _
  obtain ⟨v', w', hr, h2, h3, _⟩ := run_append_own (P := Tryz.prog) (w.alloc (.cells #[.int .u8 y] 5)) base 93 o.type 5 i0 (.int .u8 0) 1 1 Tryz.underlying93 hi hz0 hz1 hz2 rfl (by decide) v n _ (hown.alloc _) ⟨w.heap.size, 0, none⟩ 1 1 [.int .u8 y] rfl hnews (by simp [Value.oneCell']) (by unfold maxLen; omega) (by omega) (by simp; omega)
  have hblk : v'.ownBlock = v.ownBlock ∨ ∃ g, v'.ownBlock = some g ∧ w.heap.size ≤ g := by
    have hown2 := hown.alloc (.cells #[.int .u8 y] 5)
    rcases hown2.2 with ⟨rfl, rfl⟩ | ⟨g, cap, cur, rfl, hbg, hg, hnc, hcm, hcs, htake⟩
    · have e := run_append_nil (P := Tryz.prog) (w.alloc (.cells #[.int .u8 y] 5)) 93 o.type 5 i0 (.int .u8 0) Tryz.underlying93 hi hz0 ⟨w.heap.size, 0, none⟩ 1 1 [.int .u8 y] (by rw [hz1]; rfl) hnews (by omega) (by omega) (by rw [hz2]; omega)
      rw [hr] at e
      injection e with e1 e2
      right
      rw [e1]
      exact ⟨_, rfl, by simp⟩
    · by_cases hroom : n + 1 ≤ cap
      · have e := run_append_room (P := Tryz.prog) (w.alloc (.cells #[.int .u8 y] 5)) 93 o.type 5 i0 Tryz.underlying93 hi g n cap cur hg ⟨w.heap.size, 0, none⟩ 1 1 [.int .u8 y] (by rw [hz1]; rfl) hnews (by simp [Value.oneCell']) hroom (by rw [hz1]; simp; omega)
        rw [hr] at e
        injection e with e1 e2
        left
        rw [e1]
        rfl
      · have e := run_append_grow (P := Tryz.prog) (w.alloc (.cells #[.int .u8 y] 5)) 93 o.type 5 i0 (.int .u8 0) Tryz.underlying93 hi hz0 ⟨g, 0, none⟩ n cap (bytesL n P) (by rw [hz1, bytesL_length]; omega) (hown2.cells (g := g) rfl) ⟨w.heap.size, 0, none⟩ 1 1 [.int .u8 y] (by rw [hz1]; rfl) hnews (by omega) (by omega) (growslice_fits (by omega) (by rw [hz2]; omega))
        rw [hr] at e
        injection e with e1 e2
        right
        rw [e1]
        exact ⟨_, rfl, by simp⟩
  unfold Oper.wp
  simp [execOp, ho, resolve, invoke, builtin, hs, hx, hr, Result.andThen]
  refine hK _ _ (h v' w' ?_ ?_ hblk)
  · rw [show bytesL (n + 1) P = bytesL n P ++ [.int .u8 y] by rw [hy]; simp [bytesL, List.range_succ]]
    exact h2
  · exact ⟨h3.os, h3.tape, h3.output, Nat.le_trans (by simp) h3.size, fun k hk hne => (h3.block k (by simp; omega) hne).trans (Below.heap_alloc w _ k hk)⟩
end Go.Proofs.YtcbpafpaimpfnaaGreatDoor

namespace Go.Proofs.YtcbpafpaimpfnaaGreatDoor
open Go.RowKit

/-- What the loop of Mac carries: two rows of the call's own, apart from each other. -/
structure Two (base : Nat) (K : Nat → Int) (WB w : World) (vi vo : Value) (j : Nat) : Prop where
  inn : w.ownsRow base 5 1 vi j (bytesL j (Md.xk K 54))
  out : w.ownsRow base 5 1 vo j (bytesL j (Md.xk K 92))
  apart : ∀ g, vi.ownBlock = some g → vo.ownBlock ≠ some g
  low : Below base WB w

theorem own_lt {w : World} {base n : Nat} {v : Value} {xs : List Value} (h : w.ownsRow base 5 1 v n xs) (g : Nat) (hg : v.ownBlock = some g) : base ≤ g ∧ g < w.heap.size := h.lt g hg

/-- Behind the append onto the first row. -/
theorem two_inn {base : Nat} {K : Nat → Int} {WB w w' : World} {vi vo vi' : Value} {j : Nat} (h : Two base K WB w vi vo j) (hb : base ≤ w.heap.size) (h1 : w'.ownsRow base 5 1 vi' (j + 1) (bytesL (j + 1) (Md.xk K 54))) (hg : w.grownBy w' vi.ownBlock) (hk : vi'.ownBlock = vi.ownBlock ∨ ∃ g, vi'.ownBlock = some g ∧ w.heap.size ≤ g) :
    w'.ownsRow base 5 1 vi' (j + 1) (bytesL (j + 1) (Md.xk K 54)) ∧ w'.ownsRow base 5 1 vo j (bytesL j (Md.xk K 92)) ∧ (∀ g, vi'.ownBlock = some g → vo.ownBlock ≠ some g) ∧ Below base WB w' ∧ base ≤ w'.heap.size := by
  refine ⟨h1, h.out.kept hg ?_, ?_, h.low.grown hg hb (fun k hk => (own_lt h.inn k hk).1), Nat.le_trans hb hg.size⟩
  · cases hv : vo.ownBlock with
    | none => exact Or.inl rfl
    | some g => exact Or.inr (fun e => h.apart g e.symm hv)
  · intro g h2 h3
    rcases hk with e | ⟨g', e, hge⟩
    · exact h.apart g (e ▸ h2) h3
    · rw [e] at h2
      cases h2
      have := (own_lt h.out g h3).2
      omega

/-- Behind the append onto the second row. -/
theorem two_out {base : Nat} {K : Nat → Int} {WB w w' : World} {vi vo vo' : Value} {j : Nat} (hi : w.ownsRow base 5 1 vi (j + 1) (bytesL (j + 1) (Md.xk K 54))) (hap : ∀ g, vi.ownBlock = some g → vo.ownBlock ≠ some g) (ho : w.ownsRow base 5 1 vo j (bytesL j (Md.xk K 92))) (hl : Below base WB w) (hb : base ≤ w.heap.size) (h1 : w'.ownsRow base 5 1 vo' (j + 1) (bytesL (j + 1) (Md.xk K 92))) (hg : w.grownBy w' vo.ownBlock) (hk : vo'.ownBlock = vo.ownBlock ∨ ∃ g, vo'.ownBlock = some g ∧ w.heap.size ≤ g) :
    Two base K WB w' vi vo' (j + 1) := by
  refine ⟨hi.kept hg ?_, h1, ?_, hl.grown hg hb (fun k hk => (own_lt ho k hk).1)⟩
  · cases hv : vi.ownBlock with
    | none => exact Or.inl rfl
    | some g => exact Or.inr (fun e => hap g hv e.symm)
  · intro g h2 h3
    rcases hk with e | ⟨g', e, hge⟩
    · exact hap g h2 (e ▸ h3)
    · rw [e] at h3
      cases h3
      have := (own_lt hi g h2).2
      omega

theorem cat_range {bs : Nat → Int} {K : Nat → Int} {m : Int} {n : Nat} (hf : ∀ i, i < n → 0 ≤ bs i ∧ bs i ≤ 255) (i : Nat) (hi : i < 64 + n) : 0 ≤ cat64 (Md.xk K m) bs i ∧ cat64 (Md.xk K m) bs i ≤ 255 := by
  unfold cat64
  by_cases h : i < 64
  · rw [if_pos h]; exact xk_range K m i
  · rw [if_neg h]; exact hf _ (by omega)
theorem apart_or {vi vo : Value} (h : ∀ g, vi.ownBlock = some g → vo.ownBlock ≠ some g) : vo.ownBlock = none ∨ vo.ownBlock ≠ vi.ownBlock := by
  cases hv : vo.ownBlock with
  | none => exact Or.inl rfl
  | some g => exact Or.inr (fun e => h g e.symm hv)

set_option maxRecDepth 100000 in
set_option maxHeartbeats 4000000 in
theorem rmac_small (ko ao : Option Addr) (kn kcap n cap : Nat) (kbs bs : Nat → Int) (w : World) (hk : ByteRow w ko kn kcap kbs) (hr : ByteRow w ao n cap bs) (hnil : ao = none → n = 0 ∧ cap = 0) (hn : n ≤ 140737488351232) (hrange : ∀ i, i < n → 0 ≤ bs i ∧ bs i ≤ 255) (hs : kn ≤ 64) :
    Calls Tryz.prog 78 #[.slice ko kn kcap, .slice ao n cap] w fun e w' => ∃ ro rcap, e = .returned (.slice ro 16 rcap) ∧ ByteRow w' ro 16 rcap (Md.dg (Md.mac kn kbs n bs)) ∧ Below w.heap.size w w' := by
  have HKR : Hid (ByteRow w ko kn kcap kbs) := hk
  have HRB : Hid (ByteRow w ao n cap bs) := hr
  have HNIL : Hid _ := hnil
  have HBR : Hid _ := hrange
  have HWB : Hid (Below w.heap.size w w) := Below.refl _ _
  obtain ⟨K, HK⟩ : ∃ K, Hid (K = Md.kb kn kbs) := ⟨_, rfl⟩
  have HKf : Hid (∀ i, (if i < kn then kbs i else 0) = K i) := fun i => by rw [HK.out]; unfold Md.kb; rw [if_pos hs]
  have HMAC : Hid (Md.mac kn kbs n bs = Md.fin (Md.mixS Md.st0 (Md.xk K 92)) 64 16 (Md.dg (Md.fin (Md.mixS Md.st0 (Md.xk K 54)) 64 n bs))) := by rw [HK.out]; rfl
  clear hk hr hnil hrange HK
  go_enter Tryz.func78, Tryz.ntmps78
  go_wp2_with fail
  go_loopw [5, 6, 7] (fun vi vo i wr => ∃ j : Nat, j ≤ 64 ∧ i = .int .i64 j ∧ Hid (Two w.heap.size K w wr vi vo j)) (fun _ _ i _ => 64 - (intOf i).toNat)
  case atStart => exact ⟨0, by omega, rfl, World.ownsRow_nil _ _ _ _, World.ownsRow_nil _ _ _ _, fun g h => by simp [Value.ownBlock] at h, Below.refl _ _⟩
  case round =>
      obtain ⟨j, hj, rfl, hX⟩ := hrel
      rename World => w3
      by_cases hlt : j < 64
      · have HZ1 : Hid (bits BinOp.xor IntKind.u8 (K j) 54 = Md.xk K 54 j) := rfl
        have HZ2 : Hid (bits BinOp.xor IntKind.u8 (K j) 92 = Md.xk K 92 j) := rfl
        have HKJ : Hid ((if j < kn then kbs j else 0) = K j) := HKf.out j
        by_cases hin : j < kn
        · obtain ⟨kb, koff, rfl, hkb, hkc⟩ := HKR.out.2 (by omega)
          have cj : w3.cell? ⟨kb, koff + j, none⟩ = some (.int .u8 (K j)) := by
            rw [hX.out.low.cell (by exact hkb), hkc j hin]
            have h1 := HKJ.out
            rw [if_pos hin] at h1
            rw [h1]
          clear HKJ hkc
          generalize K j = kj at *
          go_wp2_with (first | (at_builtin; refine wpList_append_byte2 rfl (.tmp 26) (.tmp 29) rfl w.heap.size _ j (Md.xk K 54) rfl _ hX.out.inn hX.out.low.size rfl HZ1.out (by omega) ?_; intro v4 w4 ho4 hg4 hk4; obtain ⟨hi4, hoo4, hap4, hlow4, hsz4⟩ := two_inn hX.out hX.out.low.size ho4 hg4 hk4; have HI4 : Hid _ := hi4; have HOO4 : Hid _ := hoo4; have HAP4 : Hid _ := hap4; have HLOW4 : Hid (Below w.heap.size w w4) := hlow4; clear ho4 hg4 hk4 hi4 hoo4 hap4 hlow4 hsz4) | (at_builtin; refine wpList_append_byte2 rfl (.tmp 31) (.tmp 34) rfl w.heap.size _ j (Md.xk K 92) rfl _ HOO4.out HLOW4.out.size rfl HZ2.out (by omega) ?_; intro v5 w5 ho5 hg5 hk5; have h5 := two_out HI4.out HAP4.out HOO4.out HLOW4.out HLOW4.out.size ho5 hg5 hk5; have H5 : Hid (Two w.heap.size K w w5 v4 v5 (j + 1)) := h5; clear ho5 hg5 hk5 h5))
          exact ⟨⟨j + 1, by omega, by go_num, H5.out⟩, by simp [intOf]; omega⟩
        · have hkj : K j = 0 := by
            have h1 := HKJ.out
            rw [if_neg hin] at h1
            exact h1.symm
          rw [hkj] at HZ1 HZ2
          clear HKJ hkj
          go_wp2_with (first | (at_builtin; refine wpList_append_byte2 rfl (.tmp 26) (.tmp 29) rfl w.heap.size _ j (Md.xk K 54) rfl _ hX.out.inn hX.out.low.size rfl HZ1.out (by omega) ?_; intro v4 w4 ho4 hg4 hk4; obtain ⟨hi4, hoo4, hap4, hlow4, hsz4⟩ := two_inn hX.out hX.out.low.size ho4 hg4 hk4; have HI4 : Hid _ := hi4; have HOO4 : Hid _ := hoo4; have HAP4 : Hid _ := hap4; have HLOW4 : Hid (Below w.heap.size w w4) := hlow4; clear ho4 hg4 hk4 hi4 hoo4 hap4 hlow4 hsz4) | (at_builtin; refine wpList_append_byte2 rfl (.tmp 31) (.tmp 34) rfl w.heap.size _ j (Md.xk K 92) rfl _ HOO4.out HLOW4.out.size rfl HZ2.out (by omega) ?_; intro v5 w5 ho5 hg5 hk5; have h5 := two_out HI4.out HAP4.out HOO4.out HLOW4.out HLOW4.out.size ho5 hg5 hk5; have H5 : Hid (Two w.heap.size K w w5 v4 v5 (j + 1)) := h5; clear ho5 hg5 hk5 h5))
          exact ⟨⟨j + 1, by omega, by go_num, H5.out⟩, by simp [intOf]; omega⟩
      · obtain rfl : j = 64 := by omega
        have HI3 : Hid (w3.ownsRow w.heap.size 5 1 _ 64 (bytesL 64 (Md.xk K 54))) := hX.out.inn
        have HO3 : Hid (w3.ownsRow w.heap.size 5 1 _ 64 (bytesL 64 (Md.xk K 92))) := hX.out.out
        have HAP : Hid _ := hX.out.apart
        have HL3 : Hid (Below w.heap.size w w3) := hX.out.low
        have HR3 : Hid (ByteRow w3 ao n cap bs) := HRB.out.below HL3.out
        clear hX
        go_wp2_with (at_builtin; refine wpList_append_bytes rfl (.tmp 37) (.tmp 38) rfl w.heap.size _ 64 _ rfl HI3.out ao n cap bs rfl HR3.out HNIL.out (by omega) HL3.out.size ?_; intro v6 w6 ho6 hg6; have HO6 : Hid _ := HO3.out.kept hg6 (apart_or HAP.out); have hl6 : Below w.heap.size w w6 := HL3.out.grown hg6 HL3.out.size (fun k hk => (own_lt HI3.out k hk).1); rw [cat_list] at ho6; obtain ⟨io, ic, rfl, hir⟩ := owns_shape ho6; have HIR : Hid (ByteRow w6 io (64 + n) ic (cat64 (Md.xk K 54) bs)) := hir; have HL6 : Hid (Below w.heap.size w w6) := hl6; clear ho6 hg6 hir hl6)
        refine (rsum_any io (64 + n) ic _ _ HIR.out (fun h => absurd (HIR.out.2 (by omega)) (by subst h; rintro ⟨b, off, h2, _⟩; cases h2)) (by omega) (fun i _ => cat_range HBR.out i (by assumption))).mono ?_
        rintro e w7 ⟨ro, rcap, rfl, hr7, hb7⟩
        rw [Md.sum_same, fin_cat] at hr7
        have HR7 : Hid (ByteRow w7 ro 16 rcap _) := hr7
        have HO7 : Hid _ := owns_below HO6.out hb7
        have HL7 : Hid (Below w.heap.size w w7) := HL6.out.trans (hb7.mono HL6.out.size)
        clear hr7 hb7 HIR HO6 HL6
        go_wp2_with (at_builtin; refine wpList_append_bytes rfl (.tmp 36) (.tmp 40) rfl w.heap.size _ 64 _ rfl HO7.out ro 16 rcap _ rfl HR7.out (fun h => absurd (HR7.out.2 (by omega)) (by subst h; rintro ⟨b, off, h2, _⟩; cases h2)) (by omega) HL7.out.size ?_; intro v8 w8 ho8 hg8; have hl8 : Below w.heap.size w w8 := HL7.out.grown hg8 HL7.out.size (fun k hk => (own_lt HO7.out k hk).1); rw [cat_list] at ho8; obtain ⟨oo, oc, rfl, hor⟩ := owns_shape ho8; have HOR : Hid (ByteRow w8 oo (64 + 16) oc _) := hor; have HL8 : Hid (Below w.heap.size w w8) := hl8; clear ho8 hg8 hor hl8)
        refine (rsum_any oo (64 + 16) oc _ _ HOR.out (fun h => absurd (HOR.out.2 (by omega)) (by subst h; rintro ⟨b, off, h2, _⟩; cases h2)) (by omega) (fun i _ => cat_range (fun i _ => dg_range _ i) i (by assumption))).mono ?_
        rintro e w9 ⟨po, pcap, rfl, hr9, hb9⟩
        rw [Md.sum_same, fin_cat] at hr9
        have HR9 : Hid (ByteRow w9 po 16 pcap _) := hr9
        have HL9 : Hid (Below w.heap.size w w9) := HL8.out.trans (hb9.mono HL8.out.size)
        clear hr9 hb9
        go_wp2
        go_ret
        exact ⟨po, pcap, rfl, by rw [HMAC.out]; exact HR9.out, HWB.out.trans (HL9.out.mono HWB.out.size)⟩

set_option maxRecDepth 100000 in
set_option maxHeartbeats 4000000 in
theorem rmac_big (ko ao : Option Addr) (kn kcap n cap : Nat) (kbs bs : Nat → Int) (w : World) (hk : ByteRow w ko kn kcap kbs) (hr : ByteRow w ao n cap bs) (hknil : ko = none → kn = 0 ∧ kcap = 0) (hnil : ao = none → n = 0 ∧ cap = 0) (hkn : kn ≤ 140737488351232) (hn : n ≤ 140737488351232) (hkrange : ∀ i, i < kn → 0 ≤ kbs i ∧ kbs i ≤ 255) (hrange : ∀ i, i < n → 0 ≤ bs i ∧ bs i ≤ 255) (hs : 64 < kn) :
    Calls Tryz.prog 78 #[.slice ko kn kcap, .slice ao n cap] w fun e w' => ∃ ro rcap, e = .returned (.slice ro 16 rcap) ∧ ByteRow w' ro 16 rcap (Md.dg (Md.mac kn kbs n bs)) ∧ Below w.heap.size w w' := by
  have HK0 : Hid (ByteRow w ko kn kcap kbs) := hk
  have HR0 : Hid (ByteRow w ao n cap bs) := hr
  have HKN : Hid _ := hknil
  have HKG : Hid _ := hkrange
  have HNIL : Hid _ := hnil
  have HBR : Hid _ := hrange
  obtain ⟨K, HK⟩ : ∃ K, Hid (K = Md.kb kn kbs) := ⟨_, rfl⟩
  have HKf : Hid (∀ i, (if i < 16 then Md.dg (Md.fin Md.st0 0 kn kbs) i else 0) = K i) := fun i => by rw [HK.out]; unfold Md.kb; rw [if_neg (show ¬ kn ≤ 64 by omega)]
  have HMAC : Hid (Md.mac kn kbs n bs = Md.fin (Md.mixS Md.st0 (Md.xk K 92)) 64 16 (Md.dg (Md.fin (Md.mixS Md.st0 (Md.xk K 54)) 64 n bs))) := by rw [HK.out]; rfl
  clear hk hr hnil hrange HK hknil hkrange
  go_enter Tryz.func78, Tryz.ntmps78
  go_wp2_with fail
  refine (rsum_any ko kn kcap kbs _ HK0.out HKN.out (by omega) HKG.out).mono ?_
  rintro e wk ⟨kp, kq, rfl, hrk, hbk⟩
  rw [Md.sum_same] at hrk
  have HKR : Hid (ByteRow wk kp 16 kq (Md.dg (Md.fin Md.st0 0 kn kbs))) := hrk
  have HWB : Hid (Below w.heap.size w wk) := hbk
  have HRB : Hid (ByteRow wk ao n cap bs) := HR0.out.below hbk
  clear hrk hbk HK0 HR0 HKN HKG
  go_wp2_with fail
  go_loopw [5, 6, 7] (fun vi vo i wr => ∃ j : Nat, j ≤ 64 ∧ i = .int .i64 j ∧ Hid (Two wk.heap.size K wk wr vi vo j)) (fun _ _ i _ => 64 - (intOf i).toNat)
  case atStart => exact ⟨0, by omega, rfl, World.ownsRow_nil _ _ _ _, World.ownsRow_nil _ _ _ _, fun g h => by simp [Value.ownBlock] at h, Below.refl _ _⟩
  case round =>
      obtain ⟨j, hj, rfl, hX⟩ := hrel
      rename World => w3
      by_cases hlt : j < 64
      · have HZ1 : Hid (bits BinOp.xor IntKind.u8 (K j) 54 = Md.xk K 54 j) := rfl
        have HZ2 : Hid (bits BinOp.xor IntKind.u8 (K j) 92 = Md.xk K 92 j) := rfl
        have HKJ : Hid ((if j < 16 then (Md.dg (Md.fin Md.st0 0 kn kbs)) j else 0) = K j) := HKf.out j
        by_cases hin : j < 16
        · obtain ⟨kb, koff, rfl, hkb, hkc⟩ := HKR.out.2 (by omega)
          have cj : w3.cell? ⟨kb, koff + j, none⟩ = some (.int .u8 (K j)) := by
            rw [hX.out.low.cell (by exact hkb), hkc j hin]
            have h1 := HKJ.out
            rw [if_pos hin] at h1
            rw [h1]
          clear HKJ hkc
          generalize K j = kj at *
          go_wp2_with (first | (at_builtin; refine wpList_append_byte2 rfl (.tmp 26) (.tmp 29) rfl wk.heap.size _ j (Md.xk K 54) rfl _ hX.out.inn hX.out.low.size rfl HZ1.out (by omega) ?_; intro v4 w4 ho4 hg4 hk4; obtain ⟨hi4, hoo4, hap4, hlow4, hsz4⟩ := two_inn hX.out hX.out.low.size ho4 hg4 hk4; have HI4 : Hid _ := hi4; have HOO4 : Hid _ := hoo4; have HAP4 : Hid _ := hap4; have HLOW4 : Hid (Below wk.heap.size wk w4) := hlow4; clear ho4 hg4 hk4 hi4 hoo4 hap4 hlow4 hsz4) | (at_builtin; refine wpList_append_byte2 rfl (.tmp 31) (.tmp 34) rfl wk.heap.size _ j (Md.xk K 92) rfl _ HOO4.out HLOW4.out.size rfl HZ2.out (by omega) ?_; intro v5 w5 ho5 hg5 hk5; have h5 := two_out HI4.out HAP4.out HOO4.out HLOW4.out HLOW4.out.size ho5 hg5 hk5; have H5 : Hid (Two wk.heap.size K wk w5 v4 v5 (j + 1)) := h5; clear ho5 hg5 hk5 h5))
          exact ⟨⟨j + 1, by omega, by go_num, H5.out⟩, by simp [intOf]; omega⟩
        · have hkj : K j = 0 := by
            have h1 := HKJ.out
            rw [if_neg hin] at h1
            exact h1.symm
          rw [hkj] at HZ1 HZ2
          clear HKJ hkj
          go_wp2_with (first | (at_builtin; refine wpList_append_byte2 rfl (.tmp 26) (.tmp 29) rfl wk.heap.size _ j (Md.xk K 54) rfl _ hX.out.inn hX.out.low.size rfl HZ1.out (by omega) ?_; intro v4 w4 ho4 hg4 hk4; obtain ⟨hi4, hoo4, hap4, hlow4, hsz4⟩ := two_inn hX.out hX.out.low.size ho4 hg4 hk4; have HI4 : Hid _ := hi4; have HOO4 : Hid _ := hoo4; have HAP4 : Hid _ := hap4; have HLOW4 : Hid (Below wk.heap.size wk w4) := hlow4; clear ho4 hg4 hk4 hi4 hoo4 hap4 hlow4 hsz4) | (at_builtin; refine wpList_append_byte2 rfl (.tmp 31) (.tmp 34) rfl wk.heap.size _ j (Md.xk K 92) rfl _ HOO4.out HLOW4.out.size rfl HZ2.out (by omega) ?_; intro v5 w5 ho5 hg5 hk5; have h5 := two_out HI4.out HAP4.out HOO4.out HLOW4.out HLOW4.out.size ho5 hg5 hk5; have H5 : Hid (Two wk.heap.size K wk w5 v4 v5 (j + 1)) := h5; clear ho5 hg5 hk5 h5))
          exact ⟨⟨j + 1, by omega, by go_num, H5.out⟩, by simp [intOf]; omega⟩
      · obtain rfl : j = 64 := by omega
        have HI3 : Hid (w3.ownsRow wk.heap.size 5 1 _ 64 (bytesL 64 (Md.xk K 54))) := hX.out.inn
        have HO3 : Hid (w3.ownsRow wk.heap.size 5 1 _ 64 (bytesL 64 (Md.xk K 92))) := hX.out.out
        have HAP : Hid _ := hX.out.apart
        have HL3 : Hid (Below wk.heap.size wk w3) := hX.out.low
        have HR3 : Hid (ByteRow w3 ao n cap bs) := HRB.out.below HL3.out
        clear hX
        go_wp2_with (at_builtin; refine wpList_append_bytes rfl (.tmp 37) (.tmp 38) rfl wk.heap.size _ 64 _ rfl HI3.out ao n cap bs rfl HR3.out HNIL.out (by omega) HL3.out.size ?_; intro v6 w6 ho6 hg6; have HO6 : Hid _ := HO3.out.kept hg6 (apart_or HAP.out); have hl6 : Below wk.heap.size wk w6 := HL3.out.grown hg6 HL3.out.size (fun k hk => (own_lt HI3.out k hk).1); rw [cat_list] at ho6; obtain ⟨io, ic, rfl, hir⟩ := owns_shape ho6; have HIR : Hid (ByteRow w6 io (64 + n) ic (cat64 (Md.xk K 54) bs)) := hir; have HL6 : Hid (Below wk.heap.size wk w6) := hl6; clear ho6 hg6 hir hl6)
        refine (rsum_any io (64 + n) ic _ _ HIR.out (fun h => absurd (HIR.out.2 (by omega)) (by subst h; rintro ⟨b, off, h2, _⟩; cases h2)) (by omega) (fun i _ => cat_range HBR.out i (by assumption))).mono ?_
        rintro e w7 ⟨ro, rcap, rfl, hr7, hb7⟩
        rw [Md.sum_same, fin_cat] at hr7
        have HR7 : Hid (ByteRow w7 ro 16 rcap _) := hr7
        have HO7 : Hid _ := owns_below HO6.out hb7
        have HL7 : Hid (Below wk.heap.size wk w7) := HL6.out.trans (hb7.mono HL6.out.size)
        clear hr7 hb7 HIR HO6 HL6
        go_wp2_with (at_builtin; refine wpList_append_bytes rfl (.tmp 36) (.tmp 40) rfl wk.heap.size _ 64 _ rfl HO7.out ro 16 rcap _ rfl HR7.out (fun h => absurd (HR7.out.2 (by omega)) (by subst h; rintro ⟨b, off, h2, _⟩; cases h2)) (by omega) HL7.out.size ?_; intro v8 w8 ho8 hg8; have hl8 : Below wk.heap.size wk w8 := HL7.out.grown hg8 HL7.out.size (fun k hk => (own_lt HO7.out k hk).1); rw [cat_list] at ho8; obtain ⟨oo, oc, rfl, hor⟩ := owns_shape ho8; have HOR : Hid (ByteRow w8 oo (64 + 16) oc _) := hor; have HL8 : Hid (Below wk.heap.size wk w8) := hl8; clear ho8 hg8 hor hl8)
        refine (rsum_any oo (64 + 16) oc _ _ HOR.out (fun h => absurd (HOR.out.2 (by omega)) (by subst h; rintro ⟨b, off, h2, _⟩; cases h2)) (by omega) (fun i _ => cat_range (fun i _ => dg_range _ i) i (by assumption))).mono ?_
        rintro e w9 ⟨po, pcap, rfl, hr9, hb9⟩
        rw [Md.sum_same, fin_cat] at hr9
        have HR9 : Hid (ByteRow w9 po 16 pcap _) := hr9
        have HL9 : Hid (Below wk.heap.size wk w9) := HL8.out.trans (hb9.mono HL8.out.size)
        clear hr9 hb9
        go_wp2
        go_ret
        exact ⟨po, pcap, rfl, by rw [HMAC.out]; exact HR9.out, HWB.out.trans (HL9.out.mono HWB.out.size)⟩

end Go.Proofs.YtcbpafpaimpfnaaGreatDoor

namespace Go.Proofs.YtcbpafpaimpfnaaGreatDoor
open Go.RowKit

/-- A slice of n bytes f in a row of the call's own, of whatever mark, no cell of it frozen. -/
def OwnC (w : World) (base : Nat) (v : Value) (n : Nat) (f : Nat → Int) : Prop :=
  ∃ g cap, v = .slice (some ⟨g, 0, none⟩) n cap ∧ base ≤ g ∧ g < w.heap.size ∧ n ≤ cap ∧ (∀ i, i < n → w.cell? ⟨g, i, none⟩ = some (.int .u8 (f i))) ∧ (∀ i, i < cap → (w.cell? ⟨g, i, none⟩).isSome = true) ∧ (∀ i, i < cap → w.frozen? ⟨g, i, none⟩ = false)
theorem OwnC.below {w w' : World} {base n : Nat} {v : Value} {f : Nat → Int} (h : OwnC w base v n f) (hb : Below w.heap.size w w') : OwnC w' base v n f := by
  obtain ⟨g, cap, e, h1, h2, h3, h4, h5, h6⟩ := h
  exact ⟨g, cap, e, h1, Nat.lt_of_lt_of_le h2 hb.size, h3, fun i hi => (hb.cell (by exact h2)).trans (h4 i hi), fun i hi => by rw [hb.cell (by exact h2)]; exact h5 i hi, fun i hi => by rw [hb.frozen (by exact h2)]; exact h6 i hi⟩
theorem OwnC.congr {w : World} {base n : Nat} {v : Value} {f g : Nat → Int} (h : OwnC w base v n f) (e : ∀ i, i < n → f i = g i) : OwnC w base v n g := by
  obtain ⟨g, cap, e1, h1, h2, h3, h4, h5⟩ := h
  exact ⟨g, cap, e1, h1, h2, h3, fun i hi => by rw [← e i hi]; exact h4 i hi, h5⟩
theorem OwnC.bytes {w : World} {base n : Nat} {v : Value} {f : Nat → Int} (h : OwnC w base v n f) : ∃ g cap, v = .slice (some ⟨g, 0, none⟩) n cap ∧ ByteRow w (some ⟨g, 0, none⟩) n cap f := by
  obtain ⟨g, cap, e1, h1, h2, h3, h4, h5⟩ := h
  exact ⟨g, cap, e1, h3, fun _ => ⟨g, 0, rfl, h2, fun i hi => by rw [Nat.zero_add]; exact h4 i hi⟩⟩
theorem ownC_of_row {w : World} {g cap n base : Nat} {cur : Array Value} {f : Nat → Int} {fr : Nat × Nat} (h : w.heap[g]? = some (.cells cur 5 fr)) (hfr : fr = (0, 0) ∨ cur.size ≤ fr.1) (hsz : cur.size = cap) (hn : n ≤ cap) (hb : base ≤ g) (hc : ∀ i, i < n → cur[i]? = some (.int .u8 (f i))) :
    OwnC w base (.slice (some ⟨g, 0, none⟩) n cap) n f := by
  have hcell : ∀ i, w.cell? ⟨g, i, none⟩ = cur[i]? := fun i => cell_of_row w g i _ _ _ h
  refine ⟨g, cap, rfl, hb, (Array.getElem?_eq_some_iff.1 h).1, hn, fun i hi => (hcell i).trans (hc i hi), fun i hi => ?_, fun i hi => ?_⟩
  · rw [hcell i, Array.getElem?_eq_getElem (by omega)]; rfl
  · rcases hfr with rfl | hfr
    · exact frozen_of_row _ _ _ _ _ h
    · unfold World.frozen?
      rw [h]
      simp
      omega
theorem ownC_of_owns {w : World} {base n : Nat} {v : Value} {f : Nat → Int} (h : w.ownsRow base 5 1 v n (bytesL n f)) (hn : 0 < n) : OwnC w base v n f := by
  obtain ⟨_, h2⟩ := h
  rcases h2 with ⟨rfl, rfl⟩ | ⟨g, cap, cur, rfl, hg, hh, hnc, hm, hs, ht⟩
  · omega
  · refine ownC_of_row hh (Or.inl rfl) (by omega) hnc hg (fun i hi => ?_)
    have h3 : (cur.toList.take (n * 1))[i]? = (bytesL n f)[i]? := by rw [ht]
    rw [Nat.mul_one, List.getElem?_take_of_lt hi, Array.getElem?_toList] at h3
    rw [h3]
    simp [bytesL, hi]
/-- 'append(s, x...)' onto such a row. -/
theorem wpList_append_c {w : World} {ops : Array Oper} {rest : List Oper} {o : Oper} {a : Act} {Q : Exit → Act → World → Prop} (hgd : o.guard = none) (s x : Operand)
    (ho : o.op = .call { callee := .builtin .append, args := #[s, x], argTypes := #[93, 93] }) (base : Nat)
    (v : Value) (n : Nat) (f : Nat → Int) (hs : a.eval s = v) (hown : OwnC w base v n f)
    (xg xo m c : Nat) (bs : Nat → Int) (hx : a.eval x = .slice (some ⟨xg, xo, none⟩) m c) (hr : ByteRow w (some ⟨xg, xo, none⟩) m c bs) (hm : 0 < m) (hb : n + m ≤ 1000000) (hbase : base ≤ w.heap.size)
    (h : ∀ v' w', OwnC w' base v' (n + m) (cat n f bs) → Below base w w' → wpList Tryz.prog ops Q rest (a.put o.dst v') w') : wpList Tryz.prog ops Q (o :: rest) a w := by
  obtain ⟨i0, hi, hz0, hz1, hz2⟩ := info_parts info5
  obtain ⟨g, cap, rfl, h1, h2, h3, h4, h5, h6⟩ := hown
  have hlen : ∀ (k : Nat) (q : Nat → Int), (bytesL k q).length = k * 1 := fun k q => by rw [bytesL_length, Nat.mul_one]
  refine wpList_append_arg w hgd s x 93 ho 5 i0 (.int .u8 0) 1 1 Tryz.underlying93 hi hz0 hz1 hz2 rfl (by decide) g 0 n cap (bytesL n f) hs (hlen n f) (fun j u hj => ?_) ⟨xg, xo, none⟩ m c (bytesL m bs) hx (hlen m bs) (src_row hr rfl) (bytesL_one _ _) (fun hroom j hj => ?_) (by unfold maxLen; omega) (by omega) (fun hroom => ?_) (fun _ v' w' hown' hg' => ?_)
  · obtain ⟨hj1, rfl⟩ := bytesL_get _ _ _ _ hj
    rw [Nat.zero_add]
    exact h4 j hj1
  · rw [bytesL_length] at hj
    rw [Nat.zero_add, Nat.mul_one]
    exact ⟨h5 _ (by omega), h6 _ (by omega)⟩
  · have hin := World.cell?_setCells_in g (bytesL m bs) (0 + n * 1) w (fun j hj => by rw [bytesL_length] at hj; rw [Nat.zero_add, Nat.mul_one]; exact h5 _ (by omega))
    have hout := World.cell?_setCells_out g (bytesL m bs) (0 + n * 1) w
    have hcell : ∀ i, i < n + m → (w.setCells g (0 + n * 1) (bytesL m bs)).cell? ⟨g, i, none⟩ = some (.int .u8 (cat n f bs i)) := by
      intro i hi
      unfold cat
      by_cases e : i < n
      · rw [if_pos e, hout ⟨g, i, none⟩ (fun _ _ => Or.inl (by show i < 0 + n * 1; omega))]
        exact h4 i e
      · rw [if_neg e]
        have h7 := hin (i - n) (by rw [bytesL_length]; omega)
        rw [show 0 + n * 1 + (i - n) = i by omega] at h7
        rw [h7]
        simp [bytesL]
    refine h _ _ ⟨g, cap, rfl, h1, ?_, hroom, hcell, fun i hi => ?_, fun i hi => ?_⟩ (below_setCells h1 _ _ _ (Below.refl _ _))
    · exact block_lt_of_cell (hcell 0 (by omega))
    · by_cases e : i < n + m
      · rw [hcell i e]; rfl
      · rw [hout ⟨g, i, none⟩ (fun _ _ => Or.inr (by rw [bytesL_length]; show 0 + n * 1 + m ≤ i; omega))]
        exact h5 i hi
    · rw [World.frozen?_setCells]; exact h6 i hi
  · rw [bytesL_cat] at hown'
    have h7 := ownC_of_owns hown' (by omega)
    obtain ⟨g', cap', e1, q1, q2⟩ := h7
    exact h v' w' ⟨g', cap', e1, by omega, q2⟩ ((Below.refl _ _).grown hg' hbase (fun k hk => by cases hk))
end Go.Proofs.YtcbpafpaimpfnaaGreatDoor

namespace Go.Proofs.YtcbpafpaimpfnaaGreatDoor
open Go.RowKit

set_option maxRecDepth 100000 in
set_option maxHeartbeats 2000000 in
theorem rdigest_any (s : ByteArray) (rev : Int) (ao : Option Addr) (n cap : Nat) (vs ts : Nat → Int) (w : World) (hR : Rg.Right vs ts n) (hr : WayRow w ao n cap vs ts) :
    Calls Tryz.prog 63 #[.agg #[.string s, .int .i64 rev, .slice ao n cap]] w fun e w' => ∃ ro rc, e = .returned (.slice ro 16 rc) ∧ ByteRow w' ro 16 rc (Md.dg (Rg.dig vs ts n)) ∧ Below w.heap.size w w' := by
  have HRt : Hid (Rg.Right vs ts n) := hR
  have HR : Hid (WayRow w ao n cap vs ts) := hr
  clear hr hR
  go_enter Tryz.func63, Tryz.ntmps63
  go_wp2_with fail
  refine (rtable_any s rev ao n cap vs ts _ HRt.out (HR.out.below (below_alloc1 _ _))).mono ?_
  rintro e w1 ⟨g, rfl, hrow, hb1⟩
  have HG : Hid (w1.heap[g]? = some (.cells (rowF 4096 (fun i => Rg.tree vs ts (i : Int) n)) 5 (0, 0))) := hrow
  have HB1 : Hid (Below w.heap.size w w1) := (below_alloc1 w _).trans (hb1.mono (by simp))
  have hgl : g < w1.heap.size := (Array.getElem?_eq_some_iff.1 hrow).1
  clear hrow hb1 HR
  go_wp2_with fail
  go_loopw [3, 9] (fun v i wr => ∃ k : Nat, (k : Int) ≤ 4096 ∧ i = .int .i64 k ∧ Hid (wr.ownsRow w1.heap.size 5 1 v (2 * k) (bytesL (2 * k) (Rg.pairs vs ts n))) ∧ Hid (Below w1.heap.size w1 wr)) (fun _ i _ => 4096 - (intOf i).toNat)
  case atStart => exact ⟨0, by omega, rfl, World.ownsRow_nil _ _ _ _, Below.refl _ _⟩
  case round =>
    obtain ⟨k, hk, rfl, hX, hB⟩ := hrel
    by_cases hlt : (k : Int) < 4096
    · have hT := Rg.tree_range HRt.out (k : Int) n (Nat.le_refl _)
      have c4 : wr.cell? ⟨g, k, none⟩ = some (.int .u8 (Rg.tree vs ts (k : Int) n)) := (hB.out.cell (by exact hgl)).trans ((cell_of_row _ _ _ _ _ _ HG.out).trans (rowF_get _ _ _ (by omega)))
      have HY : Hid ((0 : Int) = Rg.pairs vs ts n (2 * k)) := by rw [Rg.pairs_even]; exact (rfl : (0 : Int) = 0)
      have HZ : Hid (Rg.tree vs ts (k : Int) n = Rg.pairs vs ts n (2 * k + 1)) := by rw [Rg.pairs_odd]; exact (rfl : Rg.tree vs ts (k : Int) n = Rg.tree vs ts (k : Int) n)
      have hsz := hB.out.size
      clear HG
      generalize Rg.tree vs ts (k : Int) n = t at *
      go_wp2_with (at_builtin; refine wpList_append_pair rfl (.tmp 13) (.tmp 15) rfl w1.heap.size _ (2 * k) (Rg.pairs vs ts n) rfl _ _ hX.out hsz rfl HY.out HZ.out (by omega) ?_; intro v3 w3 ho3 hb3; have HO3 : Hid (w3.ownsRow w1.heap.size 5 1 v3 (2 * (k + 1)) (bytesL (2 * (k + 1)) (Rg.pairs vs ts n))) := ho3; have HB3 : Hid (Below w1.heap.size w1 w3) := hB.out.trans hb3; clear ho3 hb3)
      exact ⟨⟨k + 1, by omega, by go_num, HO3, HB3⟩, by simp [intOf]; omega⟩
    · obtain rfl : k = 4096 := by omega
      obtain ⟨bo, bc, rfl, hbr, _, hnil, _⟩ := owns_row (n := 8192) (f := Rg.pairs vs ts n) (by exact hX.out)
      have HBR : Hid (ByteRow wr bo 8192 bc (Rg.pairs vs ts n)) := hbr
      have HNL : Hid (bo = none → 8192 = 0 ∧ bc = 0) := hnil
      have HBW : Hid (Below w.heap.size w wr) := HB1.out.trans (hB.out.mono HB1.out.size)
      have HPR : Hid (∀ i, i < 8192 → 0 ≤ Rg.pairs vs ts n i ∧ Rg.pairs vs ts n i ≤ 255) := fun i _ => Rg.pairs_range HRt.out i
      have HM : Hid (∀ W, Below wr.heap.size wr W → W.heap[wr.heap.size]? = some (.cells (rowF 16 Rg.key) 5 (0, 0)) → Calls Tryz.prog 78 #[.slice (some ⟨wr.heap.size, 0, none⟩) 16 16, .slice bo 8192 bc] W fun e w' => ∃ ro rc, e = .returned (.slice ro 16 rc) ∧ Hid (ByteRow w' ro 16 rc (Md.dg (Rg.dig vs ts n))) ∧ Hid (Below w.heap.size w w')) := by
        intro W hW hrow
        refine (rmac_small _ _ 16 16 8192 bc Rg.key (Rg.pairs vs ts n) W ((ByteRow.of_row (off := 0) (n := 16) (cap := 16) hrow (by omega) (Nat.le_refl _)).congr (fun i _ => by rw [Nat.zero_add])) (HBR.out.below hW) HNL.out (by omega) HPR.out (by omega)).mono ?_
        rintro e w' ⟨ro, rc, rfl, h1, h2⟩
        have hW2 : Below w.heap.size w W := HBW.out.trans (hW.mono HBW.out.size)
        exact ⟨ro, rc, rfl, h1, hW2.trans (h2.mono hW2.size)⟩
      clear hX hB hbr hnil HG HBR HNL HPR
      go_wp2_with (go_at_call 78; refine (HM.out _ (below_alloc1 _ _) (heap_alloc_last _ _)).mono ?_; rintro e w3 ⟨ro, rc, rfl, HR3, HB3⟩)
      go_ret
      exact ⟨ro, rc, rfl, HR3.out, HB3.out⟩
end Go.Proofs.YtcbpafpaimpfnaaGreatDoor

namespace Go.Proofs.YtcbpafpaimpfnaaGreatDoor
open Go.RowKit

def slen : Value → Nat
  | .slice _ n _ => n
  | _ => 0
theorem OwnC.from {w w' : World} {base n : Nat} {v : Value} {f : Nat → Int} (h : OwnC w base v n f) (hb : Below w.heap.size w w') : OwnC w' base v n f := h.below hb
/-- A new row of one byte, of two. -/
theorem one_new (w : World) (y : Int) : ByteRow (w.alloc (.cells #[.int .u8 y] 5)) (some ⟨w.heap.size, 0, none⟩) 1 1 (fun _ => y) := by
  have hl : (w.alloc (.cells #[.int .u8 y] 5)).heap[w.heap.size]? = some (.cells (rowF 1 (fun _ => y)) 5 (0, 0)) := heap_alloc_last _ _
  exact ByteRow.of_row (off := 0) (n := 1) (cap := 1) hl (by omega) (Nat.le_refl _)
theorem two_new (w : World) (y z : Int) : ByteRow (w.alloc (.cells #[.int .u8 y, .int .u8 z] 5)) (some ⟨w.heap.size, 0, none⟩) 2 2 (fun i => if i = 0 then y else z) := by
  have hl : (w.alloc (.cells #[.int .u8 y, .int .u8 z] 5)).heap[w.heap.size]? = some (.cells (rowF 2 (fun i => if i = 0 then y else z)) 5 (0, 0)) := heap_alloc_last _ _
  exact (ByteRow.of_row (off := 0) (n := 2) (cap := 2) hl (by omega) (Nat.le_refl _)).congr (fun i _ => by rw [Nat.zero_add])
set_option maxHeartbeats 2000000 in
theorem rident_new (s : ByteArray) (rev : Int) (ao : Option Addr) (n cap : Nat) (vs ts : Nat → Int) (w : World) (hs : s.size ≤ 32) (hv : 0 ≤ rev ∧ rev ≤ 65535) (hR : Rg.Right vs ts n) (hr : WayRow w ao n cap vs ts) :
    Calls Tryz.prog 40 #[.agg #[.string s, .int .i64 rev, .slice ao n cap]] w fun e w' => ∃ ro rc, e = .returned (.slice ro 50 rc) ∧ ByteRow w' ro 50 rc (Rg.ident s rev (Md.dg (Rg.dig vs ts n))) ∧ Below w.heap.size w w' ∧ ∀ ad, ro = some ad → w.heap.size < ad.block := by
  have HRt : Hid (Rg.Right vs ts n) := hR
  obtain ⟨P, HP⟩ : ∃ P, Hid (P = Rg.ident s rev (Md.dg (Rg.dig vs ts n))) := ⟨_, rfl⟩
  have HP0 : Hid (∀ i, i < s.size → Rg.nb s i = P i) := by
    intro i hi
    rw [HP.out]
    unfold Rg.ident
    rw [if_pos (by omega), if_pos hi]
  have HP1 : Hid (∀ k, s.size ≤ k → k < 32 → ∀ i, i < k + 1 → cat k P (fun _ => 0) i = P i) := by
    intro k h1 h2 i hi
    unfold cat
    by_cases e : i < k
    · rw [if_pos e]
    · rw [if_neg e, HP.out]
      unfold Rg.ident
      rw [if_pos (by omega), if_neg (by omega)]
  have HP2 : Hid (∀ i, i < 34 → cat 32 P (fun i => if i = 0 then rev / 256 else rev % 256) i = P i) := by
    intro i hi
    unfold cat
    by_cases e : i < 32
    · rw [if_pos e]
    · rw [if_neg e, HP.out]
      unfold Rg.ident
      rw [if_neg e]
      show (if i - 32 = 0 then rev / 256 else rev % 256) = _
      by_cases e2 : i = 32
      · rw [if_pos (show i - 32 = 0 by omega), if_pos e2]
      · rw [if_neg (show ¬ i - 32 = 0 by omega), if_neg e2, if_pos (show i = 33 by omega)]
  have HP3 : Hid (∀ i, i < 50 → cat 34 P (Md.dg (Rg.dig vs ts n)) i = P i) := by
    intro i hi
    unfold cat
    by_cases e : i < 34
    · rw [if_pos e]
    · rw [if_neg e, HP.out]
      unfold Rg.ident
      rw [if_neg (by omega), if_neg (by omega), if_neg (by omega)]
  obtain ⟨ccap, cur, w1, hrun, hbr, hb1, hz1, hrow1, hcs1, hcl1⟩ := conv_bytes (w.alloc (.cells #[.string s, .int .i64 rev, .slice ao n cap] 38)) s
  have hza : (w.alloc (.cells #[.string s, .int .i64 rev, .slice ao n cap] 38)).heap.size = w.heap.size + 1 := by simp
  rw [hza] at hrun hbr hb1 hz1 hrow1
  have HO1 : Hid (OwnC w1 (w.heap.size + 1) (.slice (some ⟨w.heap.size + 1, 0, none⟩) s.size ccap) s.size P) := by
    refine (ownC_of_row (f := Rg.nb s) hrow1 (Or.inr (Nat.le_refl _)) hcs1 hcl1 (Nat.le_refl _) (fun i hi => ?_)).congr HP0.out
    obtain ⟨b, off, e0, _, hc⟩ := hbr.2 (by omega)
    cases e0
    have := hc i hi
    rw [Nat.zero_add, cell_of_row _ _ _ _ _ _ hrow1] at this
    exact this
  have HW : Hid (∀ W, Below (w.heap.size + 1) w1 W → W.cell? ⟨w.heap.size, 0, none⟩ = some (.string s) ∧ W.cell? ⟨w.heap.size, 1, none⟩ = some (.int .i64 rev) ∧ W.cell? ⟨w.heap.size, 2, none⟩ = some (.slice ao n cap) ∧ WayRow W ao n cap vs ts ∧ Below w.heap.size w W ∧ w.heap.size + 2 ≤ W.heap.size) := by
    intro W hW
    have hb2 := hb1.trans hW
    have h := rg_cells ((hb2.block w.heap.size (by omega)).trans (heap_alloc_last w (.cells #[.string s, .int .i64 rev, .slice ao n cap] 38)))
    have hl : Below w.heap.size w W := (below_alloc1 w _).trans (hb2.mono (by omega))
    have hsz := hW.size
    exact ⟨h.1, h.2.1, h.2.2, hr.below hl, hl, by omega⟩
  clear hbr hb1 hza hr hR hrow1 hcs1 hz1
  go_enter Tryz.func40, Tryz.ntmps40
  go_wp2_with fail
  go_loopw [3] (fun v wr => ∃ k : Nat, s.size ≤ k ∧ k ≤ 32 ∧ Hid (OwnC wr (w.heap.size + 1) v k P) ∧ Hid (Below (w.heap.size + 1) w1 wr)) (fun v _ => 32 - slen v)
  case atStart => exact ⟨s.size, Nat.le_refl _, hs, HO1, Below.refl _ _⟩
  case round =>
    clear hrun HO1
    obtain ⟨k, hk0, hk, hX, hB⟩ := hrel
    obtain ⟨g, gc, rfl, hx1⟩ := hX.out
    have HX : Hid (OwnC wr (w.heap.size + 1) (.slice (some ⟨g, 0, none⟩) k gc) k P) := hX
    obtain ⟨c0, c1, c2, hway, hlow, hsz⟩ := HW.out _ hB.out
    have HWY : Hid (WayRow wr ao n cap vs ts) := hway
    have HLW : Hid (Below w.heap.size w wr) := hlow
    clear hx1 hX hway hlow
    by_cases hlt : k < 32
    · have HA : Hid (∀ v3 w3, OwnC w3 (w.heap.size + 1) v3 (k + 1) (cat k P (fun _ => 0)) → Below (w.heap.size + 1) (wr.alloc (.cells #[.int .u8 0] 5)) w3 → OwnC w3 (w.heap.size + 1) v3 (k + 1) P ∧ Below (w.heap.size + 1) w1 w3 ∧ slen v3 = k + 1) := by
        intro v3 w3 h1 h2
        refine ⟨h1.congr (HP1.out k hk0 hlt), (hB.out.alloc (by omega) _).trans h2, ?_⟩
        obtain ⟨g3, c3, rfl, _⟩ := h1
        rfl
      clear HP0 HP1 HP2 HP3 HW
      go_wp2_with (at_builtin; refine wpList_append_c rfl (.tmp 10) (.tmp 11) rfl (w.heap.size + 1) _ k P rfl (HX.out.below (below_alloc1 _ _)) wr.heap.size 0 1 1 (fun _ => 0) rfl (one_new wr 0) (by omega) (by omega) (by simp; omega) ?_; intro v3 w3 ho3 hb3; obtain ⟨hp1, hp2, hp3⟩ := HA.out v3 w3 ho3 hb3; have HO3 : Hid (OwnC w3 (w.heap.size + 1) v3 (k + 1) P) := hp1; have HB3 : Hid (Below (w.heap.size + 1) w1 w3) := hp2; have HS3 : Hid (slen v3 = k + 1) := hp3; clear ho3 hb3 hp1 hp2 hp3)
      exact ⟨⟨k + 1, by omega, by omega, HO3, HB3⟩, by rw [HS3.out]; show 32 - (k + 1) < 32 - k; omega⟩
    · obtain rfl : k = 32 := by omega
      obtain ⟨v1, v2⟩ := hv
      have HA : Hid (∀ o v3 w3, OwnC w3 (w.heap.size + 1) v3 34 (cat 32 P (fun i => if i = 0 then rev / 256 else rev % 256)) → Below (w.heap.size + 1) (wr.alloc o) w3 → ∃ g3 c3, v3 = .slice (some ⟨g3, 0, none⟩) 34 c3 ∧ Hid (OwnC w3 (w.heap.size + 1) (.slice (some ⟨g3, 0, none⟩) 34 c3) 34 P) ∧ Hid (Below (w.heap.size + 1) w1 w3)) := by
        intro o v3 w3 h1 h2
        have h3 := h1.congr HP2.out
        obtain ⟨g3, c3, rfl, _⟩ := h1
        exact ⟨g3, c3, rfl, h3, (hB.out.alloc (by omega) _).trans h2⟩
      clear HP0 HP1 HP2 HWY HLW
      go_wp2_with (at_builtin; refine wpList_append_c rfl (.tmp 13) (.tmp 22) rfl (w.heap.size + 1) _ 32 P rfl (HX.out.below (below_alloc1 _ _)) wr.heap.size 0 2 2 (fun i => if i = 0 then rev / 256 else rev % 256) rfl (two_new wr _ _) (by omega) (by omega) (by simp; omega) ?_; intro v3 w3 ho3 hb3; obtain ⟨g3, c3, rfl, HO3, HB3⟩ := HA.out _ v3 w3 ho3 hb3; clear ho3 hb3; obtain ⟨k0, k1, k2, hway3, hlow3, hsz3⟩ := HW.out _ HB3.out; have HWY3 : Hid (WayRow w3 ao n cap vs ts) := hway3; have HLW3 : Hid (Below w.heap.size w w3) := hlow3; clear hway3 hlow3)
      refine (rdigest_any s rev ao n cap vs ts _ HRt.out HWY3.out).mono ?_
      rintro e w4 ⟨ro, rc, rfl, hr4, hb4⟩
      obtain ⟨xg, xo, rfl, _, _⟩ := hr4.2 (by omega)
      have HR4 : Hid (ByteRow w4 (some ⟨xg, xo, none⟩) 16 rc (Md.dg (Rg.dig vs ts n))) := hr4
      have HO4 : Hid (OwnC w4 (w.heap.size + 1) (.slice (some ⟨g3, 0, none⟩) 34 c3) 34 P) := HO3.out.below hb4
      have HLW4 : Hid (Below w.heap.size w w4) := HLW3.out.trans (hb4.mono HLW3.out.size)
      have hsz4 : w.heap.size + 1 ≤ w4.heap.size := by have := hb4.size; omega
      have HA2 : Hid (∀ v5 w5, OwnC w5 (w.heap.size + 1) v5 50 (cat 34 P (Md.dg (Rg.dig vs ts n))) → Below (w.heap.size + 1) w4 w5 → ∃ g5 c5, v5 = .slice (some ⟨g5, 0, none⟩) 50 c5 ∧ Hid (ByteRow w5 (some ⟨g5, 0, none⟩) 50 c5 P) ∧ Hid (Below w.heap.size w w5) ∧ Hid (w.heap.size < g5)) := by
        intro v5 w5 h1 h2
        obtain ⟨g5, c5, rfl, h3⟩ := (h1.congr HP3.out).bytes
        obtain ⟨g6, c6, e6, hg, _⟩ := h1
        cases e6
        exact ⟨g5, c5, rfl, h3, HLW4.out.trans (h2.mono (by omega)), hg⟩
      clear hr4 hb4 HO3 HB3 HLW3 HWY3 k0 k1 k2 HA HX HW hB c0 c1 c2 HRt
      go_wp2_with (at_builtin; refine wpList_append_c rfl (.tmp 24) (.tmp 26) rfl (w.heap.size + 1) _ 34 P rfl HO4.out xg xo 16 rc _ rfl HR4.out (by omega) (by omega) hsz4 ?_; intro v5 w5 ho5 hb5; obtain ⟨g5, c5, rfl, HR5, HB5, HG5⟩ := HA2.out v5 w5 ho5 hb5; clear ho5 hb5)
      go_ret
      exact ⟨_, c5, rfl, by rw [← HP.out]; exact HR5.out, HB5.out, fun ad e => by cases e; exact HG5.out⟩
theorem rident_any (s : ByteArray) (rev : Int) (ao : Option Addr) (n cap : Nat) (vs ts : Nat → Int) (w : World) (hs : s.size ≤ 32) (hv : 0 ≤ rev ∧ rev ≤ 65535) (hR : Rg.Right vs ts n) (hr : WayRow w ao n cap vs ts) :
    Calls Tryz.prog 40 #[.agg #[.string s, .int .i64 rev, .slice ao n cap]] w fun e w' => ∃ ro rc, e = .returned (.slice ro 50 rc) ∧ ByteRow w' ro 50 rc (Rg.ident s rev (Md.dg (Rg.dig vs ts n))) ∧ Below w.heap.size w w' := by
  refine (rident_new s rev ao n cap vs ts w hs hv hR hr).mono ?_
  rintro e w' ⟨ro, rc, h1, h2, h3, _⟩
  exact ⟨ro, rc, h1, h2, h3⟩
end Go.Proofs.YtcbpafpaimpfnaaGreatDoor

namespace Go.Proofs.YtcbpafpaimpfnaaGreatDoor
open Go.RowKit

set_option maxHeartbeats 400000 in
theorem rsame_any (a1 a2 : Option Addr) (n1 c1 n2 c2 : Nat) (b1 b2 : Nat → Int) (w : World) (h1 : ByteRow w a1 n1 c1 b1) (k1 : NilOk a1 n1 c1) (h2 : ByteRow w a2 n2 c2 b2) (k2 : NilOk a2 n2 c2) :
    Calls Tryz.prog 41 #[.slice a1 n1 c1, .slice a2 n2 c2] w fun e w' => e = .returned (.bool (decide (strOf n1 b1 = strOf n2 b2))) ∧ w' = w := by
  have q1 := run_str w a1 n1 c1 b1 h1 k1
  have q2 := run_str w a2 n2 c2 b2 h2 k2
  clear h1 k1 h2 k2
  generalize strOf n1 b1 = S at *
  generalize strOf n2 b2 = T at *
  go_enter Tryz.func41, Tryz.ntmps41
  go_wp2
  go_ret
  refine ⟨?_, rfl⟩
  by_cases e : S = T
  · subst e; simp
  · have hne : ¬ S.toList = T.toList := fun h => e (ByteArray.ext (Array.toList_inj.mp (by rw [← ByteArray.toList_eq, ← ByteArray.toList_eq]; exact h)))
    simp [e, hne]
end Go.Proofs.YtcbpafpaimpfnaaGreatDoor

namespace Go.Proofs.YtcbpafpaimpfnaaGreatDoor
open Go.RowKit
open Vc (V Of)
open Pl (Br Net Pc Lk En St LN)

set_option maxRecDepth 100000 in
set_option maxHeartbeats 4000000 in
theorem rlive_any (n : Net) (w : World) (hat : n.at' w) (R : n.Right) :
    Calls Tryz.prog 18 #[n.val] w fun e w' => ∃ ao cap, e = .returned (.slice ao n.lvs.length cap) ∧ LRow w' ao n.lvs.length cap (fun j => n.ls (LN n.lvs j)) ∧ NilOk ao n.lvs.length cap ∧ (∀ ad, ao = some ad → w.heap.size ≤ ad.block) ∧ Below w.heap.size w w' := by
  obtain ⟨X0, HX0⟩ : ∃ X, Hid (X = w.alloc (.cells #[.slice n.bao n.K n.bcap, .slice n.lao n.L n.lcap] 25)) := ⟨_, rfl⟩
  have hXB : Below w.heap.size w X0 := by rw [HX0.out]; exact below_alloc1 _ _
  have hXs : X0.heap.size = w.heap.size + 1 := by rw [HX0.out]; simp
  have hXn : X0.heap[w.heap.size]? = some (.cells #[.slice n.bao n.K n.bcap, .slice n.lao n.L n.lcap] 25 (0, 0)) := by rw [HX0.out]; exact heap_alloc_last _ _
  have HC : Hid (∀ W, Below X0.heap.size X0 W → (W.cell? ⟨w.heap.size, 0, none⟩ = some (.slice n.bao n.K n.bcap) ∧ W.cell? ⟨w.heap.size, 1, none⟩ = some (.slice n.lao n.L n.lcap)) ∧ n.at' W ∧ Below w.heap.size w W) := fun W hW => by
    have h1 : Below w.heap.size w W := hXB.trans (hW.mono hXB.size)
    exact ⟨two_cells2 (keep hXn hW), hat.below h1, h1⟩
  have HR : Hid n.Right := R
  have hK := R.few
  have hL := R.fewL
  have hcap := hat.brs.1
  have hcapL := hat.lks.1
  obtain ⟨G, HG⟩ : ∃ G, Hid (G = w.heap.size + 1) := ⟨_, rfl⟩
  have hmk : ∀ W : World, (Instr.makeSlice 92 (.int .i64 (n.K : Int)) (.int .i64 (n.K : Int))).run Tryz.prog W = .ok (.slice (some ⟨W.heap.size, 0, none⟩) n.K n.K) (W.alloc (.cells (rowC n.K 1 (fun _ _ => .slice none 0 0)) 93)) := fun W => make_rowD W 92 93 (.slice none 0 0) 1 24 n.K Tryz.underlying92 infoBytes (by omega) rfl (by omega) (by omega) _ (fun _ j hj => by rw [show j = 0 by omega]; rfl)
  have H0 : Hid (∃ v, IdsAt (X0.alloc (.cells (rowC n.K 1 (fun _ _ => .slice none 0 0)) 93)) G n.K n.bs v 0 ∧ Below X0.heap.size X0 (X0.alloc (.cells (rowC n.K 1 (fun _ _ => .slice none 0 0)) 93))) := ⟨fun _ => .slice none 0 0, ⟨by rw [HG.out, ← hXs]; exact heap_alloc_last _ _, fun i hi => absurd hi (by omega)⟩, below_alloc1 _ _⟩
  obtain ⟨⟨n0, n1⟩, _⟩ := HC.out X0 (Below.refl _ _)
  obtain ⟨⟨m0, m1⟩, _⟩ := HC.out (X0.alloc (.cells (rowC n.K 1 (fun _ _ => .slice none 0 0)) 93)) (below_alloc1 _ _)
  rw [HX0.out] at n0 n1 m0 m1
  clear hat R hXn hXB
  simp only [Pl.Net.val]
  go_enter Tryz.func18, Tryz.ntmps18
  go_wp2_with fail
  rw [← HX0.out]
  rw [← HG.out]
  clear n0 n1 m0 m1
  go_loopw [16] (fun i wr => ∃ k : Nat, k ≤ n.K ∧ i = .int .i64 k ∧ Hid (∃ v, IdsAt wr G n.K n.bs v k ∧ Below X0.heap.size X0 wr)) (fun i _ => n.K - (intOf i).toNat)
  case atStart => exact ⟨0, by omega, rfl, H0⟩
  case round =>
    obtain ⟨k, hk, rfl, hX⟩ := hrel
    clear H0
    obtain ⟨v, hI, hB⟩ := hX.out
    by_cases hlt : k < n.K
    · have hatW := (HC.out wr hB).2.1
      obtain ⟨b, off, eb, _⟩ := CRow.some hatW.brs (by omega)
      have hbr := hatW.brs
      rw [eb] at hbr ⊢
      obtain ⟨c0, c1, c2, c3, c4⟩ := BRow.cells hbr hlt
      obtain ⟨X, HX⟩ : ∃ X, Hid (X = wr.alloc (.cells (brA (n.bs k)) 40)) := ⟨_, rfl⟩
      have hXB : Below wr.heap.size wr X := by rw [HX.out]; exact below_alloc1 _ _
      have hX5 : X.heap[wr.heap.size]? = some (.cells (brA (n.bs k)) 40 (0, 0)) := by rw [HX.out]; exact heap_alloc_last _ _
      have hIX := hI.below hXB
      have hBX : Below X0.heap.size X0 X := hB.trans (hXB.mono hB.size)
      obtain ⟨d0, d1, d2, d3, d4⟩ := br_cells hX5
      have HCL : Hid (Calls Tryz.prog 40 #[.agg #[.string (n.bs k).reg.s, .int .i64 (n.bs k).reg.rev, .slice (n.bs k).reg.ao (n.bs k).reg.n (n.bs k).reg.cap]] X fun e w' => ∃ ro rc, e = .returned (.slice ro 50 rc) ∧ w'.cell? ⟨G, k, none⟩ = some (v k) ∧ w'.frozen? ⟨G, k, none⟩ = false ∧ Hid (∃ v, IdsAt (w'.setCell ⟨G, k, none⟩ (.slice ro 50 rc)) G n.K n.bs v (k + 1) ∧ Below X0.heap.size X0 (w'.setCell ⟨G, k, none⟩ (.slice ro 50 rc)))) := by
        obtain ⟨_, x2, _⟩ := HC.out X hBX
        have hok := (HR.out.fine k hlt).reg
        refine (rident_new (n.bs k).reg.s (n.bs k).reg.rev (n.bs k).reg.ao (n.bs k).reg.n (n.bs k).reg.cap (n.bs k).reg.vs (n.bs k).reg.ts X (Rg.isName_parts hok.1).2.1 hok.2.1 hok.2.2 (x2.each k hlt).2.1).mono ?_
        rintro e w' ⟨ro, rc, rfl, y1, y2, y3⟩
        have z1 := hIX.below y2
        have hBw : Below X0.heap.size X0 w' := hBX.trans (y2.mono hBX.size)
        have e1 : (⟨G, k, none⟩ : Addr) = ⟨G, k * 1 + 0, none⟩ := by simp
        have hGlt : G < X.heap.size := by have := (Array.getElem?_eq_some_iff.1 hIX.1).1; exact this
        obtain ⟨rb, roff, er, hrb, _⟩ := y1.2 (by omega)
        subst er
        have hne : rb ≠ G := by have := y3 _ rfl; simp only at this; omega
        refine ⟨_, rc, rfl, ?_, ?_, fun i => if i = k then .slice (some ⟨rb, roff, none⟩) 50 rc else v i, ⟨?_, fun i hi => ?_⟩, hBw.setCell (by rw [HG.out, hXs]; exact Nat.le_refl _) _⟩
        · rw [e1]; exact rowC_cell z1.1 hlt (by omega)
        · exact lk_free0 z1.1 _
        · rw [e1, rowC_set z1.1 hlt (by omega), rowC_congr2 (d := fun i _ => if i = k then .slice (some ⟨rb, roff, none⟩) 50 rc else v i) (fun i _ j hj => by
            unfold updC
            by_cases q : i = k
            · rw [if_pos ⟨q, by omega⟩, if_pos q]
            · rw [if_neg (fun p => q p.1), if_neg q])]
        · have oth : ∀ b, b ≠ G → (w'.setCell ⟨G, k, none⟩ (.slice (some ⟨rb, roff, none⟩) 50 rc)).heap[b]? = w'.heap[b]? := fun b hb => heap_setCell_other _ _ _ _ (by exact hb)
          by_cases q : i = k
          · subst q
            exact ⟨rb, roff, rc, if_pos rfl, byteRow_other y1 (fun b off e _ => by cases e; exact oth _ hne) (by simp), hne⟩
          · obtain ⟨b1, off1, rc1, q1, q2, q3⟩ := z1.2 i (by omega)
            exact ⟨b1, off1, rc1, by simp only; rw [if_neg q]; exact q1, byteRow_other q2 (fun b off e _ => by cases e; exact oth _ q3) (by simp), q3⟩
      clear hX hI hB hIX hBX hXB hX5 hbr hatW eb
      simp only [brA] at *
      generalize (n.bs k).reg.s = s at *
      have i0 : (0 : Int) ≤ (k : Int) := by omega
      have i1 : (k : Int) < (n.K : Int) := by omega
      go_wp2_with fail
      rw [← HX.out]
      refine HCL.out.mono ?_
      rintro e w1 ⟨ro, rc, rfl, k1, k2, HN⟩
      clear HCL
      go_wp2_with fail
      exact ⟨⟨k + 1, by omega, by go_num, HN⟩, by simp [intOf]; omega⟩
    · obtain hkK : k = n.K := by omega
      rw [hkK] at hI
      have hnk : ¬ (k : Int) < (n.K : Int) := by omega
      obtain ⟨⟨m0, m1⟩, _⟩ := HC.out wr hB
      obtain ⟨w1, hw1⟩ : ∃ w1, w1 = wr := ⟨_, rfl⟩
      subst hw1
      have HFR : Hid (∀ W, Below w1.heap.size w1 W → IdsAt W G n.K n.bs v n.K ∧ LRow W n.lao n.L n.lcap n.ls ∧ Below w.heap.size w W) := fun W hW => by
        obtain ⟨_, x2, x3⟩ := HC.out W (hB.trans (hW.mono hB.size))
        exact ⟨hI.below hW, x2.lks, x3⟩
      have H1 : Hid (w1.ownsRow w1.heap.size 46 6 (.slice none (n.lvsTo 0).length 0) (n.lvsTo 0).length (lkCells n.ls (n.lvsTo 0)) ∧ Below w1.heap.size w1 w1) := ⟨ownsC_nil _ _ _ _ _, Below.refl _ _⟩
      clear hX hI hB HC hmk
      go_wp2_with fail
      clear m0 m1
      go_loopw [3, 31] (fun s3 i wr => ∃ (j : Nat) (ao : Option Addr) (cap : Nat), j ≤ n.L ∧ i = .int .i64 j ∧ s3 = .slice ao (n.lvsTo j).length cap ∧ Hid (wr.ownsRow w1.heap.size 46 6 (.slice ao (n.lvsTo j).length cap) (n.lvsTo j).length (lkCells n.ls (n.lvsTo j)) ∧ Below w1.heap.size w1 wr)) (fun _ i _ => n.L - (intOf i).toNat)
      case atStart => exact ⟨0, none, 0, by omega, rfl, rfl, H1⟩
      case round =>
        obtain ⟨j, ao, cap, hj, rfl, rfl, hY⟩ := hrel
        clear H1
        by_cases hlt2 : j < n.L
        · obtain ⟨hO, hB⟩ := hY.out
          obtain ⟨f1, f2, _⟩ := HFR.out wr hB
          obtain ⟨lb, loff, el, _⟩ := CRow.some f2 (by omega)
          rw [el] at f2 ⊢
          obtain ⟨c0, c1, c2, c3, c4, c5⟩ := LRow.cells f2 hlt2
          obtain ⟨o1, o2, o3, _⟩ := HR.out.links.ok j hlt2
          have hnext := n.lvsTo_next j
          have hfew := n.lvsTo_few j
          have hlv : n.live j = ((n.ls j).up && decide (strOf 50 (n.bs (n.ls j).a.toNat).reg.id = strOf 50 (n.bs (n.ls j).b.toNat).reg.id)) := rfl
          obtain ⟨na, hna⟩ : ∃ na : Nat, (n.ls j).a = na := ⟨(n.ls j).a.toNat, by omega⟩
          obtain ⟨nb, hnb⟩ : ∃ nb : Nat, (n.ls j).b = nb := ⟨(n.ls j).b.toNat, by omega⟩
          have ha : na < n.K := by omega
          have hb : nb < n.K := by omega
          have hta : (n.ls j).a.toNat = na := by omega
          have htb : (n.ls j).b.toNat = nb := by omega
          rw [hta, htb] at hlv
          obtain ⟨Z, HZ⟩ : ∃ Z, Hid (Z = wr.alloc (.cells (lkA (n.ls j)) 46)) := ⟨_, rfl⟩
          have hZB : Below wr.heap.size wr Z := by rw [HZ.out]; exact below_alloc1 _ _
          have hZl : Z.heap[wr.heap.size]? = some (.cells (lkA (n.ls j)) 46 (0, 0)) := by rw [HZ.out]; exact heap_alloc_last _ _
          have HZS : Hid (Z.heap.size = wr.heap.size + 1) := by show _ = _; rw [HZ.out]; simp
          have g3 := f1.below hZB
          obtain ⟨q0, q1, q2, q3, q4, q5⟩ := lk_cells hZl
          have eA : (⟨G, na, none⟩ : Addr) = ⟨G, na * 1 + 0, none⟩ := by simp
          have eB : (⟨G, nb, none⟩ : Addr) = ⟨G, nb * 1 + 0, none⟩ := by simp
          have ca : Z.cell? ⟨G, na, none⟩ = some (v na) := by rw [eA]; exact rowC_cell g3.1 ha (by omega)
          have cb : Z.cell? ⟨G, nb, none⟩ = some (v nb) := by rw [eB]; exact rowC_cell g3.1 hb (by omega)
          obtain ⟨ab, aoff, arc, xa, ra, _⟩ := g3.2 na ha
          obtain ⟨bb, boff, brc, xb, rb, _⟩ := g3.2 nb hb
          rw [xa] at ca
          rw [xb] at cb
          have HEQ : Hid (∀ m, Calls Tryz.prog 41 #[.slice (some ⟨ab, aoff, none⟩) 50 arc, .slice (some ⟨bb, boff, none⟩) 50 brc] (Z.drewN m) fun e w' => e = .returned (.bool (decide (strOf 50 (n.bs na).reg.id = strOf 50 (n.bs nb).reg.id))) ∧ w' = Z.drewN m) := fun m => rsame_any _ _ 50 _ 50 _ _ _ (Z.drewN m) (ra.below (below_drewN (Below.refl _ _) m)) (fun h => by cases h) (rb.below (below_drewN (Below.refl _ _) m)) (fun h => by cases h)
          have i0 : (0 : Int) ≤ (j : Int) := by omega
          have i1 : (j : Int) < (n.L : Int) := by omega
          have ia0 : (0 : Int) ≤ (na : Int) := by omega
          have ia1 : (na : Int) < (n.K : Int) := by omega
          have ib0 : (0 : Int) ≤ (nb : Int) := by omega
          have ib1 : (nb : Int) < (n.K : Int) := by omega
          have HNO : Hid (n.live j = false → ∀ W, Below Z.heap.size Z W → W.ownsRow w1.heap.size 46 6 (.slice ao (n.lvsTo (j + 1)).length cap) (n.lvsTo (j + 1)).length (lkCells n.ls (n.lvsTo (j + 1))) ∧ Below w1.heap.size w1 W) := fun hl W hW => by
            rw [hl, if_neg (by decide), List.append_nil] at hnext
            have h1 : Below wr.heap.size wr W := hZB.trans (hW.mono hZB.size)
            rw [hnext]
            exact ⟨ownsC_below hO h1, hB.trans (h1.mono hB.size)⟩
          have HLN : Hid (n.live j = false → (n.lvsTo (j + 1)).length = (n.lvsTo j).length) := fun hl => by
            rw [hl, if_neg (by decide), List.append_nil] at hnext
            rw [hnext]
          have HYE : Hid (n.live j = true → ∀ m, ∃ a1 c1' w2, (Builtin.append_ #[23, 23] 23 #[.slice ao (n.lvsTo j).length cap, .slice (some ⟨wr.heap.size + 1, 0, none⟩) 1 1]).run Tryz.prog ((Z.drewN m).alloc (.cells (lkA (n.ls j)) 46)) = .ok (.slice a1 ((n.lvsTo j).length + 1) c1') w2 ∧ Hid (w2.ownsRow w1.heap.size 46 6 (.slice a1 (n.lvsTo (j + 1)).length c1') (n.lvsTo (j + 1)).length (lkCells n.ls (n.lvsTo (j + 1))) ∧ Below w1.heap.size w1 w2) ∧ Hid ((n.lvsTo (j + 1)).length = (n.lvsTo j).length + 1)) := fun hl m => by
            rw [hl, if_pos rfl] at hnext
            have h1 : Below wr.heap.size wr (Z.drewN m) := below_drewN hZB m
            have hs : (Z.drewN m).heap.size = wr.heap.size + 1 := HZS.out
            have h2 : Below (Z.drewN m).heap.size (Z.drewN m) ((Z.drewN m).alloc (.cells (lkA (n.ls j)) 46)) := below_alloc1 _ _
            have h3 : Below wr.heap.size wr ((Z.drewN m).alloc (.cells (lkA (n.ls j)) 46)) := h1.trans (h2.mono h1.size)
            have hr : LRow ((Z.drewN m).alloc (.cells (lkA (n.ls j)) 46)) (some ⟨wr.heap.size + 1, 0, none⟩) 1 1 (fun _ => n.ls j) := by rw [← hs]; exact one_lk_row (heap_alloc_last _ _)
            obtain ⟨a1, c1', w2, r, ho2, hb2, _⟩ := append_c ((Z.drewN m).alloc (.cells (lkA (n.ls j)) 46)) 23 46 _ 6 48 Tryz.underlying23 infoLk rfl (by omega) w1.heap.size (.slice ao (n.lvsTo j).length cap) (n.lvsTo j).length (fun i => lkC (n.ls (LN (n.lvsTo j) i))) (ownsC_below hO h3) (some ⟨wr.heap.size + 1, 0, none⟩) 1 1 (fun _ => lkC (n.ls j)) (fun _ q => lkC_one _ q) hr (fun h => by cases h) (by unfold maxLen; omega) (by omega) (by have := hB.size; have := h3.size; omega)
            rw [ln_snoc] at ho2
            refine ⟨a1, c1', w2, r, ?_, ?_⟩
            · rw [hnext, List.length_append]
              exact ⟨ho2, (hB.trans (h3.mono hB.size)).trans hb2⟩
            · show _ = _
              rw [hnext, List.length_append]; rfl
          clear hY hO hB f1 f2 o1 o2 o3 hnext g3 ra rb xa xb eA eB hZB hZl HFR HR el hta htb
          generalize n.live j = lv at *
          generalize decide (strOf 50 (n.bs na).reg.id = strOf 50 (n.bs nb).reg.id) = D at *
          generalize n.ls j = l at *
          obtain ⟨a, pa, b, pb, c, up⟩ := l
          simp only at hna hnb c0 c1 c2 c3 c4 c5 hlv
          subst hna
          subst hnb
          simp only [lkA] at *
          rw [HZ.out] at q0 q1 q2 q3 q4 q5 ca cb
          cases up with
          | false =>
            have hl2 : lv = false := by rw [hlv, Bool.false_and]
            clear hlv
            subst hl2
            have HNN : Hid _ := HNO.out rfl
            have HNL : Hid _ := HLN.out rfl
            clear HYE HNO HLN HEQ
            go_wp2_with fail
            rw [← HZ.out] at q0 q1 q2 q3 q4 q5 ca cb ⊢
            go_quiet (fail)
            go_wp2_with fail
            exact ⟨⟨j + 1, ao, cap, by omega, by go_num, by rw [HNL.out], HNN.out _ (below_drewN (Below.refl _ _) _)⟩, by simp [intOf]; omega⟩
          | true =>
            have hl2 : lv = D := by rw [hlv, Bool.true_and]
            clear hlv
            subst hl2
            cases lv with
            | false =>
              have HNN : Hid _ := HNO.out rfl
              have HNL : Hid _ := HLN.out rfl
              clear HYE HNO HLN
              go_wp2_with fail
              rw [← HZ.out] at q0 q1 q2 q3 q4 q5 ca cb ⊢
              go_quiet (first | (go_at_call 41; exact Calls.quiet_of_same (HEQ.out _)))
              all_goals go_wp2_with fail
              all_goals exact ⟨⟨j + 1, ao, cap, by omega, by go_num, by rw [HNL.out], HNN.out _ (below_drewN (Below.refl _ _) _)⟩, by simp [intOf]; omega⟩
            | true =>
              have HYY : Hid _ := HYE.out rfl
              clear HYE HNO HLN
              have HQQ : Hid (∀ m, (Z.drewN m).cell? ⟨wr.heap.size, 0, none⟩ = some (.int .i64 na) ∧ (Z.drewN m).cell? ⟨wr.heap.size, 1, none⟩ = some (.int .i64 pa) ∧ (Z.drewN m).cell? ⟨wr.heap.size, 2, none⟩ = some (.int .i64 nb) ∧ (Z.drewN m).cell? ⟨wr.heap.size, 3, none⟩ = some (.int .i64 pb) ∧ (Z.drewN m).cell? ⟨wr.heap.size, 4, none⟩ = some (.int .i64 c) ∧ (Z.drewN m).cell? ⟨wr.heap.size, 5, none⟩ = some (.bool true)) := by
                rw [← HZ.out] at q0 q1 q2 q3 q4 q5
                exact fun m => ⟨q0, q1, q2, q3, q4, q5⟩
              go_wp2_with fail
              rw [← HZ.out] at q0 q1 q2 q3 q4 q5 ca cb ⊢
              go_quiet (first | (go_at_call 41; exact Calls.quiet_of_same (HEQ.out _)))
              generalize hgen : Z.drewN _ = Y
              obtain ⟨m, rfl⟩ : ∃ m, Y = Z.drewN m := ⟨_, hgen.symm⟩
              clear hgen
              obtain ⟨a1, c1', w2, r, HN, HLE⟩ := HYY.out m
              obtain ⟨y0, y1, y2, y3, y4, y5⟩ := HQQ.out m
              have HR2 : Hid _ := r
              have hsz : (Z.drewN m).heap.size = wr.heap.size + 1 := HZS.out
              clear r HYY HQQ HEQ q0 q1 q2 q3 q4 q5 ca cb
              generalize Z.drewN m = Y at *
              go_wp2_with (at_builtin; (try rw [hsz]); refine wpList_append_run rfl (.tmp 50) (.tmp 52) 23 rfl _ _ _ rfl rfl HR2.out ?_)
              exact ⟨⟨j + 1, a1, c1', by omega, by go_num, by rw [HLE.out], HN⟩, by simp [intOf]; omega⟩
        · obtain hjL : j = n.L := by omega
          obtain ⟨hO, hB⟩ := hY.out
          have hnl : ¬ (j : Int) < (n.L : Int) := by omega
          have HE : Hid (LRow wr ao n.lvs.length cap (fun q => n.ls (LN n.lvs q)) ∧ NilOk ao n.lvs.length cap ∧ (∀ ad, ao = some ad → w.heap.size ≤ ad.block) ∧ Below w.heap.size w wr) := by
            have hlow := (HFR.out wr hB).2.2
            have hw1 := (HFR.out w1 (Below.refl _ _)).2.2.size
            rw [hjL] at hO
            obtain ⟨a1, c1, e1, h1, h2, h3⟩ := owns_c (by omega) hO
            injection e1 with e1 _ e2
            subst e1
            subst e2
            exact ⟨h1, h2, fun ad e => Nat.le_trans hw1 (h3 ad e), hlow⟩
          clear hY hO hB HFR
          go_wp2_with fail
          go_ret
          exact ⟨ao, cap, rfl, HE.out.1, HE.out.2.1, HE.out.2.2.1, HE.out.2.2.2⟩
end Go.Proofs.YtcbpafpaimpfnaaGreatDoor
