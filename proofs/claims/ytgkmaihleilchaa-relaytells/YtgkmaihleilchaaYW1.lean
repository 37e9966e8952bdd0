/- walks: cmp.Or at errors; relay's rises, wrongGate, wrongWays, isReserved, wayOf, passer and its closure -/
import Derived.Test.YtgkmaihleilchaaYB
import Derived.Test.YtgkmaihleilchaaKC
namespace Go.Proofs.Ytgkmaihleilchaa
open Go.RowKit
open Bk (E at')
open Rl (G gat)

set_option maxHeartbeats 400000 in
theorem corey_any (b off n cap : Nat) (f : Nat → Int) (w : World) (hn : n ≤ 9223372036854775807) (hcap : n ≤ cap) (hf : ∀ i, i < n → w.cell? ⟨b, off + i, none⟩ = some (.int .i64 (f i))) :
    Calls Try.prog 22 #[.slice (some ⟨b, off, none⟩) n cap] w fun e w' => e = .returned (.int .i64 (orTo f n)) ∧ w' = w := by
  have HF : Hid (∀ i, i < n → w.cell? ⟨b, off + i, none⟩ = some (.int .i64 (f i))) := hf
  clear hf
  go_enter Try.func22, Try.ntmps22
  go_wp2_with fail
  go_loopw [8] (fun i wr => ∃ k : Nat, k ≤ n ∧ i = .int .i64 k ∧ Hid (orTo f k = 0) ∧ wr = w) (fun i _ => n - (intOf i).toNat)
  case atStart => exact ⟨0, by omega, rfl, rfl, rfl⟩
  case round =>
    obtain ⟨k, hk, rfl, hS, rfl⟩ := hrel
    by_cases hlt : k < n
    · have c0 := HF.out k hlt
      by_cases h0 : f k = 0
      · have d0 : (f k != 0) = false := by simp [h0]
        have HS2 : Hid (orTo f (k + 1) = 0) := by show (if orTo f k = 0 then f k else orTo f k) = 0; rw [if_pos hS.out, h0]
        clear HF hS
        go_wp2_with fail
        exact ⟨⟨k + 1, by omega, by go_num, HS2, trivial⟩, by simp [intOf]; omega⟩
      · have d0 : (f k != 0) = true := by simp [h0]
        have HS2 : Hid (orTo f n = f k) := orTo_stay f k hS.out h0 n hlt
        clear HF hS h0
        go_wp2_with fail
        go_ret
        exact ⟨by rw [HS2.out]; rfl, rfl⟩
    · obtain rfl : k = n := by omega
      clear HF
      go_wp2_with fail
      go_ret
      exact ⟨by rw [hS.out]; rfl, rfl⟩
set_option maxHeartbeats 400000 in
theorem rises_any (a n : Int) (w : World) : Calls Try.prog 25 #[.int .i64 a, .int .i64 n] w fun e w' => e = .returned (.int .i64 (Rl.rise a n)) ∧ w' = w := by
  unfold Rl.rise
  by_cases h : n ≤ a
  · rw [if_pos h]
    go_enter Try.func25, Try.ntmps25
    go_wp2
    go_ret
    exact ⟨rfl, rfl⟩
  · rw [if_neg h]
    go_enter Try.func25, Try.ntmps25
    go_wp2
    go_ret
    exact ⟨rfl, rfl⟩
set_option maxHeartbeats 400000 in
theorem isRes_any (d : Int) (w : World) : Calls Try.prog 34 #[.int .u64 d] w fun e w' => e = .returned (.bool (Rl.res d)) ∧ w' = w := by
  unfold Rl.res
  by_cases h1 : 1652522221568 ≤ d <;> by_cases h2 : d ≤ 1652522221583
  all_goals
    go_enter Try.func34, Try.ntmps34
    go_wp2
    go_ret
    exact ⟨by simp [h1, h2], rfl⟩
set_option maxHeartbeats 1000000 in
theorem wrongGate_any (g : G) (w : World) : Calls Try.prog 23 #[.agg #[.int .i64 g.port, .slice g.wo g.ways.length g.wcap, .int .i64 g.plain, .slice g.oo g.opens.length g.ocap]] w fun e w' => e = .returned (.int .i64 (Rl.gateErr g)) ∧ Below w.heap.size w w' := by
  unfold Rl.gateErr
  have HB : Hid (∀ o, Below w.heap.size w (w.alloc o)) := fun o => below_alloc1 w o
  by_cases h1 : 0 ≤ g.port ∧ g.port ≤ 30
  · have e1 : decide (0 ≤ g.port ∧ g.port ≤ 30) = true := decide_eq_true h1
    by_cases h2 : 0 ≤ g.plain ∧ g.plain ≤ 4094
    · have e2 : decide (0 ≤ g.plain ∧ g.plain ≤ 4094) = true := decide_eq_true h2
      rw [if_pos ⟨h1, h2⟩]
      by_cases h3 : (16 : Int) < g.opens.length
      · rw [if_pos h3]
        clear h1 h2
        go_enter Try.func23, Try.ntmps23
        go_wp2_with (go_at_call 50; refine (vwithin_any _ _ _ _).mono ?_; rintro e w1 ⟨rfl, rfl⟩; (first | rw [e1] | rw [e2]))
        go_ret
        exact ⟨rfl, HB.out _⟩
      · rw [if_neg h3]
        clear h1 h2
        go_enter Try.func23, Try.ntmps23
        go_wp2_with (go_at_call 50; refine (vwithin_any _ _ _ _).mono ?_; rintro e w1 ⟨rfl, rfl⟩; (first | rw [e1] | rw [e2]))
        go_ret
        exact ⟨rfl, HB.out _⟩
    · have e2 : decide (0 ≤ g.plain ∧ g.plain ≤ 4094) = false := decide_eq_false h2
      rw [if_neg (fun h => h2 h.2)]
      clear h1 h2
      go_enter Try.func23, Try.ntmps23
      go_wp2_with (go_at_call 50; refine (vwithin_any _ _ _ _).mono ?_; rintro e w1 ⟨rfl, rfl⟩; (first | rw [e1] | rw [e2]))
      go_ret
      exact ⟨rfl, HB.out _⟩
  · have e1 : decide (0 ≤ g.port ∧ g.port ≤ 30) = false := decide_eq_false h1
    rw [if_neg (fun h => h1 h.1)]
    clear h1
    go_enter Try.func23, Try.ntmps23
    go_wp2_with (go_at_call 50; refine (vwithin_any _ _ _ _).mono ?_; rintro e w1 ⟨rfl, rfl⟩; rw [e1])
    go_ret
    exact ⟨rfl, HB.out _⟩
set_option maxHeartbeats 1000000 in
theorem wrongWays9_any (ao : Option Addr) (cap : Nat) (l : List Int) (w : World) (hn : l.length ≤ 9223372036854775807) (hr : ILs w ao cap l) :
    Calls Try.prog 24 #[.slice ao l.length cap] w fun e w' => e = .returned (.int .i64 (Rl.waysErr l)) ∧ w' = w := by
  unfold Rl.waysErr
  have hcap : l.length ≤ cap := hr.1
  have HR : Hid (ILs w ao cap l) := hr
  clear hr
  go_enter Try.func24, Try.ntmps24
  go_wp2_with fail
  go_loopw [3, 9] (fun a i wr => ∃ k : Nat, k ≤ l.length ∧ i = .int .i64 k ∧ a = .int .i64 (Rg.last (Rl.wv l) k) ∧ Hid (Rg.wrongTo (Rl.wv l) (fun _ => 1) k = 0) ∧ wr = w) (fun _ i _ => l.length - (intOf i).toNat)
  case atStart => exact ⟨0, by omega, rfl, rfl, rfl, rfl⟩
  case round =>
    obtain ⟨k, hk, rfl, rfl, hX, rfl⟩ := hrel
    by_cases hlt : k < l.length
    · obtain ⟨b, off, rfl, _⟩ := HR.out.place (by omega)
      have c0 : wr.cell? ⟨b, off + k, none⟩ = some (.int .i64 (Rl.wv l k)) := HR.out.cell hlt
      have HE2 : Hid (Rg.wayErr (Rg.last (Rl.wv l) k) (Rl.wv l k) 1 ≠ 0 → Rg.wrongTo (Rl.wv l) (fun _ => 1) l.length = Rg.wayErr (Rg.last (Rl.wv l) k) (Rl.wv l k) 1) := fun h => Rg.wrongTo_here (Rl.wv l) (fun _ => 1) k l.length hlt hX.out h
      have HZ : Hid (Rg.wayErr (Rg.last (Rl.wv l) k) (Rl.wv l k) 1 = 0 → Rg.wrongTo (Rl.wv l) (fun _ => 1) (k + 1) = 0) := fun h => Rg.wrongTo_succ (Rl.wv l) (fun _ => 1) k hX.out h
      have HL : Hid (Rg.last (Rl.wv l) (k + 1) = Rl.wv l k) := by show Rg.last (Rl.wv l) (k + 1) = Rl.wv l k; unfold Rg.last; rw [if_neg (by omega)]; rfl
      clear HR hX
      generalize Rg.last (Rl.wv l) k = a at *
      generalize Rl.wv l k = v at *
      by_cases g1 : 1 ≤ v ∧ v ≤ 4094
      · have e1 : decide (1 ≤ v ∧ v ≤ 4094) = true := decide_eq_true g1
        by_cases g2 : v ≤ a
        · have HW : Hid (Rg.wayErr a v 1 = 2) := by show Rg.wayErr a v 1 = 2; unfold Rg.wayErr; rw [if_pos (by omega), if_pos g2]
          have HV : Hid (Rl.rise a v = 2) := by show Rl.rise a v = 2; unfold Rl.rise; rw [if_pos g2]
          clear g1 g2 HZ
          go_wp2_with (first | (go_at_call 50; refine (vwithin_any _ _ _ _).mono ?_; rintro e w1 ⟨rfl, rfl⟩; rw [e1]) | (go_at_call 25; refine (rises_any _ _ _).mono ?_; rintro e w1 ⟨rfl, rfl⟩; rw [HV.out]))
          go_ret
          exact ⟨by rw [HE2.out (by rw [HW.out]; decide), HW.out]; rfl, rfl⟩
        · have HW : Hid (Rg.wayErr a v 1 = 0) := by show Rg.wayErr a v 1 = 0; unfold Rg.wayErr; rw [if_pos (by omega), if_neg g2]
          have HV : Hid (Rl.rise a v = 0) := by show Rl.rise a v = 0; unfold Rl.rise; rw [if_neg g2]
          clear g1 g2 HE2
          go_wp2_with (first | (go_at_call 50; refine (vwithin_any _ _ _ _).mono ?_; rintro e w1 ⟨rfl, rfl⟩; rw [e1]) | (go_at_call 25; refine (rises_any _ _ _).mono ?_; rintro e w1 ⟨rfl, rfl⟩; rw [HV.out]))
          exact ⟨⟨k + 1, by omega, by go_num, by rw [HL.out], HZ.out HW.out, trivial⟩, by simp [intOf]; omega⟩
      · have e1 : decide (1 ≤ v ∧ v ≤ 4094) = false := decide_eq_false g1
        have HW : Hid (Rg.wayErr a v 1 = 3) := by show Rg.wayErr a v 1 = 3; unfold Rg.wayErr; rw [if_neg (by omega)]
        clear g1 HZ
        go_wp2_with (go_at_call 50; refine (vwithin_any _ _ _ _).mono ?_; rintro e w1 ⟨rfl, rfl⟩; rw [e1])
        go_ret
        exact ⟨by rw [HE2.out (by rw [HW.out]; decide), HW.out]; rfl, rfl⟩
    · obtain rfl : k = l.length := by omega
      clear HR
      go_wp2_with fail
      go_ret
      exact ⟨by rw [hX.out]; rfl, rfl⟩
set_option maxHeartbeats 1000000 in
theorem wayOf_any (f : Rl.F) (g : G) (w : World) : Calls Try.prog 32 #[.agg #[.int .u64 f.dst, .int .u64 f.src, .bool f.tagged, .int .i64 f.prio, .bool f.drop, .int .i64 f.vid, .int .i64 f.type, .slice f.ao f.n f.cap], .agg #[.int .i64 g.port, .slice g.wo g.ways.length g.wcap, .int .i64 g.plain, .slice g.oo g.opens.length g.ocap]] w fun e w' => e = .returned (.int .i64 (Rl.wayOf f g)) ∧ Below w.heap.size w w' := by
  unfold Rl.wayOf
  have HB : Hid (∀ o1 o2, Below w.heap.size w ((w.alloc o1).alloc o2)) := fun o1 o2 => below_alloc2 w o1 o2
  by_cases h1 : f.tagged = true
  · by_cases h2 : f.vid = 0
    · have e2 : (f.vid != 0) = false := by simp [h2]
      rw [if_neg (fun h => h.2 h2)]
      clear h2
      go_enter Try.func32, Try.ntmps32
      rw [h1]
      go_wp2
      go_ret
      exact ⟨rfl, HB.out _ _⟩
    · have e2 : (f.vid != 0) = true := by simp [h2]
      rw [if_pos ⟨h1, h2⟩]
      clear h2
      go_enter Try.func32, Try.ntmps32
      rw [h1]
      go_wp2
      go_ret
      exact ⟨rfl, HB.out _ _⟩
  · rw [if_neg (fun h => h1 h.1)]
    have e1 : f.tagged = false := by simpa using h1
    clear h1
    go_enter Try.func32, Try.ntmps32
    rw [e1]
    go_wp2
    go_ret
    exact ⟨rfl, HB.out _ _⟩
end Go.Proofs.Ytgkmaihleilchaa
