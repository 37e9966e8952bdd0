/- walks: the document's Old (hedgeref8) -/
import Derived.Test.YtdhjihfgckmjhaaBR1
namespace Go.Proofs.Ytdhjihfgckmjhaa
open Go.RowKit
open Bk (E at')

theorem Bk.old_append (l m : List E) (later : Int) : Bk.old (l ++ m) later = Bk.old l later ++ Bk.old m later := by
  unfold Bk.old
  rw [List.filter_append, List.map_append]
theorem Bk.old_one (x : E) (later : Int) : Bk.old [x] later = if Bk.stays later x = true then [Bk.older later x] else [] := by
  unfold Bk.old
  by_cases h : Bk.stays later x = true
  · rw [if_pos h, List.filter_cons, if_pos h]; rfl
  · rw [if_neg h, List.filter_cons, if_neg h]; rfl
set_option maxHeartbeats 2000000 in
theorem rold8_any (ao : Option Addr) (cap : Nat) (l : List E) (later : Int) (w : World) (hn : l.length ≤ 1000) (hag : ∀ x ∈ l, 0 ≤ x.age ∧ x.age ≤ 300) (hr : BEL w ao cap l) :
    Calls Try.prog 16 #[.slice ao l.length cap, .int .i64 later] w fun e w' => ∃ v, e = .returned v ∧ OwnE w' w.heap.size v (Bk.old l later) ∧ Below w.heap.size w w' := by
  have hcap : l.length ≤ cap := hr.1
  have HRW : Hid (∀ W, Below w.heap.size w W → BEL W ao cap l) := fun W hW => BEL.below hr hW
  have HAG : Hid (∀ x ∈ l, 0 ≤ x.age ∧ x.age ≤ 300) := hag
  clear hr hag
  go_enter Try.func16, Try.ntmps16
  go_wp2_with fail
  go_loopw [5, 10] (fun o i wr => ∃ (k : Nat) (a : Option Addr) (m c : Nat), k ≤ l.length ∧ i = .int .i64 k ∧ o = .slice a m c ∧ Hid (m = (Bk.old (l.take k) later).length ∧ OwnE wr w.heap.size (.slice a m c) (Bk.old (l.take k) later) ∧ Below w.heap.size w wr)) (fun _ i _ => l.length - (intOf i).toNat)
  case atStart => exact ⟨0, none, 0, 0, by omega, rfl, rfl, ⟨by simp [Bk.old], OwnE.nil _ _, Below.refl _ _⟩⟩
  case round =>
    obtain ⟨k, a, m, c, hk, rfl, rfl, hX⟩ := hrel
    by_cases hlt : k < l.length
    · obtain ⟨b, off, rfl, _⟩ := (HRW.out wr hX.out.2.2).place (by omega)
      obtain ⟨c0, c1, c2, c3⟩ := (HRW.out wr hX.out.2.2).cells hlt
      have hst : Bk.old (l.take (k + 1)) later = Bk.old (l.take k) later ++ (if Bk.stays later (at' l k) = true then [Bk.older later (at' l k)] else []) := by
        rw [Bk.take_succ l k hlt, Bk.old_append, Bk.old_one]
      obtain ⟨ha1, ha2⟩ := HAG.out _ (Bk.at_mem l k hlt)
      have hf : (Bk.old (l.take k) later).length ≤ 1000 := Nat.le_trans (Bk.old_length _ _) (by simp; omega)
      have HYES : Hid (Bk.stays later (at' l k) = true → ∃ a1 m1 c1 w2, runAppE (.slice a m c) (.slice (some ⟨wr.heap.size + 1, 0, none⟩) 1 1) ((wr.alloc (.cells #[.int .i64 (at' l k).vid, .int .u64 (at' l k).addr, .int .i64 (at' l k).port, .int .i64 ((at' l k).age + later)] 41)).alloc (.cells #[.int .i64 (at' l k).vid, .int .u64 (at' l k).addr, .int .i64 (at' l k).port, .int .i64 ((at' l k).age + later)] 41)) (.slice a1 m1 c1) w2 ∧ Hid (m1 = (Bk.old (l.take (k + 1)) later).length ∧ OwnE w2 w.heap.size (.slice a1 m1 c1) (Bk.old (l.take (k + 1)) later) ∧ Below w.heap.size w w2)) := fun hp => by
        obtain ⟨X, hX'⟩ : ∃ X, X = wr.alloc (.cells #[.int .i64 (at' l k).vid, .int .u64 (at' l k).addr, .int .i64 (at' l k).port, .int .i64 ((at' l k).age + later)] 41) := ⟨_, rfl⟩
        have hXB : Below wr.heap.size wr X := by rw [hX']; exact below_alloc1 _ _
        have hsz : X.heap.size = wr.heap.size + 1 := by rw [hX']; simp
        obtain ⟨a1, m1, c1, w2, r, e1, o, bb, _⟩ := more_e w X (hX.out.2.2.trans (hXB.mono hX.out.2.2.size)) (.slice a m c) _ (Bk.older later (at' l k)) (hX.out.2.1.below hXB) hf
        rw [if_pos hp] at hst
        rw [hst]
        rw [hsz] at r
        rw [← hX']
        exact ⟨a1, m1, c1, w2, r, e1, o, bb⟩
      have HNO : Hid (Bk.stays later (at' l k) = false → ∀ o, m = (Bk.old (l.take (k + 1)) later).length ∧ OwnE (wr.alloc o) w.heap.size (.slice a m c) (Bk.old (l.take (k + 1)) later) ∧ Below w.heap.size w (wr.alloc o)) := fun hp o => by
        rw [if_neg (by simp [hp]), List.append_nil] at hst
        rw [hst]
        exact ⟨hX.out.1, hX.out.2.1.below (below_alloc1 _ _), hX.out.2.2.alloc hX.out.2.2.size _⟩
      have HLF : Hid (Bk.stays later (at' l k) = decide (0 ≤ later ∧ later ≤ 300 - (at' l k).age)) := rfl
      clear hst hf hX HRW HAG
      generalize Bk.stays later (at' l k) = LF at *
      generalize at' l k = y at *
      by_cases q1 : 0 ≤ later
      · by_cases q2 : later ≤ 300
        · have wp : IntKind.i64.wrap (y.age + later) = y.age + later := wraps_i64 _ (by omega) (by omega)
          by_cases q3 : y.age + later ≤ 300
          · have HL : Hid (LF = true) := by rw [HLF.out]; exact decide_eq_true (by omega)
            obtain ⟨a1, m1, c1', w2, r, HZ⟩ := HYES.out HL.out
            have HR : Hid _ := r
            clear HYES HNO HLF r
            go_wp2_with (at_builtin; refine wpList_append_run rfl (.tmp 32) (.tmp 34) 22 rfl _ _ _ rfl rfl HR.out ?_; clear HR)
            exact ⟨⟨k + 1, a1, m1, c1', by omega, by go_num, rfl, HZ⟩, by simp [intOf]; omega⟩
          · have HL : Hid (LF = false) := by rw [HLF.out]; exact decide_eq_false (by omega)
            have HZ : Hid _ := HNO.out HL.out
            clear HYES HNO HLF
            go_wp2_with fail
            exact ⟨⟨k + 1, a, m, c, by omega, by go_num, rfl, HZ.out _⟩, by simp [intOf]; omega⟩
        · have HL : Hid (LF = false) := by rw [HLF.out]; exact decide_eq_false (by omega)
          have HZ : Hid _ := HNO.out HL.out
          clear HYES HNO HLF
          go_wp2_with fail
          exact ⟨⟨k + 1, a, m, c, by omega, by go_num, rfl, HZ.out _⟩, by simp [intOf]; omega⟩
      · have HL : Hid (LF = false) := by rw [HLF.out]; exact decide_eq_false (by omega)
        have HZ : Hid _ := HNO.out HL.out
        clear HYES HNO HLF
        go_wp2_with fail
        exact ⟨⟨k + 1, a, m, c, by omega, by go_num, rfl, HZ.out _⟩, by simp [intOf]; omega⟩
    · obtain rfl : k = l.length := by omega
      have HF : Hid (OwnE wr w.heap.size (.slice a m c) (Bk.old l later) ∧ Below w.heap.size w wr) := by
        have h := hX.out.2
        rw [List.take_length] at h
        exact h
      clear hX HRW HAG
      go_wp2_with fail
      go_ret
      exact ⟨_, rfl, HF.out.1, HF.out.2⟩
end Go.Proofs.Ytdhjihfgckmjhaa
