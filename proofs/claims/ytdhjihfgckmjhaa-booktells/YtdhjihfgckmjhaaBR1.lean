/- walks: the document's ahead, Look, in, Flush, Old (hedgeref8) -/
import Derived.Test.YtdhjihfgckmjhaaBL2
import Derived.Test.YtdhjihfgckmjhaaBW7
import Derived.Test.YtdhjihfgckmjhaaBRa
namespace Go.Proofs.Ytdhjihfgckmjhaa
open Go.RowKit
open Bk (E at')

set_option maxHeartbeats 2000000 in
theorem rflush8_any (ao : Option Addr) (cap : Nat) (l : List E) (port : Int) (wo : Option Addr) (wcap : Nat) (ways : List Int) (w : World) (hn : l.length ≤ 1000) (hr : BEL w ao cap l) (hwn : ways.length ≤ 9223372036854775807) (hw : ILs w wo wcap ways) :
    Calls Try.prog 18 #[.slice ao l.length cap, .int .i64 port, .slice wo ways.length wcap] w fun e w' => ∃ v, e = .returned v ∧ OwnE w' w.heap.size v (Bk.flush l port ways) ∧ Below w.heap.size w w' := by
  have hcap : l.length ≤ cap := hr.1
  have HRW : Hid (∀ W, Below w.heap.size w W → BEL W ao cap l) := fun W hW => BEL.below hr hW
  have HIN : Hid (∀ W n, Below w.heap.size w W → Calls Try.prog 30 #[.slice wo ways.length wcap, .int .i64 n] W fun e w' => e = .returned (.bool (ways.contains n)) ∧ w' = W) := fun W n hW => rin_any wo wcap ways n W hwn (hw.below hW)
  clear hr hw
  go_enter Try.func18, Try.ntmps18
  go_wp2_with fail
  go_loopw [7, 12] (fun o i wr => ∃ (k : Nat) (a : Option Addr) (m c : Nat), k ≤ l.length ∧ i = .int .i64 k ∧ o = .slice a m c ∧ Hid (m = ((l.take k).filter (Bk.left port ways)).length ∧ OwnE wr w.heap.size (.slice a m c) ((l.take k).filter (Bk.left port ways)) ∧ Below w.heap.size w wr)) (fun _ i _ => l.length - (intOf i).toNat)
  case atStart => exact ⟨0, none, 0, 0, by omega, rfl, rfl, ⟨by simp, OwnE.nil _ _, Below.refl _ _⟩⟩
  case round =>
    obtain ⟨k, a, m, c, hk, rfl, rfl, hX⟩ := hrel
    by_cases hlt : k < l.length
    · obtain ⟨b, off, rfl, _⟩ := (HRW.out wr hX.out.2.2).place (by omega)
      obtain ⟨c0, c1, c2, c3⟩ := (HRW.out wr hX.out.2.2).cells hlt
      have hst : (l.take (k + 1)).filter (Bk.left port ways) = (l.take k).filter (Bk.left port ways) ++ (if Bk.left port ways (at' l k) = true then [at' l k] else []) := by
        rw [Bk.take_succ l k hlt, List.filter_append]
        congr 1
        by_cases q : Bk.left port ways (at' l k) = true
        · simp [q]
        · simp [q]
      obtain ⟨X, HX⟩ : ∃ X, Hid (X = wr.alloc (.cells #[.int .i64 (at' l k).vid, .int .u64 (at' l k).addr, .int .i64 (at' l k).port, .int .i64 (at' l k).age] 41)) := ⟨_, rfl⟩
      have hXB : Below wr.heap.size wr X := by rw [HX.out]; exact below_alloc1 _ _
      have hX5 : X.heap[wr.heap.size]? = some (.cells #[.int .i64 (at' l k).vid, .int .u64 (at' l k).addr, .int .i64 (at' l k).port, .int .i64 (at' l k).age] 41 (0, 0)) := by rw [HX.out]; exact heap_alloc_last _ _
      have hoX := hX.out.2.1.below hXB
      have hbX : Below w.heap.size w X := hX.out.2.2.trans (hXB.mono hX.out.2.2.size)
      have hf : ((l.take k).filter (Bk.left port ways)).length ≤ 1000 := Nat.le_trans (List.length_filter_le _ _) (by simp; omega)
      have HYES : Hid (Bk.left port ways (at' l k) = true → ∃ a1 m1 c1 w2, runAppE (.slice a m c) (.slice (some ⟨X.heap.size, 0, none⟩) 1 1) (X.alloc (.cells #[.int .i64 (at' l k).vid, .int .u64 (at' l k).addr, .int .i64 (at' l k).port, .int .i64 (at' l k).age] 41)) (.slice a1 m1 c1) w2 ∧ Hid (m1 = ((l.take (k + 1)).filter (Bk.left port ways)).length ∧ OwnE w2 w.heap.size (.slice a1 m1 c1) ((l.take (k + 1)).filter (Bk.left port ways)) ∧ Below w.heap.size w w2)) := fun hp => by
        obtain ⟨a1, m1, c1, w2, r, e1, o, bb, _⟩ := more_e w X hbX (.slice a m c) _ (at' l k) hoX hf
        rw [if_pos hp] at hst
        rw [hst]
        exact ⟨a1, m1, c1, w2, r, e1, o, bb⟩
      have HNO : Hid (Bk.left port ways (at' l k) = false → m = ((l.take (k + 1)).filter (Bk.left port ways)).length ∧ OwnE X w.heap.size (.slice a m c) ((l.take (k + 1)).filter (Bk.left port ways)) ∧ Below w.heap.size w X) := fun hp => by
        rw [if_neg (by simp [hp]), List.append_nil] at hst
        rw [hst]
        exact ⟨hX.out.1, hoX, hbX⟩
      have HLF : Hid (Bk.left port ways (at' l k) = !(decide ((at' l k).port = port) && ways.contains (at' l k).vid)) := rfl
      have HINX : Hid (Calls Try.prog 30 #[.slice wo ways.length wcap, .int .i64 (at' l k).vid] X fun e w' => e = .returned (.bool (ways.contains (at' l k).vid)) ∧ w' = X) := HIN.out X _ hbX
      obtain ⟨d0, d1, d2, d3⟩ := en_cells hX5
      have HSZ : Hid (X.heap.size = wr.heap.size + 1) := by show X.heap.size = wr.heap.size + 1; rw [HX.out]; simp
      clear hst hXB hX5 hoX hbX hf hX HRW HIN
      generalize Bk.left port ways (at' l k) = LF at *
      generalize hct : ways.contains (at' l k).vid = CT at *
      clear hct
      generalize at' l k = y at *
      by_cases q1 : y.port = port
      · have e1 : (y.port != port) = false := by simp [q1]
        cases CT with
        | true =>
          have HL : Hid (LF = false) := by rw [HLF.out, decide_eq_true q1]; rfl
          have HZ : Hid _ := HNO.out HL.out
          clear HYES HNO HLF q1
          go_wp2_with fail
          rw [← HX.out]
          refine HINX.out.mono ?_
          rintro e w1 ⟨rfl, rfl⟩
          go_wp2_with fail
          exact ⟨⟨k + 1, a, m, c, by omega, by go_num, rfl, HZ⟩, by simp [intOf]; omega⟩
        | false =>
          have HL : Hid (LF = true) := by rw [HLF.out, Bool.and_false]; rfl
          obtain ⟨a1, m1, c1', w2, r, HZ⟩ := HYES.out HL.out
          have HR : Hid _ := r
          clear HYES HNO HLF q1 r
          go_wp2_with fail
          rw [← HX.out]
          refine HINX.out.mono ?_
          rintro e w1 ⟨rfl, rfl⟩
          clear c0 c1 c2 c3
          go_wp2_with (at_builtin; refine wpList_append_run rfl (.tmp 27) (.tmp 29) 22 rfl _ _ _ rfl rfl HR.out ?_; clear HR)
          exact ⟨⟨k + 1, a1, m1, c1', by omega, by go_num, rfl, HZ⟩, by simp [intOf]; omega⟩
      · have e1 : (y.port != port) = true := by simp [q1]
        have HL : Hid (LF = true) := by rw [HLF.out, decide_eq_false q1]; rfl
        obtain ⟨a1, m1, c1', w2, r, HZ⟩ := HYES.out HL.out
        rw [HSZ.out, HX.out] at r
        have HR : Hid _ := r
        clear HYES HNO HLF q1 r HINX
        go_wp2_with (at_builtin; refine wpList_append_run rfl (.tmp 27) (.tmp 29) 22 rfl _ _ _ rfl rfl HR.out ?_; clear HR)
        exact ⟨⟨k + 1, a1, m1, c1', by omega, by go_num, rfl, HZ⟩, by simp [intOf]; omega⟩
    · obtain rfl : k = l.length := by omega
      have HF : Hid (OwnE wr w.heap.size (.slice a m c) (Bk.flush l port ways) ∧ Below w.heap.size w wr) := by
        have h := hX.out.2
        rw [List.take_length] at h
        exact h
      clear hX HRW HIN
      go_wp2_with fail
      go_ret
      exact ⟨_, rfl, HF.out.1, HF.out.2⟩
end Go.Proofs.Ytdhjihfgckmjhaa
