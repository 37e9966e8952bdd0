/- walks: book.kept at the closure of Flush -/
import Derived.Test.YtdhjihfgckmjhaaBW5
namespace Go.Proofs.Ytdhjihfgckmjhaa
open Go.RowKit
open Bk (E at')

set_option maxHeartbeats 2000000 in
theorem bkeptF_any (ao : Option Addr) (cap : Nat) (l : List E) (p : E → Bool) (B1 B2 : Nat) (w : World) (hn : l.length ≤ 1000) (hr : BEL w ao cap l)
    (hc : ∀ W, Below w.heap.size w W → ∀ x ∈ l, Calls Try.prog 28 #[.agg #[.int .i64 x.vid, .int .u64 x.addr, .int .i64 x.port, .int .i64 x.age], .pointer (some ⟨B1, 0, none⟩), .pointer (some ⟨B2, 0, none⟩)] W fun e w' => e = .returned (.bool (p x)) ∧ Below W.heap.size W w') :
    Calls Try.prog 25 #[.slice ao l.length cap, .func (.func 28) #[] #[.pointer (some ⟨B1, 0, none⟩), .pointer (some ⟨B2, 0, none⟩)]] w fun e w' => ∃ v, e = .returned v ∧ OwnE w' w.heap.size v (l.filter p) ∧ Below w.heap.size w w' := by
  have hcap : l.length ≤ cap := hr.1
  have HRW : Hid (∀ W, Below w.heap.size w W → BEL W ao cap l) := fun W hW => BEL.below hr hW
  have HC : Hid (∀ W, Below w.heap.size w W → ∀ x ∈ l, Calls Try.prog 28 #[.agg #[.int .i64 x.vid, .int .u64 x.addr, .int .i64 x.port, .int .i64 x.age], .pointer (some ⟨B1, 0, none⟩), .pointer (some ⟨B2, 0, none⟩)] W fun e w' => e = .returned (.bool (p x)) ∧ Below W.heap.size W w') := hc
  clear hr hc
  go_enter Try.func25, Try.ntmps25
  go_wp2_with fail
  go_loopw [5, 10] (fun o i wr => ∃ (k : Nat) (a : Option Addr) (m c : Nat), k ≤ l.length ∧ i = .int .i64 k ∧ o = .slice a m c ∧ Hid (m = ((l.take k).filter p).length ∧ OwnE wr w.heap.size (.slice a m c) ((l.take k).filter p) ∧ Below w.heap.size w wr)) (fun _ i _ => l.length - (intOf i).toNat)
  case atStart => exact ⟨0, none, 0, 0, by omega, rfl, rfl, ⟨by simp, OwnE.nil _ _, Below.refl _ _⟩⟩
  case round =>
    obtain ⟨k, a, m, c, hk, rfl, rfl, hX⟩ := hrel
    by_cases hlt : k < l.length
    · obtain ⟨b, off, rfl, _⟩ := (HRW.out wr hX.out.2.2).place (by omega)
      obtain ⟨c0, c1, c2, c3⟩ := (HRW.out wr hX.out.2.2).cells hlt
      obtain ⟨X, HX⟩ : ∃ X, Hid (X = wr.alloc (.cells #[.int .i64 (at' l k).vid, .int .u64 (at' l k).addr, .int .i64 (at' l k).port, .int .i64 (at' l k).age] 41)) := ⟨_, rfl⟩
      have HXB : Hid (Below wr.heap.size wr X) := by rw [HX.out]; exact below_alloc1 _ _
      have HX5 : Hid (X.heap[wr.heap.size]? = some (.cells #[.int .i64 (at' l k).vid, .int .u64 (at' l k).addr, .int .i64 (at' l k).port, .int .i64 (at' l k).age] 41 (0, 0))) := by rw [HX.out]; exact heap_alloc_last _ _
      have hst : (l.take (k + 1)).filter p = (l.take k).filter p ++ (if p (at' l k) = true then [at' l k] else []) := by
        rw [Bk.take_succ l k hlt, List.filter_append]
        congr 1
        by_cases q : p (at' l k) = true
        · simp [q]
        · simp [q]
      have HCL : Hid (Calls Try.prog 28 #[.agg #[.int .i64 (at' l k).vid, .int .u64 (at' l k).addr, .int .i64 (at' l k).port, .int .i64 (at' l k).age], .pointer (some ⟨B1, 0, none⟩), .pointer (some ⟨B2, 0, none⟩)] X fun e w' => e = .returned (.bool (p (at' l k))) ∧ w'.heap[wr.heap.size]? = some (.cells #[.int .i64 (at' l k).vid, .int .u64 (at' l k).addr, .int .i64 (at' l k).port, .int .i64 (at' l k).age] 41 (0, 0)) ∧ Hid (OwnE w' w.heap.size (.slice a m c) ((l.take k).filter p) ∧ Below w.heap.size w w')) := by
        have y1 : Below w.heap.size w X := hX.out.2.2.trans (HXB.out.mono hX.out.2.2.size)
        refine (HC.out X y1 (at' l k) (Bk.at_mem l k hlt)).mono ?_
        rintro e w' ⟨rfl, hb⟩
        exact ⟨rfl, keep HX5.out hb, ⟨(hX.out.2.1.below HXB.out).below hb, y1.trans (hb.mono y1.size)⟩⟩
      have HM : Hid (m = ((l.take k).filter p).length) := hX.out.1
      obtain ⟨d0, d1, d2, d3⟩ := en_cells HX5.out
      clear hX HX5 HXB
      by_cases hp : p (at' l k) = true
      · rw [hp] at HCL
        have HYES : Hid (∀ w1 : World, w1.heap[wr.heap.size]? = some (.cells #[.int .i64 (at' l k).vid, .int .u64 (at' l k).addr, .int .i64 (at' l k).port, .int .i64 (at' l k).age] 41 (0, 0)) → OwnE w1 w.heap.size (.slice a m c) ((l.take k).filter p) ∧ Below w.heap.size w w1 → ∃ a1 m1 c1 w2, (Builtin.append_ #[22, 22] 22 #[.slice a m c, .slice (some ⟨w1.heap.size, 0, none⟩) 1 1]).run Try.prog (w1.alloc (.cells #[.int .i64 (at' l k).vid, .int .u64 (at' l k).addr, .int .i64 (at' l k).port, .int .i64 (at' l k).age] 41)) = .ok (.slice a1 m1 c1) w2 ∧ Hid (m1 = ((l.take (k + 1)).filter p).length ∧ OwnE w2 w.heap.size (.slice a1 m1 c1) ((l.take (k + 1)).filter p) ∧ Below w.heap.size w w2)) := fun w1 _ ho => by
          obtain ⟨o1, b1⟩ := ho
          have hf : ((l.take k).filter p).length ≤ 1000 := Nat.le_trans (List.length_filter_le _ _) (by simp; omega)
          obtain ⟨a1, c1, w2, r, o, bb, _⟩ := append_e (w1.alloc (.cells #[.int .i64 (at' l k).vid, .int .u64 (at' l k).addr, .int .i64 (at' l k).port, .int .i64 (at' l k).age] 41)) w.heap.size (.slice a m c) _ (o1.below (below_alloc1 w1 _)) (some ⟨w1.heap.size, 0, none⟩) 1 [at' l k] 1 rfl (one_entry (heap_alloc_last w1 _)) (fun h => by cases h) (by omega) (by have := b1.size; simp; omega)
          rw [if_pos hp] at hst
          rw [hst]
          exact ⟨a1, _, c1, w2, r, rfl, o, (b1.alloc b1.size _).trans bb⟩
        clear hst hp HM HC HRW
        generalize at' l k = x at *
        go_wp2_with fail
        rw [← HX.out]
        refine HCL.out.mono ?_
        rintro e w1 ⟨rfl, h5, HO⟩
        obtain ⟨a1, m1, c1', w2, r, HN⟩ := HYES.out w1 h5 HO.out
        have HR : Hid _ := r
        clear d0 d1 d2 d3 c0 c1 c2 c3 r HYES HCL HX
        obtain ⟨d0, d1, d2, d3⟩ := en_cells h5
        clear h5
        go_wp2_with (at_builtin; refine wpList_append_run rfl (.tmp 17) (.tmp 19) 22 rfl _ _ _ rfl rfl HR.out ?_; clear HR)
        exact ⟨⟨k + 1, a1, m1, c1', by omega, by go_num, rfl, HN⟩, by simp [intOf]; omega⟩
      · have hpf : p (at' l k) = false := by simpa using hp
        rw [hpf] at HCL
        rw [if_neg hp, List.append_nil] at hst
        have HST : Hid _ := hst
        clear hst hp hpf HC HRW
        generalize at' l k = x at *
        go_wp2_with fail
        rw [← HX.out]
        refine HCL.out.mono ?_
        rintro e w1 ⟨rfl, h5, HO⟩
        clear d0 d1 d2 d3 c0 c1 c2 c3 HCL HX h5
        go_wp2_with fail
        exact ⟨⟨k + 1, a, m, c, by omega, by go_num, rfl, ⟨by rw [HST.out]; exact HM.out, by rw [HST.out]; exact HO.out.1, HO.out.2⟩⟩, by simp [intOf]; omega⟩
    · obtain rfl : k = l.length := by omega
      have HF : Hid (OwnE wr w.heap.size (.slice a m c) (l.filter p) ∧ Below w.heap.size w wr) := by
        have h := hX.out.2
        rw [List.take_length] at h
        exact h
      clear hX HRW HC
      go_wp2_with fail
      go_ret
      exact ⟨_, rfl, HF.out.1, HF.out.2⟩
end Go.Proofs.Ytdhjihfgckmjhaa
