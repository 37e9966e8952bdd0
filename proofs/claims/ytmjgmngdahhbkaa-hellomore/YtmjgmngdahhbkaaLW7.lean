/- walks: hedgelaw4.alive; what Parse answers, of a hello's bytes and of whatever bytes -/
import Derived.Test.YtmjgmngdahhbkaaLW6
namespace Go.Proofs.Ytmjgmngdahhbkaa
open Go.RowKit
open Hl (Tl)

theorem byt16 (dg : Nat → Int) (n : Nat) (ts : Nat → Tl) : Hl.byt dg n ts 16 = (n : Int) := by
  unfold Hl.byt; rw [if_neg (by omega), if_pos rfl]
theorem byt_dig (dg : Nat → Int) (n : Nat) (ts : Nat → Tl) (i : Nat) (hi : i < 16) : Hl.byt dg n ts i = dg i := by
  unfold Hl.byt; rw [if_pos hi]
/-- Parse, of a right hello's bytes: that hello. -/
theorem parse_there {n : Nat} {dg : Nat → Int} {ts : Nat → Tl} {e : Ending} {w' : World} (h : LParse (17 + n * 23) (Hl.byt dg n ts) e w') (h0 : Hl.wrongTo ts n = 0) (hw : ∀ i, i < n → (ts i).wide) :
    ∃ da dc ta tc, e = .returned (.tuple #[.agg #[.slice da 16 dc, .slice ta n tc], .int .i64 0]) ∧ ByteRow w' da 16 dc dg ∧ TaleRow w' ta n tc ts ∧ NilOk da 16 dc ∧ NilOk ta n tc := by
  have hb := byt16 dg n ts
  have hr := Hl.right_of h0
  have hts : ∀ i, i < n → Hl.talesF (Hl.byt dg n ts) i = ts i := fun i hi => Hl.turn_there dg n ts hr hw i hi
  rcases h with ⟨h, _⟩ | ⟨m, hm, hm2, h⟩
  · exact absurd ⟨by omega, by rw [hb]; omega⟩ h
  · obtain rfl : m = n := by omega
    have hwr : Hl.wrongTo (Hl.talesF (Hl.byt dg m ts)) m = 0 := (Hl.wrongTo_congr hts).trans h0
    rcases h with ⟨h, _⟩ | ⟨_, da, dc, ta, tc, he, h1, h2, h3, h4⟩
    · exact absurd hwr h
    · exact ⟨da, dc, ta, tc, he, h1.congr (fun i hi => byt_dig dg m ts i hi), h2.congr hts, h3, h4⟩
/-- Parse, of whatever bytes: an error beside nothing, or a hello whose bytes are those. -/
theorem parse_back {n : Nat} {bs : Nat → Int} {e : Ending} {w' : World} (h : LParse n bs e w') (hbs : ∀ i, i < n → 0 ≤ bs i ∧ bs i ≤ 255) :
    (∃ E : Int, E ≠ 0 ∧ e = .returned (.tuple #[.agg #[.slice none 0 0, .slice none 0 0], .int .i64 E])) ∨
    ∃ m da dc ta tc, n = 17 + m * 23 ∧ e = .returned (.tuple #[.agg #[.slice da 16 dc, .slice ta m tc], .int .i64 0]) ∧ Hl.wrong 16 (Hl.talesF bs) m = 0 ∧ ByteRow w' da 16 dc bs ∧ TaleRow w' ta m tc (Hl.talesF bs) ∧ (∀ i, i < n → Hl.byt bs m (Hl.talesF bs) i = bs i) := by
  rcases h with ⟨_, h⟩ | ⟨m, rfl, hm, ⟨hE, h⟩ | ⟨hE, da, dc, ta, tc, he, h1, h2, _, _⟩⟩
  · exact Or.inl ⟨2, by decide, h⟩
  · exact Or.inl ⟨_, hE, h⟩
  · exact Or.inr ⟨m, da, dc, ta, tc, rfl, he, by unfold Hl.wrong; rw [if_pos rfl]; exact hE, h1, h2, fun i hi => Hl.turn_back bs m hm hbs i hi⟩
def aliveT (_ : Nat) : Tl := ⟨3, 0, 0, 0, 0, 7⟩
theorem alive_wrong : Hl.wrong 16 aliveT 1 = 0 := by decide
theorem alive_right : Hl.wrongTo aliveT 1 = 0 := by decide
theorem alive_wide : ∀ i, i < 1 → (aliveT i).wide := fun _ _ => (by decide : (0 ≤ (0 : Int) ∧ (0 : Int) < 18446744073709551616) ∧ 0 ≤ (0 : Int) ∧ (0 : Int) < 18446744073709551616)
set_option maxHeartbeats 1000000 in
theorem lalive_any (w : World) :
    Calls Try.prog 13 #[] w fun e w' => e = .returned (.bool true) ∧ Below w.heap.size w w' := by
  have hmk : (Instr.makeSlice 22 (.int .i64 16) (.int .i64 16)).run Try.prog w = .ok (.slice (some ⟨w.heap.size, 0, none⟩) 16 16) (w.alloc (.cells (rowF 16 (fun _ => 0)) 5)) := make_zeros w 16 (by omega)
  have HB : Hid (∀ ty, Calls Try.prog 8 #[.agg #[.slice (some ⟨w.heap.size, 0, none⟩) 16 16, .slice (some ⟨w.heap.size + 1, 0, none⟩) 1 1]] ((w.alloc (.cells (rowF 16 (fun _ => 0)) 5)).alloc (.cells #[.int .i64 3, .int .u64 0, .int .i64 0, .int .u64 0, .int .i64 0, .int .i64 7] ty)) fun e w' => ∃ g, e = .returned (.tuple #[.slice (some ⟨g, 0, none⟩) 40 40, .int .i64 0]) ∧ Hid (w'.heap[g]? = some (.cells (rowF 40 (Hl.byt (fun _ => 0) 1 aliveT)) 5 (0, 0)) ∧ Below w.heap.size w w')) := by
    intro ty
    refine (lbytes_right (some ⟨w.heap.size, 0, none⟩) 16 16 (fun _ => 0) (some ⟨w.heap.size + 1, 0, none⟩) 1 1 aliveT _ ?_ ?_ alive_wrong).mono ?_
    · exact ByteRow.of_row (off := 0) (heap_alloc2_old w _ _) (by omega) (by omega)
    · refine ⟨Nat.le_refl _, fun _ => ⟨_, 0, rfl, by simp, fun i hi => ?_⟩⟩
      obtain rfl : i = 0 := by omega
      exact tl_cells (t := ⟨3, 0, 0, 0, 0, 7⟩) (heap_alloc2_new w _ _)
    · rintro e w' ⟨g, h1, h2, _, h3⟩
      exact ⟨g, h1, h2, (below_alloc2 w _ _).trans (h3.mono (by simp; omega))⟩
  have HP : Hid (∀ (W : World) (g : Nat), W.heap[g]? = some (.cells (rowF 40 (Hl.byt (fun _ => 0) 1 aliveT)) 5 (0, 0)) → Calls Try.prog 10 #[.slice (some ⟨g, 0, none⟩) 40 40] W fun e w' => ∃ da dc b off tc, e = .returned (.tuple #[.agg #[.slice da 16 dc, .slice (some ⟨b, off, none⟩) 1 tc], .int .i64 0]) ∧ 1 ≤ tc ∧ (∀ o, (w'.alloc o).cell? ⟨b, off + 5, none⟩ = some (.int .i64 7)) ∧ Hid (Below W.heap.size W w')) := by
    intro W g hg
    refine (lparse_any (some ⟨g, 0, none⟩) 40 40 (Hl.byt (fun _ => 0) 1 aliveT) W ((ByteRow.of_row (off := 0) hg (by omega) (by omega)).congr (fun i _ => by rw [Nat.zero_add])) (fun i hi => Hl.byt_range _ _ _ (fun _ _ => by omega) (Hl.right_of alive_right) i hi)).mono ?_
    rintro e w' ⟨h, hb⟩
    obtain ⟨da, dc, ta, tc, he, _, h2, _, _⟩ := parse_there (n := 1) h alive_right alive_wide
    obtain ⟨b, off, rfl, hlt, hc⟩ := h2.2 (by omega)
    have h5 := (hc 0 (by omega)).2.2.2.2.2
    rw [Nat.zero_mul, Nat.add_zero] at h5
    exact ⟨da, dc, b, off, tc, he, h2.1, fun o => ((below_alloc1 w' o).cell (by exact hlt)).trans h5, hb⟩
  go_enter Try.func13, Try.ntmps13
  go_wp2_with (first | (go_at_call 8; refine (HB.out _).mono ?_; rintro e w1 ⟨g, rfl, H1⟩) | (go_at_call 10; refine (HP.out _ g H1.out.1).mono ?_; rintro e w2 ⟨da, dc, b, off, tc, rfl, htc, c5, HB2⟩))
  go_ret
  exact ⟨rfl, (H1.out.2.trans (HB2.out.mono H1.out.2.size)).alloc (H1.out.2.trans (HB2.out.mono H1.out.2.size)).size _⟩
end Go.Proofs.Ytmjgmngdahhbkaa
