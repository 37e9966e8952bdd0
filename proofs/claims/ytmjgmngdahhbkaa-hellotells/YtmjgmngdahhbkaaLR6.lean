/- walks: hedgelaw4.HelloTells -/
import Derived.Test.YtmjgmngdahhbkaaLR4
import Derived.Test.YtmjgmngdahhbkaaLR5
import Derived.Test.YtmjgmngdahhbkaaLW6
import Derived.Test.YtmjgmngdahhbkaaLFr
namespace Go.Proofs.Ytmjgmngdahhbkaa
open Go.RowKit
open Hl (Tl)

/-- Two that answer as Parse must answer the same. -/
theorem lparse_two {n : Nat} {bs : Nat → Int} {e1 : Ending} {w1 : World} (h : LParse n bs e1 w1) :
    (∃ E : Int, e1 = .returned (.tuple #[.agg #[.slice none 0 0, .slice none 0 0], .int .i64 E]) ∧ ∀ e2 w2, LParse n bs e2 w2 → e2 = .returned (.tuple #[.agg #[.slice none 0 0, .slice none 0 0], .int .i64 E])) ∨
    ∃ m da dc ta tc, e1 = .returned (.tuple #[.agg #[.slice da 16 dc, .slice ta m tc], .int .i64 0]) ∧ m ≤ 9223372036854775807 ∧ ByteRow w1 da 16 dc bs ∧ TaleRow w1 ta m tc (Hl.talesF bs) ∧ NilOk da 16 dc ∧ ∀ e2 w2, LParse n bs e2 w2 → ∃ da dc ta tc, e2 = .returned (.tuple #[.agg #[.slice da 16 dc, .slice ta m tc], .int .i64 0]) ∧ ByteRow w2 da 16 dc bs ∧ TaleRow w2 ta m tc (Hl.talesF bs) ∧ NilOk da 16 dc := by
  rcases h with ⟨hs, h⟩ | ⟨m, hn, hm, ⟨hE, h⟩ | ⟨hE, da, dc, ta, tc, h, h1, h2, h3, _⟩⟩
  · refine Or.inl ⟨2, h, fun e2 w2 k => ?_⟩
    rcases k with ⟨_, k⟩ | ⟨m', hn', hm', _⟩
    · exact k
    · exact absurd ⟨by omega, by rw [hm']; omega⟩ hs
  · refine Or.inl ⟨_, h, fun e2 w2 k => ?_⟩
    rcases k with ⟨k, _⟩ | ⟨m', hn', _, ⟨_, k⟩ | ⟨k, _⟩⟩
    · exact absurd ⟨by omega, by rw [hm]; omega⟩ k
    · obtain rfl : m' = m := by omega
      exact k
    · obtain rfl : m' = m := by omega
      exact absurd k hE
  · refine Or.inr ⟨m, da, dc, ta, tc, h, (by have := (Hl.right_of hE).many; omega), h1, h2, h3, fun e2 w2 k => ?_⟩
    rcases k with ⟨k, _⟩ | ⟨m', hn', _, ⟨k, _⟩ | ⟨_, da', dc', ta', tc', k, k1, k2, k3, _⟩⟩
    · exact absurd ⟨by omega, by rw [hm]; omega⟩ k
    · obtain rfl : m' = m := by omega
      exact absurd hE k
    · obtain rfl : m' = m := by omega
      exact ⟨da', dc', ta', tc', k, k1, k2, k3⟩
set_option maxHeartbeats 2000000 in
theorem ltells_any (r : HlIn) (bo : Option Addr) (m bc : Nat) (xs : Nat → Int) (w : World) (hr : r.at' w) (hx : ByteRow w bo m bc xs) (hxs : ∀ i, i < m → 0 ≤ xs i ∧ xs i ≤ 255) :
    Calls Try.prog 3 #[.agg #[.slice r.da r.dn r.dc, .slice r.ao r.n r.cap], .slice bo m bc] w fun e w' => e = .returned (.bool true) ∧ Below w.heap.size w w' := by
  obtain ⟨da, dn, dc, dg, ao, n, cap, ts⟩ := r
  obtain ⟨hd, hdr, hdn, ht, hwd, htn, hmany⟩ := hr
  simp only at hd hdr hdn ht hwd htn hmany ⊢
  have HX : Hid (ByteRow w bo m bc xs) := hx
  obtain ⟨W0, HW0⟩ : ∃ W0, Hid (W0 = w.alloc (.cells #[.slice da dn dc, .slice ao n cap] 25)) := ⟨_, rfl⟩
  have HB0 : Hid (Below w.heap.size w W0) := by rw [HW0.out]; exact below_alloc1 _ _
  have HA0 : Hid (W0.heap[w.heap.size]? = some (.cells #[.slice da dn dc, .slice ao n cap] 25 (0, 0))) := by rw [HW0.out]; exact heap_alloc_last _ _
  have HC : Hid (∀ W, Below W0.heap.size W0 W → W.cell? ⟨w.heap.size, 0, none⟩ = some (.slice da dn dc) ∧ W.cell? ⟨w.heap.size, 1, none⟩ = some (.slice ao n cap)) := fun W hW => hl_cells (keep HA0.out hW)
  have HL : Hid (∀ W, Below W0.heap.size W0 W → Below w.heap.size w W) := fun W hW => HB0.out.trans (hW.mono HB0.out.size)
  have HT : Hid (∀ W, Below W0.heap.size W0 W → TaleRow W ao n cap ts) := fun W hW => ht.below (HL.out W hW)
  have HD : Hid (∀ W, Below W0.heap.size W0 W → ByteRow W da dn dc dg) := fun W hW => hd.below (HL.out W hW)
  have HWA : Hid (∀ W, Below W0.heap.size W0 W → Calls Try.prog 6 #[.agg #[.slice da dn dc, .slice ao n cap]] W fun e w' => e = .returned (.int .i64 (Hl.wrong dn ts n)) ∧ Hid (Below W0.heap.size W0 w')) := fun W hW => by
    refine (lwrong_any da dn dc ao n cap ts W hmany (HT.out W hW)).mono ?_
    rintro e w' ⟨h1, h2⟩
    exact ⟨h1, hW.trans (h2.mono hW.size)⟩
  have HRW : Hid (∀ W, Below W0.heap.size W0 W → Calls Try.prog 7 #[.agg #[.slice da dn dc, .slice ao n cap]] W fun e w' => e = .returned (.int .i64 (Hl.wrong dn ts n)) ∧ Hid (Below W0.heap.size W0 w')) := fun W hW => by
    refine (rwrong_hl da dn dc ao n cap ts W hmany (HT.out W hW)).mono ?_
    rintro e w' ⟨h1, h2⟩
    exact ⟨h1, hW.trans (h2.mono hW.size)⟩
  -- both Bytes: the same error, and bytes that are the same as strings
  have HBY : Hid (∀ W, Below W0.heap.size W0 W → Calls Try.prog 8 #[.agg #[.slice da dn dc, .slice ao n cap]] W fun e w' => ∃ a1 n1 c1, e = .returned (.tuple #[.slice a1 n1 c1, .int .i64 (Hl.wrong dn ts n)]) ∧ Hid (ByteRow w' a1 n1 c1 (Hl.byt dg n ts) ∧ NilOk a1 n1 c1 ∧ n1 = (if Hl.wrong dn ts n = 0 then 17 + n * 23 else 0)) ∧ Hid (Below W0.heap.size W0 w')) := fun W hW => by
    by_cases hw : Hl.wrong dn ts n = 0
    · refine (lbytes_right da dn dc dg ao n cap ts W (HD.out W hW) (HT.out W hW) hw).mono ?_
      rintro e w' ⟨g, h1, h2, _, h3⟩
      exact ⟨_, _, _, by rw [hw]; exact h1, ⟨(ByteRow.of_row (off := 0) h2 (by omega) (Nat.le_refl _)).congr (fun i _ => by rw [Nat.zero_add]), (fun e => by cases e), by rw [if_pos hw]⟩, hW.trans (h3.mono hW.size)⟩
    · refine (lbytes_wrong da dn dc ao n cap ts W hmany (HT.out W hW) hw).mono ?_
      rintro e w' ⟨h1, h3⟩
      exact ⟨_, _, _, h1, ⟨⟨Nat.le_refl _, fun h => absurd h (by omega)⟩, (fun _ => ⟨rfl, rfl⟩), by rw [if_neg hw]⟩, hW.trans (h3.mono hW.size)⟩
  have HRY : Hid (∀ W, Below W0.heap.size W0 W → Calls Try.prog 9 #[.agg #[.slice da dn dc, .slice ao n cap]] W fun e w' => ∃ a1 n1 c1, e = .returned (.tuple #[.slice a1 n1 c1, .int .i64 (Hl.wrong dn ts n)]) ∧ Hid (ByteRow w' a1 n1 c1 (Hl.byt dg n ts) ∧ NilOk a1 n1 c1 ∧ n1 = (if Hl.wrong dn ts n = 0 then 17 + n * 23 else 0)) ∧ Hid (Below W.heap.size W w' ∧ Below W0.heap.size W0 w')) := fun W hW => by
    by_cases hw : Hl.wrong dn ts n = 0
    · refine (rbytes_right_hl da dn dc dg ao n cap ts W (HD.out W hW) (HT.out W hW) hwd hw).mono ?_
      rintro e w' ⟨a1, c1, h1, h2, h4, h3⟩
      exact ⟨_, _, _, by rw [hw]; exact h1, ⟨h2, h4, by rw [if_pos hw]⟩, h3, hW.trans (h3.mono hW.size)⟩
    · refine (rbytes_wrong_hl da dn dc ao n cap ts W hmany (HT.out W hW) hw).mono ?_
      rintro e w' ⟨h1, h3⟩
      exact ⟨_, _, _, h1, ⟨⟨Nat.le_refl _, fun h => absurd h (by omega)⟩, (fun _ => ⟨rfl, rfl⟩), by rw [if_neg hw]⟩, h3, hW.trans (h3.mono hW.size)⟩
  have HPA : Hid (∀ W, Below w.heap.size w W → Calls Try.prog 10 #[.slice bo m bc] W fun e w' => LParse m xs e w' ∧ Below W.heap.size W w') := fun W hW => lparse_any bo m bc xs W (HX.out.below hW) hxs
  have HRP : Hid (∀ W, Below w.heap.size w W → Calls Try.prog 11 #[.slice bo m bc] W fun e w' => LParse m xs e w' ∧ Below W.heap.size W w') := fun W hW => rparse_hl bo m bc xs W (HX.out.below hW) hxs
  clear hd hdr hdn ht hwd htn hmany hx hxs
  generalize Hl.wrong dn ts n = E at *
  generalize Hl.byt dg n ts = F at *
  have HB1 : Hid (Below W0.heap.size W0 W0) := Below.refl _ _
  go_enter Try.func3, Try.ntmps3
  go_wp2_with fail
  rw [← HW0.out]
  obtain ⟨c0, c1⟩ := HC.out W0 HB1.out
  go_region_held3 (fun W => W.cell? ⟨w.heap.size, 0, none⟩ = some (.slice da dn dc) ∧ W.cell? ⟨w.heap.size, 1, none⟩ = some (.slice ao n cap))
    (first | (with_reducible exact HC.out _ HB3.out) | (with_reducible exact HC.out _ HB2.out) | (exact HC.out _ (Below.drew HB1.out)) | go_keep)
    (first | (go_at_call 6; refine (HWA.out _ (Below.drew HB1.out)).mono ?_; rintro e w2 ⟨rfl, HB2⟩) | (go_at_call 7; refine (HRW.out _ HB2.out).mono ?_; rintro e w3 ⟨rfl, HB3⟩))
  clear c0 c1
  obtain ⟨c0, c1⟩ := HC.out w3 HB3.out
  go_wp2_with fail
  refine (HBY.out _ HB3.out).mono ?_
  rintro e w4 ⟨a4, n4, c4, rfl, H4, HB4⟩
  clear c0 c1
  obtain ⟨c0, c1⟩ := HC.out w4 HB4.out
  go_wp2_with fail
  refine (HRY.out _ HB4.out).mono ?_
  rintro e w5 ⟨a5, n5, c5, rfl, H5, HB5⟩
  obtain rfl : n5 = n4 := by rw [H4.out.2.2, H5.out.2.2]
  have s1 : (convert 22 9 (.slice a4 n5 c4)).run Try.prog w5 = .ok (.string (strOf n5 F)) w5 := run_str w5 a4 n5 c4 F (H4.out.1.below HB5.out.1) H4.out.2.1
  have s2 : (convert 22 9 (.slice a5 n5 c5)).run Try.prog w5 = .ok (.string (strOf n5 F)) w5 := run_str w5 a5 n5 c5 F H5.out.1 H5.out.2.1
  have HL5 : Hid (Below w.heap.size w w5) := HL.out _ HB5.out.2
  clear H4 H5 HB4 HB5 HB3 HB2 HBY HRY HWA HRW HD HT HC HA0 c0 c1
  generalize strOf n5 F = S at *
  go_wp2_with fail
  clear s1 s2
  refine (HPA.out _ HL5.out).mono ?_
  rintro e w6 ⟨h6, hb6⟩
  have HL6 : Hid (Below w.heap.size w w6) := HL5.out.trans (hb6.mono HL5.out.size)
  clear hb6
  rcases lparse_two h6 with ⟨E6, rfl, h62⟩ | ⟨k6, d6, dc6, t6, tc6, rfl, hk6, hd6, ht6, hz6, h62⟩
  · have H62 : Hid (∀ e2 w2, LParse m xs e2 w2 → e2 = .returned (.tuple #[.agg #[.slice none 0 0, .slice none 0 0], .int .i64 E6])) := h62
    have HRQ : Hid (∀ o, Calls Try.prog 11 #[.slice bo m bc] (w6.alloc o) fun e w' => e = .returned (.tuple #[.agg #[.slice none 0 0, .slice none 0 0], .int .i64 E6]) ∧ Hid (Below (w6.alloc o).heap.size (w6.alloc o) w')) := fun o => by
      refine (HRP.out _ (HL6.out.alloc HL6.out.size _)).mono ?_
      rintro e w' ⟨h1, h2⟩
      exact ⟨H62.out _ _ h1, h2⟩
    have HSN : Hid (∀ W : World, Calls Try.prog 12 #[.agg #[.slice none 0 0, .slice none 0 0], .agg #[.slice none 0 0, .slice none 0 0]] W fun e w' => e = .returned (.bool true) ∧ Below W.heap.size W w') := fun W =>
      lsame_true none none 0 0 0 (fun _ => 0) (fun _ => 0) none none 0 0 0 (fun _ => tl0) W (by omega) ⟨Nat.le_refl _, fun h => absurd h (by omega)⟩ ⟨Nat.le_refl _, fun h => absurd h (by omega)⟩ (fun _ _ => rfl) (fun _ => ⟨rfl, rfl⟩) (fun _ => ⟨rfl, rfl⟩) ⟨Nat.le_refl _, fun h => absurd h (by omega)⟩ ⟨Nat.le_refl _, fun h => absurd h (by omega)⟩
    clear h6 h62 H62
    go_wp2_with fail
    refine (HRQ.out _).mono ?_
    rintro e w7 ⟨rfl, hb7⟩
    have HA7 : Hid (∀ o, (w7.alloc o).heap[w6.heap.size]? = some (.cells #[.slice none 0 0, .slice none 0 0] 25 (0, 0))) := fun o => keep (keep (heap_alloc_last w6 _) hb7.out) (below_alloc1 w7 o)
    have HL7 : Hid (∀ o, Below w.heap.size w (w7.alloc o)) := fun o => by
      have h := (HL6.out.alloc HL6.out.size _).trans (hb7.out.mono (by have := HL6.out.size; simp; omega))
      exact h.alloc h.size _
    have k0 : ∀ o, (w7.alloc o).cell? ⟨w6.heap.size, 0, none⟩ = some (.slice none 0 0) := fun o => (hl_cells (HA7.out o)).1
    have k1 : ∀ o, (w7.alloc o).cell? ⟨w6.heap.size, 1, none⟩ = some (.slice none 0 0) := fun o => (hl_cells (HA7.out o)).2
    clear hb7
    go_wp2_with fail
    refine (HSN.out _).mono ?_
    rintro e w8 ⟨rfl, hb8⟩
    have HL8 : Hid (Below w.heap.size w w8) := (HL7.out _).trans (hb8.mono (HL7.out _).size)
    clear hb8
    go_wp2_with fail
    go_ret
    exact ⟨rfl, HL8.out⟩
  · have HR6 : Hid (ByteRow w6 d6 16 dc6 xs ∧ TaleRow w6 t6 k6 tc6 (Hl.talesF xs) ∧ NilOk d6 16 dc6) := ⟨hd6, ht6, hz6⟩
    have H62 : Hid (∀ e2 w2, LParse m xs e2 w2 → ∃ da dc ta tc, e2 = .returned (.tuple #[.agg #[.slice da 16 dc, .slice ta k6 tc], .int .i64 0]) ∧ ByteRow w2 da 16 dc xs ∧ TaleRow w2 ta k6 tc (Hl.talesF xs) ∧ NilOk da 16 dc) := h62
    have HRQ : Hid (∀ o, Calls Try.prog 11 #[.slice bo m bc] (w6.alloc o) fun e w' => ∃ da dc ta tc, e = .returned (.tuple #[.agg #[.slice da 16 dc, .slice ta k6 tc], .int .i64 0]) ∧ Hid (ByteRow w' da 16 dc xs ∧ TaleRow w' ta k6 tc (Hl.talesF xs) ∧ NilOk da 16 dc) ∧ Hid (Below (w6.alloc o).heap.size (w6.alloc o) w')) := fun o => by
      refine (HRP.out _ (HL6.out.alloc HL6.out.size _)).mono ?_
      rintro e w' ⟨h1, h2⟩
      obtain ⟨da, dc, ta, tc, q1, q2, q3, q4⟩ := H62.out _ _ h1
      exact ⟨da, dc, ta, tc, q1, ⟨q2, q3, q4⟩, h2⟩
    clear h6 h62 H62 hd6 ht6 hz6
    go_wp2_with fail
    refine (HRQ.out _).mono ?_
    rintro e w7 ⟨d7, dc7, t7, tc7, rfl, H7, hb7⟩
    have HA7 : Hid (∀ o, (w7.alloc o).heap[w6.heap.size]? = some (.cells #[.slice d6 16 dc6, .slice t6 k6 tc6] 25 (0, 0))) := fun o => keep (keep (heap_alloc_last w6 _) hb7.out) (below_alloc1 w7 o)
    have HL7 : Hid (∀ o, Below w.heap.size w (w7.alloc o)) := fun o => by
      have h := (HL6.out.alloc HL6.out.size _).trans (hb7.out.mono (by have := HL6.out.size; simp; omega))
      exact h.alloc h.size _
    have k0 : ∀ o, (w7.alloc o).cell? ⟨w6.heap.size, 0, none⟩ = some (.slice d6 16 dc6) := fun o => (hl_cells (HA7.out o)).1
    have k1 : ∀ o, (w7.alloc o).cell? ⟨w6.heap.size, 1, none⟩ = some (.slice t6 k6 tc6) := fun o => (hl_cells (HA7.out o)).2
    have HSM : Hid (∀ o, Calls Try.prog 12 #[.agg #[.slice d6 16 dc6, .slice t6 k6 tc6], .agg #[.slice d7 16 dc7, .slice t7 k6 tc7]] (w7.alloc o) fun e w' => e = .returned (.bool true) ∧ Hid (Below w.heap.size w w')) := fun o => by
      have hlow : Below w6.heap.size w6 (w7.alloc o) := ((below_alloc1 w6 _).trans (hb7.out.mono (by simp))).alloc (by have := hb7.out.size; simp at this; omega) _
      refine (lsame_true d6 d7 16 dc6 dc7 xs xs t6 t7 k6 tc6 tc7 (Hl.talesF xs) (w7.alloc o) hk6 (HR6.out.1.below hlow) (H7.out.1.below (below_alloc1 _ _)) (fun _ _ => rfl) HR6.out.2.2 H7.out.2.2 (HR6.out.2.1.below hlow) (H7.out.2.1.below (below_alloc1 _ _))).mono ?_
      rintro e w' ⟨h1, h2⟩
      exact ⟨h1, (HL7.out o).trans (h2.mono (HL7.out o).size)⟩
    clear hb7 H7 HR6
    go_wp2_with fail
    refine (HSM.out _).mono ?_
    rintro e w8 ⟨rfl, HL8⟩
    go_wp2_with fail
    go_ret
    exact ⟨rfl, HL8.out⟩
end Go.Proofs.Ytmjgmngdahhbkaa
