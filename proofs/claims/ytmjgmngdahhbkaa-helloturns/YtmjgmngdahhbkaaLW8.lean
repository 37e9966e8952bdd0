/- walks: hedgelaw4.HelloTurns -/
import Derived.Test.YtmjgmngdahhbkaaLW7
import Derived.Test.YtmjgmngdahhbkaaLFr
namespace Go.Proofs.Ytmjgmngdahhbkaa
open Go.RowKit
open Hl (Tl)

set_option maxHeartbeats 2000000 in
theorem lturns_any (r : HlIn) (bo : Option Addr) (m bc : Nat) (xs : Nat → Int) (w : World) (hr : r.at' w) (hx : ByteRow w bo m bc xs) (hnx : NilOk bo m bc) (hxs : ∀ i, i < m → 0 ≤ xs i ∧ xs i ≤ 255) :
    Calls Try.prog 4 #[.agg #[.slice r.da r.dn r.dc, .slice r.ao r.n r.cap], .slice bo m bc] w fun e w' => e = .returned (.bool true) ∧ Below w.heap.size w w' := by
  obtain ⟨da, dn, dc, dg, ao, n, cap, ts⟩ := r
  obtain ⟨hd, hdr, hdn, ht, hwd, htn, hmany⟩ := hr
  simp only at hd hdr hdn ht hwd htn hmany ⊢
  have HX : Hid (ByteRow w bo m bc xs) := hx
  have HNX : Hid (NilOk bo m bc) := hnx
  have HD : Hid (ByteRow w da dn dc dg) := hd
  have HT : Hid (TaleRow w ao n cap ts) := ht
  have HPB : Hid (∀ W, ByteRow W bo m bc xs → Calls Try.prog 10 #[.slice bo m bc] W fun e w' => ((∃ E : Int, E ≠ 0 ∧ e = .returned (.tuple #[.agg #[.slice none 0 0, .slice none 0 0], .int .i64 E])) ∨
    ∃ k da dc ta tc, m = 17 + k * 23 ∧ e = .returned (.tuple #[.agg #[.slice da 16 dc, .slice ta k tc], .int .i64 0]) ∧ Hl.wrong 16 (Hl.talesF xs) k = 0 ∧ ByteRow w' da 16 dc xs ∧ TaleRow w' ta k tc (Hl.talesF xs) ∧ (∀ i, i < m → Hl.byt xs k (Hl.talesF xs) i = xs i)) ∧ Below W.heap.size W w') := fun W h => by
    refine (lparse_any bo m bc xs W h hxs).mono ?_
    rintro e w' ⟨h1, h2⟩
    exact ⟨parse_back h1 hxs, h2⟩
  have HSN : Hid (∀ W : World, Calls Try.prog 12 #[.agg #[.slice none 0 0, .slice none 0 0], .agg #[.slice none 0 0, .slice none 0 0]] W fun e w' => e = .returned (.bool true) ∧ Below W.heap.size W w') := fun W =>
    lsame_true none none 0 0 0 (fun _ => 0) (fun _ => 0) none none 0 0 0 (fun _ => tl0) W (by omega) ⟨Nat.le_refl _, fun h => absurd h (by omega)⟩ ⟨Nat.le_refl _, fun h => absurd h (by omega)⟩ (fun _ _ => rfl) (fun _ => ⟨rfl, rfl⟩) (fun _ => ⟨rfl, rfl⟩) ⟨Nat.le_refl _, fun h => absurd h (by omega)⟩ ⟨Nat.le_refl _, fun h => absurd h (by omega)⟩
  by_cases hw : Hl.wrong dn ts n = 0
  · obtain ⟨rfl, hw0, hR⟩ := Hl.wrong_zero hw
    have hn16 : n ≤ 16 := hR.many
    have HBY : Hid (∀ W, ByteRow W da 16 dc dg → TaleRow W ao n cap ts → Calls Try.prog 8 #[.agg #[.slice da 16 dc, .slice ao n cap]] W fun e w' => ∃ g, e = .returned (.tuple #[.slice (some ⟨g, 0, none⟩) (17 + n * 23) (17 + n * 23), .int .i64 0]) ∧ Hid (w'.heap[g]? = some (.cells (rowF (17 + n * 23) (Hl.byt dg n ts)) 5 (0, 0))) ∧ Below W.heap.size W w') := fun W h1 h2 => by
      refine (lbytes_right da 16 dc dg ao n cap ts W h1 h2 hw).mono ?_
      rintro e w' ⟨g, h3, h4, _, h5⟩
      exact ⟨g, h3, h4, h5⟩
    have HPT : Hid (∀ W g, W.heap[g]? = some (.cells (rowF (17 + n * 23) (Hl.byt dg n ts)) 5 (0, 0)) → Calls Try.prog 10 #[.slice (some ⟨g, 0, none⟩) (17 + n * 23) (17 + n * 23)] W fun e w' => ∃ da dc ta tc, e = .returned (.tuple #[.agg #[.slice da 16 dc, .slice ta n tc], .int .i64 0]) ∧ Hid (ByteRow w' da 16 dc dg ∧ TaleRow w' ta n tc ts ∧ NilOk da 16 dc) ∧ Below W.heap.size W w') := fun W g hg => by
      refine (lparse_any (some ⟨g, 0, none⟩) (17 + n * 23) (17 + n * 23) (Hl.byt dg n ts) W ((ByteRow.of_row (off := 0) hg (by omega) (Nat.le_refl _)).congr (fun i _ => by rw [Nat.zero_add])) (fun i hi => Hl.byt_range dg n ts hdr hR i hi)).mono ?_
      rintro e w' ⟨h, hb⟩
      obtain ⟨da, dc, ta, tc, he, h1, h2, h3, _⟩ := parse_there h hw0 hwd
      exact ⟨da, dc, ta, tc, he, ⟨h1, h2, h3⟩, hb⟩
    have HSM : Hid (∀ W da2 dc2 ta2 tc2, ByteRow W da2 16 dc2 dg → TaleRow W ta2 n tc2 ts → NilOk da2 16 dc2 → ByteRow W da 16 dc dg → TaleRow W ao n cap ts → Calls Try.prog 12 #[.agg #[.slice da2 16 dc2, .slice ta2 n tc2], .agg #[.slice da 16 dc, .slice ao n cap]] W fun e w' => e = .returned (.bool true) ∧ Below W.heap.size W w') := fun W da2 dc2 ta2 tc2 h1 h2 h3 h4 h5 =>
      lsame_true da2 da 16 dc2 dc dg dg ta2 ao n tc2 cap ts W (by omega) h1 h4 (fun _ _ => rfl) h3 hdn h2 h5
    clear hd hdr hdn ht hwd htn hmany hx hnx hxs hw hw0 hR
    go_enter Try.func4, Try.ntmps4
    go_wp2_with fail
    refine (lalive_any _).mono ?_
    rintro e w1 ⟨rfl, hb1⟩
    have HB1 : Hid (Below w.heap.size w w1) := (below_alloc1 w _).trans (hb1.mono (by simp))
    have HA1 : Hid (w1.heap[w.heap.size]? = some (.cells #[.slice da 16 dc, .slice ao n cap] 25 (0, 0))) := keep (heap_alloc_last w _) hb1
    clear hb1
    obtain ⟨k0, k1⟩ := hl_cells HA1.out
    go_wp2_with fail
    refine (HBY.out _ (HD.out.below HB1.out) (HT.out.below HB1.out)).mono ?_
    rintro e w2 ⟨g, rfl, HG, hb2⟩
    have HB2 : Hid (Below w.heap.size w w2) := HB1.out.trans (hb2.mono HB1.out.size)
    have HA2 : Hid (w2.heap[w.heap.size]? = some (.cells #[.slice da 16 dc, .slice ao n cap] 25 (0, 0))) := keep HA1.out hb2
    clear hb2 k0 k1 HA1
    go_wp2_with fail
    refine (HPT.out _ g HG.out).mono ?_
    rintro e w3 ⟨da3, dc3, ta3, tc3, rfl, H3, hb3⟩
    have HB3 : Hid (∀ o, Below w.heap.size w (w3.alloc o)) := fun o => (HB2.out.trans (hb3.mono HB2.out.size)).alloc (HB2.out.trans (hb3.mono HB2.out.size)).size _
    have HA3 : Hid (∀ o, (w3.alloc o).heap[w.heap.size]? = some (.cells #[.slice da 16 dc, .slice ao n cap] 25 (0, 0))) := fun o => keep (keep HA2.out hb3) (below_alloc1 w3 o)
    have HS3 : Hid (∀ o, Calls Try.prog 12 #[.agg #[.slice da3 16 dc3, .slice ta3 n tc3], .agg #[.slice da 16 dc, .slice ao n cap]] (w3.alloc o) fun e w' => e = .returned (.bool true) ∧ Hid (Below w.heap.size w w')) := fun o => by
      refine (HSM.out _ da3 dc3 ta3 tc3 (H3.out.1.below (below_alloc1 _ _)) (H3.out.2.1.below (below_alloc1 _ _)) H3.out.2.2 (HD.out.below (HB3.out o)) (HT.out.below (HB3.out o))).mono ?_
      rintro e w' ⟨h1, h2⟩
      exact ⟨h1, (HB3.out o).trans (h2.mono (HB3.out o).size)⟩
    have k0 : ∀ o, (w3.alloc o).cell? ⟨w.heap.size, 0, none⟩ = some (.slice da 16 dc) := fun o => (hl_cells (HA3.out o)).1
    have k1 : ∀ o, (w3.alloc o).cell? ⟨w.heap.size, 1, none⟩ = some (.slice ao n cap) := fun o => (hl_cells (HA3.out o)).2
    clear hb3 HA2 HB2 HG
    go_wp2_with fail
    refine (HS3.out _).mono ?_
    rintro e ws ⟨rfl, HBs⟩
    go_wp2_with fail
    refine (HPB.out _ (HX.out.below HBs.out)).mono ?_
    rintro e w4 ⟨h4, hb4⟩
    have HB4 : Hid (Below w.heap.size w w4) := HBs.out.trans (hb4.mono HBs.out.size)
    clear hb4
    rcases h4 with ⟨E, hE, rfl⟩ | ⟨m2, da, dc, ta, tc, hm2, rfl, hwr, hd4, ht4, hback⟩
    · have hE1 : (E != 0) = true := by simp [hE]
      go_wp2_with fail
      refine (HSN.out _).mono ?_
      rintro e w5 ⟨rfl, hb5⟩
      have HB5 : Hid (Below w.heap.size w w5) := (HB4.out.alloc HB4.out.size _).trans (hb5.mono (by have := HB4.out.size; simp; omega))
      clear hb5
      go_wp2_with fail
      go_ret
      exact ⟨rfl, HB5.out⟩
    · have HM2 : Hid (m = 17 + m2 * 23) := hm2
      have HBB : Hid (∀ o, Calls Try.prog 8 #[.agg #[.slice da 16 dc, .slice ta m2 tc]] (w4.alloc o) fun e w' => ∃ g, e = .returned (.tuple #[.slice (some ⟨g, 0, none⟩) m m, .int .i64 0]) ∧ Hid (ByteRow w' (some ⟨g, 0, none⟩) m m xs) ∧ Hid (Below w.heap.size w w')) := fun o => by
        refine (lbytes_right da 16 dc xs ta m2 tc (Hl.talesF xs) (w4.alloc o) (hd4.below (below_alloc1 _ _)) (ht4.below (below_alloc1 _ _)) hwr).mono ?_
        rintro e w' ⟨g, h1, h2, _, h3⟩
        rw [← hm2] at h1 h2
        refine ⟨g, h1, ((ByteRow.of_row (off := 0) h2 (by omega) (Nat.le_refl _)).congr (fun i hi => ?_)), (HB4.out.alloc HB4.out.size _).trans (h3.mono (by have := HB4.out.size; simp; omega))⟩
        rw [Nat.zero_add]; exact hback i hi
      clear hm2 hwr hd4 ht4 hback
      go_wp2_with fail
      refine (HBB.out _).mono ?_
      rintro e w5 ⟨g5, rfl, HR5, HB5⟩
      have s1 : (convert 22 9 (.slice (some ⟨g5, 0, none⟩) m m)).run Try.prog w5 = .ok (.string (strOf m xs)) w5 := run_str w5 _ m m xs HR5.out (fun e => by cases e)
      have s2 : (convert 22 9 (.slice bo m bc)).run Try.prog w5 = .ok (.string (strOf m xs)) w5 := run_str w5 bo m bc xs (HX.out.below HB5.out) HNX.out
      generalize strOf m xs = S at *
      go_wp2_with fail
      go_ret
      exact ⟨by simp, HB5.out⟩
  · have HBY : Hid (∀ W, TaleRow W ao n cap ts → Calls Try.prog 8 #[.agg #[.slice da dn dc, .slice ao n cap]] W fun e w' => e = .returned (.tuple #[.slice none 0 0, .int .i64 (Hl.wrong dn ts n)]) ∧ Below W.heap.size W w') := fun W h => lbytes_wrong da dn dc ao n cap ts W hmany h hw
    generalize Hl.wrong dn ts n = E0 at *
    have hE0 : (E0 == 0) = false := by simp [hw]
    clear hd hdr hdn ht hwd htn hmany hx hnx hxs
    go_enter Try.func4, Try.ntmps4
    go_wp2_with fail
    refine (lalive_any _).mono ?_
    rintro e w1 ⟨rfl, hb1⟩
    have HB1 : Hid (Below w.heap.size w w1) := (below_alloc1 w _).trans (hb1.mono (by simp))
    have HA1 : Hid (w1.heap[w.heap.size]? = some (.cells #[.slice da dn dc, .slice ao n cap] 25 (0, 0))) := keep (heap_alloc_last w _) hb1
    clear hb1
    obtain ⟨k0, k1⟩ := hl_cells HA1.out
    go_wp2_with fail
    refine (HBY.out _ (HT.out.below HB1.out)).mono ?_
    rintro e ws ⟨rfl, hbs⟩
    have HBs : Hid (Below w.heap.size w ws) := HB1.out.trans (hbs.mono HB1.out.size)
    clear hbs k0 k1 HA1
    go_wp2_with fail
    refine (HPB.out _ (HX.out.below HBs.out)).mono ?_
    rintro e w4 ⟨h4, hb4⟩
    have HB4 : Hid (Below w.heap.size w w4) := HBs.out.trans (hb4.mono HBs.out.size)
    clear hb4
    rcases h4 with ⟨E, hE, rfl⟩ | ⟨m2, da, dc, ta, tc, hm2, rfl, hwr, hd4, ht4, hback⟩
    · have hE1 : (E != 0) = true := by simp [hE]
      go_wp2_with fail
      refine (HSN.out _).mono ?_
      rintro e w5 ⟨rfl, hb5⟩
      have HB5 : Hid (Below w.heap.size w w5) := (HB4.out.alloc HB4.out.size _).trans (hb5.mono (by have := HB4.out.size; simp; omega))
      clear hb5
      go_wp2_with fail
      go_ret
      exact ⟨rfl, HB5.out⟩
    · have HM2 : Hid (m = 17 + m2 * 23) := hm2
      have HBB : Hid (∀ o, Calls Try.prog 8 #[.agg #[.slice da 16 dc, .slice ta m2 tc]] (w4.alloc o) fun e w' => ∃ g, e = .returned (.tuple #[.slice (some ⟨g, 0, none⟩) m m, .int .i64 0]) ∧ Hid (ByteRow w' (some ⟨g, 0, none⟩) m m xs) ∧ Hid (Below w.heap.size w w')) := fun o => by
        refine (lbytes_right da 16 dc xs ta m2 tc (Hl.talesF xs) (w4.alloc o) (hd4.below (below_alloc1 _ _)) (ht4.below (below_alloc1 _ _)) hwr).mono ?_
        rintro e w' ⟨g, h1, h2, _, h3⟩
        rw [← hm2] at h1 h2
        refine ⟨g, h1, ((ByteRow.of_row (off := 0) h2 (by omega) (Nat.le_refl _)).congr (fun i hi => ?_)), (HB4.out.alloc HB4.out.size _).trans (h3.mono (by have := HB4.out.size; simp; omega))⟩
        rw [Nat.zero_add]; exact hback i hi
      clear hm2 hwr hd4 ht4 hback
      go_wp2_with fail
      refine (HBB.out _).mono ?_
      rintro e w5 ⟨g5, rfl, HR5, HB5⟩
      have s1 : (convert 22 9 (.slice (some ⟨g5, 0, none⟩) m m)).run Try.prog w5 = .ok (.string (strOf m xs)) w5 := run_str w5 _ m m xs HR5.out (fun e => by cases e)
      have s2 : (convert 22 9 (.slice bo m bc)).run Try.prog w5 = .ok (.string (strOf m xs)) w5 := run_str w5 bo m bc xs (HX.out.below HB5.out) HNX.out
      generalize strOf m xs = S at *
      go_wp2_with fail
      go_ret
      exact ⟨by simp, HB5.out⟩
end Go.Proofs.Ytmjgmngdahhbkaa
