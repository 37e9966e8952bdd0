/- walks: SumKnown -/
import Derived.Test.YtllpfebmbpbffaaDoorW14
import Derived.Test.YtllpfebmbpbffaaDoorK2
namespace Go.Proofs.YtllpfebmbpbffaaDoor
open Go.RowKit

/-- '[]byte(s)', its answer and its world as functions of the world. -/
theorem conv_fn (s : ByteArray) : ∃ (cf : World → Nat) (wf : World → World), (∀ w, (convert 9 22 (.string s)).run Tryd.prog w = .ok (.slice (some ⟨w.heap.size, 0, none⟩) s.size (cf w)) (wf w)) ∧
    (∀ w, ByteRow (wf w) (some ⟨w.heap.size, 0, none⟩) s.size (cf w) (byteAt s)) ∧ (∀ w, Below w.heap.size w (wf w)) := by
  refine ⟨fun w => grownCap w s.size 0 5, fun w => w.drew.alloc (.cells (bytesRow s (grownCap w s.size 0 5)) 5 ((bytesRow s (grownCap w s.size 0 5)).size, (bytesRow s (grownCap w s.size 0 5)).size + 1)),
    fun w => run_bytes_of_string (P := Tryd.prog) w 9 22 5 s Tryd.underlying9 Tryd.underlying22 Tryd.underlying5, fun w => ⟨grownCap_ge _ _ _ _, fun hp => ⟨w.heap.size, 0, rfl, by simp, fun i hi => ?_⟩⟩, fun w => (Below.refl _ w).drew.alloc (Nat.le_refl _) _⟩
  have hk : i < s.data.size := hi
  rw [Nat.zero_add, cell_of_row _ w.heap.size i _ _ _ (heap_alloc_last w.drew _), bytesRow_at _ _ _ hk]
  unfold byteAt
  rw [List.getD_eq_getElem?_getD, Array.getElem?_toList, Array.getElem?_eq_getElem hk]
  rfl

def Texts (w : World) (g : Nat) : Prop := ∀ k, k < 7 → w.cell? ⟨g, k * 2, none⟩ = some (.string (hexOf (tx k))) ∧ w.cell? ⟨g, k * 2 + 1, none⟩ = some (.string (hexOf (hxs k)))

theorem conv_const2 (w : World) (o : Obj) (C : Array Value) (n c : Nat) : (convert 22 22 (.slice (some ⟨w.heap.size + 1, 0, none⟩) n c)).run Tryd.prog ((w.alloc o).alloc (.cells C 5)) = .ok (.slice (some ⟨w.heap.size + 1, 0, none⟩) n c) ((w.alloc o).alloc (.cells C 5 (C.size, C.size + 1))) := by
  have h := Lib.run_convert_bytes_const (P := Tryd.prog) (w.alloc o) 22 5 C n c Tryd.underlying22 Tryd.underlying5
  rw [World.size_alloc] at h
  exact h
theorem elevens {w' : World} {g : Nat} (h : w'.heap[g]? = some (.cells (Md.rowB 16 (fun _ => 11) 16) 5 (0, 0))) : ByteRow w' (some ⟨g, 0, none⟩) 16 16 (fun _ => 11) := by
  refine ⟨Nat.le_refl _, fun _ => ⟨g, 0, rfl, block_lt_of_cell ((cell_of_row w' g 0 _ _ _ h).trans (Md.rowB_get _ _ _ _ (by omega))), fun i hi => ?_⟩⟩
  rw [Nat.zero_add]
  refine (cell_of_row w' g i _ _ _ h).trans ?_
  rw [Md.rowB_get _ _ _ _ hi, if_pos hi]

set_option maxHeartbeats 4000000 in
theorem known_any (w : World) (ht : Tabs w) :
    Calls Tryd.prog 4 #[] w fun e w' => e = .returned (.bool true) ∧ Below w.heap.size w w' := by
  have HT : Hid _ := ht
  have hbt := ht.lt
  clear ht
  go_enter Tryd.func4, Tryd.ntmps4
  go_wp2_with fail
  go_loopw [14] (fun i wr => ∃ k : Nat, k ≤ 7 ∧ i = .int .i64 k ∧ Hid (Texts wr w.heap.size ∧ w.heap.size < wr.heap.size ∧ Below w.heap.size w wr)) (fun i _ => 7 - (intOf i).toNat)
  case atStart =>
    refine ⟨0, by omega, rfl, fun k hk => ?_, by simp, (Below.refl _ w).alloc (Nat.le_refl _) _⟩
    rw [World.cell?_alloc_at _ _ _ _ rfl, World.cell?_alloc_at _ _ _ _ rfl]
    rcases (show k = 0 ∨ k = 1 ∨ k = 2 ∨ k = 3 ∨ k = 4 ∨ k = 5 ∨ k = 6 by omega) with rfl | rfl | rfl | rfl | rfl | rfl | rfl <;> exact ⟨rfl, rfl⟩
  case round =>
    obtain ⟨k, hk, rfl, hX⟩ := hrel
    by_cases hlt : k < 7
    · obtain ⟨c0, c1⟩ := hX.out.1 k hlt
      have hsz := hX.out.2.1
      have HS2 : Hid _ := hxs_size k hlt
      have HS1 : Hid _ := tx_size k hlt
      have HKN : Hid _ := known7 k hlt
      generalize hexOf (tx k) = S at *
      generalize hexOf (hxs k) = T at *
      obtain ⟨cf, wf, hcv, hcr, hcb⟩ := conv_fn S
      have HCR : Hid _ := hcr
      have HCB : Hid _ := hcb
      have hcc : ∀ (W : World) (b o : Nat), b < W.heap.size → (wf W).cell? ⟨b, o, none⟩ = W.cell? ⟨b, o, none⟩ := fun W b o h => (hcb W).cell h
      clear hcr hcb
      have HBW : Hid (Below w.heap.size w (wr.alloc (.cells #[.string S, .string T] 26)).drew) := (hX.out.2.2.alloc (by omega) _).drew
      have HTX : Hid (∀ W, Below (wr.heap.size + 1) (wr.alloc (.cells #[.string S, .string T] 26)).drew W → W.cell? ⟨wr.heap.size, 1, none⟩ = some (.string T)) := fun W h => (h.cell (by show wr.heap.size < wr.heap.size + 1; omega)).trans (World.cell?_alloc_at _ _ _ _ rfl)
      have HNX : Hid (∀ W, Below wr.heap.size wr W → Texts W w.heap.size) := fun W h j hj => ⟨(h.cell (by exact hsz)).trans (hX.out.1 j hj).1, (h.cell (by exact hsz)).trans (hX.out.1 j hj).2⟩
      have HSZ : Hid ((wr.alloc (.cells #[.string S, .string T] 26)).drew.heap.size = wr.heap.size + 1) := by show (wr.alloc _).heap.size = _; simp
      have HWR : Hid (Below wr.heap.size wr (wr.alloc (.cells #[.string S, .string T] 26)).drew) := ((Below.refl _ wr).alloc (Nat.le_refl _) _).drew
      have HR1 : Hid (ByteRow (wf (wr.alloc (.cells #[.string S, .string T] 26)).drew) (some ⟨wr.heap.size + 1, 0, none⟩) S.size (cf (wr.alloc (.cells #[.string S, .string T] 26)).drew) (byteAt S)) := by
        have h1 := HCR.out (wr.alloc (.cells #[.string S, .string T] 26)).drew
        rw [HSZ.out] at h1
        exact h1
      have HB1 : Hid (Below (wr.heap.size + 1) (wr.alloc (.cells #[.string S, .string T] 26)).drew (wf (wr.alloc (.cells #[.string S, .string T] 26)).drew)) := (HCB.out _).mono (by rw [HSZ.out]; exact Nat.le_refl _)
      have HZ1 : Hid (wr.heap.size + 1 ≤ (wf (wr.alloc (.cells #[.string S, .string T] 26)).drew).heap.size) := by have h1 := HB1.out.size; rw [HSZ.out] at h1; exact h1
      have HT1 : Hid (Tabs (wf (wr.alloc (.cells #[.string S, .string T] 26)).drew)) := HT.out.below (HBW.out.trans (HB1.out.mono (by omega))) (by omega)
      clear hX HCR HCB HSZ
      go_wp2_with fail
      go_region_with (first | (go_at_call 8; refine (sum_any _ S.size _ (byteAt S) _ HT1.out (by have := HS1.out; omega) HR1.out).mono ?_; rintro e w2 ⟨g2, rfl, hg2, hrow2, hb2⟩; have HB2 : Hid (Below (wr.heap.size + 1) (wr.alloc (.cells #[.string S, .string T] 26)).drew w2) := HB1.out.trans (hb2.mono HZ1.out); have cT := HTX.out _ HB2.out; have HG2 : Hid (RowAt w2 g2 (Md.dg (Md.fin Md.st0 0 S.size (byteAt S)))) := RowAt.of_rowB hrow2; clear hg2 hrow2 hb2) | (go_at_call 12; refine (hex_any T 16 _ HS2.out (by omega)).mono ?_; rintro e w3 ⟨ho, hcap, rfl, hr3, hb3⟩; have HG3 : Hid (RowAt w3 g2 (Md.dg (Md.fin Md.st0 0 S.size (byteAt S)))) := HG2.out.other (hb3.block _ HG2.out.lt); have HR3 : Hid (ByteRow w3 ho 16 hcap (hx T)) := hr3; have HB3 : Hid (Below (wr.heap.size + 1) (wr.alloc (.cells #[.string S, .string T] 26)).drew w3) := HB2.out.trans (hb3.mono (by have h1 := HB1.out.size; have h2 := HB2.out.size; simp at h2; omega)); clear hr3 hb3) | (go_at_call 7; refine (same_any _ _ 16 16 16 hcap _ _ _ (HG3.out.bytes (Nat.le_refl _)) HR3.out (by omega) rfl HKN.out).mono ?_; rintro e w4 ⟨rfl, hw4⟩; subst hw4))
      all_goals go_wp2
      all_goals exact ⟨⟨k + 1, by omega, by go_num, HNX.out _ (HWR.out.trans (HB3.out.mono (by omega))), by have h1 := HWR.out.size; have h2 := HB3.out.size; omega, HBW.out.trans (HB3.out.mono (by omega))⟩, by simp [intOf]; omega⟩
    · obtain rfl : k = 7 := by omega
      rename World => wa
      have HBA : Hid (Below w.heap.size w wa) := hX.out.2.2
      have hmk := make16
      clear hX
      go_wp2_with fail
      go_loopw [31] (fun i wr => ∃ k : Nat, k ≤ 16 ∧ i = .int .i64 k ∧ Hid (wr.heap[wa.heap.size]? = some (.cells (Md.rowB 16 (fun _ => 11) k) 5 (0, 0)) ∧ Below wa.heap.size wa wr)) (fun i _ => 16 - (intOf i).toNat)
      case atStart => exact ⟨0, by omega, rfl, heap_alloc_last _ _, (Below.refl _ wa).alloc (Nat.le_refl _) _⟩
      case round =>
        obtain ⟨k, hk, rfl, hX⟩ := hrel
        by_cases hlt : k < 16
        · have c4 : wr.cell? ⟨wa.heap.size, k, none⟩ = some (.int .u8 0) := (cell_of_row wr _ k _ _ _ hX.out.1).trans (by rw [Md.rowB_get _ _ _ _ hlt]; simp)
          have f4 : wr.frozen? ⟨wa.heap.size, k, none⟩ = false := frozen_of_row _ _ _ _ _ hX.out.1
          have HX : Hid ((wr.setCell ⟨wa.heap.size, k, none⟩ (.int .u8 11)).heap[wa.heap.size]? = some (.cells (Md.rowB 16 (fun _ => 11) (k + 1)) 5 (0, 0)) ∧ Below wa.heap.size wa (wr.setCell ⟨wa.heap.size, k, none⟩ (.int .u8 11))) := by
            refine ⟨?_, hX.out.2.setCell (Nat.le_refl _) _⟩
            rw [heap_setCell_same _ _ _ _ _ _ hX.out.1]
            exact congrArg (fun c => some (Obj.cells c 5 (0, 0))) (Md.rowB_set 16 (fun _ => 11) k hlt)
          clear hX
          go_wp2
          exact ⟨⟨k + 1, by omega, by go_num, HX⟩, by simp [intOf]; omega⟩
        · obtain rfl : k = 16 := by omega
          have HBR : Hid (Below w.heap.size w wr) := HBA.out.trans (hX.out.2.mono HBA.out.size)
          have HK : Hid (ByteRow wr (some ⟨wa.heap.size, 0, none⟩) 16 16 (fun _ => 11)) := elevens hX.out.1
          have kc := fun (w : World) (C : Array Value) (n c : Nat) => Lib.run_convert_bytes_const (P := Tryd.prog) w 22 5 C n c Tryd.underlying22 Tryd.underlying5
          have kc2 := conv_const2
          clear hX HBA hmk
          go_wp2_with fail
          have HB0 : Hid (Below w.heap.size w (wr.alloc (.cells #[.int .u8 72, .int .u8 105, .int .u8 32, .int .u8 84, .int .u8 104, .int .u8 101, .int .u8 114, .int .u8 101] 5 (8, 9)))) := HBR.out.alloc HBR.out.size _
          have HK0 : Hid (ByteRow (wr.alloc (.cells #[.int .u8 72, .int .u8 105, .int .u8 32, .int .u8 84, .int .u8 104, .int .u8 101, .int .u8 114, .int .u8 101] 5 (8, 9))) (some ⟨wa.heap.size, 0, none⟩) 16 16 (fun _ => 11)) := HK.out.below ((Below.refl _ wr).alloc (Nat.le_refl _) _)
          have HR0 : Hid (ByteRow (wr.alloc (.cells #[.int .u8 72, .int .u8 105, .int .u8 32, .int .u8 84, .int .u8 104, .int .u8 101, .int .u8 114, .int .u8 101] 5 (8, 9))) (some ⟨wr.heap.size, 0, none⟩) 8 8 (strAt hiT)) := newRow wr hiT 5 (8, 9) 8 rfl _ rfl
          generalize wr.alloc (.cells #[.int .u8 72, .int .u8 105, .int .u8 32, .int .u8 84, .int .u8 104, .int .u8 101, .int .u8 114, .int .u8 101] 5 (8, 9)) = W0 at HB0 HK0 HR0 ⊢
          refine (mac_any _ _ 16 16 8 8 (fun _ => 11) (strAt hiT) _ (HT.out.below HB0.out (by omega)) (by omega) (by omega) HK0.out HR0.out).mono ?_
          rintro e w1 ⟨g1, rfl, hg1, hrow1, hb1⟩
          have HB1 : Hid (Below w.heap.size w w1) := HB0.out.trans (hb1.mono HB0.out.size)
          have HX1 : Hid (RowAt w1 g1 (Md.dg (Md.mac 16 (fun _ => 11) 8 (strAt hiT)))) := RowAt.of_rowB hrow1
          clear hg1 hrow1 hb1 HB0 HK0 HR0 HBR HK
          go_wp2_with fail
          refine (hex_any (hexOf hiHex) 16 _ rfl (by omega)).mono ?_
          rintro e w2 ⟨ho, hcap, rfl, hr2, hb2⟩
          have HB2 : Hid (Below w.heap.size w w2) := HB1.out.trans (hb2.mono HB1.out.size)
          have HX2 : Hid (RowAt w2 g1 (Md.dg (Md.mac 16 (fun _ => 11) 8 (strAt hiT)))) := HX1.out.other (hb2.block _ HX1.out.lt)
          have HR2 : Hid (ByteRow w2 ho 16 hcap (hx (hexOf hiHex))) := hr2
          clear hr2 hb2 HB1 HX1
          go_wp2_with fail
          refine (same_any _ _ 16 16 16 hcap _ _ _ (HX2.out.bytes (Nat.le_refl _)) HR2.out (by omega) rfl hi_known).mono ?_
          rintro e w3 ⟨rfl, hw3⟩
          subst hw3
          clear HX2 HR2
          go_wp2_with fail
          have HB4 : Hid (Below w.heap.size w ((w3.alloc (.cells #[.int .u8 74, .int .u8 101, .int .u8 102, .int .u8 101] 5 (4, 5))).alloc (.cells #[.int .u8 119, .int .u8 104, .int .u8 97, .int .u8 116, .int .u8 32, .int .u8 100, .int .u8 111, .int .u8 32, .int .u8 121, .int .u8 97, .int .u8 32, .int .u8 119, .int .u8 97, .int .u8 110, .int .u8 116, .int .u8 32, .int .u8 102, .int .u8 111, .int .u8 114, .int .u8 32, .int .u8 110, .int .u8 111, .int .u8 116, .int .u8 104, .int .u8 105, .int .u8 110, .int .u8 103, .int .u8 63] 5 (28, 29)))) := (HB2.out.alloc HB2.out.size _).alloc (by have := HB2.out.size; simp; omega) _
          have HJ4 : Hid (ByteRow ((w3.alloc (.cells #[.int .u8 74, .int .u8 101, .int .u8 102, .int .u8 101] 5 (4, 5))).alloc (.cells #[.int .u8 119, .int .u8 104, .int .u8 97, .int .u8 116, .int .u8 32, .int .u8 100, .int .u8 111, .int .u8 32, .int .u8 121, .int .u8 97, .int .u8 32, .int .u8 119, .int .u8 97, .int .u8 110, .int .u8 116, .int .u8 32, .int .u8 102, .int .u8 111, .int .u8 114, .int .u8 32, .int .u8 110, .int .u8 111, .int .u8 116, .int .u8 104, .int .u8 105, .int .u8 110, .int .u8 103, .int .u8 63] 5 (28, 29))) (some ⟨w3.heap.size, 0, none⟩) 4 4 (strAt jefe)) := (newRow w3 jefe 5 (4, 5) 4 rfl _ rfl).below ((Below.refl _ _).alloc (Nat.le_refl _) _)
          have HW4 : Hid (ByteRow ((w3.alloc (.cells #[.int .u8 74, .int .u8 101, .int .u8 102, .int .u8 101] 5 (4, 5))).alloc (.cells #[.int .u8 119, .int .u8 104, .int .u8 97, .int .u8 116, .int .u8 32, .int .u8 100, .int .u8 111, .int .u8 32, .int .u8 121, .int .u8 97, .int .u8 32, .int .u8 119, .int .u8 97, .int .u8 110, .int .u8 116, .int .u8 32, .int .u8 102, .int .u8 111, .int .u8 114, .int .u8 32, .int .u8 110, .int .u8 111, .int .u8 116, .int .u8 104, .int .u8 105, .int .u8 110, .int .u8 103, .int .u8 63] 5 (28, 29))) (some ⟨w3.heap.size + 1, 0, none⟩) 28 28 (strAt whatT)) := by
            have h1 := newRow (w3.alloc (.cells #[.int .u8 74, .int .u8 101, .int .u8 102, .int .u8 101] 5 (4, 5))) whatT 5 (28, 29) 28 rfl #[.int .u8 119, .int .u8 104, .int .u8 97, .int .u8 116, .int .u8 32, .int .u8 100, .int .u8 111, .int .u8 32, .int .u8 121, .int .u8 97, .int .u8 32, .int .u8 119, .int .u8 97, .int .u8 110, .int .u8 116, .int .u8 32, .int .u8 102, .int .u8 111, .int .u8 114, .int .u8 32, .int .u8 110, .int .u8 111, .int .u8 116, .int .u8 104, .int .u8 105, .int .u8 110, .int .u8 103, .int .u8 63] rfl
            rw [World.size_alloc] at h1
            exact h1
          generalize (w3.alloc (.cells #[.int .u8 74, .int .u8 101, .int .u8 102, .int .u8 101] 5 (4, 5))).alloc (.cells #[.int .u8 119, .int .u8 104, .int .u8 97, .int .u8 116, .int .u8 32, .int .u8 100, .int .u8 111, .int .u8 32, .int .u8 121, .int .u8 97, .int .u8 32, .int .u8 119, .int .u8 97, .int .u8 110, .int .u8 116, .int .u8 32, .int .u8 102, .int .u8 111, .int .u8 114, .int .u8 32, .int .u8 110, .int .u8 111, .int .u8 116, .int .u8 104, .int .u8 105, .int .u8 110, .int .u8 103, .int .u8 63] 5 (28, 29)) = W4 at HB4 HJ4 HW4 ⊢
          refine (mac_any _ _ 4 4 28 28 (strAt jefe) (strAt whatT) _ (HT.out.below HB4.out (by omega)) (by omega) (by omega) HJ4.out HW4.out).mono ?_
          rintro e w5 ⟨g5, rfl, hg5, hrow5, hb5⟩
          have HB5 : Hid (Below w.heap.size w w5) := HB4.out.trans (hb5.mono HB4.out.size)
          have HX5 : Hid (RowAt w5 g5 (Md.dg (Md.mac 4 (strAt jefe) 28 (strAt whatT)))) := RowAt.of_rowB hrow5
          clear hg5 hrow5 hb5 HB4 HJ4 HW4 HB2 kc kc2
          go_wp2_with fail
          refine (hex_any (hexOf whatHex) 16 _ rfl (by omega)).mono ?_
          rintro e w6 ⟨ho6, hcap6, rfl, hr6, hb6⟩
          have HB6 : Hid (Below w.heap.size w w6) := HB5.out.trans (hb6.mono HB5.out.size)
          have HX6 : Hid (RowAt w6 g5 (Md.dg (Md.mac 4 (strAt jefe) 28 (strAt whatT)))) := HX5.out.other (hb6.block _ HX5.out.lt)
          have HR6 : Hid (ByteRow w6 ho6 16 hcap6 (hx (hexOf whatHex))) := hr6
          clear hr6 hb6 HB5 HX5
          go_wp2_with fail
          refine (same_any _ _ 16 16 16 hcap6 _ _ _ (HX6.out.bytes (Nat.le_refl _)) HR6.out (by omega) rfl what_known).mono ?_
          rintro e w7 ⟨rfl, hw7⟩
          subst hw7
          go_wp2
          go_ret
          exact ⟨rfl, HB6.out⟩
end Go.Proofs.YtllpfebmbpbffaaDoor
