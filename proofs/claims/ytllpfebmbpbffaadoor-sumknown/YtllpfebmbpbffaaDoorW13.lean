/- walks: alive -/
import Derived.Test.YtllpfebmbpbffaaDoorW11
import Derived.Test.YtllpfebmbpbffaaDoorK1
import Derived.Lib.SlBytesConst
namespace Go.Proofs.YtllpfebmbpbffaaDoor
open Go.RowKit

/-- A new row of bytes (its mark whatever) is a slice's bytes. -/
theorem newRow (w : World) (l : List UInt8) (e : TypeId) (fr : Nat × Nat) (n : Nat) (hn : n = l.length) (C : Array Value) (hC : C = (l.map fun b => Value.int .u8 (b.toNat : Int)).toArray) : ByteRow (w.alloc (.cells C e fr)) (some ⟨w.heap.size, 0, none⟩) n n (strAt l) := by
  subst hn hC
  refine ⟨Nat.le_refl _, fun _ => ⟨w.heap.size, 0, rfl, by simp, fun i hi => ?_⟩⟩
  rw [Nat.zero_add, cell_of_row _ w.heap.size i _ _ _ (heap_alloc_last w _)]
  simp [hi, strAt]

set_option maxHeartbeats 1000000 in
theorem alive_any (w : World) (ht : Tabs w) :
    Calls Tryd.prog 13 #[] w fun e w' => e = .returned (.bool true) ∧ Below w.heap.size w w' := by
  have HT : Hid _ := ht
  have hbt := ht.lt
  clear ht
  have kc := fun (w : World) (C : Array Value) (n c : Nat) => Lib.run_convert_bytes_const (P := Tryd.prog) w 22 5 C n c Tryd.underlying22 Tryd.underlying5
  go_enter Tryd.func13, Tryd.ntmps13
  go_wp2_with fail
  have HB0 : Hid (Below w.heap.size w (w.alloc (.cells #[.int .u8 97, .int .u8 98, .int .u8 99] 5 (3, 4)))) := (Below.refl _ w).alloc (Nat.le_refl _) _
  have HR0 : Hid (ByteRow (w.alloc (.cells #[.int .u8 97, .int .u8 98, .int .u8 99] 5 (3, 4))) (some ⟨w.heap.size, 0, none⟩) 3 3 (strAt [97, 98, 99])) := newRow w [97, 98, 99] 5 (3, 4) 3 rfl _ rfl
  generalize w.alloc (.cells #[.int .u8 97, .int .u8 98, .int .u8 99] 5 (3, 4)) = W0 at HB0 HR0 ⊢
  refine (sum_any _ 3 3 (strAt [97, 98, 99]) _ (HT.out.below HB0.out (by omega)) (by omega) HR0.out).mono ?_
  rintro e w1 ⟨g, rfl, hg, hrow, hb1⟩
  have HB1 : Hid (Below w.heap.size w w1) := HB0.out.trans (hb1.mono HB0.out.size)
  have HR1 : Hid (ByteRow w1 (some ⟨g, 0, none⟩) 16 16 _) := sumRow hrow
  clear hg hrow hb1 HB0 HR0 HT kc
  go_wp2_with fail
  refine (hex_any (hexOf abcHex) 16 _ rfl (by omega)).mono ?_
  rintro e w2 ⟨ao, cap, rfl, hr2, hb2⟩
  have HB2 : Hid (Below w.heap.size w w2) := HB1.out.trans (hb2.mono HB1.out.size)
  have HR2 : Hid (ByteRow w2 (some ⟨g, 0, none⟩) 16 16 _) := ByteRow.below HR1.out hb2
  have HR3 : Hid (ByteRow w2 ao 16 cap (hx (hexOf abcHex))) := hr2
  clear hr2 hb2 HB1 HR1
  go_wp2_with fail
  refine (same_any _ _ 16 16 16 cap _ _ _ HR2.out HR3.out (by omega) rfl abc_known).mono ?_
  rintro e w3 ⟨rfl, hw3⟩
  subst hw3
  go_wp2
  go_ret
  exact ⟨rfl, HB2.out⟩
end Go.Proofs.YtllpfebmbpbffaaDoor
