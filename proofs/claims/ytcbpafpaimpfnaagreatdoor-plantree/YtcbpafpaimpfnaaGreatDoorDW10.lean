/- walks: mixKey, Mac -/
import Derived.Test.YtcbpafpaimpfnaaGreatDoorDW9
namespace Go.Proofs.YtcbpafpaimpfnaaGreatDoor
open Go.RowKit

def Md.xk (K : Nat → Int) (mask : Int) (i : Nat) : Int := bits BinOp.xor IntKind.u8 (K i) mask
def Md.xkTo (K : Nat → Int) (mask : Int) (k i : Nat) : Int := if i < k then Md.xk K mask i else K i
theorem xkTo_step (K : Nat → Int) (mask : Int) (k i : Nat) : (if i = k then Md.xk K mask k else Md.xkTo K mask k i) = Md.xkTo K mask (k + 1) i := by
  unfold Md.xkTo
  by_cases h : i = k
  · subst h; simp
  · rw [if_neg h]
    have : (i < k) ↔ (i < k + 1) := by omega
    simp only [this]

theorem start_out (w : World) :
    Calls Tryz.prog 131 #[] w fun e w' => e = .returned (.agg #[.int .u32 Md.st0.a, .int .u32 Md.st0.b, .int .u32 Md.st0.c, .int .u32 Md.st0.d]) ∧ Below w.heap.size w w' := start_any w
theorem four' {w1 w2 : World} {g : Nat} {q : Md.St} (hb : w2.heap[g]? = w1.heap[g]?) (hA : w1.heap[g]? = some (.cells (Md.stA q) 176 (0, 0))) :
    w2.heap[g]? = some (.cells (Md.stA q) 176 (0, 0)) ∧ w2.cell? ⟨g, 0, none⟩ = some (.int .u32 q.a) ∧ w2.cell? ⟨g, 1, none⟩ = some (.int .u32 q.b) ∧ w2.cell? ⟨g, 2, none⟩ = some (.int .u32 q.c) ∧ w2.cell? ⟨g, 3, none⟩ = some (.int .u32 q.d) ∧
    w2.frozen? ⟨g, 0, none⟩ = false ∧ w2.frozen? ⟨g, 1, none⟩ = false ∧ w2.frozen? ⟨g, 2, none⟩ = false ∧ w2.frozen? ⟨g, 3, none⟩ = false := by
  have h2 : w2.heap[g]? = some (.cells (Md.stA q) 176 (0, 0)) := hb.trans hA
  exact ⟨h2, cell_of_row w2 g 0 _ _ _ h2, cell_of_row w2 g 1 _ _ _ h2, cell_of_row w2 g 2 _ _ _ h2, cell_of_row w2 g 3 _ _ _ h2, frozen_of_row _ _ _ _ _ h2, frozen_of_row _ _ _ _ _ h2, frozen_of_row _ _ _ _ _ h2, frozen_of_row _ _ _ _ _ h2⟩

set_option maxHeartbeats 1000000 in
theorem mixKey_any (K : Nat → Int) (mask : Int) (w : World) (ht : Tabs w) :
    Calls Tryz.prog 122 #[.agg (rowF 64 K), .int .u8 mask] w fun e w' => e = .returned (.agg (Md.stA (Md.mixS Md.st0 (Md.xk K mask)))) ∧ Below w.heap.size w w' := by
  have HT : Hid _ := ht
  have hbt := ht.lt
  clear ht
  go_enter Tryz.func122, Tryz.ntmps122
  go_wp2_with fail
  go_loopw [6] (fun i wr => ∃ k : Nat, k ≤ 64 ∧ i = .int .i64 k ∧ Hid (wr.heap[w.heap.size]? = some (.cells (rowF 64 (Md.xkTo K mask k)) 172 (0, 0)) ∧ wr.heap[w.heap.size + 1]? = some (.cells (Md.stA ⟨0, 0, 0, 0⟩) 176 (0, 0)) ∧ Below w.heap.size w wr)) (fun i _ => 64 - (intOf i).toNat)
  case atStart => exact ⟨0, by omega, rfl, heap_alloc2_old w _ _, heap_alloc2_new w _ _, ((Below.refl _ _).alloc (Nat.le_refl _) _).alloc (by simp) _⟩
  case round =>
    obtain ⟨k, hk, rfl, hX⟩ := hrel
    by_cases hlt : k < 64
    · have c4 : wr.cell? ⟨w.heap.size, k, none⟩ = some (.int .u8 (K k)) := (cell_of_row wr _ _ _ _ _ hX.out.1).trans ((rowF_get _ _ _ hlt).trans (by simp [Md.xkTo]))
      have f4 : wr.frozen? ⟨w.heap.size, k, none⟩ = false := frozen_of_row _ _ _ _ _ hX.out.1
      have HX : Hid ((wr.setCell ⟨w.heap.size, k, none⟩ (.int .u8 (Md.xk K mask k))).heap[w.heap.size]? = some (.cells (rowF 64 (Md.xkTo K mask (k + 1))) 172 (0, 0)) ∧ (wr.setCell ⟨w.heap.size, k, none⟩ (.int .u8 (Md.xk K mask k))).heap[w.heap.size + 1]? = some (.cells (Md.stA ⟨0, 0, 0, 0⟩) 176 (0, 0)) ∧ Below w.heap.size w (wr.setCell ⟨w.heap.size, k, none⟩ (.int .u8 (Md.xk K mask k)))) := by
        refine ⟨?_, ?_, hX.out.2.2.setCell (Nat.le_refl _) _⟩
        · rw [heap_setCell_same _ _ _ _ _ _ hX.out.1, rowF_set _ _ _ _ hlt, rowF_congr _ _ _ (fun i _ => xkTo_step K mask k i)]
        · rw [heap_setCell_other _ _ _ _ (by simp)]; exact hX.out.2.1
      clear hX
      go_wp2
      exact ⟨⟨k + 1, by omega, by go_num, HX⟩, by simp [intOf]; omega⟩
    · obtain rfl : k = 64 := by omega
      have HB : Hid (wr.heap[w.heap.size + 1]? = some (.cells (Md.stA ⟨0, 0, 0, 0⟩) 176 (0, 0))) := hX.out.2.1
      have HBL : Hid (Below w.heap.size w wr) := hX.out.2.2
      have hlt2 : w.heap.size + 1 < wr.heap.size := block_lt_of_cell (cell_of_row wr _ 0 _ _ _ HB.out)
      have HT' : Hid (∀ w1, Below wr.heap.size wr w1 → Tabs w1) := fun w1 h1 => HT.out.below (HBL.out.trans (h1.mono (by omega))) (by omega)
      have HC : Hid (∀ w1, Below wr.heap.size wr w1 → ∀ i, i < 64 → w1.cell? ⟨w.heap.size, 0 + i, none⟩ = some (.int .u8 (Md.xk K mask i))) := by
        intro w1 h1 i hi
        rw [Nat.zero_add, h1.cell (by show w.heap.size < wr.heap.size; omega)]
        exact (cell_of_row wr _ _ _ _ _ hX.out.1).trans ((rowF_get _ _ _ hi).trans (by simp [Md.xkTo, hi]))
      clear hX HT
      go_wp2_with fail
      go_region_with (first | (go_at_call 131; refine (start_out _).mono ?_; rintro e w1 ⟨rfl, hb1⟩; have HB1 : Hid (Below wr.heap.size wr w1) := (Below.refl _ wr).drew.trans hb1; clear hb1) | (go_at_call 130; refine (mix_out Md.st0 w.heap.size 0 64 (Md.xk K mask) _ (HT'.out _ HB1.out) (by have := HB1.out.size; omega) (Nat.le_refl _) (HC.out _ HB1.out)).mono ?_; rintro e w2 ⟨rfl, hb2⟩; have c2 := four' (hb2.block (w.heap.size + 1) (by have := HB1.out.size; omega)) ((HB1.out.block (w.heap.size + 1) (by omega)).trans HB.out); obtain ⟨hr2, c20, c21, c22, c23, f20, f21, f22, f23⟩ := c2; have HR2 : Hid _ := hr2; have HB2 : Hid _ := hb2; clear hb2 hr2))
      all_goals go_wp2
      all_goals
        have hset := set4 (s' := Md.mixS Md.st0 (Md.xk K mask)) HR2.out
        exact bodyPost_ret (v := .agg (Md.stA (Md.mixS Md.st0 (Md.xk K mask)))) (results_cell_row (p := 4) (ty := 176) rfl _ _ (w.heap.size + 1) 176 _ (0, 0) _ rfl hset.1 Tryz.underlying176 rfl (by rw [size34, Md.stA_size])) rfl ⟨rfl, hset.2.2 _ _ (by omega) ((HBL.out.trans (HB1.out.mono (by omega))).trans (HB2.out.mono (by have := HB1.out.size; omega)))⟩

/-- The HMAC's state. -/
def Md.mac (kn : Nat) (kbs : Nat → Int) (n : Nat) (bs : Nat → Int) : Md.St :=
  Md.fin (Md.mixS Md.st0 (Md.xk (Md.kb kn kbs) 92)) 64 16 (Md.dg (Md.fin (Md.mixS Md.st0 (Md.xk (Md.kb kn kbs) 54)) 64 n bs))

set_option maxHeartbeats 1000000 in
theorem mac_any (ko ao : Option Addr) (kn kcap n cap : Nat) (kbs bs : Nat → Int) (w : World) (ht : Tabs w) (hkc : kn ≤ 140737488351232) (hc : n ≤ 140737488351232) (hk : ByteRow w ko kn kcap kbs) (hr : ByteRow w ao n cap bs) :
    Calls Tryz.prog 104 #[.slice ko kn kcap, .slice ao n cap] w (Sumd w (Md.mac kn kbs n bs)) := by
  have HT : Hid _ := ht
  have HR : Hid (ByteRow w ao n cap bs) := hr
  have HK : Hid (ByteRow w ko kn kcap kbs) := hk
  have hbt := ht.lt
  clear ht hr hk
  unfold Md.mac
  generalize hKb : Md.kb kn kbs = K
  have HKb : Hid (Md.kb kn kbs = K) := hKb
  clear hKb
  go_enter Tryz.func104, Tryz.ntmps104
  go_wp2_with fail
  refine (keyBlock_any ko kn kcap kbs _ HT.out hkc HK.out).mono ?_
  rintro e w1 ⟨rfl, hb1⟩
  have HB1 : Hid (Below w.heap.size w w1) := hb1
  clear hb1 HK
  rw [HKb.out]
  have HL : Hid ((w1.alloc (.cells (rowF 64 K) 172)).heap[w1.heap.size]? = some (.cells (rowF 64 K) 172 (0, 0))) := heap_alloc_last _ _
  have HB2 : Hid (Below w.heap.size w (w1.alloc (.cells (rowF 64 K) 172))) := HB1.out.alloc HB1.out.size _
  have HZ : Hid (w1.heap.size < (w1.alloc (.cells (rowF 64 K) 172)).heap.size) := by simp [Hid]
  go_wp2_with (first | (refine wpList_store_row rfl 172 _ _ rfl (w1.heap.size) _ rfl rfl 172 _ (heap_alloc_last _ _) (by rw [size42, rowF_size]) (by rw [rowF_size]; rfl) (rowF_all _ _) ?_; rw [World.setRow_alloc_new]) | refine wpList_load_row rfl 172 _ rfl w1.heap.size rfl 172 _ (0, 0) _ HL.out Tryz.underlying172 rfl (by rw [size42, rowF_size]) ?_)
  generalize w1.alloc (.cells (rowF 64 K) 172) = W2 at HL HB2 HZ ⊢
  have hz1 : Hid (w.heap.size ≤ w1.heap.size) := HB1.out.size
  refine (mixKey_any K 54 _ (HT.out.below HB2.out (by omega))).mono ?_
  rintro e w3 ⟨rfl, hb3⟩
  have HB3 : Hid (Below w.heap.size w w3) := HB2.out.trans (hb3.mono HB2.out.size)
  have HL3 : Hid (w3.heap[w1.heap.size]? = _) := (hb3.block _ HZ.out).trans HL.out
  have HZ3 : Hid (w1.heap.size < w3.heap.size) := by have := HZ.out; have := hb3.size; show _ < _; omega
  have HR3 : Hid (ByteRow w3 ao n cap bs) := HR.out.below HB3.out
  have HT3 : Hid (Tabs w3) := HT.out.below HB3.out (by omega)
  clear hb3 HL HB2 HZ HR
  go_wp2_with fail
  refine (behind_any (Md.mixS Md.st0 (Md.xk K 54)) ao n cap 64 bs _ HT3.out (by omega) hc HR3.out).mono ?_
  rintro e w4 ⟨g, rfl, hg, hrow, hb4⟩
  have HB4 : Hid (Below w.heap.size w w4) := HB3.out.trans (hb4.mono HB3.out.size)
  have HL4 : Hid (w4.heap[w1.heap.size]? = some (.cells (rowF 64 K) 172 (0, 0))) := (hb4.block _ HZ3.out).trans HL3.out
  have HR4 : Hid (ByteRow w4 (some ⟨g, 0, none⟩) 16 16 (Md.dg (Md.fin (Md.mixS Md.st0 (Md.xk K 54)) 64 n bs))) := sumRow hrow
  have HG4 : Hid (g < w4.heap.size) := block_lt_of_cell ((cell_of_row w4 g 0 _ _ _ hrow).trans (Md.rowB_get _ _ _ _ (by omega)))
  clear hg hrow hb4 HB3 HL3 HZ3 HR3 HT3
  go_wp2_with (refine wpList_load_row rfl 172 _ rfl w1.heap.size rfl 172 _ (0, 0) _ HL4.out Tryz.underlying172 rfl (by rw [size42, rowF_size]) ?_)
  refine (mixKey_any K 92 _ (HT.out.below HB4.out (by omega))).mono ?_
  rintro e w5 ⟨rfl, hb5⟩
  have HB5 : Hid (Below w.heap.size w w5) := HB4.out.trans (hb5.mono HB4.out.size)
  have HR5 : Hid (ByteRow w5 (some ⟨g, 0, none⟩) 16 16 (Md.dg (Md.fin (Md.mixS Md.st0 (Md.xk K 54)) 64 n bs))) := ByteRow.below HR4.out hb5
  have HT5 : Hid (Tabs w5) := HT.out.below HB5.out (by omega)
  clear hb5 HB4 HL4 HR4 HG4 HT HB1
  go_wp2_with fail
  refine (behind_any (Md.mixS Md.st0 (Md.xk K 92)) _ 16 16 64 _ _ HT5.out (by omega) (by omega) HR5.out).mono ?_
  rintro e w6 ⟨g6, rfl, hg6, hrow6, hb6⟩
  have HH : Hid _ := And.intro hg6 (And.intro hrow6 hb6)
  clear hg6 hrow6 hb6
  go_wp2
  go_ret
  exact ⟨g6, rfl, Nat.le_trans HB5.out.size HH.out.1, HH.out.2.1, HB5.out.trans (HH.out.2.2.mono HB5.out.size)⟩
end Go.Proofs.YtcbpafpaimpfnaaGreatDoor
