/- walks: mixAll -/
import Derived.Test.YtcbpafpaimpfnaaGreatDoorDW3
import Derived.Deep.RegionWith
namespace Go.Proofs.YtcbpafpaimpfnaaGreatDoor
open Go.RowKit

theorem mix_out (s : Md.St) (b off cap : Nat) (bs : Nat → Int) (w : World) (ht : Tabs w) (hb : b < w.heap.size) (hcap : 64 ≤ cap) (hc : ∀ i, i < 64 → w.cell? ⟨b, off + i, none⟩ = some (.int .u8 (bs i))) :
    Calls Tryz.prog 130 #[.agg #[.int .u32 s.a, .int .u32 s.b, .int .u32 s.c, .int .u32 s.d], .slice (some ⟨b, off, none⟩) 64 cap] w fun e w' => e = .returned (.agg #[.int .u32 (Md.mixS s bs).a, .int .u32 (Md.mixS s bs).b, .int .u32 (Md.mixS s bs).c, .int .u32 (Md.mixS s bs).d]) ∧ Below w.heap.size w w' :=
  mix_any s b off cap bs w ht hb hcap hc
theorem set4 {w : World} {g : Nat} {q s' : Md.St} (hA : w.heap[g]? = some (.cells (Md.stA q) 176 (0, 0))) :
    ((((w.setCell ⟨g, 0, none⟩ (.int .u32 s'.a)).setCell ⟨g, 1, none⟩ (.int .u32 s'.b)).setCell ⟨g, 2, none⟩ (.int .u32 s'.c)).setCell ⟨g, 3, none⟩ (.int .u32 s'.d)).heap[g]? = some (.cells (Md.stA s') 176 (0, 0)) ∧
    (∀ k, k ≠ g → ((((w.setCell ⟨g, 0, none⟩ (.int .u32 s'.a)).setCell ⟨g, 1, none⟩ (.int .u32 s'.b)).setCell ⟨g, 2, none⟩ (.int .u32 s'.c)).setCell ⟨g, 3, none⟩ (.int .u32 s'.d)).heap[k]? = w.heap[k]?) ∧
    (∀ B a, B ≤ g → Below B a w → Below B a ((((w.setCell ⟨g, 0, none⟩ (.int .u32 s'.a)).setCell ⟨g, 1, none⟩ (.int .u32 s'.b)).setCell ⟨g, 2, none⟩ (.int .u32 s'.c)).setCell ⟨g, 3, none⟩ (.int .u32 s'.d))) := by
  refine ⟨?_, fun k hk => ?_, fun B a hB hb => (((hb.setCell hB _).setCell hB _).setCell hB _).setCell hB _⟩
  · rw [heap_setCell_same _ _ _ _ _ _ (heap_setCell_same _ _ _ _ _ _ (heap_setCell_same _ _ _ _ _ _ (heap_setCell_same _ _ _ _ _ _ hA)))]
    rfl
  · rw [heap_setCell_other _ _ _ _ hk, heap_setCell_other _ _ _ _ hk, heap_setCell_other _ _ _ _ hk, heap_setCell_other _ _ _ _ hk]
theorem four {wr w2 : World} {g : Nat} {q : Md.St} (hb : Below wr.drew.heap.size wr.drew w2) (hA : wr.heap[g]? = some (.cells (Md.stA q) 176 (0, 0))) :
    w2.cell? ⟨g, 0, none⟩ = some (.int .u32 q.a) ∧ w2.cell? ⟨g, 1, none⟩ = some (.int .u32 q.b) ∧ w2.cell? ⟨g, 2, none⟩ = some (.int .u32 q.c) ∧ w2.cell? ⟨g, 3, none⟩ = some (.int .u32 q.d) ∧
    w2.frozen? ⟨g, 0, none⟩ = false ∧ w2.frozen? ⟨g, 1, none⟩ = false ∧ w2.frozen? ⟨g, 2, none⟩ = false ∧ w2.frozen? ⟨g, 3, none⟩ = false := by
  have hlt : g < wr.heap.size := block_lt_of_cell (cell_of_row wr g 0 _ _ _ hA)
  have h2 : w2.heap[g]? = some (.cells (Md.stA q) 176 (0, 0)) := (hb.block g hlt).trans hA
  exact ⟨cell_of_row w2 g 0 _ _ _ h2, cell_of_row w2 g 1 _ _ _ h2, cell_of_row w2 g 2 _ _ _ h2, cell_of_row w2 g 3 _ _ _ h2, frozen_of_row _ _ _ _ _ h2, frozen_of_row _ _ _ _ _ h2, frozen_of_row _ _ _ _ _ h2, frozen_of_row _ _ _ _ _ h2⟩

set_option maxHeartbeats 1000000 in
theorem mixAll_any (s : Md.St) (ao : Option Addr) (m cap : Nat) (bs : Nat → Int) (w : World) (ht : Tabs w) (hr : ByteRow w ao (64 * m) cap bs) (hm : 64 * m ≤ 140737488355328) :
    Calls Tryz.prog 127 #[.agg (Md.stA s), .slice ao (64 * m) cap] w fun e w' => e = .returned (.agg (Md.stA (Md.mixN s bs m))) ∧ Below w.heap.size w w' := by
  have HT : Hid (Tabs w) := ht
  have HR : Hid _ := hr
  have hbt := ht.lt
  clear ht hr
  unfold Md.stA
  go_enter Tryz.func127, Tryz.ntmps127
  go_wp2
  go_loopw [5] (fun i wr => ∃ k : Nat, k ≤ m ∧ i = .int .i64 (64 * k) ∧ wr.heap[w.heap.size]? = some (.cells (Md.stA (Md.mixN s bs k)) 176 (0, 0)) ∧ wr.heap[w.heap.size + 1]? = some (.cells (Md.stA ⟨0, 0, 0, 0⟩) 176 (0, 0)) ∧ Below w.heap.size w wr) (fun i _ => 64 * m - (intOf i).toNat)
  case atStart => exact ⟨0, by omega, rfl, heap_alloc2_old w _ _, heap_alloc2_new w _ _, ((Below.refl _ _).alloc (Nat.le_refl _) _).alloc (by simp) _⟩
  case round =>
    obtain ⟨k, hk, rfl, hA, hB, hbel⟩ := hrel
    by_cases hlt : k < m
    · obtain ⟨hcap, hrow⟩ := HR.out
      obtain ⟨b, off, rfl, hb, hc⟩ := hrow (by omega)
      have HA : Hid _ := hA
      have HB : Hid _ := hB
      have HBL : Hid _ := hbel
      have HC : Hid _ := hc
      have hs := hbel.size
      have hsz := block_lt_of_cell (cell_of_row wr _ 0 _ _ _ hB)
      have a0 : wr.cell? ⟨w.heap.size, 0, none⟩ = some (.int .u32 (Md.mixN s bs k).a) := cell_of_row wr _ 0 _ _ _ hA
      have a1 : wr.cell? ⟨w.heap.size, 1, none⟩ = some (.int .u32 (Md.mixN s bs k).b) := cell_of_row wr _ 1 _ _ _ hA
      have a2 : wr.cell? ⟨w.heap.size, 2, none⟩ = some (.int .u32 (Md.mixN s bs k).c) := cell_of_row wr _ 2 _ _ _ hA
      have a3 : wr.cell? ⟨w.heap.size, 3, none⟩ = some (.int .u32 (Md.mixN s bs k).d) := cell_of_row wr _ 3 _ _ _ hA
      have hw : IntKind.i64.wrap (64 * (k : Int) + 64) = ((64 * k + 64 : Nat) : Int) := by simp [IntKind.wrap, IntKind.bits, IntKind.signed]; omega
      have h64 : (64 * k + 64 : Nat) ≤ cap := by omega
      have h65 : ((64 * k + 64 : Nat) : Int) ≤ (cap : Int) := by omega
      have HT' : Hid (Tabs wr.drew) := HT.out.below hbel.drew (by omega)
      have HB' : Hid (b < wr.drew.heap.size) := (show b < wr.heap.size from by omega)
      have HC' : Hid (∀ i, i < 64 → wr.drew.cell? ⟨b, off + 64 * k + i, none⟩ = some (.int .u8 (bs (64 * k + i)))) := fun i hi => ((hbel.drew.cell (by exact hb)).trans (by rw [Nat.add_assoc]; exact hc (64 * k + i) (by omega)))
      clear hA hB hbel hc hrow HR HC HT
      have HQ : Hid (Md.mixN s bs (k + 1) = Md.mixS (Md.mixN s bs k) fun i => bs (64 * k + i)) := rfl
      generalize Md.mixN s bs k = q at *
      go_wp2_with fail
      go_region_with (go_at_call 130; refine (mix_out q b (off + 64 * k) (cap - 64 * k) (fun i => bs (64 * k + i)) _ HT'.out HB'.out (by omega) HC'.out).mono ?_; rintro e w2 ⟨rfl, hb2⟩; have c2 := four hb2 HA.out; obtain ⟨c20, c21, c22, c23, f20, f21, f22, f23⟩ := c2; have HB2 : Hid _ := hb2; clear hb2)
      all_goals go_wp2
      all_goals
        have hset := set4 (s' := Md.mixS q fun i => bs (64 * k + i)) ((HB2.out.block w.heap.size (show _ < wr.heap.size from by omega)).trans HA.out)
        exact ⟨⟨k + 1, by omega, by go_num, by rw [HQ.out]; exact hset.1, (hset.2.1 _ (by omega)).trans ((HB2.out.block (w.heap.size + 1) (show _ < wr.heap.size from by omega)).trans HB.out), hset.2.2 _ _ (Nat.le_refl _) (HBL.out.drew.trans (HB2.out.mono (show _ ≤ wr.heap.size from by omega)))⟩, by simp [intOf]; omega⟩
    · obtain rfl : k = m := by omega
      clear HR HT
      go_wp2_with (first | refine wpList_load_row rfl 176 _ rfl (w.heap.size) rfl 176 _ (0, 0) _ hA Tryz.underlying176 rfl (by rw [size34, Md.stA_size]) ?_ | refine wpList_store_row rfl 176 _ _ rfl (w.heap.size + 1) (Md.stA (Md.mixN s bs k)) rfl rfl 176 _ hB (by rw [size34, Md.stA_size]) (by rfl) (Md.stA_all _) ?_)
      exact bodyPost_ret (v := .agg (Md.stA (Md.mixN s bs k))) (results_cell_row (p := 4) (ty := 176) rfl _ _ (w.heap.size + 1) 176 _ (0, 0) _ rfl (setRow_heap _ _ _ _ _ _ hB) Tryz.underlying176 rfl (by rw [size34, Md.stA_size])) rfl ⟨rfl, below_setRow hbel (by omega) _⟩
end Go.Proofs.YtcbpafpaimpfnaaGreatDoor
