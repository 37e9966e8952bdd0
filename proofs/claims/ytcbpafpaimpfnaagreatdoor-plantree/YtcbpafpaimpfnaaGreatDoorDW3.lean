/- walks: mix -/
import Derived.Test.YtcbpafpaimpfnaaGreatDoorDW2
import Derived.Deep.QuietTactic
import Derived.BigQuiet
namespace Go.Proofs.YtcbpafpaimpfnaaGreatDoor
open Go.RowKit

/-- The two tables lie where the program's text lays them. -/
structure Tabs (w : World) : Prop where
  adds : ∀ i, i < 64 → w.cell? ⟨0, i, none⟩ = some (.int .u32 (Md.tabAt i))
  turn : ∀ i, i < 16 → w.cell? ⟨1, i, none⟩ = some (.int .i64 (Md.trnAt i))
theorem Tabs.lt {w : World} (h : Tabs w) : 1 < w.heap.size := block_lt_of_cell (h.turn 0 (by decide))
theorem Tabs.below {w w' : World} {B : Nat} (h : Tabs w) (hb : Below B w w') (hB : 2 ≤ B) : Tabs w' :=
  ⟨fun i hi => (hb.cell (by show 0 < B; omega)).trans (h.adds i hi), fun i hi => (hb.cell (by show 1 < B; omega)).trans (h.turn i hi)⟩

theorem w64id (n : Int) (h0 : 0 ≤ n) (h1 : n < 100) : IntKind.i64.wrap n = n := by
  simp [IntKind.wrap, IntKind.bits, IntKind.signed]; omega
theorem size34 : (Tryz.prog.info? 176).map (·.size) = some 4 := by kernel_rfl
set_option maxHeartbeats 1000000 in
theorem mix_any (s : Md.St) (b off cap : Nat) (bs : Nat → Int) (w : World) (ht : Tabs w) (hb : b < w.heap.size) (hcap : 64 ≤ cap) (hc : ∀ i, i < 64 → w.cell? ⟨b, off + i, none⟩ = some (.int .u8 (bs i))) :
    Calls Tryz.prog 130 #[Md.stV s, .slice (some ⟨b, off, none⟩) 64 cap] w fun e w' => e = .returned (Md.stV (Md.mixS s bs)) ∧ Below w.heap.size w w' := by
  have HT : Hid (Tabs w) := ht
  have hbt := ht.lt
  clear ht
  unfold Md.stV
  go_enter Tryz.func130, Tryz.ntmps130
  go_wp2_with fail
  refine (words_any b off cap bs _ (by simp; omega) hcap (fun i hi => ?_)).mono ?_
  · rw [World.cell?_alloc_past _ _ _ (by simp; omega), World.cell?_alloc_past _ _ _ hb]
    exact hc i hi
  rintro e w1 ⟨rfl, hb1⟩
  have hA : w1.heap[w.heap.size]? = some (.cells #[.int .u32 s.a, .int .u32 s.b, .int .u32 s.c, .int .u32 s.d] 176 (0, 0)) := (hb1.block w.heap.size (by simp; omega)).trans (heap_alloc2_old w _ _)
  have hB : w1.heap[w.heap.size + 1]? = some (.cells #[.int .u32 0, .int .u32 0, .int .u32 0, .int .u32 0] 176 (0, 0)) := (hb1.block _ (by simp)).trans (heap_alloc2_new w _ _)
  have hz : w.heap.size + 2 ≤ w1.heap.size := by have := hb1.size; simpa using this
  have hbel : Below w.heap.size w w1 := (((Below.refl _ w).alloc (Nat.le_refl _) _).alloc (by simp) _).trans (hb1.mono (by simp; omega))
  clear hb1
  have cA := fun j => cell_of_row w1 _ j _ _ _ hA
  have hs0 : w1.cell? ⟨w.heap.size, 0, none⟩ = some (.int .u32 s.a) := cA 0
  have hs1 : w1.cell? ⟨w.heap.size, 1, none⟩ = some (.int .u32 s.b) := cA 1
  have hs2 : w1.cell? ⟨w.heap.size, 2, none⟩ = some (.int .u32 s.c) := cA 2
  have hs3 : w1.cell? ⟨w.heap.size, 3, none⟩ = some (.int .u32 s.d) := cA 3
  have HA := Hid.out (p := Hid _) (show Hid (Hid _) from hA)
  have HB : Hid _ := hB
  clear cA hA hB hc
  go_wp2_with (refine wpList_store_row rfl 187 _ _ rfl (w1.heap.size) _ rfl rfl 187 _ (heap_alloc_last _ _) (by rw [size50, Md.rowU_size]) (by simp [Md.rowU_size]) (Md.rowU_all _ _ _) ?_; rw [World.setRow_alloc_new])
  have i0 : w.heap.size < w1.heap.size := by omega
  go_quiet (fail)
  go_wp2
  go_loopw [6, 7, 8, 9, 24] (fun ra rb rc rd i wr => ∃ k : Nat, k ≤ 64 ∧ i = .int .i64 k ∧ ra = .int .u32 (Md.runTo bs k s).a ∧ rb = .int .u32 (Md.runTo bs k s).b ∧ rc = .int .u32 (Md.runTo bs k s).c ∧ rd = .int .u32 (Md.runTo bs k s).d ∧ wr.heap[w1.heap.size]? = some (.cells (Md.rowU 16 (Md.wd bs) 16) 187 (0, 0)) ∧ Below w1.heap.size w1 wr) (fun _ _ _ _ i _ => 64 - (intOf i).toNat)
  case atStart => exact ⟨0, by omega, rfl, rfl, rfl, rfl, rfl, heap_alloc_last _ _, below_drewN ((Below.refl _ w1).alloc (Nat.le_refl _) _) _⟩
  case round =>
    obtain ⟨k, hk, rfl, rfl, rfl, rfl, rfl, hW, hbw⟩ := hrel
    by_cases hlt : k < 64
    · have hT : Tabs wr := HT.out.below (B := w.heap.size) (hbel.trans (hbw.mono (by omega))) (by omega)
      have t0 : wr.cell? ⟨0, k, none⟩ = some (.int .u32 (Md.tabAt k)) := hT.adds k hlt
      have t1 : wr.cell? ⟨1, k / 16 * 4 + k % 4, none⟩ = some (.int .i64 (Md.trnAt (k / 16 * 4 + k % 4))) := hT.turn _ (by omega)
      have t2 : wr.cell? ⟨w1.heap.size, Md.ksel k, none⟩ = some (.int .u32 (Md.wd bs (Md.ksel k))) := (cell_of_row wr _ _ _ _ _ hW).trans (by rw [Md.rowU_get _ _ _ _ (Md.ksel_lt k)]; simp [Md.ksel_lt k])
      have hr := Md.trnAt_range (k / 16 * 4 + k % 4) (by omega)
      have hr0 := hr.1
      have hr1 := hr.2
      have hks : ((Md.ksel k : Nat) : Int) < 16 := by have := Md.ksel_lt k; omega
      have HX : Hid (Md.runTo bs (k + 1) s = ⟨(Md.runTo bs k s).d, ((Md.runTo bs k s).b + Md.rotl (((Md.runTo bs k s).a + Md.fsel k (Md.runTo bs k s).b (Md.runTo bs k s).c (Md.runTo bs k s).d + Md.tabAt k + Md.wd bs (Md.ksel k)) % 4294967296) (Md.trnAt (k / 16 * 4 + k % 4))) % 4294967296, (Md.runTo bs k s).b, (Md.runTo bs k s).c⟩) := rfl
      have HW : Hid _ := hW
      have HBW : Hid _ := hbw
      have HBL : Hid _ := hbel
      clear hr hT hW hbw hbel hs0 hs1 hs2 hs3
      generalize Md.runTo bs k s = q at *
      go_wp2_with fail
      refine (choose_any k _ _ _ _ hlt).mono ?_
      rintro e w2 ⟨rfl, rfl⟩
      obtain ⟨r, hr⟩ : ∃ r, r = k / 16 := ⟨_, rfl⟩
      obtain ⟨j, hj⟩ : ∃ j, j = k % 4 := ⟨_, rfl⟩
      have k1 : IntKind.i64.wrap ((k : Int) / 16) = (r : Int) := by rw [w64id _ (by omega) (by omega)]; omega
      have k2 : Int.tmod (k : Int) 4 = (j : Int) := by rw [Int.tmod_eq_emod_of_nonneg (by omega)]; omega
      have k3 : r < 4 := by omega
      have k4 : j < 4 := by omega
      have k5 : (r : Int) < 4 := by omega
      have k6 : (j : Int) < 4 := by omega
      rw [← hr, ← hj] at t1 hr0 hr1 HX
      have HR : Hid (r = k / 16) := hr
      have HJ : Hid (j = k % 4) := hj
      clear hr hj
      go_wp2_with fail
      go_quiet ((go_at_call 134; refine Calls.quiet_of_same (rot_any _ _ _ (by assumption) (by assumption))))
      go_wp2
      refine ⟨⟨k + 1, by omega, by go_num, ?_⟩, by simp [intOf]; omega⟩
      rw [HX.out]
      exact ⟨rfl, rfl, rfl, rfl, HW.out, below_drewN HBW.out _⟩
    · obtain rfl : k = 64 := by omega
      have hbl : w.heap.size < w1.heap.size := by omega
      have gA : wr.heap[w.heap.size]? = _ := (hbw.block _ hbl).trans HA.out
      have gB : wr.heap[w.heap.size + 1]? = _ := (hbw.block _ (by omega)).trans HB.out
      have cA := fun j => cell_of_row wr _ j _ _ _ gA
      have ws0 : wr.cell? ⟨w.heap.size, 0, none⟩ = some (.int .u32 s.a) := cA 0
      have ws1 : wr.cell? ⟨w.heap.size, 1, none⟩ = some (.int .u32 s.b) := cA 1
      have ws2 : wr.cell? ⟨w.heap.size, 2, none⟩ = some (.int .u32 s.c) := cA 2
      have ws3 : wr.cell? ⟨w.heap.size, 3, none⟩ = some (.int .u32 s.d) := cA 3
      have HX : Hid (Md.mixS s bs = ⟨(s.a + (Md.runTo bs 64 s).a) % 4294967296, (s.b + (Md.runTo bs 64 s).b) % 4294967296, (s.c + (Md.runTo bs 64 s).c) % 4294967296, (s.d + (Md.runTo bs 64 s).d) % 4294967296⟩) := rfl
      have HBW : Hid _ := hbw
      have HBL : Hid _ := hbel
      have HGB : Hid _ := gB
      clear cA gA hW hbw hbel hs0 hs1 hs2 hs3 gB
      generalize Md.runTo bs 64 s = q at *
      go_wp2_with (refine wpList_store_row rfl 176 _ _ rfl (w.heap.size + 1) #[.int .u32 ((s.a + q.a) % 4294967296), .int .u32 ((s.b + q.b) % 4294967296), .int .u32 ((s.c + q.c) % 4294967296), .int .u32 ((s.d + q.d) % 4294967296)] rfl rfl 176 _ HGB.out (by rw [size34]; rfl) (by rfl) (Md.all4 _ _ _ _) ?_)
      rw [HX.out]
      exact bodyPost_ret (v := .agg #[.int .u32 ((s.a + q.a) % 4294967296), .int .u32 ((s.b + q.b) % 4294967296), .int .u32 ((s.c + q.c) % 4294967296), .int .u32 ((s.d + q.d) % 4294967296)]) (results_cell_row (p := 4) (ty := 176) rfl _ _ (w.heap.size + 1) 176 _ (0, 0) _ rfl (setRow_heap _ _ _ _ _ _ HGB.out) Tryz.underlying176 rfl (by rw [size34]; rfl)) rfl ⟨rfl, below_setRow (HBL.out.trans (HBW.out.mono (by omega))) (by omega) _⟩
end Go.Proofs.YtcbpafpaimpfnaaGreatDoor
