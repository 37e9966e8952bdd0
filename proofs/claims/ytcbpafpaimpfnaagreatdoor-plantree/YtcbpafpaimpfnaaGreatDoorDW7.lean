/- walks: sumBehind -/
import Derived.Test.YtcbpafpaimpfnaaGreatDoorDW5
import Derived.Test.YtcbpafpaimpfnaaGreatDoorDW6
namespace Go.Proofs.YtcbpafpaimpfnaaGreatDoor
open Go.RowKit

/-- The state behind all of b (n bytes), of which done bytes went ahead. -/
def Md.fin (s : Md.St) (done n : Nat) (bs : Nat → Int) : Md.St :=
  Md.mixN (Md.mixN s bs (n / 64)) (Md.lastB (n % 64) (fun i => bs (64 * (n / 64) + i)) (((done : Int) + n) * 8)) (Md.lastN (n % 64))

/-- A digest in new memory. -/
def Sumd (w : World) (s : Md.St) (e : Ending) (w' : World) : Prop :=
  ∃ g, e = .returned (.slice (some ⟨g, 0, none⟩) 16 16) ∧ w.heap.size ≤ g ∧ w'.heap[g]? = some (.cells (Md.rowB 16 (Md.dg s) 16) 5 (0, 0)) ∧ Below w.heap.size w w'

theorem mixLast_at (s : Md.St) (ao : Option Addr) (n N cap : Nat) (bits : Int) (bs : Nat → Int) (w : World) (hN : N = n) (ht : Tabs w) (hr : ByteRow w ao n cap bs) (hn : n < 64) :
    Calls Tryz.prog 129 #[.agg #[.int .u32 s.a, .int .u32 s.b, .int .u32 s.c, .int .u32 s.d], .slice ao N cap, .int .u64 bits] w fun e w' => e = .returned (.agg (Md.stA (Md.mixN s (Md.lastB n bs bits) (Md.lastN n)))) ∧ Below w.heap.size w w' := by
  subst hN
  exact mixLast_out s ao N cap bits bs w ht hr hn

set_option maxHeartbeats 2000000 in
theorem behind_pos (s : Md.St) (b off n cap : Nat) (done : Nat) (bs : Nat → Int) (w : World) (ht : Tabs w) (hd : done ≤ 64) (hn : n ≤ cap) (hc : n ≤ 140737488351232) (hb : b < w.heap.size)
    (hcell : ∀ i, i < n → w.cell? ⟨b, off + i, none⟩ = some (.int .u8 (bs i))) :
    Calls Tryz.prog 121 #[.agg (Md.stA s), .int .i64 done, .slice (some ⟨b, off, none⟩) n cap] w (Sumd w (Md.fin s done n bs)) := by
  unfold Md.stA
  have HC : Hid _ := hcell
  have HT : Hid _ := ht
  have hbt := ht.lt
  clear hcell ht
  obtain ⟨W0, HW0⟩ : ∃ W0, Hid (W0 = w.alloc (.cells #[.int .u32 s.a, .int .u32 s.b, .int .u32 s.c, .int .u32 s.d] 176)) := ⟨_, rfl⟩
  have HBL : Hid (Below w.heap.size w W0) := by rw [HW0.out]; exact (Below.refl _ w).alloc (Nat.le_refl _) _
  have HA : Hid (W0.heap[w.heap.size]? = some (.cells (Md.stA s) 176 (0, 0))) := by rw [HW0.out]; exact heap_alloc_last _ _
  have hsz : Hid (w.heap.size + 1 = W0.heap.size) := by rw [HW0.out]; simp [Hid]
  have HT0 : Hid (Tabs W0.drew) := HT.out.below HBL.out.drew (by omega)
  have HR0 : Hid (ByteRow W0.drew (some ⟨b, off, none⟩) (64 * (n / 64)) cap bs) := ⟨by omega, fun _ => ⟨b, off, rfl, by show b < W0.heap.size; have := hsz.out; omega, fun i hi => (HBL.out.drew.cell (by exact hb)).trans (HC.out i (by omega))⟩⟩
  have HRX : ∀ w3 : World, Below w.heap.size w w3 → Hid (ByteRow w3.drew (some ⟨b, off + (n - n % 64), none⟩) (n % 64) (cap - (n - n % 64)) (fun i => bs (64 * (n / 64) + i))) := by
    intro w3 h3
    refine ⟨by omega, fun _ => ⟨b, off + (n - n % 64), rfl, by have := h3.size; show b < w3.heap.size; omega, fun i hi => (h3.drew.cell (by exact hb)).trans ?_⟩⟩
    rw [show off + (n - n % 64) + i = off + (64 * (n / 64) + i) by omega]
    exact HC.out _ (by omega)
  go_enter Tryz.func121, Tryz.ntmps121
  go_wp2_with fail
  go_region_with (go_at_call 127; rw [← HW0.out]; refine (mixAll_out s (some ⟨b, off, none⟩) (n / 64) _ cap bs _ (by omega) HT0.out HR0.out (by omega)).mono ?_; rintro e w2 ⟨rfl, hb2⟩; have c2 := four hb2 HA.out; obtain ⟨c20, c21, c22, c23, f20, f21, f22, f23⟩ := c2; have HB2 : Hid _ := hb2; clear hb2)
  all_goals
    have hset := set4 (s' := Md.mixN s bs (n / 64)) ((HB2.out.block w.heap.size (by have := hsz.out; show _ < W0.heap.size; omega)).trans HA.out)
    have HS1 : Hid _ := hset.1
    have HS2 : Hid (Below w.heap.size w _) := hset.2.2 _ _ (Nat.le_refl _) (HBL.out.drew.trans (HB2.out.mono (by have := hsz.out; show _ ≤ W0.heap.size; omega)))
    clear hset c20 c21 c22 c23 f20 f21 f22 f23 HB2
    generalize ((((w2.setCell ⟨w.heap.size, 0, none⟩ (.int .u32 (Md.mixN s bs (n / 64)).a)).setCell ⟨w.heap.size, 1, none⟩ (.int .u32 (Md.mixN s bs (n / 64)).b)).setCell ⟨w.heap.size, 2, none⟩ (.int .u32 (Md.mixN s bs (n / 64)).c)).setCell ⟨w.heap.size, 3, none⟩ (.int .u32 (Md.mixN s bs (n / 64)).d)) = w3 at HS1 HS2 ⊢
    have b0 : w3.cell? ⟨w.heap.size, 0, none⟩ = some (.int .u32 (Md.mixN s bs (n / 64)).a) := cell_of_row w3 _ 0 _ _ _ HS1.out
    have b1 : w3.cell? ⟨w.heap.size, 1, none⟩ = some (.int .u32 (Md.mixN s bs (n / 64)).b) := cell_of_row w3 _ 1 _ _ _ HS1.out
    have b2 : w3.cell? ⟨w.heap.size, 2, none⟩ = some (.int .u32 (Md.mixN s bs (n / 64)).c) := cell_of_row w3 _ 2 _ _ _ HS1.out
    have b3 : w3.cell? ⟨w.heap.size, 3, none⟩ = some (.int .u32 (Md.mixN s bs (n / 64)).d) := cell_of_row w3 _ 3 _ _ _ HS1.out
    have hs3 : Hid (w.heap.size ≤ w3.heap.size) := HS2.out.size
    have HT3 : Hid (Tabs w3.drew) := HT.out.below HS2.out.drew (by omega)
    clear HC HW0 HBL HA hsz HT0 HR0 HT
    by_cases hcw : cap = n - n % 64
    · have HR3 : Hid (ByteRow w3.drew (some ⟨b, off, none⟩) (n % 64) 0 (fun i => bs (64 * (n / 64) + i))) := ⟨by omega, fun h => by omega⟩
      go_wp2_with fail
      go_region_with (first | (go_at_call 129; refine (mixLast_at (Md.mixN s bs (n / 64)) _ (n % 64) _ _ _ _ _ (by omega) HT3.out HR3.out (by omega)).mono ?_; rintro e w4 ⟨rfl, hb4⟩) | (go_at_call 128; refine (digest_any _ _).mono ?_; rintro e w5 ⟨rfl, hw5, hb5⟩))
      all_goals go_wp2
      all_goals go_ret
      all_goals exact ⟨_, rfl, by have h1 := hs3.out; have h2 : w3.heap.size ≤ w4.heap.size := hb4.size; omega, hw5, (HS2.out.drew.trans (hb4.mono (by exact hs3.out))).trans (hb5.mono (by have h1 := hs3.out; have h2 : w3.heap.size ≤ w4.heap.size := hb4.size; omega))⟩
    · have HR3 : Hid (ByteRow w3.drew (some ⟨b, off + (n - n % 64), none⟩) (n % 64) (cap - (n - n % 64)) (fun i => bs (64 * (n / 64) + i))) := HRX w3 HS2.out
      go_wp2_with fail
      go_region_with (first | (go_at_call 129; refine (mixLast_at (Md.mixN s bs (n / 64)) _ (n % 64) _ _ _ _ _ (by omega) HT3.out HR3.out (by omega)).mono ?_; rintro e w4 ⟨rfl, hb4⟩) | (go_at_call 128; refine (digest_any _ _).mono ?_; rintro e w5 ⟨rfl, hw5, hb5⟩))
      all_goals go_wp2
      all_goals go_ret
      all_goals exact ⟨_, rfl, by have h1 := hs3.out; have h2 : w3.heap.size ≤ w4.heap.size := hb4.size; omega, hw5, (HS2.out.drew.trans (hb4.mono (by exact hs3.out))).trans (hb5.mono (by have h1 := hs3.out; have h2 : w3.heap.size ≤ w4.heap.size := hb4.size; omega))⟩
end Go.Proofs.YtcbpafpaimpfnaaGreatDoor
