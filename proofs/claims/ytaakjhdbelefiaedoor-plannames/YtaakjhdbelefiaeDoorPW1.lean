/- walks: package plan's wrongBridge -/
import Derived.Test.YtaakjhdbelefiaeDoorPB
import Derived.Test.YtaakjhdbelefiaeDoorGW2
namespace Go.Proofs.YtaakjhdbelefiaeDoor
open Go.RowKit
open Pl (Br Net Pc Lk En St)

set_option maxHeartbeats 400000 in
theorem podd_any (p : Int) (w : World) :
    Calls Tryd.prog 45 #[.int .i64 p] w fun e w' => e = .returned (.bool (Pl.oddP p)) ∧ w' = w := by
  have HW : Hid (∀ W, Calls Tryd.prog 12 #[.int .i64 p, .int .i64 0, .int .i64 61440] W fun e w' => e = .returned (.bool (decide (0 ≤ p ∧ p ≤ 61440))) ∧ w' = W) := fun W => gwithin_any p 0 61440 W
  unfold Pl.oddP
  by_cases h1 : 0 ≤ p ∧ p ≤ 61440
  · rw [decide_eq_true h1] at HW ⊢
    have hr : p.tmod 4096 = p % 4096 := Int.tmod_eq_emod_of_nonneg h1.1
    have hw : IntKind.i64.wrap (p % 4096) = p % 4096 := wraps_i64 _ (by omega) (by omega)
    by_cases h2 : p % 4096 = 0
    · have hd : (p.tmod 4096 == 0) = true := by rw [hr]; simp [h2]
      go_enter Tryd.func45, Tryd.ntmps45
      go_wp2_with (go_at_call 12; refine (HW.out _).mono ?_; rintro e w1 ⟨rfl, rfl⟩)
      go_ret
      exact ⟨by simp [h2], rfl⟩
    · have hd : (p.tmod 4096 == 0) = false := by rw [hr]; simp [h2]
      go_enter Tryd.func45, Tryd.ntmps45
      go_wp2_with (go_at_call 12; refine (HW.out _).mono ?_; rintro e w1 ⟨rfl, rfl⟩)
      go_ret
      exact ⟨by simp [h2], rfl⟩
  · rw [decide_eq_false h1] at HW ⊢
    go_enter Tryd.func45, Tryd.ntmps45
    go_wp2_with (go_at_call 12; refine (HW.out _).mono ?_; rintro e w1 ⟨rfl, rfl⟩)
    go_ret
    exact ⟨rfl, rfl⟩
set_option maxHeartbeats 400000 in
theorem pindex_any (ao : Option Addr) (n cap : Nat) (f : Nat → Int) (w : World) (hn : n ≤ 16) (hr : IRow w ao n cap f) :
    Calls Tryd.prog 64 #[.slice ao n cap, .func (.func 45) #[] #[]] w fun e w' => ∃ r : Int, e = .returned (.int .i64 r) ∧ decide (0 ≤ r) = Vc.someTo (fun i => Pl.oddP (f i)) n ∧ w' = w := by
  have HR : Hid (IRow w ao n cap f) := hr
  clear hr
  go_enter Tryd.func64, Tryd.ntmps64
  go_wp2_with fail
  go_loopw [8] (fun i wr => ∃ k : Nat, k ≤ n ∧ i = .int .i64 k ∧ Hid (Vc.someTo (fun i => Pl.oddP (f i)) k = false) ∧ wr = w) (fun i _ => n - (intOf i).toNat)
  case atStart => exact ⟨0, by omega, rfl, rfl, rfl⟩
  case round =>
    obtain ⟨k, hk, rfl, hX, rfl⟩ := hrel
    by_cases hlt : k < n
    · obtain ⟨b, off, rfl, hb⟩ := CRow.some HR.out (by omega)
      have hcap := HR.out.1
      have c4 : wr.cell? ⟨b, off + k, none⟩ = some (.int .i64 (f k)) := IRow.cells HR.out hlt
      have HS1 : Hid (Pl.oddP (f k) = true → Vc.someTo (fun i => Pl.oddP (f i)) n = true) := fun h => someTo_stay _ k h n hlt
      have HS2 : Hid (Pl.oddP (f k) = false → Vc.someTo (fun i => Pl.oddP (f i)) (k + 1) = false) := fun h => by
        show (Vc.someTo _ k || Pl.oddP (f k)) = false
        rw [h, hX.out]; rfl
      clear HR hX
      generalize f k = c at *
      cases ho : Pl.oddP c with
      | true =>
        have HO : Hid (Pl.oddP c = true) := ho
        clear ho
        go_wp2_with (go_at_call 45; refine (podd_any _ _).mono ?_; rintro e w1 ⟨rfl, rfl⟩; rw [HO.out])
        go_ret
        exact ⟨_, rfl, by rw [HS1.out HO.out]; simp, rfl⟩
      | false =>
        have HO : Hid (Pl.oddP c = false) := ho
        clear ho
        go_wp2_with (go_at_call 45; refine (podd_any _ _).mono ?_; rintro e w1 ⟨rfl, rfl⟩; rw [HO.out])
        exact ⟨⟨k + 1, by omega, by go_num, HS2.out HO.out, trivial⟩, by simp [intOf]; omega⟩
    · obtain rfl : k = n := by omega
      go_wp2
      go_ret
      exact ⟨_, rfl, by rw [hX.out]; decide, rfl⟩
set_option maxHeartbeats 400000 in
theorem pcontains_any (ao : Option Addr) (n cap : Nat) (f : Nat → Int) (w : World) (hn : n ≤ 16) (hr : IRow w ao n cap f) :
    Calls Tryd.prog 46 #[.slice ao n cap, .func (.func 45) #[] #[]] w fun e w' => e = .returned (.bool (Vc.someTo (fun i => Pl.oddP (f i)) n)) ∧ w' = w := by
  have HR : Hid (IRow w ao n cap f) := hr
  clear hr
  go_enter Tryd.func46, Tryd.ntmps46
  go_wp2_with (go_at_call 64; refine (pindex_any _ _ _ f _ hn HR.out).mono ?_; rintro e w1 ⟨r, rfl, hq, rfl⟩; have HQ : Hid (decide (0 ≤ r) = Vc.someTo (fun i => Pl.oddP (f i)) n) := hq; clear hq)
  go_ret
  exact ⟨by rw [HQ.out]; rfl, rfl⟩
theorem br_cells {w : World} {g : Nat} {a0 a1 a2 a3 a4 : Value} {ty : TypeId} (h : w.heap[g]? = some (.cells #[a0, a1, a2, a3, a4] ty (0, 0))) :
    w.cell? ⟨g, 0, none⟩ = some a0 ∧ w.cell? ⟨g, 1, none⟩ = some a1 ∧ w.cell? ⟨g, 2, none⟩ = some a2 ∧ w.cell? ⟨g, 3, none⟩ = some a3 ∧ w.cell? ⟨g, 4, none⟩ = some a4 :=
  ⟨cell_of_row w g 0 _ _ _ h, cell_of_row w g 1 _ _ _ h, cell_of_row w g 2 _ _ _ h, cell_of_row w g 3 _ _ _ h, cell_of_row w g 4 _ _ _ h⟩
/-- A bridge, as an argument. -/
def brA (b : Br) : Array Value := #[.int .u64 b.addr, .slice b.pao b.pn b.pcap, .string b.reg.s, .int .i64 b.reg.rev, .slice b.reg.ao b.reg.n b.reg.cap]
set_option maxHeartbeats 1000000 in
theorem pwrongBridge_any (b : Br) (w : World) (hb : b.at' w) :
    Calls Tryd.prog 32 #[.agg (brA b)] w fun e w' => e = .returned (.int .i64 (Pl.brErr b)) ∧ Below w.heap.size w w' := by
  obtain ⟨hp, hreg, hn1, hn2⟩ := hb
  have HX : Hid (∀ W, W = w.alloc (.cells (brA b) 33) → b.pn ≤ 16 → Calls Tryd.prog 46 #[.slice b.pao b.pn b.pcap, .func (.func 45) #[] #[]] W fun e w' => e = .returned (.bool (Vc.someTo (fun i => Pl.oddP (b.pv i)) b.pn)) ∧ w' = W) := fun W hW h => pcontains_any _ _ _ _ W h (hp.below (by rw [hW]; exact below_alloc1 _ _))
  have HG : Hid (∀ W, W = w.alloc (.cells (brA b) 33) → Calls Tryd.prog 47 #[.agg #[.string b.reg.s, .int .i64 b.reg.rev, .slice b.reg.ao b.reg.n b.reg.cap]] W fun e w' => e = .returned (.int .i64 (Rg.wrong b.reg.s b.reg.rev b.reg.vs b.reg.ts b.reg.n)) ∧ Below w.heap.size w w') := fun W hW => by
    have hbl : Below w.heap.size w W := by rw [hW]; exact below_alloc1 _ _
    refine (gwrong_any b.reg.s b.reg.rev b.reg.ao b.reg.n b.reg.cap b.reg.vs b.reg.ts W hn2 (hreg.below hbl)).mono ?_
    rintro e w' ⟨rfl, h2⟩
    exact ⟨rfl, hbl.trans (h2.mono hbl.size)⟩
  have HA : Hid ((w.alloc (.cells (brA b) 33)).heap[w.heap.size]? = some (.cells (brA b) 33 (0, 0))) := heap_alloc_last _ _
  obtain ⟨R, HR⟩ : ∃ R, Hid (R = Rg.wrong b.reg.s b.reg.rev b.reg.vs b.reg.ts b.reg.n) := ⟨_, rfl⟩
  obtain ⟨S, HS⟩ : ∃ S, Hid (S = Vc.someTo (fun i => Pl.oddP (b.pv i)) b.pn) := ⟨_, rfl⟩
  have HE : Hid (Pl.brErr b = if 281474976710655 < b.addr then 3 else if 16 < b.pn then 5 else if S = true then 3 else R) := by rw [HR.out, HS.out]; rfl
  rw [← HR.out] at HG
  rw [← HS.out] at HX
  clear HR HS hp hreg hn2
  obtain ⟨addr, pao, pn, pcap, pv, ⟨s, rev, ao, n, cap, vs, ts⟩⟩ := b
  simp only [brA] at *
  rw [HE.out]
  obtain ⟨q0, q1, q2, q3, q4⟩ := br_cells HA.out
  clear HA HE
  by_cases h1 : 281474976710655 < addr
  · rw [if_pos h1]
    go_enter Tryd.func32, Tryd.ntmps32
    go_wp2_with fail
    go_ret
    exact ⟨rfl, below_alloc1 _ _⟩
  · rw [if_neg h1]
    by_cases h2 : 16 < pn
    · rw [if_pos h2]
      go_enter Tryd.func32, Tryd.ntmps32
      go_wp2_with fail
      go_ret
      exact ⟨rfl, below_alloc1 _ _⟩
    · rw [if_neg h2]
      cases S with
      | true =>
        rw [if_pos rfl]
        go_enter Tryd.func32, Tryd.ntmps32
        go_wp2_with (go_at_call 46; refine (HX.out _ rfl (by omega)).mono ?_; rintro e w1 ⟨rfl, rfl⟩)
        go_ret
        exact ⟨rfl, below_alloc1 _ _⟩
      | false =>
        rw [if_neg (by decide)]
        go_enter Tryd.func32, Tryd.ntmps32
        go_wp2_with (first | (go_at_call 46; refine (HX.out _ rfl (by omega)).mono ?_; rintro e w1 ⟨rfl, rfl⟩) | (go_at_call 47; refine (HG.out _ rfl).mono ?_; rintro e w1 ⟨rfl, hb1⟩))
        go_ret
        exact ⟨rfl, hb1⟩
end Go.Proofs.YtaakjhdbelefiaeDoor
