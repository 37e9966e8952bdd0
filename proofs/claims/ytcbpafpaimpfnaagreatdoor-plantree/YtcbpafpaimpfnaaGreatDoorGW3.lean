/- walks: region.Tree, its closure, sort.Search at it -/
import Derived.Test.YtcbpafpaimpfnaaGreatDoorGW2
namespace Go.Proofs.YtcbpafpaimpfnaaGreatDoor
open Go.RowKit

set_option maxHeartbeats 400000 in
theorem gless_any (Br Bv : Nat) (ao : Option Addr) (n cap : Nat) (vs ts : Nat → Int) (vid : Int) (i : Nat) (w : World) (hr : WayRow w ao n cap vs ts) (hi : i < n) (hn : n ≤ 4094) (h2 : w.cell? ⟨Br, 2, none⟩ = some (.slice ao n cap)) (hv : w.cell? ⟨Bv, 0, none⟩ = some (.int .i64 vid)) :
    Calls Tryz.prog 119 #[.int .i64 i, .pointer (some ⟨Br, 0, none⟩), .pointer (some ⟨Bv, 0, none⟩)] w fun e w' => e = .returned (.bool (decide (vid ≤ vs i))) ∧ Below w.heap.size w w' := by
  obtain ⟨b, off, rfl, hb, hc⟩ := hr.2 (by omega)
  have hcap := hr.1
  have c0 : w.cell? ⟨b, off + i * 2, none⟩ = some (.int .i64 (vs i)) := (hc i hi).1
  clear hr hc
  generalize vs i = v at *
  go_enter Tryz.func119, Tryz.ntmps119
  go_wp2
  go_region
  all_goals go_wp2
  all_goals go_ret
  all_goals exact ⟨rfl, below_drewN (Below.refl _ _) _⟩
set_option maxHeartbeats 1000000 in
theorem gsearch_any (Br Bv : Nat) (ao : Option Addr) (n cap : Nat) (vs ts : Nat → Int) (vid : Int) (w : World) (hr : WayRow w ao n cap vs ts) (hn : n ≤ 4094) (hm : ∀ i j, i < j → j < n → vs i < vs j) (hbr : Br < w.heap.size) (hbv : Bv < w.heap.size) (h2 : w.cell? ⟨Br, 2, none⟩ = some (.slice ao n cap)) (hv : w.cell? ⟨Bv, 0, none⟩ = some (.int .i64 vid)) :
    Calls Tryz.prog 118 #[.int .i64 n, .func (.func 119) #[] #[.pointer (some ⟨Br, 0, none⟩), .pointer (some ⟨Bv, 0, none⟩)]] w fun e w' => ∃ k : Nat, e = .returned (.int .i64 k) ∧ k ≤ n ∧ ((∀ i, i < k → vs i < vid) ∧ (∀ i, k ≤ i → i < n → vid ≤ vs i)) ∧ Below w.heap.size w w' := by
  have HC : Hid (∀ W : World, Below w.heap.size w W → ∀ i : Nat, i < n → Calls Tryz.prog 119 #[.int .i64 i, .pointer (some ⟨Br, 0, none⟩), .pointer (some ⟨Bv, 0, none⟩)] W fun e w' => e = .returned (.bool (decide (vid ≤ vs i))) ∧ Below W.heap.size W w') :=
    fun W hW i hi => gless_any Br Bv ao n cap vs ts vid i W (hr.below hW) hi hn ((hW.cell (by exact hbr)).trans h2) ((hW.cell (by exact hbv)).trans hv)
  have HM : Hid (∀ i j, i < j → j < n → vs i < vs j) := hm
  clear hr hm h2 hv hbr hbv
  go_enter Tryz.func118, Tryz.ntmps118
  go_wp2_with fail
  go_loopw [5, 6] (fun x y wr => ∃ lo hi : Nat, lo ≤ hi ∧ hi ≤ n ∧ x = .int .i64 lo ∧ y = .int .i64 hi ∧ Hid ((∀ i, i < lo → vs i < vid) ∧ (∀ i, hi ≤ i → i < n → vid ≤ vs i)) ∧ Hid (Below w.heap.size w wr)) (fun x y _ => (intOf y - intOf x).toNat)
  case atStart => exact ⟨0, n, by omega, by omega, rfl, rfl, ⟨fun i hi => by omega, fun i h1 h2 => by omega⟩, Below.refl _ _⟩
  case round =>
    obtain ⟨lo, hi, h1, h2, rfl, rfl, hX, hB⟩ := hrel
    by_cases hlt : lo < hi
    · have hc := HC.out _ hB.out ((lo + hi) / 2) (by omega)
      rw [show (((lo + hi) / 2 : Nat) : Int) = ((lo : Int) + (hi : Int)) / 2 by omega] at hc
      by_cases hp : vid ≤ vs ((lo + hi) / 2)
      · have d1 : decide (vid ≤ vs ((lo + hi) / 2)) = true := decide_eq_true hp
        rw [d1] at hc
        have HX : Hid ((∀ i, i < lo → vs i < vid) ∧ (∀ i, (lo + hi) / 2 ≤ i → i < n → vid ≤ vs i)) := by
          refine ⟨hX.out.1, fun i h3 h4 => ?_⟩
          by_cases e : i = (lo + hi) / 2
          · subst e; exact hp
          · have := HM.out ((lo + hi) / 2) i (by omega) h4
            omega
        clear hX hp d1 HC HM
        go_wp2_with (go_at_call 119; refine hc.mono ?_; rintro e w2 ⟨rfl, hb2⟩)
        exact ⟨⟨lo, (lo + hi) / 2, by omega, by omega, rfl, by rw [show (((lo + hi) / 2 : Nat) : Int) = ((lo : Int) + (hi : Int)) / 2 by omega], HX, hB.out.trans (hb2.mono hB.out.size)⟩, by simp [intOf]; omega⟩
      · have d1 : decide (vid ≤ vs ((lo + hi) / 2)) = false := decide_eq_false hp
        rw [d1] at hc
        have HX : Hid ((∀ i, i < (lo + hi) / 2 + 1 → vs i < vid) ∧ (∀ i, hi ≤ i → i < n → vid ≤ vs i)) := by
          refine ⟨fun i h3 => ?_, hX.out.2⟩
          by_cases e : i = (lo + hi) / 2
          · subst e; omega
          · have := HM.out i ((lo + hi) / 2) (by omega) (by omega)
            omega
        clear hX hp d1 HC HM
        go_wp2_with (go_at_call 119; refine hc.mono ?_; rintro e w2 ⟨rfl, hb2⟩)
        exact ⟨⟨(lo + hi) / 2 + 1, hi, by omega, by omega, by rw [show (((lo + hi) / 2 + 1 : Nat) : Int) = ((lo : Int) + (hi : Int)) / 2 + 1 by omega], rfl, HX, hB.out.trans (hb2.mono hB.out.size)⟩, by simp [intOf]; omega⟩
    · obtain rfl : lo = hi := by omega
      go_wp2
      go_ret
      exact ⟨lo, rfl, h2, hX.out, hB.out⟩
set_option maxHeartbeats 1000000 in
theorem gtree_any (s : ByteArray) (rev : Int) (ao : Option Addr) (n cap : Nat) (vs ts : Nat → Int) (vid : Int) (w : World) (hR : Rg.Right vs ts n) (hr : WayRow w ao n cap vs ts) :
    Calls Tryz.prog 103 #[.agg #[.string s, .int .i64 rev, .slice ao n cap], .int .i64 vid] w fun e w' => e = .returned (.int .i64 (Rg.tree vs ts vid n)) ∧ Below w.heap.size w w' := by
  have hn := hR.many
  have HRt : Hid (Rg.Right vs ts n) := hR
  have HR : Hid (WayRow w ao n cap vs ts) := hr
  clear hr hR
  have HS : Hid (∀ W, W = (w.alloc (.cells #[.string s, .int .i64 rev, .slice ao n cap] 38)).alloc (.cells #[.int .i64 vid] 3) → Calls Tryz.prog 118 #[.int .i64 n, .func (.func 119) #[] #[.pointer (some ⟨w.heap.size, 0, none⟩), .pointer (some ⟨w.heap.size + 1, 0, none⟩)]] W fun e w' => ∃ k : Nat, e = .returned (.int .i64 k) ∧ k ≤ n ∧ Hid ((∀ i, i < k → vs i < vid) ∧ (∀ i, k ≤ i → i < n → vid ≤ vs i)) ∧ w'.cell? ⟨w.heap.size, 2, none⟩ = some (.slice ao n cap) ∧ w'.cell? ⟨w.heap.size + 1, 0, none⟩ = some (.int .i64 vid) ∧ Hid (Below w.heap.size w w')) := by
    intro W hW
    have hb : Below w.heap.size w W := by rw [hW]; exact below_alloc2 _ _ _
    have hh : W.heap[w.heap.size]? = some (.cells #[.string s, .int .i64 rev, .slice ao n cap] 38 (0, 0)) := by rw [hW]; exact heap_alloc2_old w _ _
    have h0 := (rg_cells hh).2.2
    have h1 : W.cell? ⟨w.heap.size + 1, 0, none⟩ = some (.int .i64 vid) := cell_of_row W _ 0 _ _ _ (by rw [hW]; exact heap_alloc2_new w _ (.cells #[.int .i64 vid] 3))
    have z0 := block_lt_of_cell h0
    have z1 := block_lt_of_cell h1
    refine (gsearch_any _ _ ao n cap vs ts vid W (HR.out.below hb) hn HRt.out.less z0 z1 h0 h1).mono ?_
    rintro e w' ⟨k, rfl, hk, hx, hb'⟩
    exact ⟨k, rfl, hk, hx, (hb'.cell (by exact z0)).trans h0, (hb'.cell (by exact z1)).trans h1, hb.trans (hb'.mono hb.size)⟩
  go_enter Tryz.func103, Tryz.ntmps103
  go_wp2_with (go_at_call 118; refine (HS.out _ rfl).mono ?_; rintro e w1 ⟨k, rfl, hk, HX, q1, q2, HBB⟩)
  by_cases hlt : k < n
  · obtain ⟨b, off, rfl, hb, hc⟩ := (HR.out.below HBB.out).2 (by omega)
    have hcap := HR.out.1
    have c0 : w1.cell? ⟨b, off + k * 2, none⟩ = some (.int .i64 (vs k)) := (hc k hlt).1
    have c1 : w1.cell? ⟨b, off + k * 2 + 1, none⟩ = some (.int .i64 (ts k)) := (hc k hlt).2
    have hltz : (k : Int) < (n : Int) := by omega
    by_cases he : vs k = vid
    · have HT : Hid (Rg.tree vs ts vid n = ts k) := by rw [← he]; exact Rg.tree_at HRt.out k hlt n hlt (Nat.le_refl _)
      rw [he] at c0
      clear hc HR HRt HS HX he
      generalize ts k = t at *
      go_region
      all_goals go_wp2
      all_goals go_ret
      all_goals exact ⟨by rw [HT.out]; rfl, below_drewN HBB.out _⟩
    · have HT : Hid (Rg.tree vs ts vid n = 0) := Rg.tree_none vs ts vid n (fun i hi => by
        have h3 := HX.out.1 i
        have h4 := HX.out.2 k (Nat.le_refl _) hlt
        by_cases e1 : i < k
        · have := h3 e1; omega
        · by_cases e2 : i = k
          · subst e2; exact he
          · have := HRt.out.less k i (by omega) hi
            omega)
      have hd : decide (vs k = vid) = false := decide_eq_false he
      clear hc HR HRt HS HX
      generalize vs k = v at *
      generalize ts k = t at *
      go_region
      all_goals go_wp2
      all_goals go_ret
      all_goals exact ⟨by rw [HT.out]; rfl, below_drewN HBB.out _⟩
  · obtain rfl : k = n := by omega
    have HT : Hid (Rg.tree vs ts vid k = 0) := Rg.tree_none vs ts vid k (fun i hi => by have := HX.out.1 i hi; omega)
    clear HR HRt HS HX
    go_region
    all_goals go_wp2
    all_goals go_ret
    all_goals exact ⟨by rw [HT.out]; rfl, below_drewN HBB.out _⟩
end Go.Proofs.YtcbpafpaimpfnaaGreatDoor
