/- walks: package book's find, its closure, sort.Search at it -/
import Derived.Test.YtgkmaihleilchaaBW1
namespace Go.Proofs.Ytgkmaihleilchaa
open Go.RowKit
open Bk (E at')

theorem cmp_geq (a b : E) : decide (Bk.cmp a b ≥ 0) = decide (¬ Bk.lt a b) := by
  have := Bk.cmp_lt (a := a) (b := b)
  by_cases h : Bk.lt a b
  · rw [decide_eq_false (show ¬ (Bk.cmp a b ≥ 0) by have := this.2 h; omega), decide_eq_false (by simp [h])]
  · rw [decide_eq_true (show Bk.cmp a b ≥ 0 by
      rcases Int.lt_or_le (Bk.cmp a b) 0 with q | q
      · exact absurd (this.1 q) h
      · exact q), decide_eq_true h]
theorem cmp_eql (a b : E) : (Bk.cmp a b == 0) = decide (Bk.key a b) := by
  have := Bk.cmp_zero (a := a) (b := b)
  by_cases h : Bk.key a b
  · rw [decide_eq_true h]; simp [this.2 h]
  · rw [decide_eq_false h]; simp; exact fun q => h (this.1 q)
/-- The four cells of an entry. -/
def E4 (W : World) (g off : Nat) (x : E) : Prop := W.cell? ⟨g, off, none⟩ = some (.int .i64 x.vid) ∧ W.cell? ⟨g, off + 1, none⟩ = some (.int .u64 x.addr) ∧ W.cell? ⟨g, off + 2, none⟩ = some (.int .i64 x.port) ∧ W.cell? ⟨g, off + 3, none⟩ = some (.int .i64 x.age)
set_option maxHeartbeats 1000000 in
theorem bless_any (Bq Bs : Nat) (ao : Option Addr) (cap : Nat) (l : List E) (s : E) (i : Nat) (w : World) (hr : BEL w ao cap l) (hi : i < l.length) (hn : l.length ≤ 9223372036854775807) (h1 : w.cell? ⟨Bq, 0, none⟩ = some (.slice ao l.length cap)) (hs : w.heap[Bs]? = some (.cells #[.int .i64 s.vid, .int .u64 s.addr, .int .i64 s.port, .int .i64 s.age] 76 (0, 0))) :
    Calls Try.prog 64 #[.int .i64 i, .pointer (some ⟨Bq, 0, none⟩), .pointer (some ⟨Bs, 0, none⟩)] w fun e w' => e = .returned (.bool (decide (¬ Bk.lt (at' l i) s))) ∧ Below w.heap.size w w' := by
  rw [← cmp_geq]
  obtain ⟨b, off, rfl, hb⟩ := hr.place (by omega)
  have hcap := hr.1
  have hbl := block_lt_of_cell h1
  have HRW : Hid (∀ W, Below w.heap.size w W → BEL W (some ⟨b, off, none⟩) cap l) := fun W hW => BEL.below hr hW
  have HXX : Hid (Below w.heap.size w w) := Below.refl _ _
  have HLC : Hid (∀ W, Below w.heap.size w W → W.cell? ⟨Bq, 0, none⟩ = some (.slice (some ⟨b, off, none⟩) l.length cap)) := fun W hW => (hW.cell (by exact hbl)).trans h1
  have HJC : Hid (∀ W, Below w.heap.size w W → W.cell? ⟨b, off + i * 4, none⟩ = some (.int .i64 (at' l i).vid) ∧ W.cell? ⟨b, off + i * 4 + 1, none⟩ = some (.int .u64 (at' l i).addr) ∧ W.cell? ⟨b, off + i * 4 + 2, none⟩ = some (.int .i64 (at' l i).port) ∧ W.cell? ⟨b, off + i * 4 + 3, none⟩ = some (.int .i64 (at' l i).age)) := fun W hW => BEL.cells (HRW.out W hW) hi
  have HSC : Hid (∀ W, Below w.heap.size w W → W.cell? ⟨Bs, 0, none⟩ = some (.int .i64 s.vid) ∧ W.cell? ⟨Bs, 1, none⟩ = some (.int .u64 s.addr) ∧ W.cell? ⟨Bs, 2, none⟩ = some (.int .i64 s.port) ∧ W.cell? ⟨Bs, 3, none⟩ = some (.int .i64 s.age)) := fun W hW => en_cells (keep hs hW)
  have HBE : Hid (∀ W, Below w.heap.size w W → Calls Try.prog 54 #[.agg #[.int .i64 (at' l i).vid, .int .u64 (at' l i).addr, .int .i64 (at' l i).port, .int .i64 (at' l i).age], .agg #[.int .i64 s.vid, .int .u64 s.addr, .int .i64 s.port, .int .i64 s.age]] W fun e w' => e = .returned (.int .i64 (Bk.cmp (at' l i) s)) ∧ Hid (Below w.heap.size w w')) := fun W hW => (border_any (at' l i) s W).mono (fun e w' h => ⟨h.1, hW.trans (h.2.mono hW.size)⟩)
  obtain ⟨s0, s1, s2, s3⟩ := HSC.out w HXX.out
  obtain ⟨t0, t1, t2, t3⟩ := HJC.out w HXX.out
  have hcap2 : l.length ≤ cap := hcap
  clear hr hs hbl
  generalize hN : l.length = N at *
  clear hN
  generalize at' l i = x at *
  clear hcap HRW
  go_enter Try.func64, Try.ntmps64
  go_wp2_with fail
  go_region_held3 (fun W => W.cell? ⟨Bq, 0, none⟩ = some (.slice (some ⟨b, off, none⟩) N cap) ∧ (W.cell? ⟨Bs, 0, none⟩ = some (.int .i64 s.vid) ∧ W.cell? ⟨Bs, 1, none⟩ = some (.int .u64 s.addr) ∧ W.cell? ⟨Bs, 2, none⟩ = some (.int .i64 s.port) ∧ W.cell? ⟨Bs, 3, none⟩ = some (.int .i64 s.age)) ∧ W.cell? ⟨b, off + i * 4, none⟩ = some (.int .i64 x.vid) ∧ W.cell? ⟨b, off + i * 4 + 1, none⟩ = some (.int .u64 x.addr) ∧ W.cell? ⟨b, off + i * 4 + 2, none⟩ = some (.int .i64 x.port) ∧ W.cell? ⟨b, off + i * 4 + 3, none⟩ = some (.int .i64 x.age))
    (first | (exact ⟨HLC.out _ (Below.drew HXX.out), HSC.out _ (Below.drew HXX.out), HJC.out _ (Below.drew HXX.out)⟩) | (exact ⟨HLC.out _ (Hid.out (by assumption)), HSC.out _ (Hid.out (by assumption)), HJC.out _ (Hid.out (by assumption))⟩))
    (first | (go_at_call 54; refine (HBE.out _ (Below.drew HXX.out)).mono ?_; rintro e w3 ⟨rfl, HB3⟩))
  go_wp2_with fail
  go_ret
  exact ⟨rfl, HB3.out⟩
set_option maxHeartbeats 1000000 in
theorem bsearch_any (Bq Bs : Nat) (ao : Option Addr) (cap : Nat) (l : List E) (s : E) (w : World) (hbk : Bk.Book l) (hr : BEL w ao cap l) (h1 : w.cell? ⟨Bq, 0, none⟩ = some (.slice ao l.length cap)) (hs : w.heap[Bs]? = some (.cells #[.int .i64 s.vid, .int .u64 s.addr, .int .i64 s.port, .int .i64 s.age] 76 (0, 0))) :
    Calls Try.prog 48 #[.int .i64 l.length, .func (.func 64) #[] #[.pointer (some ⟨Bq, 0, none⟩), .pointer (some ⟨Bs, 0, none⟩)]] w fun e w' => ∃ k : Nat, e = .returned (.int .i64 k) ∧ k ≤ l.length ∧ ((∀ i, i < k → Bk.lt (at' l i) s) ∧ (∀ i, k ≤ i → i < l.length → ¬ Bk.lt (at' l i) s)) ∧ Below w.heap.size w w' := by
  have hbl := block_lt_of_cell h1
  have hn := hbk.many
  have HC : Hid (∀ W : World, Below w.heap.size w W → ∀ i : Nat, i < l.length → Calls Try.prog 64 #[.int .i64 i, .pointer (some ⟨Bq, 0, none⟩), .pointer (some ⟨Bs, 0, none⟩)] W fun e w' => e = .returned (.bool (decide (¬ Bk.lt (at' l i) s))) ∧ Below W.heap.size W w') :=
    fun W hW i hi => bless_any Bq Bs ao cap l s i W (BEL.below hr hW) hi (by omega) ((hW.cell (by exact hbl)).trans h1) (keep hs hW)
  have HM : Hid (∀ i j, i < j → j < l.length → Bk.lt (at' l i) (at' l j)) := fun i j h h' => hbk.less h h'
  clear hr hbk h1 hs hbl
  generalize l.length = n at *
  go_enter Try.func48, Try.ntmps48
  go_wp2_with fail
  go_loopw [5, 6] (fun x y wr => ∃ lo hi : Nat, lo ≤ hi ∧ hi ≤ n ∧ x = .int .i64 lo ∧ y = .int .i64 hi ∧ Hid ((∀ i, i < lo → Bk.lt (at' l i) s) ∧ (∀ i, hi ≤ i → i < n → ¬ Bk.lt (at' l i) s)) ∧ Hid (Below w.heap.size w wr)) (fun x y _ => (intOf y - intOf x).toNat)
  case atStart => exact ⟨0, n, by omega, by omega, rfl, rfl, ⟨fun i hi => by omega, fun i h1 h2 => by omega⟩, Below.refl _ _⟩
  case round =>
    obtain ⟨lo, hi, h1, h2, rfl, rfl, hX, hB⟩ := hrel
    by_cases hlt : lo < hi
    · have hc := HC.out _ hB.out ((lo + hi) / 2) (by omega)
      rw [show (((lo + hi) / 2 : Nat) : Int) = ((lo : Int) + (hi : Int)) / 2 by omega] at hc
      by_cases hp : ¬ Bk.lt (at' l ((lo + hi) / 2)) s
      · have d1 : decide (¬ Bk.lt (at' l ((lo + hi) / 2)) s) = true := decide_eq_true hp
        rw [d1] at hc
        have HX : Hid ((∀ i, i < lo → Bk.lt (at' l i) s) ∧ (∀ i, (lo + hi) / 2 ≤ i → i < n → ¬ Bk.lt (at' l i) s)) := by
          refine ⟨hX.out.1, fun i h3 h4 => ?_⟩
          by_cases e : i = (lo + hi) / 2
          · subst e; exact hp
          · have := HM.out ((lo + hi) / 2) i (by omega) h4
            exact fun q => hp (Bk.lt_trans this q)
        clear hX hp d1 HC HM
        go_wp2_with (go_at_call 64; refine hc.mono ?_; rintro e w2 ⟨rfl, hb2⟩)
        exact ⟨⟨lo, (lo + hi) / 2, by omega, by omega, rfl, by rw [show (((lo + hi) / 2 : Nat) : Int) = ((lo : Int) + (hi : Int)) / 2 by omega], HX, hB.out.trans (hb2.mono hB.out.size)⟩, by simp [intOf]; omega⟩
      · have d1 : decide (¬ Bk.lt (at' l ((lo + hi) / 2)) s) = false := decide_eq_false hp
        rw [d1] at hc
        have HX : Hid ((∀ i, i < (lo + hi) / 2 + 1 → Bk.lt (at' l i) s) ∧ (∀ i, hi ≤ i → i < n → ¬ Bk.lt (at' l i) s)) := by
          have hp2 : Bk.lt (at' l ((lo + hi) / 2)) s := Decidable.not_not.1 hp
          refine ⟨fun i h3 => ?_, hX.out.2⟩
          by_cases e : i = (lo + hi) / 2
          · subst e; exact hp2
          · have := HM.out i ((lo + hi) / 2) (by omega) (by omega)
            exact Bk.lt_trans this hp2
        clear hX hp d1 HC HM
        go_wp2_with (go_at_call 64; refine hc.mono ?_; rintro e w2 ⟨rfl, hb2⟩)
        exact ⟨⟨(lo + hi) / 2 + 1, hi, by omega, by omega, by rw [show (((lo + hi) / 2 + 1 : Nat) : Int) = ((lo : Int) + (hi : Int)) / 2 + 1 by omega], rfl, HX, hB.out.trans (hb2.mono hB.out.size)⟩, by simp [intOf]; omega⟩
    · obtain rfl : lo = hi := by omega
      go_wp2
      go_ret
      exact ⟨lo, rfl, h2, hX.out, hB.out⟩
/-- What is sought. -/
abbrev sought (vid addr : Int) : E := ⟨vid, addr, 0, 0⟩
set_option maxHeartbeats 2000000 in
theorem bfind_any (ao : Option Addr) (cap : Nat) (l : List E) (vid addr : Int) (w : World) (hbk : Bk.Book l) (hr : BEL w ao cap l) :
    Calls Try.prog 47 #[.slice ao l.length cap, .int .i64 vid, .int .u64 addr] w fun e w' => ∃ k : Nat, e = .returned (.tuple #[.int .i64 k, .bool (decide (Bk.Known l (sought vid addr)))]) ∧ Bk.Spot l (sought vid addr) k ∧ Below w.heap.size w w' := by
  have hn := hbk.many
  have hcap : l.length ≤ cap := hr.1
  have HBK : Hid (Bk.Book l) := hbk
  have HRW : Hid (∀ W, Below w.heap.size w W → BEL W ao cap l) := fun W hW => BEL.below hr hW
  have HS : Hid (∀ W, W = (w.alloc (.cells #[.slice ao l.length cap] 26)).alloc (.cells #[.int .i64 vid, .int .u64 addr, .int .i64 0, .int .i64 0] 76) → Calls Try.prog 48 #[.int .i64 l.length, .func (.func 64) #[] #[.pointer (some ⟨w.heap.size, 0, none⟩), .pointer (some ⟨w.heap.size + 1, 0, none⟩)]] W fun e w' => ∃ k : Nat, e = .returned (.int .i64 k) ∧ k ≤ l.length ∧ Hid ((∀ i, i < k → Bk.lt (at' l i) (sought vid addr)) ∧ (∀ i, k ≤ i → i < l.length → ¬ Bk.lt (at' l i) (sought vid addr))) ∧ w'.heap[w.heap.size]? = some (.cells #[.slice ao l.length cap] 26 (0, 0)) ∧ w'.heap[w.heap.size + 1]? = some (.cells #[.int .i64 vid, .int .u64 addr, .int .i64 0, .int .i64 0] 76 (0, 0)) ∧ Hid (Below w.heap.size w w')) := by
    intro W hW
    have hb : Below w.heap.size w W := by rw [hW]; exact below_alloc2 _ _ _
    have h0 : W.heap[w.heap.size]? = some (.cells #[.slice ao l.length cap] 26 (0, 0)) := by rw [hW]; exact heap_alloc2_old w _ _
    have h1 : W.heap[w.heap.size + 1]? = some (.cells #[.int .i64 vid, .int .u64 addr, .int .i64 0, .int .i64 0] 76 (0, 0)) := by rw [hW]; exact heap_alloc2_new w _ _
    refine (bsearch_any _ _ ao cap l (sought vid addr) W HBK.out (HRW.out W hb) (cell_of_row W _ 0 _ _ _ h0) h1).mono ?_
    rintro e w' ⟨k, rfl, hk, hx, hb'⟩
    exact ⟨k, rfl, hk, hx, keep h0 hb', keep h1 hb', hb.trans (hb'.mono hb.size)⟩
  clear hr hbk
  go_enter Try.func47, Try.ntmps47
  go_wp2_with (go_at_call 48; refine (HS.out _ rfl).mono ?_; rintro e w1 ⟨k, rfl, hk, HX, q1, q2, HBB⟩)
  have HSP : Hid (Bk.Spot l (sought vid addr) k) := ⟨hk, HX.out⟩
  have HXX : Hid (Below w1.heap.size w1 w1) := Below.refl _ _
  have HFIN : Hid (∀ W, Below w1.heap.size w1 W → Below w.heap.size w W) := fun W hW => HBB.out.trans (hW.mono HBB.out.size)
  have HLC : Hid (∀ W, Below w1.heap.size w1 W → W.cell? ⟨w.heap.size, 0, none⟩ = some (.slice ao l.length cap)) := fun W hW => cell_of_row W _ 0 _ _ _ (keep q1 hW)
  have HSC : Hid (∀ W, Below w1.heap.size w1 W → W.cell? ⟨w.heap.size + 1, 0, none⟩ = some (.int .i64 vid) ∧ W.cell? ⟨w.heap.size + 1, 1, none⟩ = some (.int .u64 addr) ∧ W.cell? ⟨w.heap.size + 1, 2, none⟩ = some (.int .i64 0) ∧ W.cell? ⟨w.heap.size + 1, 3, none⟩ = some (.int .i64 0)) := fun W hW => en_cells (keep q2 hW)
  have l0 := HLC.out w1 HXX.out
  obtain ⟨s0, s1, s2, s3⟩ := HSC.out w1 HXX.out
  clear HS HX q1 q2
  by_cases hlt : k < l.length
  · obtain ⟨b, off, rfl, hb⟩ := (HRW.out w1 HBB.out).place (by omega)
    have HJC : Hid (∀ W, Below w1.heap.size w1 W → W.cell? ⟨b, off + k * 4, none⟩ = some (.int .i64 (at' l k).vid) ∧ W.cell? ⟨b, off + k * 4 + 1, none⟩ = some (.int .u64 (at' l k).addr) ∧ W.cell? ⟨b, off + k * 4 + 2, none⟩ = some (.int .i64 (at' l k).port) ∧ W.cell? ⟨b, off + k * 4 + 3, none⟩ = some (.int .i64 (at' l k).age)) := fun W hW => BEL.cells (HRW.out W (HFIN.out W hW)) hlt
    have HBE : Hid (∀ W, Below w1.heap.size w1 W → Calls Try.prog 54 #[.agg #[.int .i64 (at' l k).vid, .int .u64 (at' l k).addr, .int .i64 (at' l k).port, .int .i64 (at' l k).age], .agg #[.int .i64 vid, .int .u64 addr, .int .i64 0, .int .i64 0]] W fun e w' => e = .returned (.int .i64 (Bk.cmp (at' l k) (sought vid addr))) ∧ Hid (Below w1.heap.size w1 w')) := fun W hW => (border_any (at' l k) (sought vid addr) W).mono (fun e w' h => ⟨h.1, hW.trans (h.2.mono hW.size)⟩)
    have HKN : Hid ((Bk.cmp (at' l k) (sought vid addr) == 0) = decide (Bk.Known l (sought vid addr))) := by
      have h := HSP.out.known HBK.out
      show (Bk.cmp (at' l k) (sought vid addr) == 0) = decide (Bk.Known l (sought vid addr))
      rw [cmp_eql]
      exact decide_eq_decide.2 ⟨fun q => h.2 ⟨hlt, q⟩, fun q => (h.1 q).2⟩
    obtain ⟨t0, t1, t2, t3⟩ := HJC.out w1 HXX.out
    clear HBK
    generalize Bk.cmp (at' l k) (sought vid addr) = cm at *
    generalize at' l k = x at *
    have hkz : (k : Int) < (l.length : Int) := by omega
    go_region_held3 (fun W => W.cell? ⟨w.heap.size, 0, none⟩ = some (.slice (some ⟨b, off, none⟩) l.length cap) ∧ (W.cell? ⟨w.heap.size + 1, 0, none⟩ = some (.int .i64 vid) ∧ W.cell? ⟨w.heap.size + 1, 1, none⟩ = some (.int .u64 addr) ∧ W.cell? ⟨w.heap.size + 1, 2, none⟩ = some (.int .i64 0) ∧ W.cell? ⟨w.heap.size + 1, 3, none⟩ = some (.int .i64 0)) ∧ W.cell? ⟨b, off + k * 4, none⟩ = some (.int .i64 x.vid) ∧ W.cell? ⟨b, off + k * 4 + 1, none⟩ = some (.int .u64 x.addr) ∧ W.cell? ⟨b, off + k * 4 + 2, none⟩ = some (.int .i64 x.port) ∧ W.cell? ⟨b, off + k * 4 + 3, none⟩ = some (.int .i64 x.age))
      (first | (exact ⟨HLC.out _ (Below.drew HXX.out), HSC.out _ (Below.drew HXX.out), HJC.out _ (Below.drew HXX.out)⟩) | (exact ⟨HLC.out _ (Hid.out (by assumption)), HSC.out _ (Hid.out (by assumption)), HJC.out _ (Hid.out (by assumption))⟩))
      (first | (go_at_call 54; refine (HBE.out _ (Below.drew HXX.out)).mono ?_; rintro e w3 ⟨rfl, HB3⟩))
    go_wp2_with fail
    go_ret2
    exact ⟨k, by rw [← HKN.out]; rfl, HSP.out, HFIN.out _ HB3.out⟩
  · have HKN : Hid (decide (Bk.Known l (sought vid addr)) = false) := by
      have h := HSP.out.known HBK.out
      exact decide_eq_false (fun q => hlt (h.1 q).1)
    have hkz : ¬ ((k : Int) < (l.length : Int)) := by omega
    go_quiet (fail)
    go_wp2_with fail
    go_ret2
    exact ⟨k, by rw [HKN.out]; rfl, HSP.out, HFIN.out _ (below_drewN HXX.out _)⟩
end Go.Proofs.Ytgkmaihleilchaa
