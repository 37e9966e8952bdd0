/- walks: package book's Old -/
import Derived.Test.YtdhjihfgckmjhaaBKO
import Derived.Test.YtdhjihfgckmjhaaRS
namespace Go.Proofs.Ytdhjihfgckmjhaa
open Go.RowKit
open Bk (E at')

set_option maxHeartbeats 400000 in
theorem bold1_any (B1 : Nat) (later : Int) (x : E) (w : World) (h : 0 ≤ x.age ∧ x.age ≤ 300) (hc : w.heap[B1]? = some (.cells #[.int .i64 later] 3 (0, 0))) :
    Calls Try.prog 26 #[.agg #[.int .i64 x.vid, .int .u64 x.addr, .int .i64 x.port, .int .i64 x.age], .pointer (some ⟨B1, 0, none⟩)] w fun e w' => e = .returned (.bool (Bk.stays later x)) ∧ Below w.heap.size w w' := by
  have wp : IntKind.i64.wrap (300 - x.age) = 300 - x.age := wraps_i64 _ (by omega) (by omega)
  have c0 : w.cell? ⟨B1, 0, none⟩ = some (.int .i64 later) := cell_of_row w B1 0 _ _ _ hc
  have hl := block_lt_of_cell c0
  have HD : Hid (Bk.stays later x = decide (0 ≤ later ∧ later ≤ 300 - x.age)) := rfl
  clear hc h
  go_enter Try.func26, Try.ntmps26
  go_wp2_with (go_at_call 27; refine (vwithin_any _ _ _ _).mono ?_; rintro e w1 ⟨rfl, rfl⟩)
  go_ret
  exact ⟨by rw [HD.out]; simp, below_alloc1 _ _⟩
namespace Bk
/-- The first k are older. -/
def mid (later : Int) (fs : List E) (k : Nat) : List E := (fs.take k).map (older later) ++ fs.drop k
theorem mid_length (later : Int) (fs : List E) (k : Nat) (h : k ≤ fs.length) : (mid later fs k).length = fs.length := by
  simp [mid]; omega
theorem at_map (later : Int) (fs : List E) (i : Nat) (h : i < fs.length) : at' (fs.map (older later)) i = older later (at' fs i) := by
  simp [at', h]
theorem mid_at (later : Int) (fs : List E) (k i : Nat) (h : k ≤ fs.length) : at' (mid later fs k) i = if i < k then older later (at' fs i) else at' fs i := by
  unfold mid
  have hl : ((fs.take k).map (older later)).length = k := by simp; omega
  by_cases q : i < k
  · rw [if_pos q, at_append_left _ _ _ (by omega), at_map _ _ _ (by simp; omega), at_take _ _ _ q]
  · rw [if_neg q, at_append_right _ _ _ (by omega), hl, at_drop, show k + (i - k) = i by omega]
theorem mid_zero (later : Int) (fs : List E) : mid later fs 0 = fs := by simp [mid]
theorem mid_all (later : Int) (fs : List E) : mid later fs fs.length = fs.map (older later) := by simp [mid]
end Bk
theorem eC_older (later : Int) (x : E) (j : Nat) (h : j < 4) : eC (Bk.older later x) j = if j = 3 then .int .i64 (x.age + later) else eC x j := by
  rcases (show j = 0 ∨ j = 1 ∨ j = 2 ∨ j = 3 by omega) with rfl | rfl | rfl | rfl <;> rfl
/-- One more is older. -/
theorem old_store {w : World} {base g cap : Nat} {sp : Array Value} {later : Int} {fs : List E} {k : Nat} (hk : k < fs.length) (hg : base ≤ g) (hn : fs.length ≤ cap) (hm : cap ≤ maxLen) (hs : sp.size + fs.length * 4 = cap * 4)
    (hh : w.heap[g]? = some (.cells (rowS sp fs.length 4 (fun i => eC (at' (Bk.mid later fs k) i))) 41 (0, 0))) :
    OwnE (w.setCell ⟨g, k * 4 + 3, none⟩ (.int .i64 ((at' fs k).age + later))) base (.slice (some ⟨g, 0, none⟩) fs.length cap) (Bk.mid later fs (k + 1)) := by
  unfold OwnE
  rw [Bk.mid_length later fs (k + 1) (by omega)]
  refine rowS_owns hg hn hm hs ?_
  rw [rowS_set hh hk (by omega)]
  rw [rowS_congr2]
  intro i hi j hj
  show updC _ k 3 _ i j = eC (at' (Bk.mid later fs (k + 1)) i) j
  unfold updC
  rw [Bk.mid_at later fs (k + 1) i (by omega)]
  by_cases q : i = k
  · subst q
    rw [if_pos (Nat.lt_succ_self _), eC_older _ _ _ hj]
    by_cases q3 : j = 3
    · rw [if_pos ⟨rfl, q3⟩, if_pos q3]
    · rw [if_neg (fun h => q3 h.2), if_neg q3]
      show eC (at' (Bk.mid later fs i) i) j = _
      rw [Bk.mid_at later fs i i (by omega), if_neg (Nat.lt_irrefl _)]
  · rw [if_neg (fun h => q h.1)]
    show eC (at' (Bk.mid later fs k) i) j = _
    rw [Bk.mid_at later fs k i (by omega)]
    by_cases q2 : i < k
    · rw [if_pos q2, if_pos (by omega)]
    · rw [if_neg q2, if_neg (by omega)]
set_option maxHeartbeats 2000000 in
theorem bold_any (ao : Option Addr) (cap : Nat) (l : List E) (later : Int) (w : World) (hn : l.length ≤ 1000) (hag : ∀ x ∈ l, 0 ≤ x.age ∧ x.age ≤ 300) (hr : BEL w ao cap l) :
    Calls Try.prog 15 #[.slice ao l.length cap, .int .i64 later] w fun e w' => ∃ v, e = .returned v ∧ OwnE w' w.heap.size v (Bk.old l later) ∧ Below w.heap.size w w' := by
  obtain ⟨fs, hfs⟩ : ∃ fs, fs = l.filter (Bk.stays later) := ⟨_, rfl⟩
  have hfn : fs.length ≤ 1000 := by rw [hfs]; exact Nat.le_trans (List.length_filter_le _ _) hn
  have HFS : Hid (∀ k, k < fs.length → 0 ≤ (at' fs k).age ∧ 0 ≤ later ∧ later ≤ 300 - (at' fs k).age) := fun k hk => by
    have h1 := Bk.at_mem fs k hk
    rw [hfs, List.mem_filter] at h1
    have h2 := of_decide_eq_true h1.2
    rw [← hfs] at h1 h2
    exact ⟨(hag _ h1.1).1, h2⟩
  have HO : Hid (Bk.old l later = fs.map (Bk.older later)) := by rw [hfs]; rfl
  have HK : Hid (∀ W, W = w.alloc (.cells #[.int .i64 later] 3) → Calls Try.prog 25 #[.slice ao l.length cap, .func (.func 26) #[] #[.pointer (some ⟨w.heap.size, 0, none⟩)]] W fun e w' => ∃ a c, e = .returned (.slice a fs.length c) ∧ Hid (OwnE w' (w.heap.size + 1) (.slice a fs.length c) (Bk.mid later fs 0) ∧ w'.heap[w.heap.size]? = some (.cells #[.int .i64 later] 3 (0, 0)) ∧ Below w.heap.size w w')) := by
    intro W hW
    have hb : Below w.heap.size w W := by rw [hW]; exact below_alloc1 _ _
    have h0 : W.heap[w.heap.size]? = some (.cells #[.int .i64 later] 3 (0, 0)) := by rw [hW]; exact heap_alloc_last _ _
    have hsz : W.heap.size = w.heap.size + 1 := by rw [hW]; simp
    refine (bkeptO_any ao cap l (Bk.stays later) w.heap.size W hn (BEL.below hr hb) (fun V hV x hx => bold1_any _ later x V (hag x hx) (keep h0 hV))).mono ?_
    rintro e w' ⟨v, rfl, ho, hb'⟩
    rw [← hfs] at ho
    obtain ⟨a, c, rfl, _⟩ := ho.el
    rw [Bk.mid_zero]
    exact ⟨a, c, rfl, ⟨by rw [← hsz]; exact ho, keep h0 hb', hb.trans (hb'.mono hb.size)⟩⟩
  clear hr hag hfs
  go_enter Try.func15, Try.ntmps15
  go_wp2_with fail
  refine (HK.out _ rfl).mono ?_
  rintro e w1 ⟨a, c, rfl, HX1⟩
  clear HK
  go_wp2_with fail
  go_loopw [12] (fun i wr => ∃ k : Nat, k ≤ fs.length ∧ i = .int .i64 k ∧ Hid (OwnE wr (w.heap.size + 1) (.slice a fs.length c) (Bk.mid later fs k) ∧ wr.heap[w.heap.size]? = some (.cells #[.int .i64 later] 3 (0, 0)) ∧ Below w.heap.size w wr)) (fun i _ => fs.length - (intOf i).toNat)
  case atStart => exact ⟨0, by omega, rfl, HX1⟩
  case round =>
    obtain ⟨k, hk, rfl, hX⟩ := hrel
    clear HX1
    by_cases hlt : k < fs.length
    · have ho := hX.out.1
      unfold OwnE at ho
      rw [Bk.mid_length later fs k hk] at ho
      rcases owns_rowS ho with ⟨e1, _⟩ | ⟨g, cp, sp, e1, hg, hn1, hm1, hs1, hh1⟩
      · injection e1 with _ e2 _
        omega
      · injection e1 with e2 _ e3
        subst e2 e3
        have HST : Hid (OwnE (wr.setCell ⟨g, k * 4 + 3, none⟩ (.int .i64 ((at' fs k).age + later))) (w.heap.size + 1) (.slice (some ⟨g, 0, none⟩) fs.length c) (Bk.mid later fs (k + 1)) ∧ (wr.setCell ⟨g, k * 4 + 3, none⟩ (.int .i64 ((at' fs k).age + later))).heap[w.heap.size]? = some (.cells #[.int .i64 later] 3 (0, 0)) ∧ Below w.heap.size w (wr.setCell ⟨g, k * 4 + 3, none⟩ (.int .i64 ((at' fs k).age + later)))) := by
          refine ⟨old_store hlt hg hn1 hm1 hs1 hh1, ?_, hX.out.2.2.setCell (by show w.heap.size ≤ g; omega) _⟩
          rw [heap_setCell_other _ _ _ _ (by show w.heap.size ≠ g; omega)]
          exact hX.out.2.1
        have c3 : wr.cell? ⟨g, k * 4 + 3, none⟩ = some (.int .i64 (at' fs k).age) := by
          have := rowS_cell hh1 hlt (show 3 < 4 by omega)
          rw [this, Bk.mid_at later fs k k hk, if_neg (Nat.lt_irrefl _)]
          rfl
        have f3 : wr.frozen? ⟨g, k * 4 + 3, none⟩ = false := frozen_of_row _ _ _ _ _ hh1
        have cb : wr.cell? ⟨w.heap.size, 0, none⟩ = some (.int .i64 later) := cell_of_row wr _ 0 _ _ _ hX.out.2.1
        obtain ⟨q1, q2, q3⟩ := HFS.out k hlt
        have wp : IntKind.i64.wrap ((at' fs k).age + later) = (at' fs k).age + later := wraps_i64 _ (by omega) (by omega)
        have ik : (0 : Int) ≤ (k : Int) := by omega
        have nk : (k : Int) < (fs.length : Int) := by omega
        clear hX ho hh1 hs1 hm1 HFS HO
        generalize (at' fs k).age = y at *
        go_wp2_with fail
        go_region
        all_goals go_wp2_with fail
        all_goals exact ⟨⟨k + 1, by omega, by go_num, ⟨HST.out.1, HST.out.2.1, Below.drew HST.out.2.2⟩⟩, by simp [intOf]; omega⟩
    · obtain rfl : k = fs.length := by omega
      have HF : Hid (OwnE wr w.heap.size (.slice a fs.length c) (Bk.old l later) ∧ Below w.heap.size w wr) := by
        rw [HO.out, ← Bk.mid_all]
        exact ⟨hX.out.1.mono (Nat.le_succ _), hX.out.2.2⟩
      clear hX HFS HO
      go_wp2_with fail
      go_ret
      exact ⟨_, rfl, HF.out.1, HF.out.2⟩
end Go.Proofs.Ytdhjihfgckmjhaa
