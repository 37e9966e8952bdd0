/- walks: what the document's Wrong of nets wants (written by tools/gen_rwrong6.py) -/
import Derived.Test.YtcbpafpaimpfnaaGreatDoorP03
import Derived.Test.YtcbpafpaimpfnaaGreatDoorP11
namespace Go.Proofs.YtcbpafpaimpfnaaGreatDoor
section
open Go.RowKit
theorem size_zero {s : ByteArray} (h : s.size = 0) : s = ⟨#[]⟩ := by
 obtain ⟨d⟩ := s
 have : d.size = 0 := h
 rw [Array.eq_empty_of_size_eq_zero this]
set_option maxRecDepth 10000 in
set_option maxHeartbeats 2000000 in
theorem rwrong_any (s : ByteArray) (rev : Int) (ao : Option Addr) (n cap : Nat) (vs ts : Nat → Int) (w : World) (hn : n ≤ 9223372036854775807) (hr : WayRow w ao n cap vs ts) :
  Calls Tryz.prog 26 #[.agg #[.string s, .int .i64 rev, .slice ao n cap]] w fun e w' => e = .returned (.int .i64 (Rg.wrong s rev vs ts n)) ∧ Below w.heap.size w w' := by
 have HR : Hid (WayRow w ao n cap vs ts) := hr
 clear hr
 by_cases h0 : s.size = 0
 ·have e1 : Rg.wrong s rev vs ts n = 7 := by
   unfold Rg.wrong Rg.isName
   simp [h0]
  have hs := size_zero h0
  subst hs
  rw [e1]
  go_enter Tryz.func26, Tryz.ntmps26
  go_wp2
  go_ret
  exact ⟨rfl, below_alloc1 _ _⟩
 ·have hne : ¬ s.toList = [] := by
   intro h
   rw [ByteArray.toList_eq] at h
   exact h0 (by show s.data.size = 0; rw [← Array.length_toList, h]; rfl)
  have hne2 : (s.toList == []) = false := by simpa using hne
  have hne3 : decide (s.toList = []) = false := decide_eq_false hne
  by_cases h1 : (32 : Int) < s.size
  ·have e1 : Rg.wrong s rev vs ts n = 7 := by
    have : ¬ s.size ≤ 32 := by omega
    unfold Rg.wrong Rg.isName
    simp [this]
   rw [e1]
   go_enter Tryz.func26, Tryz.ntmps26
   go_wp2
   go_ret
   exact ⟨rfl, below_alloc1 _ _⟩
  ·have hs32 : s.size ≤ 32 := by omega
   have hnm : Hid (Rg.isName s = !Rg.anyOdd (Rg.nb s) s.size) := by
    show _ = _
    unfold Rg.isName
    rw [decide_eq_true (show 1 ≤ s.size by omega), decide_eq_true hs32]
    rfl
   obtain ⟨ccap, cur, w1, hrun, hbr, hb1, hz1, _, _, _⟩ := conv_bytes (w.alloc (.cells #[.string s, .int .i64 rev, .slice ao n cap] 38)) s
   have hza : (w.alloc (.cells #[.string s, .int .i64 rev, .slice ao n cap] 38)).heap.size = w.heap.size + 1 := by simp
   rw [hza] at hrun hbr hb1 hz1
   have HBR : Hid (ByteRow w1 (some ⟨w.heap.size + 1, 0, none⟩) s.size ccap (Rg.nb s)) := hbr
   have hccap := hbr.1
   have HW : Hid (∀ W, Below (w.heap.size + 1) w1 W → W.cell? ⟨w.heap.size, 1, none⟩ = some (.int .i64 rev) ∧ W.cell? ⟨w.heap.size, 2, none⟩ = some (.slice ao n cap) ∧ WayRow W ao n cap vs ts ∧ Below w.heap.size w W) := by
    intro W hW
    have hb2 := hb1.trans hW
    have h := rg_cells ((hb2.block w.heap.size (by omega)).trans (heap_alloc_last w (.cells #[.string s, .int .i64 rev, .slice ao n cap] 38)))
    have hl : Below w.heap.size w W := (below_alloc1 w _).trans (hb2.mono (by omega))
    exact ⟨h.2.1, h.2.2, HR.out.below hl, hl⟩
   clear hbr hb1 hza HR
   go_enter Tryz.func26, Tryz.ntmps26
   go_wp2_with fail
   go_loopw [21] (fun i wr => ∃ k : Nat, k ≤ s.size ∧ i = .int .i64 k ∧ Hid (Rg.anyOdd (Rg.nb s) k = false) ∧ wr = w1) (fun i _ => s.size - (intOf i).toNat)
   case atStart => exact ⟨0, by omega, rfl, rfl, rfl⟩
   case round =>
    obtain ⟨k, hk, rfl, hX, rfl⟩ := hrel
    by_cases hlt : k < s.size
    ·obtain ⟨b, off, e0, _, hc⟩ := HBR.out.2 (by omega)
     cases e0
     have c4 : wr.cell? ⟨w.heap.size + 1, k, none⟩ = some (.int .u8 (Rg.nb s k)) := by have := hc k hlt; rw [Nat.zero_add] at this; exact this
     have HS1 : Hid (Rg.odd (Rg.nb s k) = true → Rg.wrong s rev vs ts n = 7) := by
      intro h
      unfold Rg.wrong
      rw [hnm.out, Rg.anyOdd_here (Rg.nb s) k s.size hlt h]
      rfl
     have HS2 : Hid (Rg.odd (Rg.nb s k) = false → Rg.anyOdd (Rg.nb s) (k + 1) = false) := fun h => Rg.anyOdd_next (Rg.nb s) k hX.out h
     have HL : Hid (Below w.heap.size w wr) := (HW.out _ (Below.refl _ _)).2.2.2
     clear hc HBR hX hrun HW
     generalize Rg.nb s k = c at *
     by_cases q1 : c < 32
     ·have ho : Hid (Rg.odd c = true) := by show _ = _; unfold Rg.odd; simp [q1]
      go_wp2
      go_ret
      exact ⟨by rw [HS1.out ho.out]; rfl, HL.out⟩
     ·by_cases q2 : 126 < c
      ·have ho : Hid (Rg.odd c = true) := by show _ = _; unfold Rg.odd; simp [q2]
       go_wp2
       go_ret
       exact ⟨by rw [HS1.out ho.out]; rfl, HL.out⟩
      ·have ho : Hid (Rg.odd c = false) := by show _ = _; unfold Rg.odd; simp [q1, q2]
       go_wp2
       exact ⟨⟨k + 1, by omega, by go_num, HS2.out ho.out, trivial⟩, by simp [intOf]; omega⟩
    ·obtain rfl : k = s.size := by omega
     have HN : Hid (Rg.isName s = true) := by rw [hnm.out, hX.out]; rfl
     clear hX hrun HBR
     by_cases q1 : 0 ≤ rev ∧ rev ≤ 65535
     ·have HE : Hid (Rg.wrong s rev vs ts n = Rg.wrongTo vs ts n) := by show _ = _; unfold Rg.wrong; rw [if_pos HN.out, if_pos q1]
      obtain ⟨q2, q3⟩ := q1
      obtain ⟨d1, d2, _, _⟩ := HW.out _ (Below.refl _ _)
      rename World => w2
      go_wp2_with fail
      go_loopw [5, 43] (fun a i wr => ∃ k : Nat, k ≤ n ∧ i = .int .i64 k ∧ a = .int .i64 (Rg.last vs k) ∧ Hid (Rg.wrongTo vs ts k = 0) ∧ Hid (Below (w.heap.size + 1) w2 wr)) (fun _ i _ => n - (intOf i).toNat)
      case atStart => exact ⟨0, by omega, rfl, rfl, rfl, Below.refl _ _⟩
      case round =>
       obtain ⟨k, hk, rfl, rfl, hX, hB⟩ := hrel
       by_cases hlt : k < n
       ·obtain ⟨_, _, hway, hlow⟩ := HW.out _ hB.out
        obtain ⟨b, off, rfl, hb, hc⟩ := hway.2 (by omega)
        have hcap := hway.1
        have c0 : wr.cell? ⟨b, off + k * 2, none⟩ = some (.int .i64 (vs k)) := (hc k hlt).1
        have c1 : wr.cell? ⟨b, off + k * 2 + 1, none⟩ = some (.int .i64 (ts k)) := (hc k hlt).2
        have HE2 : Hid (Rg.wayErr (Rg.last vs k) (vs k) (ts k) ≠ 0 → Rg.wrong s rev vs ts n = Rg.wayErr (Rg.last vs k) (vs k) (ts k)) := fun h => HE.out.trans (Rg.wrongTo_here vs ts k n hlt hX.out h)
        have HZ : Hid (Rg.wayErr (Rg.last vs k) (vs k) (ts k) = 0 → Rg.wrongTo vs ts (k + 1) = 0) := fun h => Rg.wrongTo_succ vs ts k hX.out h
        have HL : Hid (Rg.last vs (k + 1) = vs k) := by show Rg.last vs (k + 1) = vs k; unfold Rg.last; rw [if_neg (by omega)]; rfl
        have HBL : Hid (∀ o, Below w.heap.size w (wr.alloc o)) := fun o => hlow.alloc hlow.size _
        have HBK : Hid (∀ o, Below (w.heap.size + 1) w2 (wr.alloc o)) := fun o => hB.out.alloc (by have := hB.out.size; omega) _
        clear hc hway hlow hX hB HE HW
        generalize Rg.last vs k = l at *
        generalize vs k = v at *
        generalize ts k = t at *
        by_cases g1 : v < 1
        ·have HW : Hid (Rg.wayErr l v t = 3) := by show Rg.wayErr l v t = 3; unfold Rg.wayErr; rw [if_neg (by omega)]
         go_wp2
         go_ret
         exact ⟨by rw [HE2.out (by rw [HW.out]; decide), HW.out]; rfl, HBL.out _⟩
        ·by_cases g2 : 4094 < v
         ·have HW : Hid (Rg.wayErr l v t = 3) := by show Rg.wayErr l v t = 3; unfold Rg.wayErr; rw [if_neg (by omega)]
          go_wp2
          go_ret
          exact ⟨by rw [HE2.out (by rw [HW.out]; decide), HW.out]; rfl, HBL.out _⟩
         ·by_cases g3 : t < 1
          ·have HW : Hid (Rg.wayErr l v t = 3) := by show Rg.wayErr l v t = 3; unfold Rg.wayErr; rw [if_neg (by omega)]
           go_wp2
           go_ret
           exact ⟨by rw [HE2.out (by rw [HW.out]; decide), HW.out]; rfl, HBL.out _⟩
          ·by_cases g4 : 15 < t
           ·have HW : Hid (Rg.wayErr l v t = 3) := by show Rg.wayErr l v t = 3; unfold Rg.wayErr; rw [if_neg (by omega)]
            go_wp2
            go_ret
            exact ⟨by rw [HE2.out (by rw [HW.out]; decide), HW.out]; rfl, HBL.out _⟩
           ·by_cases g5 : v ≤ l
            ·have HW : Hid (Rg.wayErr l v t = 2) := by show Rg.wayErr l v t = 2; unfold Rg.wayErr; rw [if_pos (by omega), if_pos g5]
             go_wp2
             go_ret
             exact ⟨by rw [HE2.out (by rw [HW.out]; decide), HW.out]; rfl, HBL.out _⟩
            ·have HW : Hid (Rg.wayErr l v t = 0) := by show Rg.wayErr l v t = 0; unfold Rg.wayErr; rw [if_pos (by omega), if_neg g5]
             go_wp2
             exact ⟨⟨k + 1, by omega, by go_num, by rw [HL.out], HZ.out HW.out, HBK.out _⟩, by simp [intOf]; omega⟩
       ·obtain rfl : k = n := by omega
        have HLo : Hid (Below w.heap.size w wr) := (HW.out _ hB.out).2.2.2
        go_wp2
        go_ret
        exact ⟨by rw [HE.out, hX.out]; rfl, HLo.out⟩
     ·have HE : Hid (Rg.wrong s rev vs ts n = 3) := by show _ = _; unfold Rg.wrong; rw [if_pos HN.out, if_neg q1]
      obtain ⟨d1, d2, _, hlow⟩ := HW.out _ (Below.refl _ _)
      have HLo : Hid (Below w.heap.size w wr) := hlow
      clear hlow HW
      by_cases q2 : rev < 0
      ·clear q1
       go_wp2
       go_ret
       exact ⟨by rw [HE.out]; rfl, HLo.out⟩
      ·have q3 : 65535 < rev := by omega
       clear q1
       go_wp2
       go_ret
       exact ⟨by rw [HE.out]; rfl, HLo.out⟩
end
section
open Go.RowKit
open Vc (V Of)
open Pl (Br Net Pc Lk En St)
theorem psizeFa : (Tryz.prog.info? 28).map (·.size) = some 2 := by kernel_rfl
theorem pfa_set {w : World} {g : Nat} {a0 a1 v0 v1 : Value} {ty : TypeId} (h : w.heap[g]? = some (.cells #[a0, a1] ty (0, 0))) : ((w.setCell ⟨g, 0, none⟩ v0).setCell ⟨g, 1, none⟩ v1).heap[g]? = some (.cells #[v0, v1] ty (0, 0)) := by
 have h0 : (w.setCell ⟨g, 0, none⟩ v0).heap[g]? = some (.cells #[v0, a1] ty (0, 0)) := by rw [heap_setCell_same _ _ _ _ _ _ h]; rfl
 rw [heap_setCell_same _ _ _ _ _ _ h0]; rfl
theorem pfa_cells {w : World} {g : Nat} {a0 a1 : Value} {ty : TypeId} (h : w.heap[g]? = some (.cells #[a0, a1] ty (0, 0))) : w.cell? ⟨g, 0, none⟩ = some a0 ∧ w.cell? ⟨g, 1, none⟩ = some a1 ∧ w.frozen? ⟨g, 0, none⟩ = false ∧ w.frozen? ⟨g, 1, none⟩ = false :=
 ⟨cell_of_row w g 0 _ _ _ h, cell_of_row w g 1 _ _ _ h, frozen_of_row _ _ _ _ _ h, frozen_of_row _ _ _ _ _ h⟩
theorem plt_some {W : World} {q : Nat} {o : Obj} (h : W.heap[q]? = some o) : q < W.heap.size := (Array.getElem?_eq_some_iff.1 h).1
theorem pset_keep {w : World} {g j o : Nat} {v : Value} {x : Obj} (h : w.heap[g]? = some x) (hne : g ≠ j) : (w.setCell ⟨j, o, none⟩ v).heap[g]? = some x :=
 (heap_setCell_other _ _ _ _ (by exact hne)).trans h
theorem pup {w W W' : World} {b : Nat} (h : Below b w W) (k : Below W.heap.size W W') (hb : b ≤ W.heap.size) : Below b w W' := h.trans (k.mono hb)
theorem pwrong_b {n : Net} (hf : ¬ (12 < n.K ∨ 40 < n.L)) {k : Nat} {e : Int} (hk : k < n.K) (h0 : ∀ j, j < k → Pl.bErr n.bs j = 0) (he : e ≠ 0) (h : Pl.bErr n.bs k = e) : n.wrong = (e, (k : Int)) := by
 have h1 := Pl.firstTo_here (Pl.bErr n.bs) k h0 (by rw [h]; exact he) n.K hk
 rw [h] at h1
 unfold Pl.Net.wrong
 rw [if_neg hf, h1, if_pos he]
theorem pwrong_l {n : Net} (hf : ¬ (12 < n.K ∨ 40 < n.L)) (hb : ∀ j, j < n.K → Pl.bErr n.bs j = 0) {k : Nat} {e : Int} (hk : k < n.L) (h0 : ∀ j, j < k → Pl.lErr n.K n.ls j = 0) (he : e ≠ 0) (h : Pl.lErr n.K n.ls k = e) : n.wrong = (e, (k : Int)) := by
 have h1 := Pl.firstTo_here (Pl.lErr n.K n.ls) k h0 (by rw [h]; exact he) n.L hk
 rw [h] at h1
 unfold Pl.Net.wrong
 rw [if_neg hf, Pl.firstTo_all _ _ hb, if_neg (fun z => z rfl), h1]
theorem pwrong_0 {n : Net} (hf : ¬ (12 < n.K ∨ 40 < n.L)) (hb : ∀ j, j < n.K → Pl.bErr n.bs j = 0) (hl : ∀ j, j < n.L → Pl.lErr n.K n.ls j = 0) : n.wrong = (0, 0) := by
 unfold Pl.Net.wrong
 rw [if_neg hf, Pl.firstTo_all _ _ hb, if_neg (fun z => z rfl), Pl.firstTo_all _ _ hl]
theorem upto {f : Nat → Int} {k : Nat} (h : ∀ j, j < k → f j = 0) (hk : f k = 0) : ∀ j, j < k + 1 → f j = 0 := fun j hj => by
 by_cases e : j = k
 ·subst e; exact hk
 ·exact h j (by omega)
theorem had_7 {K : Nat} {ls : Nat → Lk} {k m q : Nat} (hk : Pl.lkErr K (ls k) = 0) (hm : m < 2) (hq : q < 2 * k + m) (he : endSeq ls q = endSeq ls (2 * k + m)) : Pl.lErr K ls k = 7 := by
 have hab : (ls k).a ≠ (ls k).b := by
  intro e
  unfold Pl.lkErr at hk
  rw [if_pos e] at hk
  split at hk
  ·cases hk
  ·cases hk
 have hq2 : q < 2 * k := by
  rcases (by omega : q < 2 * k ∨ q = 2 * k ∧ m = 1) with h | ⟨rfl, rfl⟩
  ·exact h
  ·rw [endSeq_even, endSeq_odd] at he
   injection he with h1 _
   exact absurd h1 hab
 unfold Pl.lErr
 rw [if_neg (fun z => z hk), if_pos]
 rw [Pl.someTo_iff]
 rcases (by omega : m = 0 ∨ m = 1) with rfl | rfl
 ·rw [Nat.add_zero, endSeq_even] at he
  obtain ⟨i, hi, h⟩ := (seq_isEnd ls _ _ k).1 (Pl.someTo_iff.2 ⟨q, hq2, decide_eq_true he⟩)
  exact ⟨i, hi, by simp [h]⟩
 ·rw [endSeq_odd] at he
  obtain ⟨i, hi, h⟩ := (seq_isEnd ls _ _ k).1 (Pl.someTo_iff.2 ⟨q, hq2, decide_eq_true he⟩)
  exact ⟨i, hi, by simp [h]⟩
theorem had_0 {K : Nat} {ls : Nat → Lk} {k : Nat} (hk : Pl.lkErr K (ls k) = 0) (h0 : ∀ q, q < 2 * k → endSeq ls q ≠ endSeq ls (2 * k)) (h1 : ∀ q, q < 2 * k + 1 → endSeq ls q ≠ endSeq ls (2 * k + 1)) : Pl.lErr K ls k = 0 := by
 unfold Pl.lErr
 rw [if_neg (fun z => z hk), if_neg]
 rw [Pl.someTo_iff]
 rintro ⟨i, hi, h⟩
 rw [Bool.or_eq_true] at h
 rw [endSeq_even] at h0
 rw [endSeq_odd] at h1
 rcases h with h | h
 ·obtain ⟨q, hq, h⟩ := Pl.someTo_iff.1 ((seq_isEnd ls _ _ k).2 ⟨i, hi, h⟩)
  exact h0 q hq (of_decide_eq_true h)
 ·obtain ⟨q, hq, h⟩ := Pl.someTo_iff.1 ((seq_isEnd ls _ _ k).2 ⟨i, hi, h⟩)
  exact h1 q (by omega) (of_decide_eq_true h)
def ptC (ls : Nat → Lk) (q j : Nat) : Value := if j = 0 then .int .i64 (endSeq ls q).1 else .int .i64 (endSeq ls q).2
theorem ptC_one (ls : Nat → Lk) (q j : Nat) : (ptC ls q j).oneCell' = true := by unfold ptC; split <;> rfl
theorem infoPt : (Tryz.prog.info? 55).map (fun i => (i.zero, i.size, i.bytes)) = some (some (.agg #[.int .i64 0, .int .i64 0]), 2, 16) := by kernel_rfl
theorem one_pt {w : World} {g : Nat} {ls : Nat → Lk} {q : Nat} {ty : TypeId} (h : w.heap[g]? = some (.cells #[.int .i64 (endSeq ls q).1, .int .i64 (endSeq ls q).2] ty (0, 0))) : CRow w (some ⟨g, 0, none⟩) 1 1 2 (fun _ => ptC ls q) := by
 refine ⟨Nat.le_refl _, fun _ => ⟨g, 0, rfl, (Array.getElem?_eq_some_iff.1 h).1, fun i hi j hj => ?_⟩⟩
 obtain rfl : i = 0 := by omega
 rcases (by omega : j = 0 ∨ j = 1) with e | e <;> subst e <;> exact cell_of_row w g _ _ _ _ h
theorem had_more {W : World} {base : Nat} {ls : Nat → Lk} {q : Nat} {v : Value} (h : W.ownsRow base 55 2 v q (cellsL q 2 (ptC ls))) (hb : base ≤ W.heap.size) (hq : q ≤ 1000) :
  ∃ a1 c1 w2, (Builtin.append_ #[67, 67] 67 #[v, .slice (some ⟨W.heap.size, 0, none⟩) 1 1]).run Tryz.prog (W.alloc (.cells #[.int .i64 (endSeq ls q).1, .int .i64 (endSeq ls q).2] 55)) = .ok (.slice a1 (q + 1) c1) w2 ∧ w2.ownsRow base 55 2 (.slice a1 (q + 1) c1) (q + 1) (cellsL (q + 1) 2 (ptC ls)) ∧ Below base W w2 ∧ (∀ b, b < W.heap.size → v.ownBlock ≠ some b → w2.heap[b]? = W.heap[b]?) ∧ (∀ b, (Value.slice a1 (q + 1) c1).ownBlock = some b → v.ownBlock = some b ∨ W.heap.size ≤ b) ∧ W.heap.size ≤ w2.heap.size := by
 obtain ⟨C, hC⟩ : ∃ C, C = W.alloc (.cells #[.int .i64 (endSeq ls q).1, .int .i64 (endSeq ls q).2] 55) := ⟨_, rfl⟩
 have hCB : Below W.heap.size W C := by rw [hC]; exact below_alloc1 _ _
 have hCs : C.heap.size = W.heap.size + 1 := by rw [hC]; simp
 have hCl : C.heap[W.heap.size]? = some (.cells #[.int .i64 (endSeq ls q).1, .int .i64 (endSeq ls q).2] 55 (0, 0)) := by rw [hC]; exact heap_alloc_last _ _
 obtain ⟨a1, c1, w2, r, ho, hg, hb2, hw⟩ := append_at C 67 55 _ 2 16 Tryz.underlying67 infoPt rfl (by omega) base v q (ptC ls) (ownsC_below h hCB) ⟨W.heap.size, 0, none⟩ 1 1 (fun _ => ptC ls q) (fun _ j => ptC_one _ _ j) (one_pt hCl) (by unfold maxLen; omega) (by omega) (by omega)
 rw [cellsL_congr (q + 1) 2 _ (ptC ls) (fun i hi => by
  unfold catC
  by_cases c : i < q
  ·rw [if_pos c]
  ·rw [if_neg c, show i = q by omega])] at ho
 refine ⟨a1, c1, w2, by rw [← hC]; exact r, ho, hCB.mono hb |>.trans hb2, fun b hb3 hne => (hg.block b (by omega) (fun e => hne e.symm)).trans (hCB.block b hb3), fun b hb3 => ?_, by have := hb2.size; omega⟩
 rcases hw with hw | hw
 ·rw [hw] at hb3; exact Or.inl hb3
 ·rw [hw] at hb3; injection hb3 with hb3; exact Or.inr (by omega)
set_option maxHeartbeats 400000 in
theorem rbad1_any (e : Int) (Bi : Nat) (k : Int) (w : World) (hi : w.cell? ⟨Bi, 0, none⟩ = some (.int .i64 k)) :
  Calls Tryz.prog 25 #[.int .i64 e, .pointer (some ⟨Bi, 0, none⟩)] w fun r w' => r = .returned (.agg #[.int .i64 e, .int .i64 k]) ∧ Below w.heap.size w w' := by
 have l1 : Bi < w.heap.size := block_lt_of_cell hi
 go_enter Tryz.func25, Tryz.ntmps25
 go_wp2_with fail
 exact bodyPost_ret (v := .agg #[.int .i64 e, .int .i64 k]) (results_row (p := 3) (ty := 28) Tryz.results25 _ _ w.heap.size 28 #[.int .i64 e, .int .i64 k] (0, 0) _ rfl (heap_alloc_last _ _) Tryz.underlying28 rfl (by rw [psizeFa]; rfl)) rfl ⟨rfl, below_alloc1 _ _⟩
set_option maxHeartbeats 400000 in
theorem rbad2_any (e : Int) (Bi : Nat) (k : Int) (w : World) (hi : w.cell? ⟨Bi, 0, none⟩ = some (.int .i64 k)) :
  Calls Tryz.prog 27 #[.int .i64 e, .pointer (some ⟨Bi, 0, none⟩)] w fun r w' => r = .returned (.agg #[.int .i64 e, .int .i64 k]) ∧ Below w.heap.size w w' := by
 have l1 : Bi < w.heap.size := block_lt_of_cell hi
 go_enter Tryz.func27, Tryz.ntmps27
 go_wp2_with fail
 exact bodyPost_ret (v := .agg #[.int .i64 e, .int .i64 k]) (results_row (p := 3) (ty := 28) Tryz.results27 _ _ w.heap.size 28 #[.int .i64 e, .int .i64 k] (0, 0) _ rfl (heap_alloc_last _ _) Tryz.underlying28 rfl (by rw [psizeFa]; rfl)) rfl ⟨rfl, below_alloc1 _ _⟩
end
end Go.Proofs.YtcbpafpaimpfnaaGreatDoor
