/- walks: the document's Wrong, of hellos -/
import Derived.Test.YtmjgmngdahhbkaaLW1
namespace Go.Proofs.Ytmjgmngdahhbkaa
open Go.RowKit
open Hl (Tl)

namespace Hl
/-- The four numbers that have a range, and what each is at most. -/
def px (t : Tl) (j : Nat) : Int := if j = 0 then t.tree else if j = 1 then t.age else if j = 2 then t.cost else t.port
def pl (j : Nat) : Int := if j = 0 then 15 else if j = 1 then 255 else if j = 2 then 1000000000 else 30
def okTo (t : Tl) (q : Nat) : Prop := ∀ p, p < q → 0 ≤ px t p ∧ px t p ≤ pl p
theorem fits_of {t : Tl} (h : okTo t 4) : t.fits := ⟨h 0 (by omega), h 1 (by omega), h 2 (by omega), h 3 (by omega)⟩
theorem not_fits {t : Tl} {q : Nat} (hq : q < 4) (h : ¬ (0 ≤ px t q ∧ px t q ≤ pl q)) : ¬ t.fits := by
  rintro ⟨a, b, c, d⟩
  rcases (show q = 0 ∨ q = 1 ∨ q = 2 ∨ q = 3 by omega) with rfl | rfl | rfl | rfl
  · exact h a
  · exact h b
  · exact h c
  · exact h d
theorem okTo_succ {t : Tl} {q : Nat} (h : okTo t q) (h2 : 0 ≤ px t q ∧ px t q ≤ pl q) : okTo t (q + 1) := fun p hp => by
  by_cases e : p = q
  · subst e; exact h2
  · exact h p (by omega)
end Hl
/-- The pairs' eight cells. -/
theorem pairs_cells {w : World} {g : Nat} {t : Tl} {ty : TypeId} (h : w.heap[g]? = some (.cells #[.int .i64 t.tree, .int .i64 15, .int .i64 t.age, .int .i64 255, .int .i64 t.cost, .int .i64 1000000000, .int .i64 t.port, .int .i64 30] ty (0, 0))) (j : Nat) (hj : j < 4) :
    w.cell? ⟨g, j * 2, none⟩ = some (.int .i64 (Hl.px t j)) ∧ w.cell? ⟨g, j * 2 + 1, none⟩ = some (.int .i64 (Hl.pl j)) := by
  rcases (show j = 0 ∨ j = 1 ∨ j = 2 ∨ j = 3 by omega) with rfl | rfl | rfl | rfl
  · exact ⟨cell_of_row w g 0 _ _ _ h, cell_of_row w g 1 _ _ _ h⟩
  · exact ⟨cell_of_row w g 2 _ _ _ h, cell_of_row w g 3 _ _ _ h⟩
  · exact ⟨cell_of_row w g 4 _ _ _ h, cell_of_row w g 5 _ _ _ h⟩
  · exact ⟨cell_of_row w g 6 _ _ _ h, cell_of_row w g 7 _ _ _ h⟩
theorem tl_cells1 {w : World} {g : Nat} {t : Tl} {ty : TypeId} (h : w.heap[g]? = some (.cells (tlA t) ty (0, 0))) : w.cell? ⟨g, 0, none⟩ = some (.int .i64 t.tree) ∧ True := ⟨cell_of_row w g 0 _ _ _ h, trivial⟩
set_option maxHeartbeats 1000000 in
theorem rwrong_hl (da : Option Addr) (dn dc : Nat) (ao : Option Addr) (n cap : Nat) (ts : Nat → Tl) (w : World) (hn : n ≤ 9223372036854775807) (hr : TaleRow w ao n cap ts) :
    Calls Try.prog 7 #[.agg #[.slice da dn dc, .slice ao n cap]] w fun e w' => e = .returned (.int .i64 (Hl.wrong dn ts n)) ∧ Below w.heap.size w w' := by
  have HR : Hid (TaleRow w ao n cap ts) := hr
  clear hr
  unfold Hl.wrong
  by_cases hd : dn = 16
  · rw [if_pos hd]
    subst hd
    go_enter Try.func7, Try.ntmps7
    go_wp2_with fail
    go_loopw [3, 15] (fun a i wr => ∃ k : Nat, k ≤ n ∧ i = .int .i64 k ∧ a = .int .i64 (Hl.last ts k) ∧ Hid (Hl.wrongTo ts k = 0) ∧ Hid (Below w.heap.size w wr)) (fun _ i _ => n - (intOf i).toNat)
    case atStart => exact ⟨0, by omega, rfl, rfl, rfl, below_alloc1 _ _⟩
    case round =>
      obtain ⟨k, hk, rfl, rfl, hX, hB⟩ := hrel
      by_cases hlt : k < n
      · obtain ⟨b, off, rfl, hb, hc⟩ := HR.out.2 (by omega)
        have hcap := HR.out.1
        have hbw : b < wr.heap.size := Nat.lt_of_lt_of_le hb hB.out.size
        have c0 : wr.cell? ⟨b, off + k * 6, none⟩ = some (.int .i64 (ts k).tree) := (hB.out.cell (by exact hb)).trans (hc k hlt).1
        have c1 : wr.cell? ⟨b, off + k * 6 + 1, none⟩ = some (.int .u64 (ts k).root) := (hB.out.cell (by exact hb)).trans (hc k hlt).2.1
        have c2 : wr.cell? ⟨b, off + k * 6 + 2, none⟩ = some (.int .i64 (ts k).cost) := (hB.out.cell (by exact hb)).trans (hc k hlt).2.2.1
        have c3 : wr.cell? ⟨b, off + k * 6 + 3, none⟩ = some (.int .u64 (ts k).bridge) := (hB.out.cell (by exact hb)).trans (hc k hlt).2.2.2.1
        have c4 : wr.cell? ⟨b, off + k * 6 + 4, none⟩ = some (.int .i64 (ts k).port) := (hB.out.cell (by exact hb)).trans (hc k hlt).2.2.2.2.1
        have c5 : wr.cell? ⟨b, off + k * 6 + 5, none⟩ = some (.int .i64 (ts k).age) := (hB.out.cell (by exact hb)).trans (hc k hlt).2.2.2.2.2
        have HE : Hid (Hl.taleErr (Hl.last ts k) (ts k) ≠ 0 → Hl.wrongTo ts n = Hl.taleErr (Hl.last ts k) (ts k)) := fun h => Hl.wrongTo_here ts k n hlt hX.out h
        have HZ : Hid (Hl.taleErr (Hl.last ts k) (ts k) = 0 → Hl.wrongTo ts (k + 1) = 0) := fun h => Hl.wrongTo_succ ts k hX.out h
        have HL : Hid (Hl.last ts (k + 1) = (ts k).tree) := Hl.last_succ ts k
        clear hc HR hX
        generalize Hl.last ts k = l at *
        generalize ts k = t at *
        go_wp2_with fail
        have H0 : Hid (((wr.alloc (.cells #[.int .i64 t.tree, .int .u64 t.root, .int .i64 t.cost, .int .u64 t.bridge, .int .i64 t.port, .int .i64 t.age] 39)).alloc (.cells #[.int .i64 t.tree, .int .i64 15, .int .i64 t.age, .int .i64 255, .int .i64 t.cost, .int .i64 1000000000, .int .i64 t.port, .int .i64 30] 42)).heap[wr.heap.size]? = some (.cells (tlA t) 39 (0, 0)) ∧ ((wr.alloc (.cells #[.int .i64 t.tree, .int .u64 t.root, .int .i64 t.cost, .int .u64 t.bridge, .int .i64 t.port, .int .i64 t.age] 39)).alloc (.cells #[.int .i64 t.tree, .int .i64 15, .int .i64 t.age, .int .i64 255, .int .i64 t.cost, .int .i64 1000000000, .int .i64 t.port, .int .i64 30] 42)).heap[wr.heap.size + 1]? = some (.cells #[.int .i64 t.tree, .int .i64 15, .int .i64 t.age, .int .i64 255, .int .i64 t.cost, .int .i64 1000000000, .int .i64 t.port, .int .i64 30] 42 (0, 0)) ∧ Below w.heap.size w ((wr.alloc (.cells #[.int .i64 t.tree, .int .u64 t.root, .int .i64 t.cost, .int .u64 t.bridge, .int .i64 t.port, .int .i64 t.age] 39)).alloc (.cells #[.int .i64 t.tree, .int .i64 15, .int .i64 t.age, .int .i64 255, .int .i64 t.cost, .int .i64 1000000000, .int .i64 t.port, .int .i64 30] 42))) := ⟨heap_alloc2_old wr _ _, heap_alloc2_new wr _ _, (hB.out.alloc hB.out.size _).alloc (by have := hB.out.size; simp; omega) _⟩
        clear hB c0 c1 c2 c3 c4 c5 hbw
        generalize wr.heap.size = R at *
        go_loopw [35] (fun j wi => ∃ q : Nat, q ≤ 4 ∧ j = .int .i64 q ∧ Hid (Hl.okTo t q) ∧ Hid (wi.heap[R]? = some (.cells (tlA t) 39 (0, 0)) ∧ wi.heap[R + 1]? = some (.cells #[.int .i64 t.tree, .int .i64 15, .int .i64 t.age, .int .i64 255, .int .i64 t.cost, .int .i64 1000000000, .int .i64 t.port, .int .i64 30] 42 (0, 0)) ∧ Below w.heap.size w wi)) (fun j _ => 4 - (intOf j).toNat)
        case atStart => exact ⟨0, by omega, rfl, (fun p hp => absurd hp (by omega)), H0⟩
        case round =>
          obtain ⟨q, hq, rfl, hO, hI⟩ := hrel
          by_cases hq4 : q < 4
          · obtain ⟨d0, d1⟩ := pairs_cells hI.out.2.1 q hq4
            have HI2 : Hid (∀ o, (wr.alloc o).heap[R]? = some (.cells (tlA t) 39 (0, 0)) ∧ (wr.alloc o).heap[R + 1]? = some (.cells #[.int .i64 t.tree, .int .i64 15, .int .i64 t.age, .int .i64 255, .int .i64 t.cost, .int .i64 1000000000, .int .i64 t.port, .int .i64 30] 42 (0, 0)) ∧ Below w.heap.size w (wr.alloc o)) := fun o => ⟨keep hI.out.1 (below_alloc1 wr o), keep hI.out.2.1 (below_alloc1 wr o), hI.out.2.2.alloc hI.out.2.2.size _⟩
            have HOS : Hid (0 ≤ Hl.px t q ∧ Hl.px t q ≤ Hl.pl q → Hl.okTo t (q + 1)) := fun h => Hl.okTo_succ hO.out h
            have HNF : Hid (¬ (0 ≤ Hl.px t q ∧ Hl.px t q ≤ Hl.pl q) → Hl.wrongTo ts n = 3) := fun h => by
              have h3 : Hl.taleErr l t = 3 := if_neg (Hl.not_fits hq4 h)
              rw [HE.out (by rw [h3]; decide), h3]
            clear hO hI HE HZ HL H0
            generalize Hl.px t q = x at *
            generalize Hl.pl q = m at *
            by_cases hx0 : x < 0
            · go_wp2_with fail
              go_ret
              exact ⟨by rw [HNF.out (by omega)]; rfl, (HI2.out _).2.2⟩
            · by_cases hxm : m < x
              · go_wp2_with fail
                go_ret
                exact ⟨by rw [HNF.out (by omega)]; rfl, (HI2.out _).2.2⟩
              · go_wp2_with fail
                exact ⟨⟨q + 1, by omega, by go_num, HOS.out (by omega), HI2.out _⟩, by simp [intOf]; omega⟩
          · obtain rfl : q = 4 := by omega
            have hf : t.fits := Hl.fits_of hO.out
            obtain ⟨d0, _⟩ := tl_cells1 hI.out.1
            have HI3 : Hid (Below w.heap.size w wr) := hI.out.2.2
            clear hO hI
            by_cases h3 : t.tree ≤ l
            · have h2 : Hl.taleErr l t = 2 := by unfold Hl.taleErr; rw [if_pos hf, if_pos h3]
              have HF : Hid (Hl.wrongTo ts n = 2) := by rw [← h2]; exact HE.out (by rw [h2]; decide)
              clear hf h2 HE HZ HL H0
              go_wp2_with fail
              go_ret
              exact ⟨by rw [HF.out]; rfl, HI3.out⟩
            · have h2 : Hl.taleErr l t = 0 := by unfold Hl.taleErr; rw [if_pos hf, if_neg h3]
              have HF : Hid (Hl.wrongTo ts (k + 1) = 0) := HZ.out h2
              clear hf h2 HE HZ H0
              go_wp2_with fail
              exact ⟨⟨k + 1, by omega, by go_num, by rw [HL.out], HF, HI3⟩, by simp [intOf]; omega⟩
      · obtain rfl : k = n := by omega
        go_wp2
        go_ret
        exact ⟨by rw [hX.out]; rfl, hB.out⟩
  · rw [if_neg hd]
    have hd2 : ((dn : Int) != 16) = true := by simp; omega
    go_enter Try.func7, Try.ntmps7
    go_wp2_with fail
    go_ret
    exact ⟨rfl, below_alloc1 _ _⟩
end Go.Proofs.Ytmjgmngdahhbkaa
