/- walks: hello.inRange, wrongTales, Wrong -/
import Derived.Test.YtmjgmngdahhbkaaLMd
import Derived.Test.YtmjgmngdahhbkaaLN
namespace Go.Proofs.Ytmjgmngdahhbkaa
open Go.RowKit
open Hl (Tl)

/-- A tale's six cells. -/
def tlA (t : Tl) : Array Value := #[.int .i64 t.tree, .int .u64 t.root, .int .i64 t.cost, .int .u64 t.bridge, .int .i64 t.port, .int .i64 t.age]
set_option maxHeartbeats 400000 in
theorem linRange_raw (tr ro co br po ag : Int) (w : World) :
    Calls Try.prog 22 #[.agg #[.int .i64 tr, .int .u64 ro, .int .i64 co, .int .u64 br, .int .i64 po, .int .i64 ag]] w fun e w' => e = .returned (.bool (decide ((0 ≤ tr ∧ tr ≤ 15) ∧ (0 ≤ ag ∧ ag ≤ 255) ∧ (0 ≤ co ∧ co ≤ 1000000000) ∧ 0 ≤ po ∧ po ≤ 30))) ∧ Below w.heap.size w w' := by
  by_cases h1 : 0 ≤ tr ∧ tr ≤ 15
  · have d1 : decide (0 ≤ tr ∧ tr ≤ 15) = true := decide_eq_true h1
    by_cases h2 : 0 ≤ ag ∧ ag ≤ 255
    · have d2 : decide (0 ≤ ag ∧ ag ≤ 255) = true := decide_eq_true h2
      by_cases h3 : 0 ≤ co ∧ co ≤ 1000000000
      · have d3 : decide (0 ≤ co ∧ co ≤ 1000000000) = true := decide_eq_true h3
        go_enter Try.func22, Try.ntmps22
        go_wp2_with (go_at_call 25; refine (nwithin_any _ _ _ _).mono ?_; rintro e w1 ⟨rfl, rfl⟩; first | rw [d1] | rw [d2] | rw [d3] | skip)
        go_ret
        exact ⟨by simp [h1, h2, h3], (Below.refl _ _).alloc (Nat.le_refl _) _⟩
      · have d3 : decide (0 ≤ co ∧ co ≤ 1000000000) = false := decide_eq_false h3
        go_enter Try.func22, Try.ntmps22
        go_wp2_with (go_at_call 25; refine (nwithin_any _ _ _ _).mono ?_; rintro e w1 ⟨rfl, rfl⟩; first | rw [d1] | rw [d2] | rw [d3] | skip)
        go_ret
        exact ⟨by simp [h3], (Below.refl _ _).alloc (Nat.le_refl _) _⟩
    · have d2 : decide (0 ≤ ag ∧ ag ≤ 255) = false := decide_eq_false h2
      go_enter Try.func22, Try.ntmps22
      go_wp2_with (go_at_call 25; refine (nwithin_any _ _ _ _).mono ?_; rintro e w1 ⟨rfl, rfl⟩; first | rw [d1] | rw [d2] | skip)
      go_ret
      exact ⟨by simp [h2], (Below.refl _ _).alloc (Nat.le_refl _) _⟩
  · have d1 : decide (0 ≤ tr ∧ tr ≤ 15) = false := decide_eq_false h1
    go_enter Try.func22, Try.ntmps22
    go_wp2_with (go_at_call 25; refine (nwithin_any _ _ _ _).mono ?_; rintro e w1 ⟨rfl, rfl⟩; first | rw [d1] | skip)
    go_ret
    exact ⟨by simp [h1], (Below.refl _ _).alloc (Nat.le_refl _) _⟩
/-- A slice of n tales. -/
def TaleRow (w : World) (ao : Option Addr) (n cap : Nat) (ts : Nat → Tl) : Prop :=
  n ≤ cap ∧ (0 < n → ∃ b off, ao = some ⟨b, off, none⟩ ∧ b < w.heap.size ∧ ∀ i, i < n → w.cell? ⟨b, off + i * 6, none⟩ = some (.int .i64 (ts i).tree) ∧ w.cell? ⟨b, off + i * 6 + 1, none⟩ = some (.int .u64 (ts i).root) ∧ w.cell? ⟨b, off + i * 6 + 2, none⟩ = some (.int .i64 (ts i).cost) ∧ w.cell? ⟨b, off + i * 6 + 3, none⟩ = some (.int .u64 (ts i).bridge) ∧ w.cell? ⟨b, off + i * 6 + 4, none⟩ = some (.int .i64 (ts i).port) ∧ w.cell? ⟨b, off + i * 6 + 5, none⟩ = some (.int .i64 (ts i).age))
theorem TaleRow.other {w w' : World} {ao : Option Addr} {n cap : Nat} {ts : Nat → Tl} (h : TaleRow w ao n cap ts) (e : ∀ b off, ao = some ⟨b, off, none⟩ → b < w.heap.size → w'.heap[b]? = w.heap[b]?) (hs : w.heap.size ≤ w'.heap.size) : TaleRow w' ao n cap ts := by
  refine ⟨h.1, fun hp => ?_⟩
  obtain ⟨b, off, e1, hlt, hc⟩ := h.2 hp
  have he := e b off e1 hlt
  refine ⟨b, off, e1, Nat.lt_of_lt_of_le hlt hs, fun i hi => ?_⟩
  obtain ⟨k0, k1, k2, k3, k4, k5⟩ := hc i hi
  exact ⟨(World.cell?_of_block (w := w) he).trans k0, (World.cell?_of_block (w := w) he).trans k1, (World.cell?_of_block (w := w) he).trans k2, (World.cell?_of_block (w := w) he).trans k3, (World.cell?_of_block (w := w) he).trans k4, (World.cell?_of_block (w := w) he).trans k5⟩
theorem TaleRow.below {w w' : World} {ao : Option Addr} {n cap : Nat} {ts : Nat → Tl} (h : TaleRow w ao n cap ts) (hb : Below w.heap.size w w') : TaleRow w' ao n cap ts :=
  h.other (fun b _ _ hlt => hb.block b hlt) hb.size
theorem TaleRow.congr {w : World} {ao : Option Addr} {n cap : Nat} {ts us : Nat → Tl} (h : TaleRow w ao n cap ts) (e : ∀ i, i < n → ts i = us i) : TaleRow w ao n cap us := by
  refine ⟨h.1, fun hp => ?_⟩
  obtain ⟨b, off, e1, hlt, hc⟩ := h.2 hp
  exact ⟨b, off, e1, hlt, fun i hi => by rw [← e i hi]; exact hc i hi⟩
set_option maxHeartbeats 1000000 in
theorem lwrongTales_any (ao : Option Addr) (n cap : Nat) (ts : Nat → Tl) (w : World) (hn : n ≤ 9223372036854775807) (hr : TaleRow w ao n cap ts) :
    Calls Try.prog 14 #[.slice ao n cap] w fun e w' => e = .returned (.int .i64 (Hl.wrongTo ts n)) ∧ Below w.heap.size w w' := by
  have HR : Hid (TaleRow w ao n cap ts) := hr
  clear hr
  go_enter Try.func14, Try.ntmps14
  go_wp2_with fail
  go_loopw [3, 8] (fun a i wr => ∃ k : Nat, k ≤ n ∧ i = .int .i64 k ∧ a = .int .i64 (Hl.last ts k) ∧ Hid (Hl.wrongTo ts k = 0) ∧ Hid (Below w.heap.size w wr)) (fun _ i _ => n - (intOf i).toNat)
  case atStart => exact ⟨0, by omega, rfl, rfl, rfl, Below.refl _ _⟩
  case round =>
    obtain ⟨k, hk, rfl, rfl, hX, hB⟩ := hrel
    by_cases hlt : k < n
    · obtain ⟨b, off, rfl, hb, hc⟩ := HR.out.2 (by omega)
      have hcap := HR.out.1
      have hbw : b < wr.heap.size := Nat.lt_of_lt_of_le hb hB.out.size
      have c0 : wr.cell? ⟨b, off + k * 6, none⟩ = some (.int .i64 (ts k).tree) := (hB.out.cell (by exact hb)).trans (hc k hlt).1
      have c1 : wr.cell? ⟨b, off + k * 6 + 1, none⟩ = some (.int .u64 (ts k).root) := (hB.out.cell (by exact hb)).trans (hc k hlt).2.1
      have c2 : wr.cell? ⟨b, off + k * 6 + 2, none⟩ = some (.int .i64 (ts k).cost) := (hB.out.cell (by exact hb)).trans (hc k hlt).2.2.1
      have c3 : wr.cell? ⟨b, off + k * 6 + 3, none⟩ = some (.int .u64 (ts k).bridge) := (hB.out.cell (by exact hb)).trans (hc k hlt).2.2.2.1
      have c4 : wr.cell? ⟨b, off + k * 6 + 4, none⟩ = some (.int .i64 (ts k).port) := (hB.out.cell (by exact hb)).trans (hc k hlt).2.2.2.2.1
      have c5 : wr.cell? ⟨b, off + k * 6 + 5, none⟩ = some (.int .i64 (ts k).age) := (hB.out.cell (by exact hb)).trans (hc k hlt).2.2.2.2.2
      have HE : Hid (Hl.taleErr (Hl.last ts k) (ts k) ≠ 0 → Hl.wrongTo ts n = Hl.taleErr (Hl.last ts k) (ts k)) := fun h => Hl.wrongTo_here ts k n hlt hX.out h
      have HZ : Hid (Hl.taleErr (Hl.last ts k) (ts k) = 0 → Hl.wrongTo ts (k + 1) = 0) := fun h => Hl.wrongTo_succ ts k hX.out h
      have HL : Hid (Hl.last ts (k + 1) = (ts k).tree) := Hl.last_succ ts k
      have HBL : Hid (∀ o W, Below (wr.alloc o).heap.size (wr.alloc o) W → Below w.heap.size w W) := fun o W h => (hB.out.alloc hB.out.size _).trans (h.mono (by have := hB.out.size; simp; omega))
      have HT : Hid (∀ o W, Below (wr.alloc o).heap.size (wr.alloc o) W → W.heap[wr.heap.size]? = (wr.alloc o).heap[wr.heap.size]?) := fun o W h => h.block _ (by simp)
      clear hc HR hX hB
      generalize Hl.last ts k = l at *
      generalize ts k = t at *
      obtain ⟨tr, ro, co, br, po, ag⟩ := t
      simp only at *
      by_cases h1 : (0 ≤ tr ∧ tr ≤ 15) ∧ (0 ≤ ag ∧ ag ≤ 255) ∧ (0 ≤ co ∧ co ≤ 1000000000) ∧ 0 ≤ po ∧ po ≤ 30
      · have d1 : decide ((0 ≤ tr ∧ tr ≤ 15) ∧ (0 ≤ ag ∧ ag ≤ 255) ∧ (0 ≤ co ∧ co ≤ 1000000000) ∧ 0 ≤ po ∧ po ≤ 30) = true := decide_eq_true h1
        by_cases h3 : tr ≤ l
        · have HW : Hid (Hl.taleErr l ⟨tr, ro, co, br, po, ag⟩ = 2) := (if_pos (c := Tl.fits ⟨tr, ro, co, br, po, ag⟩) h1).trans (if_pos h3)
          clear h1
          go_wp2_with (go_at_call 22; refine (linRange_raw _ _ _ _ _ _ _).mono ?_; rintro e w2 ⟨rfl, hb2⟩; rw [d1]; have HB2 : Hid (Below w.heap.size w w2) := HBL.out _ _ hb2; have k0 := cell_of_row _ _ 0 _ _ _ ((HT.out _ _ hb2).trans (heap_alloc_last wr _)); clear hb2)
          go_ret
          exact ⟨by rw [HE.out (by rw [HW.out]; decide), HW.out]; rfl, HB2.out⟩
        · have HW : Hid (Hl.taleErr l ⟨tr, ro, co, br, po, ag⟩ = 0) := (if_pos (c := Tl.fits ⟨tr, ro, co, br, po, ag⟩) h1).trans (if_neg h3)
          clear h1
          go_wp2_with (go_at_call 22; refine (linRange_raw _ _ _ _ _ _ _).mono ?_; rintro e w2 ⟨rfl, hb2⟩; rw [d1]; have HB2 : Hid (Below w.heap.size w w2) := HBL.out _ _ hb2; have k0 := cell_of_row _ _ 0 _ _ _ ((HT.out _ _ hb2).trans (heap_alloc_last wr _)); clear hb2)
          exact ⟨⟨k + 1, by omega, by go_num, by rw [HL.out], HZ.out HW.out, HB2⟩, by simp [intOf]; omega⟩
      · have d1 : decide ((0 ≤ tr ∧ tr ≤ 15) ∧ (0 ≤ ag ∧ ag ≤ 255) ∧ (0 ≤ co ∧ co ≤ 1000000000) ∧ 0 ≤ po ∧ po ≤ 30) = false := decide_eq_false h1
        have HW : Hid (Hl.taleErr l ⟨tr, ro, co, br, po, ag⟩ = 3) := if_neg (c := Tl.fits ⟨tr, ro, co, br, po, ag⟩) h1
        clear h1
        go_wp2_with (go_at_call 22; refine (linRange_raw _ _ _ _ _ _ _).mono ?_; rintro e w2 ⟨rfl, hb2⟩; rw [d1]; have HB2 : Hid (Below w.heap.size w w2) := HBL.out _ _ hb2; clear hb2)
        go_ret
        exact ⟨by rw [HE.out (by rw [HW.out]; decide), HW.out]; rfl, HB2.out⟩
    · obtain rfl : k = n := by omega
      go_wp2
      go_ret
      exact ⟨by rw [hX.out]; rfl, hB.out⟩
/-- A hello's two cells, in a block of their own. -/
theorem hl_cells {w : World} {g : Nat} {a0 a1 : Value} {ty : TypeId} (h : w.heap[g]? = some (.cells #[a0, a1] ty (0, 0))) :
    w.cell? ⟨g, 0, none⟩ = some a0 ∧ w.cell? ⟨g, 1, none⟩ = some a1 :=
  ⟨cell_of_row w g 0 _ _ _ h, cell_of_row w g 1 _ _ _ h⟩
set_option maxHeartbeats 1000000 in
theorem lwrong_any (da : Option Addr) (dn dc : Nat) (ao : Option Addr) (n cap : Nat) (ts : Nat → Tl) (w : World) (hn : n ≤ 9223372036854775807) (hr : TaleRow w ao n cap ts) :
    Calls Try.prog 6 #[.agg #[.slice da dn dc, .slice ao n cap]] w fun e w' => e = .returned (.int .i64 (Hl.wrong dn ts n)) ∧ Below w.heap.size w w' := by
  have HR : Hid (∀ o, TaleRow (w.alloc o) ao n cap ts) := fun o => hr.below (below_alloc1 w o)
  have HB : Hid (∀ o W, Below (w.alloc o).heap.size (w.alloc o) W → Below w.heap.size w W) := fun o W h => (below_alloc1 w o).trans (h.mono (by simp))
  clear hr
  unfold Hl.wrong
  by_cases hd : dn = 16
  · rw [if_pos hd]
    subst hd
    go_enter Try.func6, Try.ntmps6
    go_wp2_with (go_at_call 14; refine (lwrongTales_any _ _ _ ts _ hn (HR.out _)).mono ?_; rintro e w2 ⟨rfl, hb2⟩; have HB2 : Hid (Below w.heap.size w w2) := HB.out _ _ hb2; clear hb2)
    go_ret
    exact ⟨rfl, HB2.out⟩
  · rw [if_neg hd]
    have hd2 : ((dn : Int) != 16) = true := by simp; omega
    go_enter Try.func6, Try.ntmps6
    go_wp2_with fail
    go_ret
    exact ⟨rfl, below_alloc1 _ _⟩
end Go.Proofs.Ytmjgmngdahhbkaa
