/- walks: hello.sizeOf, taleAt, putTale -/
import Derived.Test.YtmjgmngdahhbkaaLW1
import Derived.Deep.DeepCutAuto
namespace Go.Proofs.Ytmjgmngdahhbkaa
open Go.RowKit
open Hl (Tl)

set_option maxHeartbeats 400000 in
theorem lsizeOf_any (k : Nat) (w : World) (hk : k ≤ 300) :
    Calls Try.prog 15 #[.int .i64 (k : Int)] w fun e w' => e = .returned (.int .i64 (17 + (k : Int) * 23)) ∧ w' = w := by
  go_enter Try.func15, Try.ntmps15
  go_wp2
  go_ret
  exact ⟨rfl, rfl⟩
theorem lsizeOf_at (k : Nat) (K : Int) (w : World) (hk : k ≤ 300) (e : K = (k : Int)) :
    Calls Try.prog 15 #[.int .i64 K] w fun e w' => e = .returned (.int .i64 (17 + (k : Int) * 23)) ∧ w' = w := by
  rw [e]; exact lsizeOf_any k w hk
set_option maxHeartbeats 400000 in
theorem ltaleAt_any (g off n cap i : Nat) (w : World) (hi : 17 + (i + 1) * 23 ≤ n) (hn : n ≤ cap) (hk : i ≤ 255) :
    Calls Try.prog 17 #[.slice (some ⟨g, off, none⟩) n cap, .int .i64 (i : Int)] w fun e w' => e = .returned (.slice (some ⟨g, off + (17 + i * 23), none⟩) 23 (cap - (17 + i * 23))) ∧ w' = w := by
  have h1 : ((17 : Int) + (i : Int) * 23).toNat = 17 + i * 23 := by omega
  have h2 : ((17 : Int) + ((i + 1 : Nat) : Int) * 23).toNat - (17 + i * 23) = 23 := by omega
  go_enter Try.func17, Try.ntmps17
  go_wp2_with (first | (go_at_call 15; with_reducible refine (lsizeOf_any i _ (by omega)).mono ?_; rintro e w1 ⟨rfl, rfl⟩) | (go_at_call 15; refine (lsizeOf_at (i + 1) _ _ (by omega) (by go_num)).mono ?_; rintro e w1 ⟨rfl, rfl⟩))
  go_ret
  refine ⟨?_, rfl⟩
  have h3 : 17 + (i + 1) * 23 - (17 + i * 23) = 23 := by omega
  show Ending.returned (Value.slice (some ⟨g, off + (17 + i * 23), none⟩) (17 + (i + 1) * 23 - (17 + i * 23)) (cap - (17 + i * 23))) = _
  rw [h3]
/-- A row in which the first k bytes of a tale stand from off on. -/
def putF (t : Tl) (off k : Nat) (f : Nat → Int) (i : Nat) : Int := if off ≤ i ∧ i < off + k then Hl.taleB t (i - off) else f i
/-- Within putTale: the tale's own block, and the row. -/
def PutW (g N : Nat) (ty : TypeId) (w wx : World) (t : Tl) (f : Nat → Int) : Prop :=
  wx.heap[w.heap.size]? = some (.cells (tlA t) 39 (0, 0)) ∧ wx.heap[g]? = some (.cells (rowF N f) ty (0, 0)) ∧ Below g w wx
theorem PutW.congr {g N : Nat} {ty : TypeId} {w wx : World} {t : Tl} {f f' : Nat → Int} (h : PutW g N ty w wx t f) (e : ∀ i, i < N → f i = f' i) : PutW g N ty w wx t f' :=
  ⟨h.1, by rw [← rowF_congr _ _ _ e]; exact h.2.1, h.2.2⟩
theorem PutW.set {g N : Nat} {ty : TypeId} {w wx : World} {t : Tl} {f : Nat → Int} (h : PutW g N ty w wx t f) (hg : g < w.heap.size) (k : Nat) (v : Int) (hk : k < N) : PutW g N ty w (wx.setCell ⟨g, k, none⟩ (.int .u8 v)) t (fun i => if i = k then v else f i) := by
  refine ⟨(heap_setCell_other _ _ _ _ (by show w.heap.size ≠ g; omega)).trans h.1, ?_, h.2.2.setCell (Nat.le_refl _) _⟩
  rw [heap_setCell_same _ _ _ _ _ _ h.2.1, rowF_set _ _ _ _ hk]
theorem tl_cells {w : World} {g : Nat} {t : Tl} {ty : TypeId} (h : w.heap[g]? = some (.cells (tlA t) ty (0, 0))) :
    w.cell? ⟨g, 0, none⟩ = some (.int .i64 t.tree) ∧ w.cell? ⟨g, 1, none⟩ = some (.int .u64 t.root) ∧ w.cell? ⟨g, 2, none⟩ = some (.int .i64 t.cost) ∧ w.cell? ⟨g, 3, none⟩ = some (.int .u64 t.bridge) ∧ w.cell? ⟨g, 4, none⟩ = some (.int .i64 t.port) ∧ w.cell? ⟨g, 5, none⟩ = some (.int .i64 t.age) :=
  ⟨cell_of_row w g 0 _ _ _ h, cell_of_row w g 1 _ _ _ h, cell_of_row w g 2 _ _ _ h, cell_of_row w g 3 _ _ _ h, cell_of_row w g 4 _ _ _ h, cell_of_row w g 5 _ _ _ h⟩
theorem put_step (t : Tl) (off o n : Nat) (f : Nat → Int) (i : Nat) {N : Int} (h : ∀ j, j < n → Hl.taleB t (o + j) = be n N (o + j - o)) :
    (if off + o ≤ i ∧ i < off + o + n then be n N (i - (off + o)) else putF t off o f i) = putF t off (o + n) f i := by
  unfold putF
  by_cases e : off + o ≤ i ∧ i < off + o + n
  · have := h (i - off - o) (by omega)
    rw [if_pos e, if_pos (by omega), show i - off = o + (i - off - o) by omega, this]
    congr 1
    omega
  · rw [if_neg e]
    by_cases e2 : off ≤ i ∧ i < off + o
    · rw [if_pos e2, if_pos (by omega)]
    · rw [if_neg e2, if_neg (by omega)]
theorem PutW.step {g N : Nat} {ty : TypeId} {w wx w1 : World} {t : Tl} {off o n : Nat} {f : Nat → Int} {M : Int} (h : PutW g N ty w wx t (putF t off o f)) (hne : w.heap.size ≠ g) (hh : ∀ j, j < n → Hl.taleB t (o + j) = be n M (o + j - o))
    (h1 : w1.heap[g]? = some (.cells (rowF N (fun i => if off + o ≤ i ∧ i < off + o + n then be n M (i - (off + o)) else putF t off o f i)) ty (0, 0))) (h3 : Below g wx.drew w1) (h4 : ∀ b, b ≠ g → w1.heap[b]? = wx.drew.heap[b]?) : PutW g N ty w w1 t (putF t off (o + n) f) := by
  refine PutW.congr (f := fun i => if off + o ≤ i ∧ i < off + o + n then be n M (i - (off + o)) else putF t off o f i) ?_ (fun i _ => put_step t off o n f i hh)
  exact ⟨(h4 _ hne).trans h.1, h1, h.2.2.trans ((Below.refl _ _).drew.trans h3)⟩
theorem PutW.row {g N : Nat} {ty : TypeId} {w wx : World} {t : Tl} {f : Nat → Int} (h : PutW g N ty w wx t f) : wx.drew.heap[g]? = some (.cells (rowF N f) ty (0, 0)) := h.2.1
theorem taleB_root (t : Tl) : ∀ j, j < 8 → Hl.taleB t (2 + j) = be 8 t.root (2 + j - 2) := fun j hj => by
  unfold Hl.taleB; rw [if_neg (by omega), if_neg (by omega), if_pos (by omega)]
theorem taleB_cost (t : Tl) : ∀ j, j < 4 → Hl.taleB t (10 + j) = be 4 t.cost (10 + j - 10) := fun j hj => by
  unfold Hl.taleB; rw [if_neg (by omega), if_neg (by omega), if_neg (by omega), if_pos (by omega)]
theorem taleB_bridge (t : Tl) : ∀ j, j < 8 → Hl.taleB t (14 + j) = be 8 t.bridge (14 + j - 14) := fun j hj => by
  unfold Hl.taleB; rw [if_neg (by omega), if_neg (by omega), if_neg (by omega), if_neg (by omega), if_pos (by omega)]
set_option maxHeartbeats 2000000 in
theorem lputTale_any (g off cap N : Nat) (ty : TypeId) (f : Nat → Int) (t : Tl) (w : World) (hA : w.heap[g]? = some (.cells (rowF N f) ty (0, 0))) (hn : off + 23 ≤ N) (hc : 23 ≤ cap) (ht : t.fits) :
    Calls Try.prog 16 #[.slice (some ⟨g, off, none⟩) 23 cap, .agg #[.int .i64 t.tree, .int .u64 t.root, .int .i64 t.cost, .int .u64 t.bridge, .int .i64 t.port, .int .i64 t.age]] w fun e w' => e = .returned (.tuple #[]) ∧ w'.heap[g]? = some (.cells (rowF N (putF t off 23 f)) ty (0, 0)) ∧ Below g w w' := by
  have hg : g < w.heap.size := block_lt_of_cell ((cell_of_row w _ off _ _ _ hA).trans (rowF_get _ _ _ (by omega)))
  obtain ⟨W0, HW⟩ : ∃ W0, Hid (W0 = w.alloc (.cells #[.int .i64 t.tree, .int .u64 t.root, .int .i64 t.cost, .int .u64 t.bridge, .int .i64 t.port, .int .i64 t.age] 39)) := ⟨_, rfl⟩
  have H0 : Hid (PutW g N ty w W0 t f) := by
    rw [HW.out]
    exact ⟨heap_alloc_last w _, (Below.heap_alloc w _ _ hg).trans hA, (Below.refl _ _).alloc (by omega) _⟩
  clear hA
  have HG : Hid (g < w.heap.size) := hg
  obtain ⟨c0, c1, c2, c3, c4, c5⟩ := tl_cells H0.out.1
  rw [HW.out] at c0 c5
  have k0 : (w.alloc (.cells #[.int .i64 t.tree, .int .u64 t.root, .int .i64 t.cost, .int .u64 t.bridge, .int .i64 t.port, .int .i64 t.age] 39)).cell? ⟨g, off, none⟩ = some (.int .u8 (f off)) := by
    rw [← HW.out]; exact (cell_of_row W0 _ off _ _ _ H0.out.2.1).trans (rowF_get _ _ _ (by omega))
  have k1 : (w.alloc (.cells #[.int .i64 t.tree, .int .u64 t.root, .int .i64 t.cost, .int .u64 t.bridge, .int .i64 t.port, .int .i64 t.age] 39)).cell? ⟨g, off + 1, none⟩ = some (.int .u8 (f (off + 1))) := by
    rw [← HW.out]; exact (cell_of_row W0 _ (off + 1) _ _ _ H0.out.2.1).trans (rowF_get _ _ _ (by omega))
  have z0 : (w.alloc (.cells #[.int .i64 t.tree, .int .u64 t.root, .int .i64 t.cost, .int .u64 t.bridge, .int .i64 t.port, .int .i64 t.age] 39)).frozen? ⟨g, off, none⟩ = false := by
    rw [← HW.out]; exact frozen_of_row _ _ _ _ _ H0.out.2.1
  have z1 : (w.alloc (.cells #[.int .i64 t.tree, .int .u64 t.root, .int .i64 t.cost, .int .u64 t.bridge, .int .i64 t.port, .int .i64 t.age] 39)).frozen? ⟨g, off + 1, none⟩ = false := by
    rw [← HW.out]; exact frozen_of_row _ _ _ _ _ H0.out.2.1
  have hne : g ≠ w.heap.size := by omega
  have hne2 : w.heap.size ≠ g := by omega
  obtain ⟨⟨t1, t2⟩, ⟨a1, a2⟩, ⟨o1, o2⟩, p1, p2⟩ := ht
  clear hg
  go_enter Try.func16, Try.ntmps16
  go_wp2_with fail
  rw [← HW.out]
  have H2 : Hid (PutW g N ty w ((W0.setCell ⟨g, off, none⟩ (.int .u8 t.tree)).setCell ⟨g, off + 1, none⟩ (.int .u8 t.age)) t (putF t off 2 f)) :=
    ((H0.out.set HG.out off t.tree (by omega)).set HG.out (off + 1) t.age (by omega)).congr (fun i _ => by
      unfold putF
      by_cases e1 : i = off + 1
      · subst e1; rw [if_pos rfl, if_pos (by omega), show off + 1 - off = 1 by omega]; rfl
      · rw [if_neg e1]
        by_cases e0 : i = off
        · subst e0; rw [if_pos rfl, if_pos (by omega), Nat.sub_self]; rfl
        · rw [if_neg e0, if_neg (by omega)])
  generalize (W0.setCell ⟨g, off, none⟩ (.int .u8 t.tree)).setCell ⟨g, off + 1, none⟩ (.int .u8 t.age) = W2 at H2 ⊢
  clear H0 HW c0 c1 c2 c3 c4 c5 k0 k1 z0 z1 W0
  have HNE : Hid (w.heap.size ≠ g) := hne2
  have HWC : Hid (IntKind.u64.wrap t.cost = t.cost) := wraps_u64 t.cost o1 (by omega)
  obtain ⟨c0, c1, c2, c3, c4, c5⟩ := tl_cells H2.out.1
  go_cut [19] (fun _ wx => Hid (PutW g N ty w wx t (putF t off 10 f)))
  case first =>
    go_region_with (go_at_call 23; refine (nput_any g (off + 2) 8 (cap - 2) N ty (putF t off 2 f) t.root _ H2.out.row (by omega) (by omega) (by omega)).mono ?_; rintro e w1 ⟨rfl, h1, h2, h3, h4⟩; have HW1 : Hid (PutW g N ty w w1 t (putF t off 10 f)) := (H2.out.step HNE.out (taleB_root t) h1 h3 h4); clear h1 h2 h3 h4)
    all_goals (go_wp2_with fail; go_meet; exact HW1)
  case rest =>
  have H3 := hcut
  clear hcut H2 c0 c1 c2 c3 c4 c5
  go_wp2_with fail
  obtain ⟨c0, c1, c2, c3, c4, c5⟩ := tl_cells H3.out.1
  go_cut [26] (fun _ wx => Hid (PutW g N ty w wx t (putF t off 14 f)))
  case first =>
    go_region_with (go_at_call 23; (try rw [HWC.out]); refine (nput_any g (off + 10) 4 (cap - 10) N ty (putF t off 10 f) t.cost _ H3.out.row (by omega) (by omega) (by omega)).mono ?_; rintro e w1 ⟨rfl, h1, h2, h3, h4⟩; have HW1 : Hid (PutW g N ty w w1 t (putF t off 14 f)) := (H3.out.step HNE.out (taleB_cost t) h1 h3 h4); clear h1 h2 h3 h4)
    all_goals (go_wp2_with fail; go_meet; exact HW1)
  case rest =>
  have H4 := hcut
  clear hcut H3 c0 c1 c2 c3 c4 c5
  go_wp2_with fail
  obtain ⟨c0, c1, c2, c3, c4, c5⟩ := tl_cells H4.out.1
  go_cut [32] (fun _ wx => Hid (PutW g N ty w wx t (putF t off 22 f)))
  case first =>
    go_region_with (go_at_call 23; refine (nput_any g (off + 14) 8 (cap - 14) N ty (putF t off 14 f) t.bridge _ H4.out.row (by omega) (by omega) (by omega)).mono ?_; rintro e w1 ⟨rfl, h1, h2, h3, h4⟩; have HW1 : Hid (PutW g N ty w w1 t (putF t off 22 f)) := (H4.out.step HNE.out (taleB_bridge t) h1 h3 h4); clear h1 h2 h3 h4)
    all_goals (go_wp2_with fail; go_meet; exact HW1)
  case rest =>
  have H5 := hcut
  clear hcut H4 c0 c1 c2 c3 c4 c5
  obtain ⟨c0, c1, c2, c3, c4, c5⟩ := tl_cells H5.out.1
  have k0 : wc.cell? ⟨g, off + 22, none⟩ = some (.int .u8 (putF t off 22 f (off + 22))) := (cell_of_row wc _ (off + 22) _ _ _ H5.out.2.1).trans (rowF_get _ _ _ (by omega))
  have z0 : wc.frozen? ⟨g, off + 22, none⟩ = false := frozen_of_row _ _ _ _ _ H5.out.2.1
  have H6 : Hid (PutW g N ty w (wc.setCell ⟨g, off + 22, none⟩ (.int .u8 t.port)) t (putF t off 23 f)) := (H5.out.set HG.out (off + 22) t.port (by omega)).congr (fun i _ => by
      unfold putF
      by_cases e1 : i = off + 22
      · subst e1; rw [if_pos rfl, if_pos (by omega), show off + 22 - off = 22 by omega]; rfl
      · rw [if_neg e1]
        by_cases e0 : off ≤ i ∧ i < off + 22
        · rw [if_pos e0, if_pos (by omega)]
        · rw [if_neg e0, if_neg (by omega)])
  clear H5
  go_wp2
  exact bodyPost_end (results_none Try.results16 _ _ _) rfl ⟨rfl, H6.out.2⟩
end Go.Proofs.Ytmjgmngdahhbkaa
