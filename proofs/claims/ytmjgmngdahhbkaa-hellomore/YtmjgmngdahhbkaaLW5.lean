/- walks: hello.Parse -/
import Derived.Test.YtmjgmngdahhbkaaLRow
import Derived.Test.YtmjgmngdahhbkaaLC
namespace Go.Proofs.Ytmjgmngdahhbkaa
open Go.RowKit
open Hl (Tl)

theorem sizeHl : (Try.prog.info? 25).map (·.size) = some 2 := by kernel_rfl
theorem hl_free {w : World} {g : Nat} {A : Array Value} {ty : TypeId} (h : w.heap[g]? = some (.cells A ty (0, 0))) : w.frozen? ⟨g, 0, none⟩ = false ∧ w.frozen? ⟨g, 1, none⟩ = false :=
  ⟨frozen_of_row _ _ _ _ _ h, frozen_of_row _ _ _ _ _ h⟩
theorem hl_set2 {w : World} {g : Nat} {a0 a1 v0 v1 : Value} {ty : TypeId} (h : w.heap[g]? = some (.cells #[a0, a1] ty (0, 0))) :
    ((w.setCell ⟨g, 0, none⟩ v0).setCell ⟨g, 1, none⟩ v1).heap[g]? = some (.cells #[v0, v1] ty (0, 0)) := by
  have h0 : (w.setCell ⟨g, 0, none⟩ v0).heap[g]? = some (.cells #[v0, a1] ty (0, 0)) := by rw [heap_setCell_same _ _ _ _ _ _ h]; rfl
  rw [heap_setCell_same _ _ _ _ _ _ h0]; rfl
set_option maxHeartbeats 1000000 in
theorem lparse_short (ao : Option Addr) (n c : Nat) (bs : Nat → Int) (w : World) (hr : ByteRow w ao n c bs) (hbs : ∀ i, i < n → 0 ≤ bs i ∧ bs i ≤ 255) (hs : ¬ (17 ≤ n ∧ (n : Int) = 17 + bs 16 * 23)) :
    Calls Try.prog 10 #[.slice ao n c] w fun e w' => e = .returned (.tuple #[.agg #[.slice none 0 0, .slice none 0 0], .int .i64 2]) ∧ Below w.heap.size w w' := by
  have hcap : n ≤ c := hr.1
  by_cases h17 : (n : Int) < 17
  · clear hr hs hbs
    go_enter Try.func10, Try.ntmps10
    go_wp2_with fail
    exact bodyPost_ret (v := .tuple #[.agg #[.slice none 0 0, .slice none 0 0], .int .i64 2]) (results_row_tmp (p := 2) (u := 3) (ty := 25) Try.results10 _ _ w.heap.size 25 #[.slice none 0 0, .slice none 0 0] (0, 0) _ rfl (heap_alloc_last w _) Try.underlying25 rfl (by rw [sizeHl]; rfl)) rfl ⟨rfl, below_alloc1 _ _⟩
  · obtain ⟨b, off, rfl, hb, hc⟩ := hr.2 (by omega)
    obtain ⟨m, hm⟩ := Int.eq_ofNat_of_zero_le (hbs 16 (by omega)).1
    have hm2 : m ≤ 255 := by have := (hbs 16 (by omega)).2; omega
    have c16 : (w.alloc (.cells #[.slice none 0 0, .slice none 0 0] 25)).cell? ⟨b, off + 16, none⟩ = some (.int .u8 (m : Int)) := by
      rw [← hm]; exact ((below_alloc1 w _).cell (by exact hb)).trans (hc 16 (by omega))
    have hne : ((n : Int) != 17 + (m : Int) * 23) = true := by
      simp
      intro e
      exact hs ⟨by omega, by rw [hm]; exact e⟩
    clear hr hs hbs hc hm
    go_enter Try.func10, Try.ntmps10
    go_wp2_with (go_at_call 15; refine (lsizeOf_any m _ (by omega)).mono ?_; rintro e w1 ⟨rfl, rfl⟩)
    exact bodyPost_ret (v := .tuple #[.agg #[.slice none 0 0, .slice none 0 0], .int .i64 2]) (results_row_tmp (p := 2) (u := 3) (ty := 25) Try.results10 _ _ w.heap.size 25 #[.slice none 0 0, .slice none 0 0] (0, 0) _ rfl (heap_alloc_last w _) Try.underlying25 rfl (by rw [sizeHl]; rfl)) rfl ⟨rfl, below_alloc1 _ _⟩
theorem hl_more {w : World} {g : Nat} {a0 a1 : Value} {ty : TypeId} (h : w.heap[g]? = some (.cells #[a0, a1] ty (0, 0))) :
    (∀ o, (w.alloc o).cell? ⟨g, 0, none⟩ = some a0) ∧ (∀ o, (w.alloc o).cell? ⟨g, 1, none⟩ = some a1) ∧ (∀ o, (w.alloc o).frozen? ⟨g, 0, none⟩ = false) ∧ (∀ o, (w.alloc o).frozen? ⟨g, 1, none⟩ = false) :=
  ⟨fun o => (hl_cells (keep h (below_alloc1 w o))).1, fun o => (hl_cells (keep h (below_alloc1 w o))).2, fun o => (hl_free (keep h (below_alloc1 w o))).1, fun o => (hl_free (keep h (below_alloc1 w o))).2⟩
/-- Within Parse: the hello's own block gh, the tales' row gt. -/
structure ParW (w wx : World) (gh gt : Nat) (da : Option Addr) (dc m : Nat) (bs : Nat → Int) (us : Nat → Tl) : Prop where
  hel : wx.heap[gh]? = some (.cells #[.slice da 16 dc, .slice (some ⟨gt, 0, none⟩) m m] 25 (0, 0))
  row : wx.heap[gt]? = some (.cells (l9rowC (m * 6) (tlsC us)) 39 (0, 0))
  dig : ByteRow wx da 16 dc bs
  nil : NilOk da 16 dc
  res : wx.heap[w.heap.size]? = some (.cells #[.slice none 0 0, .slice none 0 0] 25 (0, 0))
  gh1 : w.heap.size < gh
  gt1 : w.heap.size < gt
  ne : gh ≠ gt
  new : ∀ b off, da = some ⟨b, off, none⟩ → w.heap.size < b ∧ b ≠ gt
  low : Below w.heap.size w wx
theorem parW_of {w w2 wx : World} {gh gt : Nat} {da : Option Addr} {dc m : Nat} {bs : Nat → Int} (ts : Nat → Tl) (hres : w2.heap[w.heap.size]? = some (.cells #[.slice none 0 0, .slice none 0 0] 25 (0, 0))) (hdig : ByteRow w2 da 16 dc bs) (hnil : NilOk da 16 dc)
    (hlow : ∀ b off, da = some ⟨b, off, none⟩ → w.heap.size < b ∧ b ≠ gt ∧ b ≠ gh) (hel : wx.heap[gh]? = some (.cells #[.slice da 16 dc, .slice (some ⟨gt, 0, none⟩) m m] 25 (0, 0))) (row : wx.heap[gt]? = some (.cells (l9rowC (m * 6) (tlsC (upTo (fun _ => tl0) 0))) 39 (0, 0)))
    (gh1 : w.heap.size < gh) (gt1 : w.heap.size < gt) (ne : gh ≠ gt) (hsz : w2.heap.size ≤ wx.heap.size) (ho : ∀ k, k < w2.heap.size → k ≠ gh → wx.heap[k]? = w2.heap[k]?) (low : Below w.heap.size w wx) : ParW w wx gh gt da dc m bs (upTo ts 0) := by
  refine ⟨hel, rowT_congr row (fun i _ => ?_), ?_, hnil, ?_, gh1, gt1, ne, fun b off e => ⟨(hlow b off e).1, (hlow b off e).2.1⟩, low⟩
  · unfold upTo; rw [if_neg (by omega), if_neg (by omega)]
  · refine hdig.other (fun b off e => ?_) hsz
    obtain ⟨b', off', e', hlt, _⟩ := hdig.2 (by omega)
    rw [e] at e'
    cases e'
    exact ho b hlt (hlow b off e).2.2
  · have hlt : w.heap.size < w2.heap.size := (Array.getElem?_eq_some_iff.1 hres).1
    exact (ho _ hlt (by omega)).trans hres
/-- What Clone leaves, called in W. -/
structure Cloned (W w2 : World) (a2 : Option Addr) (c2 : Nat) (bs : Nat → Int) : Prop where
  dig : ByteRow w2 a2 16 c2 bs
  nil : NilOk a2 16 c2
  new : ∀ ad, a2 = some ad → W.heap.size ≤ ad.block
  low : Below W.heap.size W w2
theorem ParW.grow {w wx w1 : World} {gh gt : Nat} {da : Option Addr} {dc m : Nat} {bs : Nat → Int} {us : Nat → Tl} (h : ParW w wx gh gt da dc m bs us) (hb : Below wx.heap.size wx w1) : ParW w w1 gh gt da dc m bs us :=
  ⟨keep h.hel hb, keep h.row hb, h.dig.below hb, h.nil, keep h.res hb, h.gh1, h.gt1, h.ne, h.new, h.low.trans (hb.mono h.low.size)⟩
theorem ParW.drew {w wx : World} {gh gt : Nat} {da : Option Addr} {dc m : Nat} {bs : Nat → Int} {us : Nat → Tl} (h : ParW w wx gh gt da dc m bs us) : ParW w wx.drew gh gt da dc m bs us :=
  ⟨h.hel, h.row, h.dig, h.nil, h.res, h.gh1, h.gt1, h.ne, h.new, h.low.drew⟩
theorem set2_other {w : World} {g j : Nat} {v0 v1 : Value} (h : j ≠ g) : ((w.setCell ⟨g, 0, none⟩ v0).setCell ⟨g, 1, none⟩ v1).heap[j]? = w.heap[j]? :=
  (heap_setCell_other _ _ _ _ (by exact h)).trans (heap_setCell_other _ _ _ _ (by exact h))
theorem set6_other {w : World} {g k j : Nat} {v0 v1 v2 v3 v4 v5 : Value} (h : j ≠ g) :
    ((((((w.setCell ⟨g, k, none⟩ v0).setCell ⟨g, k + 1, none⟩ v1).setCell ⟨g, k + 2, none⟩ v2).setCell ⟨g, k + 3, none⟩ v3).setCell ⟨g, k + 4, none⟩ v4).setCell ⟨g, k + 5, none⟩ v5).heap[j]? = w.heap[j]? :=
  (heap_setCell_other _ _ _ _ (by exact h)).trans ((heap_setCell_other _ _ _ _ (by exact h)).trans ((heap_setCell_other _ _ _ _ (by exact h)).trans ((heap_setCell_other _ _ _ _ (by exact h)).trans ((heap_setCell_other _ _ _ _ (by exact h)).trans (heap_setCell_other _ _ _ _ (by exact h))))))
theorem ParW.put {w wx : World} {gh gt : Nat} {da : Option Addr} {dc m k : Nat} {bs : Nat → Int} {ts : Nat → Tl} (h : ParW w wx gh gt da dc m bs (upTo ts k)) (hk : k < m) :
    ParW w ((((((wx.setCell ⟨gt, k * 6, none⟩ (.int .i64 (ts k).tree)).setCell ⟨gt, k * 6 + 1, none⟩ (.int .u64 (ts k).root)).setCell ⟨gt, k * 6 + 2, none⟩ (.int .i64 (ts k).cost)).setCell ⟨gt, k * 6 + 3, none⟩ (.int .u64 (ts k).bridge)).setCell ⟨gt, k * 6 + 4, none⟩ (.int .i64 (ts k).port)).setCell ⟨gt, k * 6 + 5, none⟩ (.int .i64 (ts k).age)) gh gt da dc m bs (upTo ts (k + 1)) := by
  have hg := Nat.le_of_lt h.gt1
  refine ⟨(set6_other h.ne).trans h.hel, rowT_congr (rowT_put (t := ts k) h.row hk) (fun i _ => upTo_step ts k i), h.dig.other (fun b off e => set6_other (h.new b off e).2) (by simp [World.setCell]), h.nil, (set6_other (by have := h.gt1; omega)).trans h.res, h.gh1, h.gt1, h.ne, h.new, ?_⟩
  exact (((((h.low.setCell hg _).setCell hg _).setCell hg _).setCell hg _).setCell hg _).setCell hg _
theorem par1 {w W0 w2 : World} {a2 : Option Addr} {c2 m : Nat} {bs : Nat → Int} (ts : Nat → Tl) (hA : W0.heap[w.heap.size]? = some (.cells #[.slice none 0 0, .slice none 0 0] 25 (0, 0))) (hB : Below w.heap.size w W0) (H : Cloned W0.drew w2 a2 c2 bs) :
    ParW w ((w2.alloc (.cells (l9rowC (m * 6) (tlsC (upTo (fun _ => tl0) 0))) 39)).alloc (.cells #[.slice a2 16 c2, .slice (some ⟨w2.heap.size, 0, none⟩) m m] 25)) (w2.heap.size + 1) w2.heap.size a2 c2 m bs (upTo ts 0) := by
  obtain ⟨h1, h2, h3, h4⟩ := H
  have hz : w.heap.size < W0.heap.size := (Array.getElem?_eq_some_iff.1 hA).1
  have hz2 : W0.heap.size ≤ w2.heap.size := h4.size
  refine parW_of ts (keep (drew_row hA) h4) h1 h2 (fun b off e => ?_) (heap_alloc2_new w2 _ _) (heap_alloc2_old w2 _ _) (by omega) (by omega) (by omega) (by simp; omega) (fun k hk _ => (Below.heap_alloc _ _ _ (by simp; omega)).trans (Below.heap_alloc _ _ _ hk)) (((hB.drew.trans (h4.mono hB.size)).alloc (by omega) _).alloc (by simp; omega) _)
  have e1 := h3 _ e
  have e2 : b < w2.heap.size := by obtain ⟨_, _, e', hlt, _⟩ := h1.2 (by omega); rw [e] at e'; cases e'; exact hlt
  have e3 : W0.heap.size ≤ b := e1
  omega
theorem par2 {w W0 w2 : World} {a2 : Option Addr} {c2 m : Nat} {bs : Nat → Int} (ts : Nat → Tl) (hA : W0.heap[w.heap.size]? = some (.cells #[.slice none 0 0, .slice none 0 0] 25 (0, 0))) (hB : Below w.heap.size w W0) (H : Cloned W0.drew w2 a2 c2 bs) :
    ParW w ((w2.alloc (.cells #[.slice a2 16 c2, .slice (some ⟨w2.heap.size + 1, 0, none⟩) m m] 25)).alloc (.cells (l9rowC (m * 6) (tlsC (upTo (fun _ => tl0) 0))) 39)) w2.heap.size (w2.heap.size + 1) a2 c2 m bs (upTo ts 0) := by
  obtain ⟨h1, h2, h3, h4⟩ := H
  have hz : w.heap.size < W0.heap.size := (Array.getElem?_eq_some_iff.1 hA).1
  have hz2 : W0.heap.size ≤ w2.heap.size := h4.size
  refine parW_of ts (keep (drew_row hA) h4) h1 h2 (fun b off e => ?_) (heap_alloc2_old w2 _ _) (heap_alloc2_new w2 _ _) (by omega) (by omega) (by omega) (by simp; omega) (fun k hk _ => (Below.heap_alloc _ _ _ (by simp; omega)).trans (Below.heap_alloc _ _ _ hk)) (((hB.drew.trans (h4.mono hB.size)).alloc (by omega) _).alloc (by simp; omega) _)
  have e1 := h3 _ e
  have e2 : b < w2.heap.size := by obtain ⟨_, _, e', hlt, _⟩ := h1.2 (by omega); rw [e] at e'; cases e'; exact hlt
  have e3 : W0.heap.size ≤ b := e1
  omega
theorem par3 {w W0 w2 : World} {a2 : Option Addr} {c2 m : Nat} {bs : Nat → Int} (ts : Nat → Tl) (hA : W0.heap[w.heap.size]? = some (.cells #[.slice none 0 0, .slice none 0 0] 25 (0, 0))) (hB : Below w.heap.size w W0) (H : Cloned (W0.alloc (.cells (l9rowC (m * 6) (tlsC (upTo (fun _ => tl0) 0))) 39)).drew w2 a2 c2 bs) :
    ParW w (w2.alloc (.cells #[.slice a2 16 c2, .slice (some ⟨W0.heap.size, 0, none⟩) m m] 25)) w2.heap.size W0.heap.size a2 c2 m bs (upTo ts 0) := by
  obtain ⟨h1, h2, h3, h4⟩ := H
  have hz : w.heap.size < W0.heap.size := (Array.getElem?_eq_some_iff.1 hA).1
  have hz2 : W0.heap.size + 1 ≤ w2.heap.size := by have := h4.size; simp at this; exact this
  have hr : w2.heap[W0.heap.size]? = some (.cells (l9rowC (m * 6) (tlsC (upTo (fun _ => tl0) 0))) 39 (0, 0)) := keep (drew_row (heap_alloc_last W0 _)) h4
  refine parW_of ts (keep (drew_row ((Below.heap_alloc _ _ _ hz).trans hA)) h4) h1 h2 (fun b off e => ?_) (heap_alloc_last w2 _) ((Below.heap_alloc _ _ _ (by omega)).trans hr) (by omega) (by omega) (by omega) (by simp) (fun k hk _ => Below.heap_alloc _ _ _ hk) (((hB.alloc hB.size _).drew.trans (h4.mono (by simp; omega))).alloc (by omega) _)
  have e1 := h3 _ e
  have e2 : b < w2.heap.size := by obtain ⟨_, _, e', hlt, _⟩ := h1.2 (by omega); rw [e] at e'; cases e'; exact hlt
  have e3 : W0.heap.size + 1 ≤ b := by simp at e1; exact e1
  omega
theorem par4 {w W0 w2 : World} {a2 : Option Addr} {c2 m : Nat} {bs : Nat → Int} (ts : Nat → Tl) (hA : W0.heap[w.heap.size]? = some (.cells #[.slice none 0 0, .slice none 0 0] 25 (0, 0))) (hB : Below w.heap.size w W0) (H : Cloned ((W0.alloc (.cells (l9rowC (m * 6) (tlsC (upTo (fun _ => tl0) 0))) 39)).alloc (.cells #[.slice none 0 0, .slice none 0 0] 25)).drew w2 a2 c2 bs) :
    ParW w ((w2.setCell ⟨W0.heap.size + 1, 0, none⟩ (.slice a2 16 c2)).setCell ⟨W0.heap.size + 1, 1, none⟩ (.slice (some ⟨W0.heap.size, 0, none⟩) m m)) (W0.heap.size + 1) W0.heap.size a2 c2 m bs (upTo ts 0) := by
  obtain ⟨h1, h2, h3, h4⟩ := H
  have hz : w.heap.size < W0.heap.size := (Array.getElem?_eq_some_iff.1 hA).1
  have hz2 : W0.heap.size + 1 + 1 ≤ w2.heap.size := by have := h4.size; simp at this; exact this
  have hr : w2.heap[W0.heap.size]? = some (.cells (l9rowC (m * 6) (tlsC (upTo (fun _ => tl0) 0))) 39 (0, 0)) := keep (drew_row (heap_alloc2_old W0 _ _)) h4
  have hh : w2.heap[W0.heap.size + 1]? = some (.cells #[.slice none 0 0, .slice none 0 0] 25 (0, 0)) := keep (drew_row (heap_alloc2_new W0 _ _)) h4
  have ho : ∀ k, k ≠ W0.heap.size + 1 → ((w2.setCell ⟨W0.heap.size + 1, 0, none⟩ (.slice a2 16 c2)).setCell ⟨W0.heap.size + 1, 1, none⟩ (.slice (some ⟨W0.heap.size, 0, none⟩) m m)).heap[k]? = w2.heap[k]? := fun k hk => (heap_setCell_other _ _ _ _ (by exact hk)).trans (heap_setCell_other _ _ _ _ (by exact hk))
  refine parW_of ts (keep (drew_row ((Below.heap_alloc _ _ _ (by simp; omega)).trans ((Below.heap_alloc _ _ _ hz).trans hA))) h4) h1 h2 (fun b off e => ?_) (hl_set2 hh) ((ho _ (by omega)).trans hr) (by omega) (by omega) (by omega) (by simp [World.setCell]) (fun k _ hk => ho k hk) (((((hB.alloc hB.size _).alloc (by simp; omega) _).drew.trans (h4.mono (by simp; omega))).setCell (by show w.heap.size ≤ W0.heap.size + 1; omega) _).setCell (by show w.heap.size ≤ W0.heap.size + 1; omega) _)
  have e1 := h3 _ e
  have e3 : W0.heap.size + 1 + 1 ≤ b := by simp at e1; exact e1
  omega
theorem par5 {w W0 w2 : World} {a2 : Option Addr} {c2 m : Nat} {bs : Nat → Int} (ts : Nat → Tl) (hA : W0.heap[w.heap.size]? = some (.cells #[.slice none 0 0, .slice none 0 0] 25 (0, 0))) (hB : Below w.heap.size w W0) (H : Cloned (W0.alloc (.cells #[.slice none 0 0, .slice none 0 0] 25)).drew w2 a2 c2 bs) :
    ParW w (((w2.alloc (.cells (l9rowC (m * 6) (tlsC (upTo (fun _ => tl0) 0))) 39)).setCell ⟨W0.heap.size, 0, none⟩ (.slice a2 16 c2)).setCell ⟨W0.heap.size, 1, none⟩ (.slice (some ⟨w2.heap.size, 0, none⟩) m m)) W0.heap.size w2.heap.size a2 c2 m bs (upTo ts 0) := by
  obtain ⟨h1, h2, h3, h4⟩ := H
  have hz : w.heap.size < W0.heap.size := (Array.getElem?_eq_some_iff.1 hA).1
  have hz2 : W0.heap.size + 1 ≤ w2.heap.size := by have := h4.size; simp at this; exact this
  have hh : (w2.alloc (.cells (l9rowC (m * 6) (tlsC (upTo (fun _ => tl0) 0))) 39)).heap[W0.heap.size]? = some (.cells #[.slice none 0 0, .slice none 0 0] 25 (0, 0)) := (Below.heap_alloc _ _ _ (by omega)).trans (keep (drew_row (heap_alloc_last W0 _)) h4)
  have ho : ∀ k, k ≠ W0.heap.size → (((w2.alloc (.cells (l9rowC (m * 6) (tlsC (upTo (fun _ => tl0) 0))) 39)).setCell ⟨W0.heap.size, 0, none⟩ (.slice a2 16 c2)).setCell ⟨W0.heap.size, 1, none⟩ (.slice (some ⟨w2.heap.size, 0, none⟩) m m)).heap[k]? = (w2.alloc (.cells (l9rowC (m * 6) (tlsC (upTo (fun _ => tl0) 0))) 39)).heap[k]? := fun k hk => (heap_setCell_other _ _ _ _ (by exact hk)).trans (heap_setCell_other _ _ _ _ (by exact hk))
  refine parW_of ts (keep (drew_row ((Below.heap_alloc _ _ _ hz).trans hA)) h4) h1 h2 (fun b off e => ?_) (hl_set2 hh) ((ho _ (by omega)).trans (heap_alloc_last w2 _)) (by omega) (by omega) (by omega) (by simp [World.setCell]) (fun k hlt hk => (ho k hk).trans (Below.heap_alloc _ _ _ hlt)) (((((hB.alloc hB.size _).drew.trans (h4.mono (by simp; omega))).alloc (by omega) _).setCell (by show w.heap.size ≤ W0.heap.size; omega) _).setCell (by show w.heap.size ≤ W0.heap.size; omega) _)
  have e1 := h3 _ e
  have e2 : b < w2.heap.size := by obtain ⟨_, _, e', hlt, _⟩ := h1.2 (by omega); rw [e] at e'; cases e'; exact hlt
  have e3 : W0.heap.size + 1 ≤ b := by simp at e1; exact e1
  omega
theorem par6 {w W0 w2 : World} {a2 : Option Addr} {c2 m : Nat} {bs : Nat → Int} (ts : Nat → Tl) (hA : W0.heap[w.heap.size]? = some (.cells #[.slice none 0 0, .slice none 0 0] 25 (0, 0))) (hB : Below w.heap.size w W0) (H : Cloned ((W0.alloc (.cells #[.slice none 0 0, .slice none 0 0] 25)).alloc (.cells (l9rowC (m * 6) (tlsC (upTo (fun _ => tl0) 0))) 39)).drew w2 a2 c2 bs) :
    ParW w ((w2.setCell ⟨W0.heap.size, 0, none⟩ (.slice a2 16 c2)).setCell ⟨W0.heap.size, 1, none⟩ (.slice (some ⟨W0.heap.size + 1, 0, none⟩) m m)) W0.heap.size (W0.heap.size + 1) a2 c2 m bs (upTo ts 0) := by
  obtain ⟨h1, h2, h3, h4⟩ := H
  have hz : w.heap.size < W0.heap.size := (Array.getElem?_eq_some_iff.1 hA).1
  have hz2 : W0.heap.size + 1 + 1 ≤ w2.heap.size := by have := h4.size; simp at this; exact this
  have hr : w2.heap[W0.heap.size + 1]? = some (.cells (l9rowC (m * 6) (tlsC (upTo (fun _ => tl0) 0))) 39 (0, 0)) := keep (drew_row (heap_alloc2_new W0 _ _)) h4
  have hh : w2.heap[W0.heap.size]? = some (.cells #[.slice none 0 0, .slice none 0 0] 25 (0, 0)) := keep (drew_row (heap_alloc2_old W0 _ _)) h4
  have ho : ∀ k, k ≠ W0.heap.size → ((w2.setCell ⟨W0.heap.size, 0, none⟩ (.slice a2 16 c2)).setCell ⟨W0.heap.size, 1, none⟩ (.slice (some ⟨W0.heap.size + 1, 0, none⟩) m m)).heap[k]? = w2.heap[k]? := fun k hk => (heap_setCell_other _ _ _ _ (by exact hk)).trans (heap_setCell_other _ _ _ _ (by exact hk))
  refine parW_of ts (keep (drew_row ((Below.heap_alloc _ _ _ (by simp; omega)).trans ((Below.heap_alloc _ _ _ hz).trans hA))) h4) h1 h2 (fun b off e => ?_) (hl_set2 hh) ((ho _ (by omega)).trans hr) (by omega) (by omega) (by omega) (by simp [World.setCell]) (fun k _ hk => ho k hk) (((((hB.alloc hB.size _).alloc (by simp; omega) _).drew.trans (h4.mono (by simp; omega))).setCell (by show w.heap.size ≤ W0.heap.size; omega) _).setCell (by show w.heap.size ≤ W0.heap.size; omega) _)
  have e1 := h3 _ e
  have e3 : W0.heap.size + 1 + 1 ≤ b := by simp at e1; exact e1
  omega
set_option maxHeartbeats 2000000 in
theorem lparse_long (b off m c : Nat) (bs : Nat → Int) (w : World) (hr : ByteRow w (some ⟨b, off, none⟩) (17 + m * 23) c bs) (hbs : ∀ i, i < 17 + m * 23 → 0 ≤ bs i ∧ bs i ≤ 255) (hm : bs 16 = (m : Int)) (hm2 : m ≤ 255) :
    Calls Try.prog 10 #[.slice (some ⟨b, off, none⟩) (17 + m * 23) c] w fun e w' => LParse (17 + m * 23) bs e w' ∧ Below w.heap.size w w' := by
  obtain ⟨W0, HW⟩ : ∃ W0, Hid (W0 = w.alloc (.cells #[.slice none 0 0, .slice none 0 0] 25)) := ⟨_, rfl⟩
  have HA : Hid (W0.heap[w.heap.size]? = some (.cells #[.slice none 0 0, .slice none 0 0] 25 (0, 0))) := by rw [HW.out]; exact heap_alloc_last w _
  have HB : Hid (Below w.heap.size w W0) := by rw [HW.out]; exact below_alloc1 _ _
  have hcap : 17 + m * 23 ≤ c := hr.1
  have HR : Hid (ByteRow w (some ⟨b, off, none⟩) (17 + m * 23) c bs) := hr
  have HBS : Hid (∀ i, i < 17 + m * 23 → 0 ≤ bs i ∧ bs i ≤ 255) := hbs
  have hbw : b < w.heap.size := by obtain ⟨_, _, e, h, _⟩ := hr.2 (by omega); cases e; exact h
  have HS16 : Hid (∀ W, Below w.heap.size w W → W.cell? ⟨b, off + 16, none⟩ = some (.int .u8 (m : Int))) := fun W hW => by
    obtain ⟨_, _, e, _, hc⟩ := HR.out.2 (by omega)
    cases e
    rw [← hm]; exact (hW.cell (by exact hbw)).trans (hc 16 (by omega))
  have c16 : (w.alloc (.cells #[.slice none 0 0, .slice none 0 0] 25)).cell? ⟨b, off + 16, none⟩ = some (.int .u8 (m : Int)) := HS16.out _ (below_alloc1 _ _)
  have hne : (((17 + m * 23 : Nat) : Int) != 17 + (m : Int) * 23) = false := by simp
  have hmk : ∀ W : World, (Instr.makeSlice 23 (.int .i64 (m : Int)) (.int .i64 (m : Int))).run Try.prog W = .ok (.slice (some ⟨W.heap.size, 0, none⟩) m m) (W.alloc (.cells (l9rowC (m * 6) (tlsC (upTo (fun _ => tl0) 0))) 39)) := fun W => make_tales W m hm2
  have HCL : Hid (∀ W, Below w.heap.size w W → Calls Try.prog 19 #[.slice (some ⟨b, off, none⟩) 16 c] W fun e w' => ∃ a1 c1, e = .returned (.slice a1 16 c1) ∧ Hid (Cloned W w' a1 c1 bs) ∧ w'.cell? ⟨b, off + 16, none⟩ = some (.int .u8 (m : Int))) := fun W hW => by
    refine (nclone_any (some ⟨b, off, none⟩) 16 c bs W ((HR.out.below hW).prefix (by omega)) (fun e => by cases e) (by omega)).mono ?_
    rintro e w' ⟨a1, c1, rfl, h1, h2, h3, h4⟩
    exact ⟨a1, c1, rfl, ⟨h1, h2, h3, h4⟩, HS16.out _ (hW.trans (h4.mono hW.size))⟩
  have vm : IntKind.i64.wrap (m : Int) = (m : Int) := wraps_i64 _ (by omega) (by omega)
  have i17 : (17 : Int) ≤ ((17 + m * 23 : Nat) : Int) := by omega
  have i16 : (16 : Int) ≤ (c : Int) := by omega
  have hne2 : b ≠ w.heap.size := by omega
  clear hr hbs
  go_enter Try.func10, Try.ntmps10
  go_wp2_with (go_at_call 15; refine (lsizeOf_any m _ (by omega)).mono ?_; rintro e w1 ⟨rfl, rfl⟩)
  rw [← HW.out] at c16 ⊢
  go_cut [4] (fun s4 wx => ∃ gh gt da dc, s4 = .pointer (some ⟨gh, 0, none⟩) ∧ Hid (ParW w wx gh gt da dc m bs (upTo (Hl.talesF bs) 0)))
  case first =>
    have HB0 : Hid (Below w.heap.size w W0.drew) := HB.out.drew
    have HB1 : Hid (∀ o, Below w.heap.size w (W0.alloc o).drew) := fun o => (HB.out.alloc HB.out.size _).drew
    have HB2 : Hid (∀ o o', Below w.heap.size w ((W0.alloc o).alloc o').drew) := fun o o' => ((HB.out.alloc HB.out.size _).alloc (by have := HB.out.size; simp; omega) _).drew
    have hbz : b < W0.heap.size := Nat.lt_of_lt_of_le hbw HB.out.size
    have n0 : b ≠ W0.heap.size := by omega
    have n1 : b ≠ W0.heap.size + 1 := by omega
    have n2 : W0.heap.size ≠ b := by omega
    have n3 : W0.heap.size + 1 ≠ b := by omega
    go_region_held3 (fun W => W.cell? ⟨b, off + 16, none⟩ = some (.int .u8 (m : Int)))
      (go_keep)
      (first | (go_at_call 19; with_reducible refine (HCL.out W0.drew HB0.out).mono ?_; rintro e w2 ⟨a2, c2, rfl, H2, k2⟩) | (go_at_call 19; with_reducible refine (HCL.out (W0.alloc (.cells #[.slice none 0 0, .slice none 0 0] 25)).drew (HB1.out _)).mono ?_; rintro e w2 ⟨a2, c2, rfl, H2, k2⟩; obtain ⟨q0, q1⟩ := hl_cells (keep (drew_row (heap_alloc_last W0 (.cells #[.slice none 0 0, .slice none 0 0] 25))) H2.out.low); obtain ⟨r0, r1⟩ := hl_free (keep (drew_row (heap_alloc_last W0 (.cells #[.slice none 0 0, .slice none 0 0] 25))) H2.out.low); obtain ⟨q2, q3, r2, r3⟩ := hl_more (keep (drew_row (heap_alloc_last W0 (.cells #[.slice none 0 0, .slice none 0 0] 25))) H2.out.low)) | (go_at_call 19; with_reducible refine (HCL.out (W0.alloc (.cells (l9rowC (m * 6) (tlsC (upTo (fun _ => tl0) 0))) 39)).drew (HB1.out _)).mono ?_; rintro e w2 ⟨a2, c2, rfl, H2, k2⟩) | (go_at_call 19; with_reducible refine (HCL.out ((W0.alloc (.cells #[.slice none 0 0, .slice none 0 0] 25)).alloc (.cells (l9rowC (m * 6) (tlsC (upTo (fun _ => tl0) 0))) 39)).drew (HB2.out _ _)).mono ?_; rintro e w2 ⟨a2, c2, rfl, H2, k2⟩; obtain ⟨q0, q1⟩ := hl_cells (keep (drew_row (heap_alloc2_old W0 (.cells #[.slice none 0 0, .slice none 0 0] 25) (.cells (l9rowC (m * 6) (tlsC (upTo (fun _ => tl0) 0))) 39))) H2.out.low); obtain ⟨r0, r1⟩ := hl_free (keep (drew_row (heap_alloc2_old W0 (.cells #[.slice none 0 0, .slice none 0 0] 25) (.cells (l9rowC (m * 6) (tlsC (upTo (fun _ => tl0) 0))) 39))) H2.out.low); obtain ⟨q2, q3, r2, r3⟩ := hl_more (keep (drew_row (heap_alloc2_old W0 (.cells #[.slice none 0 0, .slice none 0 0] 25) (.cells (l9rowC (m * 6) (tlsC (upTo (fun _ => tl0) 0))) 39))) H2.out.low)) | (go_at_call 19; with_reducible refine (HCL.out ((W0.alloc (.cells (l9rowC (m * 6) (tlsC (upTo (fun _ => tl0) 0))) 39)).alloc (.cells #[.slice none 0 0, .slice none 0 0] 25)).drew (HB2.out _ _)).mono ?_; rintro e w2 ⟨a2, c2, rfl, H2, k2⟩; obtain ⟨q0, q1⟩ := hl_cells (keep (drew_row (heap_alloc2_new W0 (.cells (l9rowC (m * 6) (tlsC (upTo (fun _ => tl0) 0))) 39) (.cells #[.slice none 0 0, .slice none 0 0] 25))) H2.out.low); obtain ⟨r0, r1⟩ := hl_free (keep (drew_row (heap_alloc2_new W0 (.cells (l9rowC (m * 6) (tlsC (upTo (fun _ => tl0) 0))) 39) (.cells #[.slice none 0 0, .slice none 0 0] 25))) H2.out.low); obtain ⟨q2, q3, r2, r3⟩ := hl_more (keep (drew_row (heap_alloc2_new W0 (.cells (l9rowC (m * 6) (tlsC (upTo (fun _ => tl0) 0))) 39) (.cells #[.slice none 0 0, .slice none 0 0] 25))) H2.out.low)))
    all_goals go_wp2_with fail
    all_goals go_meet
    · exact ⟨_, _, _, _, rfl, par1 _ HA.out HB.out H2.out⟩
    · exact ⟨_, _, _, _, rfl, par2 _ HA.out HB.out H2.out⟩
    · exact ⟨_, _, _, _, rfl, par3 _ HA.out HB.out H2.out⟩
    · exact ⟨_, _, _, _, rfl, par4 _ HA.out HB.out H2.out⟩
    · exact ⟨_, _, _, _, rfl, par5 _ HA.out HB.out H2.out⟩
    · exact ⟨_, _, _, _, rfl, par6 _ HA.out HB.out H2.out⟩
  case rest =>
  obtain ⟨gh, gt, da, dc, rfl, H2⟩ := hcut
  obtain ⟨c0, c1⟩ := hl_cells H2.out.hel
  clear HA HB HW c16 hne hmk HCL i17 i16 hne2 vm HS16
  go_wp2_with fail
  go_loopw [33] (fun i wr => ∃ k : Nat, k ≤ m ∧ i = .int .i64 k ∧ Hid (ParW w wr gh gt da dc m bs (upTo (Hl.talesF bs) k))) (fun i _ => m - (intOf i).toNat)
  case atStart => exact ⟨0, by omega, rfl, H2⟩
  case round =>
    obtain ⟨k, hk, rfl, hX⟩ := hrel
    by_cases hlt : k < m
    · have HTA : Hid (∀ W : World, Calls Try.prog 17 #[.slice (some ⟨b, off, none⟩) (17 + m * 23) c, .int .i64 (k : Int)] W fun e w' => e = .returned (.slice (some ⟨b, off + (17 + k * 23), none⟩) 23 (c - (17 + k * 23))) ∧ w' = W) := fun W => ltaleAt_any b off (17 + m * 23) c k W (by omega) hcap (by omega)
      have HTO : Hid (Calls Try.prog 20 #[.slice (some ⟨b, off + (17 + k * 23), none⟩) 23 (c - (17 + k * 23))] wr.drew fun e w' => e = .returned (.agg #[.int .i64 (Hl.talesF bs k).tree, .int .u64 (Hl.talesF bs k).root, .int .i64 (Hl.talesF bs k).cost, .int .u64 (Hl.talesF bs k).bridge, .int .i64 (Hl.talesF bs k).port, .int .i64 (Hl.talesF bs k).age]) ∧ Hid (ParW w w' gh gt da dc m bs (upTo (Hl.talesF bs) k))) := by
        have hW := hX.out.low.drew
        refine (ltaleOf_any b (off + (17 + k * 23)) (c - (17 + k * 23)) (fun j => bs (17 + k * 23 + j)) wr.drew ?_ (fun i hi => HBS.out _ (by omega))).mono ?_
        · refine ⟨by omega, fun _ => ⟨b, off + (17 + k * 23), rfl, Nat.lt_of_lt_of_le hbw hW.size, fun i hi => ?_⟩⟩
          obtain ⟨_, _, e, _, hc⟩ := HR.out.2 (by omega)
          cases e
          rw [Nat.add_assoc]
          exact (hW.cell (by exact hbw)).trans (hc (17 + k * 23 + i) (by omega))
        · rintro e w' ⟨rfl, hb⟩
          exact ⟨rfl, hX.out.drew.grow hb⟩
      obtain ⟨c0, c1⟩ := hl_cells hX.out.hel
      have hng : gh ≠ gt := hX.out.ne
      have hng2 : gt ≠ gh := fun e => hng e.symm
      have HPP : Hid (∀ W, ParW w W gh gt da dc m bs (upTo (Hl.talesF bs) k) → ParW w ((((((W.setCell ⟨gt, k * 6, none⟩ (.int .i64 (Hl.talesF bs k).tree)).setCell ⟨gt, k * 6 + 1, none⟩ (.int .u64 (Hl.talesF bs k).root)).setCell ⟨gt, k * 6 + 2, none⟩ (.int .i64 (Hl.talesF bs k).cost)).setCell ⟨gt, k * 6 + 3, none⟩ (.int .u64 (Hl.talesF bs k).bridge)).setCell ⟨gt, k * 6 + 4, none⟩ (.int .i64 (Hl.talesF bs k).port)).setCell ⟨gt, k * 6 + 5, none⟩ (.int .i64 (Hl.talesF bs k).age)) gh gt da dc m bs (upTo (Hl.talesF bs) (k + 1))) := fun W h => h.put hlt
      have ik : (0 : Int) ≤ (k : Int) := by omega
      have im : (k : Int) < (m : Int) := by omega
      clear hX H2 HR HBS
      generalize (Hl.talesF bs k).tree = tr at *
      generalize (Hl.talesF bs k).root = ro at *
      generalize (Hl.talesF bs k).cost = co at *
      generalize (Hl.talesF bs k).bridge = br at *
      generalize (Hl.talesF bs k).port = po at *
      generalize (Hl.talesF bs k).age = ag at *
      go_wp2_with fail
      go_region_held3 (fun W => W.cell? ⟨gh, 1, none⟩ = some (.slice (some ⟨gt, 0, none⟩) m m))
        (go_keep)
        (first | (go_at_call 17; refine (HTA.out _).mono ?_; rintro e w4 ⟨rfl, rfl⟩) | (go_at_call 20; refine HTO.out.mono ?_; rintro e w5 ⟨rfl, H5⟩; have k1 := (hl_cells H5.out.hel).2; obtain ⟨t0, t1, t2, t3, t4, t5⟩ := rowT_cells H5.out.row hlt; obtain ⟨z0, z1, z2, z3, z4, z5⟩ := rowT_free H5.out.row k))
      all_goals go_wp2_with fail
      all_goals exact ⟨⟨k + 1, by omega, by go_num, HPP.out _ H5.out⟩, by simp [intOf]; omega⟩
    · obtain rfl : k = m := by omega
      obtain ⟨c0, c1⟩ := hl_cells hX.out.hel
      have HTR : Hid (TaleRow wr (some ⟨gt, 0, none⟩) k k (Hl.talesF bs)) := (row_tales hX.out.row (Nat.le_refl _) (Nat.le_refl _)).congr (fun i hi => if_pos hi)
      have HWR : Hid (Calls Try.prog 6 #[.agg #[.slice da 16 dc, .slice (some ⟨gt, 0, none⟩) k k]] wr fun e w' => e = .returned (.int .i64 (Hl.wrongTo (Hl.talesF bs) k)) ∧ Hid (ParW w w' gh gt da dc k bs (upTo (Hl.talesF bs) k)) ∧ Hid (TaleRow w' (some ⟨gt, 0, none⟩) k k (Hl.talesF bs))) := by
        refine (lwrong_any da 16 dc (some ⟨gt, 0, none⟩) k k (Hl.talesF bs) wr (by omega) HTR.out).mono ?_
        rintro e w' ⟨rfl, hb⟩
        exact ⟨rfl, hX.out.grow hb, HTR.out.below hb⟩
      have HPO : Hid (∀ e w', (Hl.wrongTo (Hl.talesF bs) k ≠ 0 ∧ e = .returned (.tuple #[.agg #[.slice none 0 0, .slice none 0 0], .int .i64 (Hl.wrongTo (Hl.talesF bs) k)])) ∨
     (Hl.wrongTo (Hl.talesF bs) k = 0 ∧ ∃ da dc ta tc, e = .returned (.tuple #[.agg #[.slice da 16 dc, .slice ta k tc], .int .i64 0]) ∧ ByteRow w' da 16 dc bs ∧ TaleRow w' ta k tc (Hl.talesF bs) ∧ NilOk da 16 dc ∧ NilOk ta k tc) → LParse (17 + k * 23) bs e w') := fun e w' h => Or.inr ⟨k, rfl, hm, h⟩
      clear hX H2 HTR
      generalize Hl.wrongTo (Hl.talesF bs) k = E at *
      go_wp2_with fail
      refine HWR.out.mono ?_
      rintro e w5 ⟨rfl, H5, HT5⟩
      obtain ⟨d0, d1⟩ := hl_cells H5.out.hel
      obtain ⟨e0, e1⟩ := hl_cells H5.out.res
      obtain ⟨z0, z1⟩ := hl_free H5.out.res
      by_cases hE : E = 0
      · subst hE
        go_wp2_with fail
        exact bodyPost_ret (v := .tuple #[.agg #[.slice da 16 dc, .slice (some ⟨gt, 0, none⟩) k k], .int .i64 0]) (results_row_tmp (p := 2) (u := 3) (ty := 25) Try.results10 _ _ w.heap.size 25 #[.slice da 16 dc, .slice (some ⟨gt, 0, none⟩) k k] (0, 0) _ rfl (hl_set2 H5.out.res) Try.underlying25 rfl (by rw [sizeHl]; rfl)) rfl ⟨HPO.out _ _ (Or.inr ⟨by first | rfl | trivial, da, dc, some ⟨gt, 0, none⟩, k, rfl, H5.out.dig.other (fun b off e => set2_other (Nat.ne_of_gt (H5.out.new b off e).1)) (by simp [World.setCell]), HT5.out.other (fun b off e _ => by cases e; exact set2_other (Nat.ne_of_gt H5.out.gt1)) (by simp [World.setCell]), H5.out.nil, fun e => by cases e⟩), (H5.out.low.setCell (Nat.le_refl _) _).setCell (Nat.le_refl _) _⟩
      · have hE1 : (E != 0) = true := by simp [hE]
        go_wp2_with fail
        exact bodyPost_ret (v := .tuple #[.agg #[.slice none 0 0, .slice none 0 0], .int .i64 E]) (results_row_tmp (p := 2) (u := 3) (ty := 25) Try.results10 _ _ w.heap.size 25 #[.slice none 0 0, .slice none 0 0] (0, 0) _ rfl (hl_set2 H5.out.res) Try.underlying25 rfl (by rw [sizeHl]; rfl)) rfl ⟨HPO.out _ _ (Or.inl ⟨hE, rfl⟩), (H5.out.low.setCell (Nat.le_refl _) _).setCell (Nat.le_refl _) _⟩
/-- PARSE, of whatever bytes. -/
theorem lparse_any (ao : Option Addr) (n c : Nat) (bs : Nat → Int) (w : World) (hr : ByteRow w ao n c bs) (hbs : ∀ i, i < n → 0 ≤ bs i ∧ bs i ≤ 255) :
    Calls Try.prog 10 #[.slice ao n c] w fun e w' => LParse n bs e w' ∧ Below w.heap.size w w' := by
  by_cases hs : 17 ≤ n ∧ (n : Int) = 17 + bs 16 * 23
  · obtain ⟨m, hm⟩ := Int.eq_ofNat_of_zero_le (hbs 16 (by omega)).1
    have hm2 : m ≤ 255 := by have := (hbs 16 (by omega)).2; omega
    have hn : n = 17 + m * 23 := by have := hs.2; rw [hm] at this; omega
    subst hn
    obtain ⟨b, off, rfl, _, _⟩ := hr.2 (by omega)
    exact lparse_long b off m c bs w hr hbs hm hm2
  · refine (lparse_short ao n c bs w hr hbs hs).mono ?_
    rintro e w' ⟨h1, h2⟩
    exact ⟨Or.inl ⟨hs, h1⟩, h2⟩
end Go.Proofs.Ytmjgmngdahhbkaa
