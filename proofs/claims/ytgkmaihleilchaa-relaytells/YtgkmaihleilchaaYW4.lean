/- walks: relay's sender -/
import Derived.Test.YtgkmaihleilchaaYW3
import Derived.Test.YtgkmaihleilchaaW1
namespace Go.Proofs.Ytgkmaihleilchaa
open Go.RowKit
open Bk (E at')
open Rl (G gat F)

/-- What the sender holds: the frame with a tag, the way, the frame without one, the frame that came. -/
structure Snd (W : World) (f : F) (way : Int) (Bt Bw Bp Bf : Nat) : Prop where
  t : W.heap[Bt]? = some (.cells #[.int .u64 f.dst, .int .u64 f.src, .bool true, .int .i64 (if f.tagged = true then f.prio else 0), .bool (f.tagged && f.drop), .int .i64 way, .int .i64 f.type, .slice none 0 0] 30 (0, 0))
  w : W.heap[Bw]? = some (.cells #[.int .i64 way] 3 (0, 0))
  p : W.heap[Bp]? = some (.cells #[.int .u64 f.dst, .int .u64 f.src, .bool false, .int .i64 0, .bool false, .int .i64 0, .int .i64 f.type, .slice none 0 0] 30 (0, 0))
  f : W.heap[Bf]? = some (.cells #[.int .u64 f.dst, .int .u64 f.src, .bool f.tagged, .int .i64 f.prio, .bool f.drop, .int .i64 f.vid, .int .i64 f.type, .slice f.ao f.n f.cap] 30 (0, 0))
theorem Snd.below {W W' : World} {f : F} {way : Int} {Bt Bw Bp Bf : Nat} (h : Snd W f way Bt Bw Bp Bf) (hb : Below W.heap.size W W') : Snd W' f way Bt Bw Bp Bf := ⟨keep h.t hb, keep h.w hb, keep h.p hb, keep h.f hb⟩
theorem alloc4y (w : World) (A B C D : Obj) : ((((w.alloc A).alloc B).alloc C).alloc D).heap[w.heap.size]? = some A ∧ ((((w.alloc A).alloc B).alloc C).alloc D).heap[w.heap.size + 1]? = some B ∧ ((((w.alloc A).alloc B).alloc C).alloc D).heap[w.heap.size + 1 + 1]? = some C ∧ ((((w.alloc A).alloc B).alloc C).alloc D).heap[w.heap.size + 1 + 1 + 1]? = some D ∧ Below w.heap.size w ((((w.alloc A).alloc B).alloc C).alloc D) := by
  obtain ⟨h1, h2, h3, h4⟩ := alloc3 w A B C
  have hb := below_alloc1 (((w.alloc A).alloc B).alloc C) D
  refine ⟨keep h1 hb, keep h2 hb, keep h3 hb, ?_, h4.trans (hb.mono h4.size)⟩
  have := heap_alloc_last (((w.alloc A).alloc B).alloc C) D
  simpa using this
/-- Two cells of a block are stored, in whichever order. -/
theorem fr_set2 {w : World} {g : Nat} {A : Array Value} {ty : TypeId} (h : w.heap[g]? = some (.cells A ty (0, 0))) (i j : Nat) (hij : i ≠ j) (x y : Value) :
    ((w.setCell ⟨g, i, none⟩ x).setCell ⟨g, j, none⟩ y).heap[g]? = some (.cells ((A.setIfInBounds i x).setIfInBounds j y) ty (0, 0)) ∧ ((w.setCell ⟨g, j, none⟩ y).setCell ⟨g, i, none⟩ x).heap[g]? = some (.cells ((A.setIfInBounds i x).setIfInBounds j y) ty (0, 0)) := by
  have h1 : (w.setCell ⟨g, i, none⟩ x).heap[g]? = some (.cells (A.setIfInBounds i x) ty (0, 0)) := heap_setCell_same _ _ _ _ _ _ h
  have h2 : (w.setCell ⟨g, j, none⟩ y).heap[g]? = some (.cells (A.setIfInBounds j y) ty (0, 0)) := heap_setCell_same _ _ _ _ _ _ h
  refine ⟨heap_setCell_same _ _ _ _ _ _ h1, ?_⟩
  rw [heap_setCell_same _ _ _ _ _ _ h2, Array.setIfInBounds_comm _ _ hij]
set_option maxHeartbeats 1000000 in
theorem sender_any (f : F) (way : Int) (w : World) :
    Calls Try.prog 38 #[.agg #[.int .u64 f.dst, .int .u64 f.src, .bool f.tagged, .int .i64 f.prio, .bool f.drop, .int .i64 f.vid, .int .i64 f.type, .slice f.ao f.n f.cap], .int .i64 way] w fun e w' => e = .returned (.func (.func 61) #[] #[.pointer (some ⟨w.heap.size + 1 + 1 + 1, 0, none⟩), .pointer (some ⟨w.heap.size + 1, 0, none⟩), .pointer (some ⟨w.heap.size + 1 + 1, 0, none⟩), .pointer (some ⟨w.heap.size, 0, none⟩)]) ∧ Snd w' f way (w.heap.size + 1 + 1 + 1) (w.heap.size + 1) (w.heap.size + 1 + 1) w.heap.size ∧ Below w.heap.size w w' := by
  have H4 : Hid (∀ A B C D : Obj, _) := alloc4y w
  by_cases ht : f.tagged = true
  · have HS : Hid (∀ W : World, W.heap[w.heap.size + 1 + 1 + 1]? = some (.cells #[.int .u64 f.dst, .int .u64 f.src, .bool true, .int .i64 f.prio, .bool f.drop, .int .i64 way, .int .i64 f.type, .slice none 0 0] 30 (0, 0)) → W.heap[w.heap.size + 1]? = some (.cells #[.int .i64 way] 3 (0, 0)) → W.heap[w.heap.size + 1 + 1]? = some (.cells #[.int .u64 f.dst, .int .u64 f.src, .bool false, .int .i64 0, .bool false, .int .i64 0, .int .i64 f.type, .slice none 0 0] 30 (0, 0)) → W.heap[w.heap.size]? = some (.cells #[.int .u64 f.dst, .int .u64 f.src, .bool f.tagged, .int .i64 f.prio, .bool f.drop, .int .i64 f.vid, .int .i64 f.type, .slice f.ao f.n f.cap] 30 (0, 0)) → Snd W f way (w.heap.size + 1 + 1 + 1) (w.heap.size + 1) (w.heap.size + 1 + 1) w.heap.size) := fun W h1 h2 h3 h4 => ⟨by rw [if_pos ht, ht, Bool.true_and]; exact h1, h2, h3, h4⟩
    go_enter Try.func38, Try.ntmps38
    go_wp2_with fail
    go_region
    all_goals go_wp2_with fail
    all_goals go_region
    all_goals go_wp2_with fail
    all_goals go_ret
    all_goals obtain ⟨h1, h2, h3, h4, h5⟩ := H4.out _ _ _ _
    all_goals exact ⟨rfl, HS.out _ (by first | exact h4 | (rw [ht] at h4; exact h4)) h2 h3 (by first | exact h1 | (rw [ht]; exact h1)), by first | exact h5.drew.drew | exact below_drewN h5 _⟩
  · have hf : f.tagged = false := by simpa using ht
    have HS : Hid (∀ W : World, W.heap[w.heap.size + 1 + 1 + 1]? = some (.cells #[.int .u64 f.dst, .int .u64 f.src, .bool true, .int .i64 0, .bool false, .int .i64 way, .int .i64 f.type, .slice none 0 0] 30 (0, 0)) → W.heap[w.heap.size + 1]? = some (.cells #[.int .i64 way] 3 (0, 0)) → W.heap[w.heap.size + 1 + 1]? = some (.cells #[.int .u64 f.dst, .int .u64 f.src, .bool false, .int .i64 0, .bool false, .int .i64 0, .int .i64 f.type, .slice none 0 0] 30 (0, 0)) → W.heap[w.heap.size]? = some (.cells #[.int .u64 f.dst, .int .u64 f.src, .bool f.tagged, .int .i64 f.prio, .bool f.drop, .int .i64 f.vid, .int .i64 f.type, .slice f.ao f.n f.cap] 30 (0, 0)) → Snd W f way (w.heap.size + 1 + 1 + 1) (w.heap.size + 1) (w.heap.size + 1 + 1) w.heap.size) := fun W h1 h2 h3 h4 => ⟨by rw [if_neg ht, hf, Bool.false_and]; exact h1, h2, h3, h4⟩
    clear ht
    go_enter Try.func38, Try.ntmps38
    go_wp2_with fail
    go_region
    all_goals go_wp2_with fail
    all_goals go_ret
    all_goals obtain ⟨h1, h2, h3, h4, h5⟩ := H4.out _ _ _ _
    all_goals exact ⟨rfl, HS.out _ h4 h2 h3 (by first | exact h1 | (rw [hf]; exact h1)), by first | exact h5.drew | exact below_drewN h5 _⟩
end Go.Proofs.Ytgkmaihleilchaa
