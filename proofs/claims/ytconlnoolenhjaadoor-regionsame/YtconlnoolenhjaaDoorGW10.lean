/- walks: hedgelaw3.RegionSame -/
import Derived.Test.YtconlnoolenhjaaDoorGW7
import Derived.Test.YtconlnoolenhjaaDoorGW8
import Derived.Test.YtconlnoolenhjaaDoorDR4
namespace Go.Proofs.YtconlnoolenhjaaDoor
open Go.RowKit

/-- A region's digest, from a world that lies behind w. -/
theorem gdigest_from (r : Rg.Reg) (w : World) (hk : r.ok) (ha : r.at' w) (ht : Tabs w) (hb : 2 ≤ w.heap.size) : ∀ W, Below w.heap.size w W →
    Calls Tryd.prog 11 #[.agg #[.string r.s, .int .i64 r.rev, .slice r.ao r.n r.cap]] W fun e w' => ∃ g, e = .returned (.slice (some ⟨g, 0, none⟩) 16 16) ∧ Hid (ByteRow w' (some ⟨g, 0, none⟩) 16 16 (Md.dg (Rg.dig r.vs r.ts r.n))) ∧ Hid (Below W.heap.size W w') ∧ Hid (Below w.heap.size w w') := by
  intro W hW
  refine (gdigest_any r.s r.rev r.ao r.n r.cap r.vs r.ts W hk.2.2 (ha.below hW) (ht.below hW hb)).mono ?_
  rintro e w' ⟨g, rfl, _, h1, h2⟩
  exact ⟨g, rfl, sumRow h1, h2, hW.trans (h2.mono hW.size)⟩
theorem gtree_from (r : Rg.Reg) (w : World) (hk : r.ok) (ha : r.at' w) (vid : Int) : ∀ W, Below w.heap.size w W →
    Calls Tryd.prog 8 #[.agg #[.string r.s, .int .i64 r.rev, .slice r.ao r.n r.cap], .int .i64 vid] W fun e w' => e = .returned (.int .i64 (Rg.tree r.vs r.ts vid r.n)) ∧ Hid (Below W.heap.size W w') ∧ Hid (Below w.heap.size w w') := by
  intro W hW
  refine (gtree_any r.s r.rev r.ao r.n r.cap r.vs r.ts vid W hk.2.2 (ha.below hW)).mono ?_
  rintro e w' ⟨rfl, h2⟩
  exact ⟨rfl, h2, hW.trans (h2.mono hW.size)⟩
namespace Rg
/-- Whether ways 1 to j go over the same trees. -/
def alikeTo (a b : Reg) : Nat → Bool
  | 0 => true
  | j + 1 => alikeTo a b j && decide (tree a.vs a.ts ((j : Int) + 1) a.n = tree b.vs b.ts ((j : Int) + 1) b.n)
theorem alikeTo_all (a b : Reg) : ∀ j, alikeTo a b j = true → ∀ k : Nat, 1 ≤ k → k ≤ j → tree a.vs a.ts (k : Int) a.n = tree b.vs b.ts (k : Int) b.n
  | 0, _, k, h1, h2 => by omega
  | j + 1, h, k, h1, h2 => by
    simp only [alikeTo, Bool.and_eq_true, decide_eq_true_eq] at h
    by_cases e : k = j + 1
    · subst e
      have := h.2
      rw [show ((j : Int) + 1) = ((j + 1 : Nat) : Int) by omega] at this
      exact this
    · exact alikeTo_all a b j h.1 k h1 (by omega)
/-- Whether the digests are the same. -/
def digSame (a b : Reg) : Bool := decide (strOf 16 (Md.dg (dig a.vs a.ts a.n)) = strOf 16 (Md.dg (dig b.vs b.ts b.n)))
theorem digSame_of {a b : Reg} (ka : a.ok) (kb : b.ok) (h : alikeTo a b 4094 = true) : digSame a b = true := by
  unfold digSame dig
  rw [pairs_same ka.2.2 kb.2.2 (fun k h1 h2 => alikeTo_all a b 4094 h k h1 h2)]
  simp
theorem same_iff {a b : Reg} (ka : a.ok) (kb : b.ok) : decide (strOf 50 a.id = strOf 50 b.id) = (decide (a.s = b.s) && decide (a.rev = b.rev) && digSame a b) := by
  have e1 := strOf_inj 50 50 a.id b.id (fun i _ => ident_range ka.2.1 (dg_range _) i) (fun i _ => ident_range kb.2.1 (dg_range _) i)
  have e2 := strOf_inj 16 16 (Md.dg (dig a.vs a.ts a.n)) (Md.dg (dig b.vs b.ts b.n)) (fun i _ => dg_range _ i) (fun i _ => dg_range _ i)
  have e3 := ident_same (ra := a.rev) (rb := b.rev) (da := Md.dg (dig a.vs a.ts a.n)) (db := Md.dg (dig b.vs b.ts b.n)) ka.1 kb.1
  rw [Bool.eq_iff_iff]
  simp only [Bool.and_eq_true, decide_eq_true_eq, digSame]
  rw [e1, e2]
  simp only [true_and]
  constructor
  · intro h
    obtain ⟨h1, h2, h3⟩ := e3.1 h
    exact ⟨⟨h1, h2⟩, h3⟩
  · rintro ⟨⟨h1, h2⟩, h3⟩
    exact e3.2 ⟨h1, h2, h3⟩
end Rg
/-- What holds of two regions in their boxes, behind W0. -/
structure Two3 (a b : Rg.Reg) (w W0 : World) (W : World) : Prop where
  c0 : W.cell? ⟨w.heap.size, 0, none⟩ = some (.string a.s)
  c1 : W.cell? ⟨w.heap.size, 1, none⟩ = some (.int .i64 a.rev)
  c2 : W.cell? ⟨w.heap.size, 2, none⟩ = some (.slice a.ao a.n a.cap)
  e0 : W.cell? ⟨w.heap.size + 1, 0, none⟩ = some (.string b.s)
  e1 : W.cell? ⟨w.heap.size + 1, 1, none⟩ = some (.int .i64 b.rev)
  e2 : W.cell? ⟨w.heap.size + 1, 2, none⟩ = some (.slice b.ao b.n b.cap)
  wa : a.at' W
  wb : b.at' W
  tabs : Tabs W
  top : 2 ≤ W.heap.size
  low : Below w.heap.size w W
theorem two3_of {a b : Rg.Reg} {w W0 W : World} (h0 : W0 = (w.alloc (.cells #[.string a.s, .int .i64 a.rev, .slice a.ao a.n a.cap] 24)).alloc (.cells #[.string b.s, .int .i64 b.rev, .slice b.ao b.n b.cap] 24)) (ha : a.at' w) (hb : b.at' w) (ht : Tabs w) (hW : Below W0.heap.size W0 W) : Two3 a b w W0 W := by
  have hbt := ht.lt
  have hz : W0.heap.size = w.heap.size + 2 := by rw [h0]; simp
  have hl : Below w.heap.size w W := (show Below w.heap.size w W0 by rw [h0]; exact below_alloc2 _ _ _).trans (hW.mono (by omega))
  have hq : W.heap[w.heap.size]? = some (.cells #[.string a.s, .int .i64 a.rev, .slice a.ao a.n a.cap] 24 (0, 0)) := (hW.block _ (by omega)).trans (by rw [h0]; exact heap_alloc2_old w _ _)
  have hr : W.heap[w.heap.size + 1]? = some (.cells #[.string b.s, .int .i64 b.rev, .slice b.ao b.n b.cap] 24 (0, 0)) := (hW.block _ (by omega)).trans (by rw [h0]; exact heap_alloc2_new w _ _)
  obtain ⟨x0, x1, x2⟩ := rg_cells hq
  obtain ⟨y0, y1, y2⟩ := rg_cells hr
  have hs := hl.size
  exact ⟨x0, x1, x2, y0, y1, y2, ha.below hl, hb.below hl, ht.below hl (by omega), by omega, hl⟩
end Go.Proofs.YtconlnoolenhjaaDoor
