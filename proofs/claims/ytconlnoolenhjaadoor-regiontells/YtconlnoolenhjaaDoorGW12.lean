/- walks: hedgelaw3.RegionTells -/
import Derived.Test.YtconlnoolenhjaaDoorGW10
import Derived.Test.YtconlnoolenhjaaDoorGR2
import Derived.Test.YtconlnoolenhjaaDoorGR5
import Derived.Deep.RegionHeld3
namespace Go.Proofs.YtconlnoolenhjaaDoor
open Go.RowKit

theorem tells_digest (a : Rg.Reg) (W0 : World) (ka : a.ok) (hF : ∀ W, Below W0.heap.size W0 W → a.at' W ∧ Tabs W) : ∀ W, Below W0.heap.size W0 W →
    Calls Tryd.prog 11 #[.agg #[.string a.s, .int .i64 a.rev, .slice a.ao a.n a.cap]] W fun e w' => ∃ g, e = .returned (.slice (some ⟨g, 0, none⟩) 16 16) ∧ Hid (ByteRow w' (some ⟨g, 0, none⟩) 16 16 (Md.dg (Rg.dig a.vs a.ts a.n))) ∧ Hid (Below W0.heap.size W0 w') := by
  intro W hW
  refine (gdigest_any a.s a.rev a.ao a.n a.cap a.vs a.ts W ka.2.2 (hF W hW).1 (hF W hW).2).mono ?_
  rintro e w' ⟨g, rfl, _, h1, h2⟩
  exact ⟨g, rfl, sumRow h1, hW.trans (h2.mono hW.size)⟩
theorem tells_rdigest (a : Rg.Reg) (W0 : World) (ka : a.ok) (hF : ∀ W, Below W0.heap.size W0 W → a.at' W ∧ Tabs W) : ∀ W, Below W0.heap.size W0 W → ∀ g, ByteRow W (some ⟨g, 0, none⟩) 16 16 (Md.dg (Rg.dig a.vs a.ts a.n)) →
    Calls Tryd.prog 12 #[.agg #[.string a.s, .int .i64 a.rev, .slice a.ao a.n a.cap]] W fun e w' => ∃ ro rc, e = .returned (.slice ro 16 rc) ∧ Hid (ByteRow w' ro 16 rc (Md.dg (Rg.dig a.vs a.ts a.n))) ∧ Hid (ByteRow w' (some ⟨g, 0, none⟩) 16 16 (Md.dg (Rg.dig a.vs a.ts a.n))) ∧ Hid (Below W0.heap.size W0 w') := by
  intro W hW g hg
  refine (rdigest_any a.s a.rev a.ao a.n a.cap a.vs a.ts W ka.2.2 (hF W hW).1).mono ?_
  rintro e w' ⟨ro, rc, rfl, h1, h2⟩
  exact ⟨ro, rc, rfl, h1, hg.below h2, hW.trans (h2.mono hW.size)⟩
theorem tells_ident (a : Rg.Reg) (W0 : World) (ka : a.ok) (hF : ∀ W, Below W0.heap.size W0 W → a.at' W ∧ Tabs W) : ∀ W, Below W0.heap.size W0 W →
    Calls Tryd.prog 13 #[.agg #[.string a.s, .int .i64 a.rev, .slice a.ao a.n a.cap]] W fun e w' => ∃ ro rc, e = .returned (.slice ro 50 rc) ∧ Hid (ByteRow w' ro 50 rc a.id) ∧ Hid (Below W0.heap.size W0 w') := by
  intro W hW
  refine (gident_reg a W ka (hF W hW).1 (hF W hW).2).mono ?_
  rintro e w' ⟨ro, rc, rfl, h1, h2⟩
  exact ⟨ro, rc, rfl, h1, hW.trans (h2.mono hW.size)⟩
theorem tells_rident (a : Rg.Reg) (W0 : World) (ka : a.ok) (hF : ∀ W, Below W0.heap.size W0 W → a.at' W ∧ Tabs W) : ∀ W, Below W0.heap.size W0 W → ∀ (xo : Option Addr) (xc : Nat) (f : Nat → Int), ByteRow W xo 50 xc f →
    Calls Tryd.prog 14 #[.agg #[.string a.s, .int .i64 a.rev, .slice a.ao a.n a.cap]] W fun e w' => ∃ ro rc, e = .returned (.slice ro 50 rc) ∧ Hid (ByteRow w' ro 50 rc a.id) ∧ Hid (ByteRow w' xo 50 xc f) ∧ Hid (Below W0.heap.size W0 w') := by
  intro W hW xo xc f hx
  refine (rident_any a.s a.rev a.ao a.n a.cap a.vs a.ts W (Rg.isName_parts ka.1).2.1 ka.2.1 ka.2.2 (hF W hW).1).mono ?_
  rintro e w' ⟨ro, rc, rfl, h1, h2⟩
  exact ⟨ro, rc, rfl, h1, hx.below h2, hW.trans (h2.mono hW.size)⟩
/-- .. with nothing else to be kept. -/
theorem tells_rident0 (a : Rg.Reg) (W0 : World) (ka : a.ok) (hF : ∀ W, Below W0.heap.size W0 W → a.at' W ∧ Tabs W) : ∀ W, Below W0.heap.size W0 W →
    Calls Tryd.prog 14 #[.agg #[.string a.s, .int .i64 a.rev, .slice a.ao a.n a.cap]] W fun e w' => ∃ ro rc, e = .returned (.slice ro 50 rc) ∧ Hid (ByteRow w' ro 50 rc a.id) ∧ Hid (Below W0.heap.size W0 w') := by
  intro W hW
  refine (rident_any a.s a.rev a.ao a.n a.cap a.vs a.ts W (Rg.isName_parts ka.1).2.1 ka.2.1 ka.2.2 (hF W hW).1).mono ?_
  rintro e w' ⟨ro, rc, rfl, h1, h2⟩
  exact ⟨ro, rc, rfl, h1, hW.trans (h2.mono hW.size)⟩
theorem tells_wrong (a : Rg.Reg) (W0 : World) (na : a.n ≤ 9223372036854775807) (hF : ∀ W, Below W0.heap.size W0 W → a.at' W ∧ Tabs W) : ∀ W, Below W0.heap.size W0 W →
    Calls Tryd.prog 6 #[.agg #[.string a.s, .int .i64 a.rev, .slice a.ao a.n a.cap]] W fun e w' => e = .returned (.int .i64 (Rg.wrong a.s a.rev a.vs a.ts a.n)) ∧ Hid (Below W0.heap.size W0 w') := by
  intro W hW
  refine (gwrong_any a.s a.rev a.ao a.n a.cap a.vs a.ts W na (hF W hW).1).mono ?_
  rintro e w' ⟨rfl, h2⟩
  exact ⟨rfl, hW.trans (h2.mono hW.size)⟩
theorem tells_rwrong (a : Rg.Reg) (W0 : World) (na : a.n ≤ 9223372036854775807) (hF : ∀ W, Below W0.heap.size W0 W → a.at' W ∧ Tabs W) : ∀ W, Below W0.heap.size W0 W →
    Calls Tryd.prog 7 #[.agg #[.string a.s, .int .i64 a.rev, .slice a.ao a.n a.cap]] W fun e w' => e = .returned (.int .i64 (Rg.wrong a.s a.rev a.vs a.ts a.n)) ∧ Hid (Below W0.heap.size W0 w') := by
  intro W hW
  refine (rwrong_any a.s a.rev a.ao a.n a.cap a.vs a.ts W na (hF W hW).1).mono ?_
  rintro e w' ⟨rfl, h2⟩
  exact ⟨rfl, hW.trans (h2.mono hW.size)⟩
theorem tells_tree (a : Rg.Reg) (W0 : World) (vid : Int) (ka : a.ok) (hF : ∀ W, Below W0.heap.size W0 W → a.at' W ∧ Tabs W) : ∀ W, Below W0.heap.size W0 W →
    Calls Tryd.prog 8 #[.agg #[.string a.s, .int .i64 a.rev, .slice a.ao a.n a.cap], .int .i64 vid] W fun e w' => e = .returned (.int .i64 (Rg.tree a.vs a.ts vid a.n)) ∧ Hid (Below W0.heap.size W0 w') := by
  intro W hW
  refine (gtree_any a.s a.rev a.ao a.n a.cap a.vs a.ts vid W ka.2.2 (hF W hW).1).mono ?_
  rintro e w' ⟨rfl, h2⟩
  exact ⟨rfl, hW.trans (h2.mono hW.size)⟩
theorem tells_rtree (a : Rg.Reg) (W0 : World) (vid : Int) (ka : a.ok) (hF : ∀ W, Below W0.heap.size W0 W → a.at' W ∧ Tabs W) : ∀ W, Below W0.heap.size W0 W →
    Calls Tryd.prog 9 #[.agg #[.string a.s, .int .i64 a.rev, .slice a.ao a.n a.cap], .int .i64 vid] W fun e w' => e = .returned (.int .i64 (Rg.tree a.vs a.ts vid a.n)) ∧ Hid (Below W0.heap.size W0 w') := by
  intro W hW
  refine (rtree_any a.s a.rev a.ao a.n a.cap a.vs a.ts vid W ka.2.2 (hF W hW).1).mono ?_
  rintro e w' ⟨rfl, h2⟩
  exact ⟨rfl, hW.trans (h2.mono hW.size)⟩
theorem tells_same (a b : Rg.Reg) (W0 : World) (ka : a.ok) (kb : b.ok) (hF : ∀ W, Below W0.heap.size W0 W → a.at' W ∧ Tabs W) (hG : ∀ W, Below W0.heap.size W0 W → b.at' W ∧ Tabs W) : ∀ W, Below W0.heap.size W0 W →
    Calls Tryd.prog 15 #[.agg #[.string a.s, .int .i64 a.rev, .slice a.ao a.n a.cap], .agg #[.string b.s, .int .i64 b.rev, .slice b.ao b.n b.cap]] W fun e w' => e = .returned (.bool (decide (strOf 50 a.id = strOf 50 b.id))) ∧ Hid (Below W0.heap.size W0 w') := by
  intro W hW
  refine (gsame_any a b W ka kb (hF W hW).1 (hG W hW).1 (hF W hW).2).mono ?_
  rintro e w' ⟨rfl, h2⟩
  exact ⟨rfl, hW.trans (h2.mono hW.size)⟩
end Go.Proofs.YtconlnoolenhjaaDoor
