/- A region as one structure; its identity -/
import Derived.Test.YtcbpafpaimpfnaaGreatDoorGW6
namespace Go.Proofs.YtcbpafpaimpfnaaGreatDoor
open Go.RowKit

namespace Rg
/-- A region. -/
structure Reg where
  s : ByteArray
  rev : Int
  ao : Option Addr
  n : Nat
  cap : Nat
  vs : Nat → Int
  ts : Nat → Int
def Reg.id (r : Reg) : Nat → Int := ident r.s r.rev (Md.dg (dig r.vs r.ts r.n))
/-- Nothing is wrong with it. -/
def Reg.ok (r : Reg) : Prop := isName r.s = true ∧ (0 ≤ r.rev ∧ r.rev ≤ 65535) ∧ Right r.vs r.ts r.n
/-- Its ways lie there. -/
def Reg.at' (r : Reg) (w : World) : Prop := WayRow w r.ao r.n r.cap r.vs r.ts
theorem Reg.at'.below {r : Reg} {w w' : World} (h : r.at' w) (hb : Below w.heap.size w w') : r.at' w' := WayRow.below h hb
end Rg
theorem gident_reg (r : Rg.Reg) (w : World) (hk : r.ok) (ha : r.at' w) (ht : Tabs w) :
    Calls Tryz.prog 70 #[.agg #[.string r.s, .int .i64 r.rev, .slice r.ao r.n r.cap]] w fun e w' => ∃ ro rc, e = .returned (.slice ro 50 rc) ∧ ByteRow w' ro 50 rc r.id ∧ Below w.heap.size w w' :=
  gident_any r.s r.rev r.ao r.n r.cap r.vs r.ts w (Rg.isName_parts hk.1).2.1 hk.2.1 hk.2.2 ha ht
/-- .. and its bytes are new. -/
theorem gident_reg_new (r : Rg.Reg) (w : World) (hk : r.ok) (ha : r.at' w) (ht : Tabs w) :
    Calls Tryz.prog 70 #[.agg #[.string r.s, .int .i64 r.rev, .slice r.ao r.n r.cap]] w fun e w' => ∃ ro rc, e = .returned (.slice ro 50 rc) ∧ ByteRow w' ro 50 rc r.id ∧ Below w.heap.size w w' ∧ ∀ ad, ro = some ad → w.heap.size < ad.block :=
  gident_new r.s r.rev r.ao r.n r.cap r.vs r.ts w (Rg.isName_parts hk.1).2.1 hk.2.1 hk.2.2 ha ht
/-- .. from a world that lies behind w. -/
theorem gident_from (r : Rg.Reg) (w : World) (hk : r.ok) (ha : r.at' w) (ht : Tabs w) (hb : 2 ≤ w.heap.size) : ∀ W, Below w.heap.size w W →
    Calls Tryz.prog 70 #[.agg #[.string r.s, .int .i64 r.rev, .slice r.ao r.n r.cap]] W fun e w' => ∃ ro rc, e = .returned (.slice ro 50 rc) ∧ Hid (ByteRow w' ro 50 rc r.id) ∧ Hid (Below W.heap.size W w') ∧ Hid (Below w.heap.size w w') := by
  intro W hW
  refine (gident_reg r W hk (ha.below hW) (ht.below hW hb)).mono ?_
  rintro e w' ⟨ro, rc, rfl, h1, h2⟩
  exact ⟨ro, rc, rfl, h1, h2, hW.trans (h2.mono hW.size)⟩
end Go.Proofs.YtcbpafpaimpfnaaGreatDoor
