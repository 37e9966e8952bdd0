/-
  DERIVED. GIVEN WITH THE SEED: THE CARDS: each row of YtflghpnpjmodaaaGreatDoorRows.lean that lists a variable, with what it lists TIED to the program's text (the seventh form; the later family's looks); each row that meets fmt, with fmt's text TOLD by the authors' own Lean function (tested against real Go, not proved from fmt's source: count such statements apart). THE CARD IS WHAT COUNTS. Prove the row's statement (the work); the ties are given (YtflghpnpjmodaaaGreatDoorTie.lean); close each card by the builder's one call (the guide's Derived/Test/ToyasCard.lean, 'card_holds'). Laid BY PROGRAM, IN A SANDBOX (cutbox-door.mjs). By AI agents, Wed Nov 11 2026. No macro, syntax, notation, axiom, sorry.
-/
import Derived.Test.YtflghpnpjmodaaaGreatDoorRows
import GoSem.ClaimSeven
namespace Go.Proofs.YtflghpnpjmodaaaGreatDoor
namespace Rows

/-- THE TIED CARD OF 'hedgetop.TopShut'. -/
def topShutCard : Claim7 := { stood := { row := topShutRow, standIns := [], harness := (true, "72c17f303e3d27f1159f0c2cd10caad032b428890c7f91153f70f26af1b2c63a"), looks := false }, kinds := [], alts := [], laidByText := true, laidKinds := [.data, .data], laidTests := true, laidLooks := .later }
def TopShutCardSaid : Prop := Claim7.holds Tryz.pinned (.plain (OpenSpec.ofChange topShutSpec)) topShutCard

/-- THE TIED CARD OF 'hedgetop.TopLine'. -/
def topLineCard : Claim7 := { stood := { row := topLineRow, standIns := [], harness := (true, "72c17f303e3d27f1159f0c2cd10caad032b428890c7f91153f70f26af1b2c63a"), looks := false }, kinds := [], alts := [], laidByText := true, laidKinds := [.data, .data], laidTests := true, laidLooks := .later }
def TopLineCardSaid : Prop := Claim7.holds Tryz.pinned (.plain (OpenSpec.ofChange topLineSpec)) topLineCard

/-- THE TIED CARD OF 'hedgetop.TopGhost'. -/
def topGhostCard : Claim7 := { stood := { row := topGhostRow, standIns := [], harness := (true, "72c17f303e3d27f1159f0c2cd10caad032b428890c7f91153f70f26af1b2c63a"), looks := false }, kinds := [], alts := [], laidByText := true, laidKinds := [.data, .data], laidTests := true, laidLooks := .later }
def TopGhostCardSaid : Prop := Claim7.holds Tryz.pinned (.plain (OpenSpec.ofChange topGhostSpec)) topGhostCard

/-- THE TIED CARD OF 'hedgetop.TopHello'. -/
def topHelloCard : Claim7 := { stood := { row := topHelloRow, standIns := [], harness := (true, "72c17f303e3d27f1159f0c2cd10caad032b428890c7f91153f70f26af1b2c63a"), looks := false }, kinds := [], alts := [], laidByText := true, laidKinds := [.data, .data], laidTests := true, laidLooks := .later }
def TopHelloCardSaid : Prop := Claim7.holds Tryz.pinned (.plain (OpenSpec.ofChange topHelloSpec)) topHelloCard

/-- THE TIED CARD OF 'hedgetop.TopFirst'. -/
def topFirstCard : Claim7 := { stood := { row := topFirstRow, standIns := [], harness := (true, "72c17f303e3d27f1159f0c2cd10caad032b428890c7f91153f70f26af1b2c63a"), looks := false }, kinds := [], alts := [], laidByText := true, laidKinds := [.data, .data], laidTests := true, laidLooks := .later }
def TopFirstCardSaid : Prop := Claim7.holds Tryz.pinned (.plain (OpenSpec.ofChange topFirstSpec)) topFirstCard

/-- THE TIED CARD OF 'hedgetop.TopCheap'. -/
def topCheapCard : Claim7 := { stood := { row := topCheapRow, standIns := [], harness := (true, "72c17f303e3d27f1159f0c2cd10caad032b428890c7f91153f70f26af1b2c63a"), looks := false }, kinds := [], alts := [], laidByText := true, laidKinds := [.data, .data], laidTests := true, laidLooks := .later }
def TopCheapCardSaid : Prop := Claim7.holds Tryz.pinned (.plain (OpenSpec.ofChange topCheapSpec)) topCheapCard

/-- THE TIED CARD OF 'hedgetop.TopRing'. -/
def topRingCard : Claim7 := { stood := { row := topRingRow, standIns := [], harness := (true, "72c17f303e3d27f1159f0c2cd10caad032b428890c7f91153f70f26af1b2c63a"), looks := false }, kinds := [], alts := [], laidByText := true, laidKinds := [.data, .data], laidTests := true, laidLooks := .later }
def TopRingCardSaid : Prop := Claim7.holds Tryz.pinned (.plain (OpenSpec.ofChange topRingSpec)) topRingCard

/-- THE TIED CARD OF 'hedgetop.TopTrees'. -/
def topTreesCard : Claim7 := { stood := { row := topTreesRow, standIns := [], harness := (true, "72c17f303e3d27f1159f0c2cd10caad032b428890c7f91153f70f26af1b2c63a"), looks := false }, kinds := [], alts := [], laidByText := true, laidKinds := [.data, .data], laidTests := true, laidLooks := .later }
def TopTreesCardSaid : Prop := Claim7.holds Tryz.pinned (.plain (OpenSpec.ofChange topTreesSpec)) topTreesCard

/-- THE TIED CARD OF 'hedgetop.TopPath'. -/
def topPathCard : Claim7 := { stood := { row := topPathRow, standIns := [], harness := (true, "72c17f303e3d27f1159f0c2cd10caad032b428890c7f91153f70f26af1b2c63a"), looks := false }, kinds := [], alts := [], laidByText := true, laidKinds := [.data, .data], laidTests := true, laidLooks := .later }
def TopPathCardSaid : Prop := Claim7.holds Tryz.pinned (.plain (OpenSpec.ofChange topPathSpec)) topPathCard

/-- THE SECOND FORM's CARD OF 'hedgetop.TopShut'. -/
def topShutUptoCard : Claim7 := { stood := { row := topShutUptoRow, standIns := [], harness := (true, "72c17f303e3d27f1159f0c2cd10caad032b428890c7f91153f70f26af1b2c63a"), looks := false }, kinds := [], alts := [], laidByText := true, laidKinds := [.data, .data], laidTests := true, laidLooks := .later }
def TopShutUptoCardSaid : Prop := Claim7.holds Tryz.pinned (.plain (OpenSpec.upto topShutSpec)) topShutUptoCard

/-- THE SECOND FORM's CARD OF 'hedgetop.TopLine'. -/
def topLineUptoCard : Claim7 := { stood := { row := topLineUptoRow, standIns := [], harness := (true, "72c17f303e3d27f1159f0c2cd10caad032b428890c7f91153f70f26af1b2c63a"), looks := false }, kinds := [], alts := [], laidByText := true, laidKinds := [.data, .data], laidTests := true, laidLooks := .later }
def TopLineUptoCardSaid : Prop := Claim7.holds Tryz.pinned (.plain (OpenSpec.upto topLineSpec)) topLineUptoCard

/-- THE SECOND FORM's CARD OF 'hedgetop.TopGhost'. -/
def topGhostUptoCard : Claim7 := { stood := { row := topGhostUptoRow, standIns := [], harness := (true, "72c17f303e3d27f1159f0c2cd10caad032b428890c7f91153f70f26af1b2c63a"), looks := false }, kinds := [], alts := [], laidByText := true, laidKinds := [.data, .data], laidTests := true, laidLooks := .later }
def TopGhostUptoCardSaid : Prop := Claim7.holds Tryz.pinned (.plain (OpenSpec.upto topGhostSpec)) topGhostUptoCard

/-- THE SECOND FORM's CARD OF 'hedgetop.TopHello'. -/
def topHelloUptoCard : Claim7 := { stood := { row := topHelloUptoRow, standIns := [], harness := (true, "72c17f303e3d27f1159f0c2cd10caad032b428890c7f91153f70f26af1b2c63a"), looks := false }, kinds := [], alts := [], laidByText := true, laidKinds := [.data, .data], laidTests := true, laidLooks := .later }
def TopHelloUptoCardSaid : Prop := Claim7.holds Tryz.pinned (.plain (OpenSpec.upto topHelloSpec)) topHelloUptoCard

/-- THE SECOND FORM's CARD OF 'hedgetop.TopFirst'. -/
def topFirstUptoCard : Claim7 := { stood := { row := topFirstUptoRow, standIns := [], harness := (true, "72c17f303e3d27f1159f0c2cd10caad032b428890c7f91153f70f26af1b2c63a"), looks := false }, kinds := [], alts := [], laidByText := true, laidKinds := [.data, .data], laidTests := true, laidLooks := .later }
def TopFirstUptoCardSaid : Prop := Claim7.holds Tryz.pinned (.plain (OpenSpec.upto topFirstSpec)) topFirstUptoCard

/-- THE SECOND FORM's CARD OF 'hedgetop.TopCheap'. -/
def topCheapUptoCard : Claim7 := { stood := { row := topCheapUptoRow, standIns := [], harness := (true, "72c17f303e3d27f1159f0c2cd10caad032b428890c7f91153f70f26af1b2c63a"), looks := false }, kinds := [], alts := [], laidByText := true, laidKinds := [.data, .data], laidTests := true, laidLooks := .later }
def TopCheapUptoCardSaid : Prop := Claim7.holds Tryz.pinned (.plain (OpenSpec.upto topCheapSpec)) topCheapUptoCard

/-- THE SECOND FORM's CARD OF 'hedgetop.TopRing'. -/
def topRingUptoCard : Claim7 := { stood := { row := topRingUptoRow, standIns := [], harness := (true, "72c17f303e3d27f1159f0c2cd10caad032b428890c7f91153f70f26af1b2c63a"), looks := false }, kinds := [], alts := [], laidByText := true, laidKinds := [.data, .data], laidTests := true, laidLooks := .later }
def TopRingUptoCardSaid : Prop := Claim7.holds Tryz.pinned (.plain (OpenSpec.upto topRingSpec)) topRingUptoCard

/-- THE SECOND FORM's CARD OF 'hedgetop.TopTrees'. -/
def topTreesUptoCard : Claim7 := { stood := { row := topTreesUptoRow, standIns := [], harness := (true, "72c17f303e3d27f1159f0c2cd10caad032b428890c7f91153f70f26af1b2c63a"), looks := false }, kinds := [], alts := [], laidByText := true, laidKinds := [.data, .data], laidTests := true, laidLooks := .later }
def TopTreesUptoCardSaid : Prop := Claim7.holds Tryz.pinned (.plain (OpenSpec.upto topTreesSpec)) topTreesUptoCard

/-- THE SECOND FORM's CARD OF 'hedgetop.TopPath'. -/
def topPathUptoCard : Claim7 := { stood := { row := topPathUptoRow, standIns := [], harness := (true, "72c17f303e3d27f1159f0c2cd10caad032b428890c7f91153f70f26af1b2c63a"), looks := false }, kinds := [], alts := [], laidByText := true, laidKinds := [.data, .data], laidTests := true, laidLooks := .later }
def TopPathUptoCardSaid : Prop := Claim7.holds Tryz.pinned (.plain (OpenSpec.upto topPathSpec)) topPathUptoCard
end Rows
end Go.Proofs.YtflghpnpjmodaaaGreatDoor
