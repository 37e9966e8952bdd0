/-
  DERIVED. GIVEN WITH THE SEED: THE CARDS: each row of YtllpfebmbpbffaaDoorRows.lean that lists a variable, with what it lists TIED to the program's text (the seventh form; the later family's looks); each row that meets fmt, with fmt's text TOLD by the authors' own Lean function (tested against real Go, not proved from fmt's source: count such statements apart). THE CARD IS WHAT COUNTS. Prove the row's statement (the work); the ties are given (YtllpfebmbpbffaaDoorTie.lean); close each card by the builder's one call (the guide's Derived/Test/ToyasCard.lean, 'card_holds'). Laid BY PROGRAM, IN A SANDBOX (cutbox-door.mjs). By AI agents, Wed Nov 11 2026. No macro, syntax, notation, axiom, sorry.
-/
import Derived.Test.YtllpfebmbpbffaaDoorRows
import GoSem.ClaimSeven
namespace Go.Proofs.YtllpfebmbpbffaaDoor
namespace Rows

/-- THE TIED CARD OF 'hedgelaw1.SumTells'. -/
def sumTellsCard : Claim7 := { stood := { row := sumTellsRow, standIns := [], harness := (true, "7125eea1fa09d368018f80b94337a72a92a4b85dc17d993a37f6cce99beed79f"), looks := false }, kinds := [], alts := [], laidByText := true, laidKinds := [.data, .data], laidTests := true, laidLooks := .later }
def SumTellsCardSaid : Prop := Claim7.holds Tryd.pinned (.plain (OpenSpec.ofChange sumTellsSpec)) sumTellsCard

/-- THE TIED CARD OF 'hedgelaw1.SumKnown'. -/
def sumKnownCard : Claim7 := { stood := { row := sumKnownRow, standIns := [], harness := (true, "7125eea1fa09d368018f80b94337a72a92a4b85dc17d993a37f6cce99beed79f"), looks := false }, kinds := [], alts := [], laidByText := true, laidKinds := [.data, .data], laidTests := true, laidLooks := .later }
def SumKnownCardSaid : Prop := Claim7.holds Tryd.pinned (.plain (OpenSpec.ofChange sumKnownSpec)) sumKnownCard

/-- THE TIED CARD OF 'hedgelaw1.SumKeys'. -/
def sumKeysCard : Claim7 := { stood := { row := sumKeysRow, standIns := [], harness := (true, "7125eea1fa09d368018f80b94337a72a92a4b85dc17d993a37f6cce99beed79f"), looks := false }, kinds := [], alts := [], laidByText := true, laidKinds := [.data, .data], laidTests := true, laidLooks := .later }
def SumKeysCardSaid : Prop := Claim7.holds Tryd.pinned (.plain (OpenSpec.ofChange sumKeysSpec)) sumKeysCard

/-- THE TIED CARD OF 'hedgelaw1.SumAgain'. -/
def sumAgainCard : Claim7 := { stood := { row := sumAgainRow, standIns := [], harness := (true, "7125eea1fa09d368018f80b94337a72a92a4b85dc17d993a37f6cce99beed79f"), looks := false }, kinds := [], alts := [], laidByText := true, laidKinds := [.data, .data], laidTests := true, laidLooks := .later }
def SumAgainCardSaid : Prop := Claim7.holds Tryd.pinned (.plain (OpenSpec.ofChange sumAgainSpec)) sumAgainCard

/-- THE SECOND FORM's CARD OF 'hedgelaw1.SumTells'. -/
def sumTellsUptoCard : Claim7 := { stood := { row := sumTellsUptoRow, standIns := [], harness := (true, "7125eea1fa09d368018f80b94337a72a92a4b85dc17d993a37f6cce99beed79f"), looks := false }, kinds := [], alts := [], laidByText := true, laidKinds := [.data, .data], laidTests := true, laidLooks := .later }
def SumTellsUptoCardSaid : Prop := Claim7.holds Tryd.pinned (.plain (OpenSpec.upto sumTellsSpec)) sumTellsUptoCard

/-- THE SECOND FORM's CARD OF 'hedgelaw1.SumKnown'. -/
def sumKnownUptoCard : Claim7 := { stood := { row := sumKnownUptoRow, standIns := [], harness := (true, "7125eea1fa09d368018f80b94337a72a92a4b85dc17d993a37f6cce99beed79f"), looks := false }, kinds := [], alts := [], laidByText := true, laidKinds := [.data, .data], laidTests := true, laidLooks := .later }
def SumKnownUptoCardSaid : Prop := Claim7.holds Tryd.pinned (.plain (OpenSpec.upto sumKnownSpec)) sumKnownUptoCard

/-- THE SECOND FORM's CARD OF 'hedgelaw1.SumKeys'. -/
def sumKeysUptoCard : Claim7 := { stood := { row := sumKeysUptoRow, standIns := [], harness := (true, "7125eea1fa09d368018f80b94337a72a92a4b85dc17d993a37f6cce99beed79f"), looks := false }, kinds := [], alts := [], laidByText := true, laidKinds := [.data, .data], laidTests := true, laidLooks := .later }
def SumKeysUptoCardSaid : Prop := Claim7.holds Tryd.pinned (.plain (OpenSpec.upto sumKeysSpec)) sumKeysUptoCard

/-- THE SECOND FORM's CARD OF 'hedgelaw1.SumAgain'. -/
def sumAgainUptoCard : Claim7 := { stood := { row := sumAgainUptoRow, standIns := [], harness := (true, "7125eea1fa09d368018f80b94337a72a92a4b85dc17d993a37f6cce99beed79f"), looks := false }, kinds := [], alts := [], laidByText := true, laidKinds := [.data, .data], laidTests := true, laidLooks := .later }
def SumAgainUptoCardSaid : Prop := Claim7.holds Tryd.pinned (.plain (OpenSpec.upto sumAgainSpec)) sumAgainUptoCard
end Rows
end Go.Proofs.YtllpfebmbpbffaaDoor
