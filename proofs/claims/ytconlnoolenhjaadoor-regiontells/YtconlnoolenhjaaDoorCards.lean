/-
  DERIVED. GIVEN WITH THE SEED: THE CARDS: each row of YtconlnoolenhjaaDoorRows.lean that lists a variable, with what it lists TIED to the program's text (the seventh form; the later family's looks); each row that meets fmt, with fmt's text TOLD by the authors' own Lean function (tested against real Go, not proved from fmt's source: count such statements apart). THE CARD IS WHAT COUNTS. Prove the row's statement (the work); the ties are given (YtconlnoolenhjaaDoorTie.lean); close each card by the builder's one call (the guide's Derived/Test/ToyasCard.lean, 'card_holds'). Laid BY PROGRAM, IN A SANDBOX (cutbox-door.mjs). By AI agents, Wed Nov 11 2026. No macro, syntax, notation, axiom, sorry.
-/
import Derived.Test.YtconlnoolenhjaaDoorRows
import GoSem.ClaimSeven
namespace Go.Proofs.YtconlnoolenhjaaDoor
namespace Rows

/-- THE TIED CARD OF 'hedgelaw3.RegionTells'. -/
def regionTellsCard : Claim7 := { stood := { row := regionTellsRow, standIns := [], harness := (true, "d9e1d0cbd79b7b1fa3e0d18667fe6ac2839256c105964c42085ea346630d9f48"), looks := false }, kinds := [], alts := [], laidByText := true, laidKinds := [.data, .data], laidTests := true, laidLooks := .later }
def RegionTellsCardSaid : Prop := Claim7.holds Tryd.pinned (.plain (OpenSpec.ofChange regionTellsSpec)) regionTellsCard

/-- THE TIED CARD OF 'hedgelaw3.RegionSame'. -/
def regionSameCard : Claim7 := { stood := { row := regionSameRow, standIns := [], harness := (true, "d9e1d0cbd79b7b1fa3e0d18667fe6ac2839256c105964c42085ea346630d9f48"), looks := false }, kinds := [], alts := [], laidByText := true, laidKinds := [.data, .data], laidTests := true, laidLooks := .later }
def RegionSameCardSaid : Prop := Claim7.holds Tryd.pinned (.plain (OpenSpec.ofChange regionSameSpec)) regionSameCard

/-- THE TIED CARD OF 'hedgelaw3.RegionWays'. -/
def regionWaysCard : Claim7 := { stood := { row := regionWaysRow, standIns := [], harness := (true, "d9e1d0cbd79b7b1fa3e0d18667fe6ac2839256c105964c42085ea346630d9f48"), looks := false }, kinds := [], alts := [], laidByText := true, laidKinds := [.data, .data], laidTests := true, laidLooks := .later }
def RegionWaysCardSaid : Prop := Claim7.holds Tryd.pinned (.plain (OpenSpec.ofChange regionWaysSpec)) regionWaysCard

/-- THE SECOND FORM's CARD OF 'hedgelaw3.RegionTells'. -/
def regionTellsUptoCard : Claim7 := { stood := { row := regionTellsUptoRow, standIns := [], harness := (true, "d9e1d0cbd79b7b1fa3e0d18667fe6ac2839256c105964c42085ea346630d9f48"), looks := false }, kinds := [], alts := [], laidByText := true, laidKinds := [.data, .data], laidTests := true, laidLooks := .later }
def RegionTellsUptoCardSaid : Prop := Claim7.holds Tryd.pinned (.plain (OpenSpec.upto regionTellsSpec)) regionTellsUptoCard

/-- THE SECOND FORM's CARD OF 'hedgelaw3.RegionSame'. -/
def regionSameUptoCard : Claim7 := { stood := { row := regionSameUptoRow, standIns := [], harness := (true, "d9e1d0cbd79b7b1fa3e0d18667fe6ac2839256c105964c42085ea346630d9f48"), looks := false }, kinds := [], alts := [], laidByText := true, laidKinds := [.data, .data], laidTests := true, laidLooks := .later }
def RegionSameUptoCardSaid : Prop := Claim7.holds Tryd.pinned (.plain (OpenSpec.upto regionSameSpec)) regionSameUptoCard

/-- THE SECOND FORM's CARD OF 'hedgelaw3.RegionWays'. -/
def regionWaysUptoCard : Claim7 := { stood := { row := regionWaysUptoRow, standIns := [], harness := (true, "d9e1d0cbd79b7b1fa3e0d18667fe6ac2839256c105964c42085ea346630d9f48"), looks := false }, kinds := [], alts := [], laidByText := true, laidKinds := [.data, .data], laidTests := true, laidLooks := .later }
def RegionWaysUptoCardSaid : Prop := Claim7.holds Tryd.pinned (.plain (OpenSpec.upto regionWaysSpec)) regionWaysUptoCard
end Rows
end Go.Proofs.YtconlnoolenhjaaDoor
