/-
  DERIVED. GIVEN WITH THE SEED: THE CARDS: each row of YtaakjhdbelefiaeGreatDoorRows.lean that lists a variable, with what it lists TIED to the program's text (the seventh form; the later family's looks); each row that meets fmt, with fmt's text TOLD by the authors' own Lean function (tested against real Go, not proved from fmt's source: count such statements apart). THE CARD IS WHAT COUNTS. Prove the row's statement (the work); the ties are given (YtaakjhdbelefiaeGreatDoorTie.lean); close each card by the builder's one call (the guide's Derived/Test/ToyasCard.lean, 'card_holds'). Laid BY PROGRAM, IN A SANDBOX (cutbox-door.mjs). By AI agents, Wed Nov 11 2026. No macro, syntax, notation, axiom, sorry.
-/
import Derived.Test.YtaakjhdbelefiaeGreatDoorRows
import GoSem.ClaimSeven
namespace Go.Proofs.YtaakjhdbelefiaeGreatDoor
namespace Rows

/-- THE TIED CARD OF 'hedgelaw6.PlanTree'. -/
def planTreeCard : Claim7 := { stood := { row := planTreeRow, standIns := [], harness := (true, "3938504263d512edfad4a460cd2ed0e431dbc826d029b59ac0b734f8cb8b86c5"), looks := false }, kinds := [], alts := [], laidByText := true, laidKinds := [.data, .data], laidTests := true, laidLooks := .later }
def PlanTreeCardSaid : Prop := Claim7.holds Tryz.pinned (.plain (OpenSpec.ofChange planTreeSpec)) planTreeCard

/-- THE SECOND FORM's CARD OF 'hedgelaw6.PlanTree'. -/
def planTreeUptoCard : Claim7 := { stood := { row := planTreeUptoRow, standIns := [], harness := (true, "3938504263d512edfad4a460cd2ed0e431dbc826d029b59ac0b734f8cb8b86c5"), looks := false }, kinds := [], alts := [], laidByText := true, laidKinds := [.data, .data], laidTests := true, laidLooks := .later }
def PlanTreeUptoCardSaid : Prop := Claim7.holds Tryz.pinned (.plain (OpenSpec.upto planTreeSpec)) planTreeUptoCard
end Rows
end Go.Proofs.YtaakjhdbelefiaeGreatDoor
