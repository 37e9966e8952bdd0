/-
  DERIVED. GIVEN WITH THE SEED: THE CARDS: each row of YtaakjhdbelefiadDoorRows.lean that lists a variable, with what it lists TIED to the program's text (the seventh form; the later family's looks); each row that meets fmt, with fmt's text TOLD by the authors' own Lean function (tested against real Go, not proved from fmt's source: count such statements apart). THE CARD IS WHAT COUNTS. Prove the row's statement (the work); the ties are given (YtaakjhdbelefiadDoorTie.lean); close each card by the builder's one call (the guide's Derived/Test/ToyasCard.lean, 'card_holds'). Laid BY PROGRAM, IN A SANDBOX (cutbox-door.mjs). By AI agents, Wed Nov 11 2026. No macro, syntax, notation, axiom, sorry.
-/
import Derived.Test.YtaakjhdbelefiadDoorRows
import GoSem.ClaimSeven
namespace Go.Proofs.YtaakjhdbelefiadDoor
namespace Rows

/-- THE TIED CARD OF 'hedgelaw6.PlanRoot'. -/
def planRootCard : Claim7 := { stood := { row := planRootRow, standIns := [], harness := (true, "cb67fb3a67ec488794f983b6ea853399231169bef44e00b4ce3fe3f9e244e565"), looks := false }, kinds := [], alts := [], laidByText := true, laidKinds := [.data, .data], laidTests := true, laidLooks := .later }
def PlanRootCardSaid : Prop := Claim7.holds Tryd.pinned (.plain (OpenSpec.ofChange planRootSpec)) planRootCard

/-- THE TIED CARD OF 'hedgelaw6.PlanFar'. -/
def planFarCard : Claim7 := { stood := { row := planFarRow, standIns := [], harness := (true, "cb67fb3a67ec488794f983b6ea853399231169bef44e00b4ce3fe3f9e244e565"), looks := false }, kinds := [], alts := [], laidByText := true, laidKinds := [.data, .data], laidTests := true, laidLooks := .later }
def PlanFarCardSaid : Prop := Claim7.holds Tryd.pinned (.plain (OpenSpec.ofChange planFarSpec)) planFarCard

/-- THE TIED CARD OF 'hedgelaw6.PlanEnds'. -/
def planEndsCard : Claim7 := { stood := { row := planEndsRow, standIns := [], harness := (true, "cb67fb3a67ec488794f983b6ea853399231169bef44e00b4ce3fe3f9e244e565"), looks := false }, kinds := [], alts := [], laidByText := true, laidKinds := [.data, .data], laidTests := true, laidLooks := .later }
def PlanEndsCardSaid : Prop := Claim7.holds Tryd.pinned (.plain (OpenSpec.ofChange planEndsSpec)) planEndsCard

/-- THE SECOND FORM's CARD OF 'hedgelaw6.PlanRoot'. -/
def planRootUptoCard : Claim7 := { stood := { row := planRootUptoRow, standIns := [], harness := (true, "cb67fb3a67ec488794f983b6ea853399231169bef44e00b4ce3fe3f9e244e565"), looks := false }, kinds := [], alts := [], laidByText := true, laidKinds := [.data, .data], laidTests := true, laidLooks := .later }
def PlanRootUptoCardSaid : Prop := Claim7.holds Tryd.pinned (.plain (OpenSpec.upto planRootSpec)) planRootUptoCard

/-- THE SECOND FORM's CARD OF 'hedgelaw6.PlanFar'. -/
def planFarUptoCard : Claim7 := { stood := { row := planFarUptoRow, standIns := [], harness := (true, "cb67fb3a67ec488794f983b6ea853399231169bef44e00b4ce3fe3f9e244e565"), looks := false }, kinds := [], alts := [], laidByText := true, laidKinds := [.data, .data], laidTests := true, laidLooks := .later }
def PlanFarUptoCardSaid : Prop := Claim7.holds Tryd.pinned (.plain (OpenSpec.upto planFarSpec)) planFarUptoCard

/-- THE SECOND FORM's CARD OF 'hedgelaw6.PlanEnds'. -/
def planEndsUptoCard : Claim7 := { stood := { row := planEndsUptoRow, standIns := [], harness := (true, "cb67fb3a67ec488794f983b6ea853399231169bef44e00b4ce3fe3f9e244e565"), looks := false }, kinds := [], alts := [], laidByText := true, laidKinds := [.data, .data], laidTests := true, laidLooks := .later }
def PlanEndsUptoCardSaid : Prop := Claim7.holds Tryd.pinned (.plain (OpenSpec.upto planEndsSpec)) planEndsUptoCard
end Rows
end Go.Proofs.YtaakjhdbelefiadDoor
