/-
  DERIVED. GIVEN WITH THE SEED: THE CARDS: each row of YtaakjhdbelefiaeDoorRows.lean that lists a variable, with what it lists TIED to the program's text (the seventh form; the later family's looks); each row that meets fmt, with fmt's text TOLD by the authors' own Lean function (tested against real Go, not proved from fmt's source: count such statements apart). THE CARD IS WHAT COUNTS. Prove the row's statement (the work); the ties are given (YtaakjhdbelefiaeDoorTie.lean); close each card by the builder's one call (the guide's Derived/Test/ToyasCard.lean, 'card_holds'). Laid BY PROGRAM, IN A SANDBOX (cutbox-door.mjs). By AI agents, Wed Nov 11 2026. No macro, syntax, notation, axiom, sorry.
-/
import Derived.Test.YtaakjhdbelefiaeDoorRows
import GoSem.ClaimSeven
namespace Go.Proofs.YtaakjhdbelefiaeDoor
namespace Rows

/-- THE TIED CARD OF 'hedgelaw6.PlanNames'. -/
def planNamesCard : Claim7 := { stood := { row := planNamesRow, standIns := [], harness := (true, "4e76fd74e6e30e836ac4e9babf167acdeb967672496aceaace85dfc43f885e5c"), looks := false }, kinds := [], alts := [], laidByText := true, laidKinds := [.data, .data], laidTests := true, laidLooks := .later }
def PlanNamesCardSaid : Prop := Claim7.holds Tryd.pinned (.plain (OpenSpec.ofChange planNamesSpec)) planNamesCard

/-- THE TIED CARD OF 'hedgelaw6.PlanMore'. -/
def planMoreCard : Claim7 := { stood := { row := planMoreRow, standIns := [], harness := (true, "4e76fd74e6e30e836ac4e9babf167acdeb967672496aceaace85dfc43f885e5c"), looks := false }, kinds := [], alts := [], laidByText := true, laidKinds := [.data, .data], laidTests := true, laidLooks := .later }
def PlanMoreCardSaid : Prop := Claim7.holds Tryd.pinned (.plain (OpenSpec.ofChange planMoreSpec)) planMoreCard

/-- THE TIED CARD OF 'hedgelaw6.PlanTrees'. -/
def planTreesCard : Claim7 := { stood := { row := planTreesRow, standIns := [], harness := (true, "4e76fd74e6e30e836ac4e9babf167acdeb967672496aceaace85dfc43f885e5c"), looks := false }, kinds := [], alts := [], laidByText := true, laidKinds := [.data, .data], laidTests := true, laidLooks := .later }
def PlanTreesCardSaid : Prop := Claim7.holds Tryd.pinned (.plain (OpenSpec.ofChange planTreesSpec)) planTreesCard

/-- THE SECOND FORM's CARD OF 'hedgelaw6.PlanNames'. -/
def planNamesUptoCard : Claim7 := { stood := { row := planNamesUptoRow, standIns := [], harness := (true, "4e76fd74e6e30e836ac4e9babf167acdeb967672496aceaace85dfc43f885e5c"), looks := false }, kinds := [], alts := [], laidByText := true, laidKinds := [.data, .data], laidTests := true, laidLooks := .later }
def PlanNamesUptoCardSaid : Prop := Claim7.holds Tryd.pinned (.plain (OpenSpec.upto planNamesSpec)) planNamesUptoCard

/-- THE SECOND FORM's CARD OF 'hedgelaw6.PlanMore'. -/
def planMoreUptoCard : Claim7 := { stood := { row := planMoreUptoRow, standIns := [], harness := (true, "4e76fd74e6e30e836ac4e9babf167acdeb967672496aceaace85dfc43f885e5c"), looks := false }, kinds := [], alts := [], laidByText := true, laidKinds := [.data, .data], laidTests := true, laidLooks := .later }
def PlanMoreUptoCardSaid : Prop := Claim7.holds Tryd.pinned (.plain (OpenSpec.upto planMoreSpec)) planMoreUptoCard

/-- THE SECOND FORM's CARD OF 'hedgelaw6.PlanTrees'. -/
def planTreesUptoCard : Claim7 := { stood := { row := planTreesUptoRow, standIns := [], harness := (true, "4e76fd74e6e30e836ac4e9babf167acdeb967672496aceaace85dfc43f885e5c"), looks := false }, kinds := [], alts := [], laidByText := true, laidKinds := [.data, .data], laidTests := true, laidLooks := .later }
def PlanTreesUptoCardSaid : Prop := Claim7.holds Tryd.pinned (.plain (OpenSpec.upto planTreesSpec)) planTreesUptoCard
end Rows
end Go.Proofs.YtaakjhdbelefiaeDoor
