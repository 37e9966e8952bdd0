/-
  DERIVED. GIVEN WITH THE SEED: THE CARDS: each row of YtcbpafpaimpfnaaGreatDoorRows.lean that lists a variable, with what it lists TIED to the program's text (the seventh form; the later family's looks); each row that meets fmt, with fmt's text TOLD by the authors' own Lean function (tested against real Go, not proved from fmt's source: count such statements apart). THE CARD IS WHAT COUNTS. Prove the row's statement (the work); the ties are given (YtcbpafpaimpfnaaGreatDoorTie.lean); close each card by the builder's one call (the guide's Derived/Test/ToyasCard.lean, 'card_holds'). Laid BY PROGRAM, IN A SANDBOX (cutbox-door.mjs). By AI agents, Wed Nov 11 2026. No macro, syntax, notation, axiom, sorry.
-/
import Derived.Test.YtcbpafpaimpfnaaGreatDoorRows
import GoSem.ClaimSeven
namespace Go.Proofs.YtcbpafpaimpfnaaGreatDoor
namespace Rows

/-- THE TIED CARD OF 'hedgelaw6.PlanTells'. -/
def planTellsCard : Claim7 := { stood := { row := planTellsRow, standIns := [], harness := (true, "22097b26d843ccd6e78556c652ba384ef9bdb0792ea912cc46f8a337327dfff7"), looks := false }, kinds := [], alts := [], laidByText := true, laidKinds := [.data, .data], laidTests := true, laidLooks := .later }
def PlanTellsCardSaid : Prop := Claim7.holds Tryz.pinned (.plain (OpenSpec.ofChange planTellsSpec)) planTellsCard

/-- THE TIED CARD OF 'hedgelaw6.PlanRoot'. -/
def planRootCard : Claim7 := { stood := { row := planRootRow, standIns := [], harness := (true, "22097b26d843ccd6e78556c652ba384ef9bdb0792ea912cc46f8a337327dfff7"), looks := false }, kinds := [], alts := [], laidByText := true, laidKinds := [.data, .data], laidTests := true, laidLooks := .later }
def PlanRootCardSaid : Prop := Claim7.holds Tryz.pinned (.plain (OpenSpec.ofChange planRootSpec)) planRootCard

/-- THE TIED CARD OF 'hedgelaw6.PlanFar'. -/
def planFarCard : Claim7 := { stood := { row := planFarRow, standIns := [], harness := (true, "22097b26d843ccd6e78556c652ba384ef9bdb0792ea912cc46f8a337327dfff7"), looks := false }, kinds := [], alts := [], laidByText := true, laidKinds := [.data, .data], laidTests := true, laidLooks := .later }
def PlanFarCardSaid : Prop := Claim7.holds Tryz.pinned (.plain (OpenSpec.ofChange planFarSpec)) planFarCard

/-- THE TIED CARD OF 'hedgelaw6.PlanEnds'. -/
def planEndsCard : Claim7 := { stood := { row := planEndsRow, standIns := [], harness := (true, "22097b26d843ccd6e78556c652ba384ef9bdb0792ea912cc46f8a337327dfff7"), looks := false }, kinds := [], alts := [], laidByText := true, laidKinds := [.data, .data], laidTests := true, laidLooks := .later }
def PlanEndsCardSaid : Prop := Claim7.holds Tryz.pinned (.plain (OpenSpec.ofChange planEndsSpec)) planEndsCard

/-- THE TIED CARD OF 'hedgelaw6.PlanTree'. -/
def planTreeCard : Claim7 := { stood := { row := planTreeRow, standIns := [], harness := (true, "22097b26d843ccd6e78556c652ba384ef9bdb0792ea912cc46f8a337327dfff7"), looks := false }, kinds := [], alts := [], laidByText := true, laidKinds := [.data, .data], laidTests := true, laidLooks := .later }
def PlanTreeCardSaid : Prop := Claim7.holds Tryz.pinned (.plain (OpenSpec.ofChange planTreeSpec)) planTreeCard

/-- THE TIED CARD OF 'hedgelaw6.PlanNames'. -/
def planNamesCard : Claim7 := { stood := { row := planNamesRow, standIns := [], harness := (true, "22097b26d843ccd6e78556c652ba384ef9bdb0792ea912cc46f8a337327dfff7"), looks := false }, kinds := [], alts := [], laidByText := true, laidKinds := [.data, .data], laidTests := true, laidLooks := .later }
def PlanNamesCardSaid : Prop := Claim7.holds Tryz.pinned (.plain (OpenSpec.ofChange planNamesSpec)) planNamesCard

/-- THE TIED CARD OF 'hedgelaw6.PlanTrees'. -/
def planTreesCard : Claim7 := { stood := { row := planTreesRow, standIns := [], harness := (true, "22097b26d843ccd6e78556c652ba384ef9bdb0792ea912cc46f8a337327dfff7"), looks := false }, kinds := [], alts := [], laidByText := true, laidKinds := [.data, .data], laidTests := true, laidLooks := .later }
def PlanTreesCardSaid : Prop := Claim7.holds Tryz.pinned (.plain (OpenSpec.ofChange planTreesSpec)) planTreesCard

/-- THE SECOND FORM's CARD OF 'hedgelaw6.PlanTells'. -/
def planTellsUptoCard : Claim7 := { stood := { row := planTellsUptoRow, standIns := [], harness := (true, "22097b26d843ccd6e78556c652ba384ef9bdb0792ea912cc46f8a337327dfff7"), looks := false }, kinds := [], alts := [], laidByText := true, laidKinds := [.data, .data], laidTests := true, laidLooks := .later }
def PlanTellsUptoCardSaid : Prop := Claim7.holds Tryz.pinned (.plain (OpenSpec.upto planTellsSpec)) planTellsUptoCard

/-- THE SECOND FORM's CARD OF 'hedgelaw6.PlanRoot'. -/
def planRootUptoCard : Claim7 := { stood := { row := planRootUptoRow, standIns := [], harness := (true, "22097b26d843ccd6e78556c652ba384ef9bdb0792ea912cc46f8a337327dfff7"), looks := false }, kinds := [], alts := [], laidByText := true, laidKinds := [.data, .data], laidTests := true, laidLooks := .later }
def PlanRootUptoCardSaid : Prop := Claim7.holds Tryz.pinned (.plain (OpenSpec.upto planRootSpec)) planRootUptoCard

/-- THE SECOND FORM's CARD OF 'hedgelaw6.PlanFar'. -/
def planFarUptoCard : Claim7 := { stood := { row := planFarUptoRow, standIns := [], harness := (true, "22097b26d843ccd6e78556c652ba384ef9bdb0792ea912cc46f8a337327dfff7"), looks := false }, kinds := [], alts := [], laidByText := true, laidKinds := [.data, .data], laidTests := true, laidLooks := .later }
def PlanFarUptoCardSaid : Prop := Claim7.holds Tryz.pinned (.plain (OpenSpec.upto planFarSpec)) planFarUptoCard

/-- THE SECOND FORM's CARD OF 'hedgelaw6.PlanEnds'. -/
def planEndsUptoCard : Claim7 := { stood := { row := planEndsUptoRow, standIns := [], harness := (true, "22097b26d843ccd6e78556c652ba384ef9bdb0792ea912cc46f8a337327dfff7"), looks := false }, kinds := [], alts := [], laidByText := true, laidKinds := [.data, .data], laidTests := true, laidLooks := .later }
def PlanEndsUptoCardSaid : Prop := Claim7.holds Tryz.pinned (.plain (OpenSpec.upto planEndsSpec)) planEndsUptoCard

/-- THE SECOND FORM's CARD OF 'hedgelaw6.PlanTree'. -/
def planTreeUptoCard : Claim7 := { stood := { row := planTreeUptoRow, standIns := [], harness := (true, "22097b26d843ccd6e78556c652ba384ef9bdb0792ea912cc46f8a337327dfff7"), looks := false }, kinds := [], alts := [], laidByText := true, laidKinds := [.data, .data], laidTests := true, laidLooks := .later }
def PlanTreeUptoCardSaid : Prop := Claim7.holds Tryz.pinned (.plain (OpenSpec.upto planTreeSpec)) planTreeUptoCard

/-- THE SECOND FORM's CARD OF 'hedgelaw6.PlanNames'. -/
def planNamesUptoCard : Claim7 := { stood := { row := planNamesUptoRow, standIns := [], harness := (true, "22097b26d843ccd6e78556c652ba384ef9bdb0792ea912cc46f8a337327dfff7"), looks := false }, kinds := [], alts := [], laidByText := true, laidKinds := [.data, .data], laidTests := true, laidLooks := .later }
def PlanNamesUptoCardSaid : Prop := Claim7.holds Tryz.pinned (.plain (OpenSpec.upto planNamesSpec)) planNamesUptoCard

/-- THE SECOND FORM's CARD OF 'hedgelaw6.PlanTrees'. -/
def planTreesUptoCard : Claim7 := { stood := { row := planTreesUptoRow, standIns := [], harness := (true, "22097b26d843ccd6e78556c652ba384ef9bdb0792ea912cc46f8a337327dfff7"), looks := false }, kinds := [], alts := [], laidByText := true, laidKinds := [.data, .data], laidTests := true, laidLooks := .later }
def PlanTreesUptoCardSaid : Prop := Claim7.holds Tryz.pinned (.plain (OpenSpec.upto planTreesSpec)) planTreesUptoCard
end Rows
end Go.Proofs.YtcbpafpaimpfnaaGreatDoor
