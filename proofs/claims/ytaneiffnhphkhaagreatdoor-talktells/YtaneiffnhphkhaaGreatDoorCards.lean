/-
  DERIVED. GIVEN WITH THE SEED: THE CARDS: each row of YtaneiffnhphkhaaGreatDoorRows.lean that lists a variable, with what it lists TIED to the program's text (the seventh form; the later family's looks); each row that meets fmt, with fmt's text TOLD by the authors' own Lean function (tested against real Go, not proved from fmt's source: count such statements apart). THE CARD IS WHAT COUNTS. Prove the row's statement (the work); the ties are given (YtaneiffnhphkhaaGreatDoorTie.lean); close each card by the builder's one call (the guide's Derived/Test/ToyasCard.lean, 'card_holds'). Laid BY PROGRAM, IN A SANDBOX (cutbox-door.mjs). By AI agents, Wed Nov 11 2026. No macro, syntax, notation, axiom, sorry.
-/
import Derived.Test.YtaneiffnhphkhaaGreatDoorRows
import GoSem.ClaimSeven
namespace Go.Proofs.YtaneiffnhphkhaaGreatDoor
namespace Rows

/-- THE TIED CARD OF 'hedgelaw7.TalkTells'. -/
def talkTellsCard : Claim7 := { stood := { row := talkTellsRow, standIns := [], harness := (true, "34a4596f1eaf5648ac9ee4d530011b47bd6d7c1d1e883b61da3a1c47a0e0b154"), looks := false }, kinds := [], alts := [], laidByText := true, laidKinds := [.data, .data], laidTests := true, laidLooks := .later }
def TalkTellsCardSaid : Prop := Claim7.holds Tryz.pinned (.plain (OpenSpec.ofChange talkTellsSpec)) talkTellsCard

/-- THE TIED CARD OF 'hedgelaw7.TalkOn'. -/
def talkOnCard : Claim7 := { stood := { row := talkOnRow, standIns := [], harness := (true, "34a4596f1eaf5648ac9ee4d530011b47bd6d7c1d1e883b61da3a1c47a0e0b154"), looks := false }, kinds := [], alts := [], laidByText := true, laidKinds := [.data, .data], laidTests := true, laidLooks := .later }
def TalkOnCardSaid : Prop := Claim7.holds Tryz.pinned (.plain (OpenSpec.ofChange talkOnSpec)) talkOnCard

/-- THE TIED CARD OF 'hedgelaw7.TalkSettles'. -/
def talkSettlesCard : Claim7 := { stood := { row := talkSettlesRow, standIns := [], harness := (true, "34a4596f1eaf5648ac9ee4d530011b47bd6d7c1d1e883b61da3a1c47a0e0b154"), looks := false }, kinds := [], alts := [], laidByText := true, laidKinds := [.data, .data], laidTests := true, laidLooks := .later }
def TalkSettlesCardSaid : Prop := Claim7.holds Tryz.pinned (.plain (OpenSpec.ofChange talkSettlesSpec)) talkSettlesCard

/-- THE TIED CARD OF 'hedgelaw7.TalkRings'. -/
def talkRingsCard : Claim7 := { stood := { row := talkRingsRow, standIns := [], harness := (true, "34a4596f1eaf5648ac9ee4d530011b47bd6d7c1d1e883b61da3a1c47a0e0b154"), looks := false }, kinds := [], alts := [], laidByText := true, laidKinds := [.data, .data], laidTests := true, laidLooks := .later }
def TalkRingsCardSaid : Prop := Claim7.holds Tryz.pinned (.plain (OpenSpec.ofChange talkRingsSpec)) talkRingsCard

/-- THE TIED CARD OF 'hedgelaw7.TalkOpens'. -/
def talkOpensCard : Claim7 := { stood := { row := talkOpensRow, standIns := [], harness := (true, "34a4596f1eaf5648ac9ee4d530011b47bd6d7c1d1e883b61da3a1c47a0e0b154"), looks := false }, kinds := [], alts := [], laidByText := true, laidKinds := [.data, .data], laidTests := true, laidLooks := .later }
def TalkOpensCardSaid : Prop := Claim7.holds Tryz.pinned (.plain (OpenSpec.ofChange talkOpensSpec)) talkOpensCard

/-- THE TIED CARD OF 'hedgelaw7.TalkTrees'. -/
def talkTreesCard : Claim7 := { stood := { row := talkTreesRow, standIns := [], harness := (true, "34a4596f1eaf5648ac9ee4d530011b47bd6d7c1d1e883b61da3a1c47a0e0b154"), looks := false }, kinds := [], alts := [], laidByText := true, laidKinds := [.data, .data], laidTests := true, laidLooks := .later }
def TalkTreesCardSaid : Prop := Claim7.holds Tryz.pinned (.plain (OpenSpec.ofChange talkTreesSpec)) talkTreesCard

/-- THE TIED CARD OF 'hedgelaw7.TalkAges'. -/
def talkAgesCard : Claim7 := { stood := { row := talkAgesRow, standIns := [], harness := (true, "34a4596f1eaf5648ac9ee4d530011b47bd6d7c1d1e883b61da3a1c47a0e0b154"), looks := false }, kinds := [], alts := [], laidByText := true, laidKinds := [.data, .data], laidTests := true, laidLooks := .later }
def TalkAgesCardSaid : Prop := Claim7.holds Tryz.pinned (.plain (OpenSpec.ofChange talkAgesSpec)) talkAgesCard

/-- THE TIED CARD OF 'hedgelaw7.TalkQuiet'. -/
def talkQuietCard : Claim7 := { stood := { row := talkQuietRow, standIns := [], harness := (true, "34a4596f1eaf5648ac9ee4d530011b47bd6d7c1d1e883b61da3a1c47a0e0b154"), looks := false }, kinds := [], alts := [], laidByText := true, laidKinds := [.data, .data], laidTests := true, laidLooks := .later }
def TalkQuietCardSaid : Prop := Claim7.holds Tryz.pinned (.plain (OpenSpec.ofChange talkQuietSpec)) talkQuietCard

/-- THE TIED CARD OF 'hedgelaw7.TalkBack'. -/
def talkBackCard : Claim7 := { stood := { row := talkBackRow, standIns := [], harness := (true, "34a4596f1eaf5648ac9ee4d530011b47bd6d7c1d1e883b61da3a1c47a0e0b154"), looks := false }, kinds := [], alts := [], laidByText := true, laidKinds := [.data, .data], laidTests := true, laidLooks := .later }
def TalkBackCardSaid : Prop := Claim7.holds Tryz.pinned (.plain (OpenSpec.ofChange talkBackSpec)) talkBackCard

/-- THE SECOND FORM's CARD OF 'hedgelaw7.TalkTells'. -/
def talkTellsUptoCard : Claim7 := { stood := { row := talkTellsUptoRow, standIns := [], harness := (true, "34a4596f1eaf5648ac9ee4d530011b47bd6d7c1d1e883b61da3a1c47a0e0b154"), looks := false }, kinds := [], alts := [], laidByText := true, laidKinds := [.data, .data], laidTests := true, laidLooks := .later }
def TalkTellsUptoCardSaid : Prop := Claim7.holds Tryz.pinned (.plain (OpenSpec.upto talkTellsSpec)) talkTellsUptoCard

/-- THE SECOND FORM's CARD OF 'hedgelaw7.TalkOn'. -/
def talkOnUptoCard : Claim7 := { stood := { row := talkOnUptoRow, standIns := [], harness := (true, "34a4596f1eaf5648ac9ee4d530011b47bd6d7c1d1e883b61da3a1c47a0e0b154"), looks := false }, kinds := [], alts := [], laidByText := true, laidKinds := [.data, .data], laidTests := true, laidLooks := .later }
def TalkOnUptoCardSaid : Prop := Claim7.holds Tryz.pinned (.plain (OpenSpec.upto talkOnSpec)) talkOnUptoCard

/-- THE SECOND FORM's CARD OF 'hedgelaw7.TalkSettles'. -/
def talkSettlesUptoCard : Claim7 := { stood := { row := talkSettlesUptoRow, standIns := [], harness := (true, "34a4596f1eaf5648ac9ee4d530011b47bd6d7c1d1e883b61da3a1c47a0e0b154"), looks := false }, kinds := [], alts := [], laidByText := true, laidKinds := [.data, .data], laidTests := true, laidLooks := .later }
def TalkSettlesUptoCardSaid : Prop := Claim7.holds Tryz.pinned (.plain (OpenSpec.upto talkSettlesSpec)) talkSettlesUptoCard

/-- THE SECOND FORM's CARD OF 'hedgelaw7.TalkRings'. -/
def talkRingsUptoCard : Claim7 := { stood := { row := talkRingsUptoRow, standIns := [], harness := (true, "34a4596f1eaf5648ac9ee4d530011b47bd6d7c1d1e883b61da3a1c47a0e0b154"), looks := false }, kinds := [], alts := [], laidByText := true, laidKinds := [.data, .data], laidTests := true, laidLooks := .later }
def TalkRingsUptoCardSaid : Prop := Claim7.holds Tryz.pinned (.plain (OpenSpec.upto talkRingsSpec)) talkRingsUptoCard

/-- THE SECOND FORM's CARD OF 'hedgelaw7.TalkOpens'. -/
def talkOpensUptoCard : Claim7 := { stood := { row := talkOpensUptoRow, standIns := [], harness := (true, "34a4596f1eaf5648ac9ee4d530011b47bd6d7c1d1e883b61da3a1c47a0e0b154"), looks := false }, kinds := [], alts := [], laidByText := true, laidKinds := [.data, .data], laidTests := true, laidLooks := .later }
def TalkOpensUptoCardSaid : Prop := Claim7.holds Tryz.pinned (.plain (OpenSpec.upto talkOpensSpec)) talkOpensUptoCard

/-- THE SECOND FORM's CARD OF 'hedgelaw7.TalkTrees'. -/
def talkTreesUptoCard : Claim7 := { stood := { row := talkTreesUptoRow, standIns := [], harness := (true, "34a4596f1eaf5648ac9ee4d530011b47bd6d7c1d1e883b61da3a1c47a0e0b154"), looks := false }, kinds := [], alts := [], laidByText := true, laidKinds := [.data, .data], laidTests := true, laidLooks := .later }
def TalkTreesUptoCardSaid : Prop := Claim7.holds Tryz.pinned (.plain (OpenSpec.upto talkTreesSpec)) talkTreesUptoCard

/-- THE SECOND FORM's CARD OF 'hedgelaw7.TalkAges'. -/
def talkAgesUptoCard : Claim7 := { stood := { row := talkAgesUptoRow, standIns := [], harness := (true, "34a4596f1eaf5648ac9ee4d530011b47bd6d7c1d1e883b61da3a1c47a0e0b154"), looks := false }, kinds := [], alts := [], laidByText := true, laidKinds := [.data, .data], laidTests := true, laidLooks := .later }
def TalkAgesUptoCardSaid : Prop := Claim7.holds Tryz.pinned (.plain (OpenSpec.upto talkAgesSpec)) talkAgesUptoCard

/-- THE SECOND FORM's CARD OF 'hedgelaw7.TalkQuiet'. -/
def talkQuietUptoCard : Claim7 := { stood := { row := talkQuietUptoRow, standIns := [], harness := (true, "34a4596f1eaf5648ac9ee4d530011b47bd6d7c1d1e883b61da3a1c47a0e0b154"), looks := false }, kinds := [], alts := [], laidByText := true, laidKinds := [.data, .data], laidTests := true, laidLooks := .later }
def TalkQuietUptoCardSaid : Prop := Claim7.holds Tryz.pinned (.plain (OpenSpec.upto talkQuietSpec)) talkQuietUptoCard

/-- THE SECOND FORM's CARD OF 'hedgelaw7.TalkBack'. -/
def talkBackUptoCard : Claim7 := { stood := { row := talkBackUptoRow, standIns := [], harness := (true, "34a4596f1eaf5648ac9ee4d530011b47bd6d7c1d1e883b61da3a1c47a0e0b154"), looks := false }, kinds := [], alts := [], laidByText := true, laidKinds := [.data, .data], laidTests := true, laidLooks := .later }
def TalkBackUptoCardSaid : Prop := Claim7.holds Tryz.pinned (.plain (OpenSpec.upto talkBackSpec)) talkBackUptoCard
end Rows
end Go.Proofs.YtaneiffnhphkhaaGreatDoor
