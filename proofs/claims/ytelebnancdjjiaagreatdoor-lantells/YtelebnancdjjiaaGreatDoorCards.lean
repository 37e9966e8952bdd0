/-
  DERIVED. GIVEN WITH THE SEED: THE CARDS: each row of YtelebnancdjjiaaGreatDoorRows.lean that lists a variable, with what it lists TIED to the program's text (the seventh form; the later family's looks); each row that meets fmt, with fmt's text TOLD by the authors' own Lean function (tested against real Go, not proved from fmt's source: count such statements apart). THE CARD IS WHAT COUNTS. Prove the row's statement (the work); the ties are given (YtelebnancdjjiaaGreatDoorTie.lean); close each card by the builder's one call (the guide's Derived/Test/ToyasCard.lean, 'card_holds'). Laid BY PROGRAM, IN A SANDBOX (cutbox-door.mjs). By AI agents, Wed Nov 11 2026. No macro, syntax, notation, axiom, sorry.
-/
import Derived.Test.YtelebnancdjjiaaGreatDoorRows
import GoSem.ClaimSeven
namespace Go.Proofs.YtelebnancdjjiaaGreatDoor
namespace Rows

/-- THE TIED CARD OF 'hedgelaw10.LanTells'. -/
def lanTellsCard : Claim7 := { stood := { row := lanTellsRow, standIns := [], harness := (true, "bb1a6a836954ee681a5b35e7dd32bb28fd59ce471934378e816de450859d490a"), looks := false }, kinds := [], alts := [], laidByText := true, laidKinds := [.data, .data], laidTests := true, laidLooks := .later }
def LanTellsCardSaid : Prop := Claim7.holds Tryz.pinned (.plain (OpenSpec.ofChange lanTellsSpec)) lanTellsCard

/-- THE TIED CARD OF 'hedgelaw10.LanOnce'. -/
def lanOnceCard : Claim7 := { stood := { row := lanOnceRow, standIns := [], harness := (true, "bb1a6a836954ee681a5b35e7dd32bb28fd59ce471934378e816de450859d490a"), looks := false }, kinds := [], alts := [], laidByText := true, laidKinds := [.data, .data], laidTests := true, laidLooks := .later }
def LanOnceCardSaid : Prop := Claim7.holds Tryz.pinned (.plain (OpenSpec.ofChange lanOnceSpec)) lanOnceCard

/-- THE TIED CARD OF 'hedgelaw10.LanBack'. -/
def lanBackCard : Claim7 := { stood := { row := lanBackRow, standIns := [], harness := (true, "bb1a6a836954ee681a5b35e7dd32bb28fd59ce471934378e816de450859d490a"), looks := false }, kinds := [], alts := [], laidByText := true, laidKinds := [.data, .data], laidTests := true, laidLooks := .later }
def LanBackCardSaid : Prop := Claim7.holds Tryz.pinned (.plain (OpenSpec.ofChange lanBackSpec)) lanBackCard

/-- THE TIED CARD OF 'hedgelaw10.LanNever'. -/
def lanNeverCard : Claim7 := { stood := { row := lanNeverRow, standIns := [], harness := (true, "bb1a6a836954ee681a5b35e7dd32bb28fd59ce471934378e816de450859d490a"), looks := false }, kinds := [], alts := [], laidByText := true, laidKinds := [.data, .data], laidTests := true, laidLooks := .later }
def LanNeverCardSaid : Prop := Claim7.holds Tryz.pinned (.plain (OpenSpec.ofChange lanNeverSpec)) lanNeverCard

/-- THE TIED CARD OF 'hedgelaw10.LanApart'. -/
def lanApartCard : Claim7 := { stood := { row := lanApartRow, standIns := [], harness := (true, "bb1a6a836954ee681a5b35e7dd32bb28fd59ce471934378e816de450859d490a"), looks := false }, kinds := [], alts := [], laidByText := true, laidKinds := [.data, .data], laidTests := true, laidLooks := .later }
def LanApartCardSaid : Prop := Claim7.holds Tryz.pinned (.plain (OpenSpec.ofChange lanApartSpec)) lanApartCard

/-- THE TIED CARD OF 'hedgelaw10.LanFrames'. -/
def lanFramesCard : Claim7 := { stood := { row := lanFramesRow, standIns := [], harness := (true, "bb1a6a836954ee681a5b35e7dd32bb28fd59ce471934378e816de450859d490a"), looks := false }, kinds := [], alts := [], laidByText := true, laidKinds := [.data, .data], laidTests := true, laidLooks := .later }
def LanFramesCardSaid : Prop := Claim7.holds Tryz.pinned (.plain (OpenSpec.ofChange lanFramesSpec)) lanFramesCard

/-- THE SECOND FORM's CARD OF 'hedgelaw10.LanTells'. -/
def lanTellsUptoCard : Claim7 := { stood := { row := lanTellsUptoRow, standIns := [], harness := (true, "bb1a6a836954ee681a5b35e7dd32bb28fd59ce471934378e816de450859d490a"), looks := false }, kinds := [], alts := [], laidByText := true, laidKinds := [.data, .data], laidTests := true, laidLooks := .later }
def LanTellsUptoCardSaid : Prop := Claim7.holds Tryz.pinned (.plain (OpenSpec.upto lanTellsSpec)) lanTellsUptoCard

/-- THE SECOND FORM's CARD OF 'hedgelaw10.LanOnce'. -/
def lanOnceUptoCard : Claim7 := { stood := { row := lanOnceUptoRow, standIns := [], harness := (true, "bb1a6a836954ee681a5b35e7dd32bb28fd59ce471934378e816de450859d490a"), looks := false }, kinds := [], alts := [], laidByText := true, laidKinds := [.data, .data], laidTests := true, laidLooks := .later }
def LanOnceUptoCardSaid : Prop := Claim7.holds Tryz.pinned (.plain (OpenSpec.upto lanOnceSpec)) lanOnceUptoCard

/-- THE SECOND FORM's CARD OF 'hedgelaw10.LanBack'. -/
def lanBackUptoCard : Claim7 := { stood := { row := lanBackUptoRow, standIns := [], harness := (true, "bb1a6a836954ee681a5b35e7dd32bb28fd59ce471934378e816de450859d490a"), looks := false }, kinds := [], alts := [], laidByText := true, laidKinds := [.data, .data], laidTests := true, laidLooks := .later }
def LanBackUptoCardSaid : Prop := Claim7.holds Tryz.pinned (.plain (OpenSpec.upto lanBackSpec)) lanBackUptoCard

/-- THE SECOND FORM's CARD OF 'hedgelaw10.LanNever'. -/
def lanNeverUptoCard : Claim7 := { stood := { row := lanNeverUptoRow, standIns := [], harness := (true, "bb1a6a836954ee681a5b35e7dd32bb28fd59ce471934378e816de450859d490a"), looks := false }, kinds := [], alts := [], laidByText := true, laidKinds := [.data, .data], laidTests := true, laidLooks := .later }
def LanNeverUptoCardSaid : Prop := Claim7.holds Tryz.pinned (.plain (OpenSpec.upto lanNeverSpec)) lanNeverUptoCard

/-- THE SECOND FORM's CARD OF 'hedgelaw10.LanApart'. -/
def lanApartUptoCard : Claim7 := { stood := { row := lanApartUptoRow, standIns := [], harness := (true, "bb1a6a836954ee681a5b35e7dd32bb28fd59ce471934378e816de450859d490a"), looks := false }, kinds := [], alts := [], laidByText := true, laidKinds := [.data, .data], laidTests := true, laidLooks := .later }
def LanApartUptoCardSaid : Prop := Claim7.holds Tryz.pinned (.plain (OpenSpec.upto lanApartSpec)) lanApartUptoCard

/-- THE SECOND FORM's CARD OF 'hedgelaw10.LanFrames'. -/
def lanFramesUptoCard : Claim7 := { stood := { row := lanFramesUptoRow, standIns := [], harness := (true, "bb1a6a836954ee681a5b35e7dd32bb28fd59ce471934378e816de450859d490a"), looks := false }, kinds := [], alts := [], laidByText := true, laidKinds := [.data, .data], laidTests := true, laidLooks := .later }
def LanFramesUptoCardSaid : Prop := Claim7.holds Tryz.pinned (.plain (OpenSpec.upto lanFramesSpec)) lanFramesUptoCard
end Rows
end Go.Proofs.YtelebnancdjjiaaGreatDoor
