/-
  No cell of these rows narrows 'for every input' (looked for: loops, veiled, ifaces, maps, wideKeys, modest, calm, conditions, laid).
  DERIVED. THE GIVEN ROWS OF THIS SEAT. 3 by the template 'for every input the law returns true; each argument reads behind the call as it read before'; 0 by the template 'total and deterministic' (their statements: YtmjgmngdahhbkaaTotals.lean).
  GIVEN WITH THE SEED: the statements are not yours to turn. If you find one false, say at which input.
  Laid BY PROGRAM, IN A SANDBOX (cutbox-rows.mjs): the forced cells as the released guide's own fill.sh prints them over the translation de536965a7ff483f… (all of the seat's roots in one cut). By AI agents, Wed Nov 11 2026. No macro, syntax, notation, axiom, sorry.
-/
import Derived.Test.YtmjgmngdahhbkaaChecked
import GoSem.Claim
import GoSem.ClaimJoined
import GoSem.ClaimMapViews
import Derived.JoinedTies
import Derived.KernelRfl
namespace Go.Proofs.Ytmjgmngdahhbkaa
/- THE CELL 'sum', in the pinned program and in every row, IS THE sha256 OF THE DUMP (.gsa) THAT YtmjgmngdahhbkaaProg.lean LOADS. Nothing in Lean hashes anything: it is a label: what it is worth is what the hold of that sum in a sandbox is worth. -/
noncomputable def Try.pinned : Pinned := { name := "ytmjgmngdahhbkaa", sum := "de536965a7ff483f5202b811e8777e220ccd946d67af90faf87c8092b8b497d6", checked := Try.checked }
namespace Rows
def none {H : Type} : Left H := { results := [], args := [] }

/-- 'hedgelaw4.HelloTells': WHATEVER THE INPUT: true; the input reads as it did. -/
def helloTellsSpec : ChangeSpec := { name := "helloTells", fn := fun _ => fun
  | [d1, d2] => { results := [.lit (.bool true)], args := [d1, d2] }
  | _ => none }
def helloTellsRow : OpenClaim := { program := "ytmjgmngdahhbkaa", sum := "de536965a7ff483f5202b811e8777e220ccd946d67af90faf87c8092b8b497d6", func := "hedgerow/hedgelaw4.HelloTells", spec := "helloTells", apart := false }
def HelloTellsSaid : Prop := helloTellsRow.holds Try.pinned (OpenSpec.ofChange helloTellsSpec)

/-- ITS FALSE NEIGHBOUR: 'it returns false'. Refute it at one input. -/
def helloTellsWrong : ChangeSpec := { name := "helloTells", fn := fun _ => fun
  | [d1, d2] => { results := [.lit (.bool false)], args := [d1, d2] }
  | _ => none }
def HelloTellsWrongFalsely : Prop := helloTellsRow.holds Try.pinned (OpenSpec.ofChange helloTellsWrong)

/-- 'hedgelaw4.HelloTurns': WHATEVER THE INPUT: true; the input reads as it did. -/
def helloTurnsSpec : ChangeSpec := { name := "helloTurns", fn := fun _ => fun
  | [d1, d2] => { results := [.lit (.bool true)], args := [d1, d2] }
  | _ => none }
def helloTurnsRow : OpenClaim := { program := "ytmjgmngdahhbkaa", sum := "de536965a7ff483f5202b811e8777e220ccd946d67af90faf87c8092b8b497d6", func := "hedgerow/hedgelaw4.HelloTurns", spec := "helloTurns", apart := false }
def HelloTurnsSaid : Prop := helloTurnsRow.holds Try.pinned (OpenSpec.ofChange helloTurnsSpec)

/-- ITS FALSE NEIGHBOUR: 'it returns false'. Refute it at one input. -/
def helloTurnsWrong : ChangeSpec := { name := "helloTurns", fn := fun _ => fun
  | [d1, d2] => { results := [.lit (.bool false)], args := [d1, d2] }
  | _ => none }
def HelloTurnsWrongFalsely : Prop := helloTurnsRow.holds Try.pinned (OpenSpec.ofChange helloTurnsWrong)

/-- 'hedgelaw4.HelloMore': WHATEVER THE INPUT: true; the input reads as it did. -/
def helloMoreSpec : ChangeSpec := { name := "helloMore", fn := fun _ => fun
  | [d1, d2] => { results := [.lit (.bool true)], args := [d1, d2] }
  | _ => none }
def helloMoreRow : OpenClaim := { program := "ytmjgmngdahhbkaa", sum := "de536965a7ff483f5202b811e8777e220ccd946d67af90faf87c8092b8b497d6", func := "hedgerow/hedgelaw4.HelloMore", spec := "helloMore", apart := false }
def HelloMoreSaid : Prop := helloMoreRow.holds Try.pinned (OpenSpec.ofChange helloMoreSpec)

/-- ITS FALSE NEIGHBOUR: 'it returns false'. Refute it at one input. -/
def helloMoreWrong : ChangeSpec := { name := "helloMore", fn := fun _ => fun
  | [d1, d2] => { results := [.lit (.bool false)], args := [d1, d2] }
  | _ => none }
def HelloMoreWrongFalsely : Prop := helloMoreRow.holds Try.pinned (OpenSpec.ofChange helloMoreWrong)

/- THE SECOND FORM. 'bulk': how many values and letters a reading holds, each counted each time it is reached (what is shared counts as often as it is met; a slice's spare places count too). A statement '..UptoSaid' is the law's where the arguments, and the package variables that the reading takes, are together of bulk at most 1048576: NARROWER than '..Said'. Prove '..Said' where nothing that the law and all that it calls make is longer than what came in: it says more and counts as full. Else prove '..UptoSaid'. A law counts once. -/
mutual
def uptoBulk {H : Type} : DataW H → Nat
  | .lit (.string bytes) => bytes.length + 1
  | .lit _ => 1
  | .nil => 1
  | .ptr d => uptoBulk d + 1
  | .slice elems spare => uptoBulkAll elems + uptoBulkAll spare + 1
  | .agg parts => uptoBulkAll parts + 1
  | .iface _ d => uptoBulk d + 1
  | .map entries => uptoBulkEntries entries + 1
  | .held _ => 1
def uptoBulkAll {H : Type} : List (DataW H) → Nat
  | [] => 0
  | d :: r => uptoBulk d + uptoBulkAll r
def uptoBulkEntries {H : Type} : List (Lit × DataW H) → Nat
  | [] => 0
  | x :: r => uptoBulkEntry x + uptoBulkEntries r
def uptoBulkEntry {H : Type} : Lit × DataW H → Nat
  | (.string bytes, d) => bytes.length + uptoBulk d + 1
  | (_, d) => uptoBulk d + 1
 end
def uptoSmall : (H : Type) → List (DataW H) → Bool := fun _ ds => decide (uptoBulkAll ds ≤ 1048576)
def OpenSpec.upto (s : _root_.Go.ChangeSpec) : _root_.Go.OpenSpec := { _root_.Go.OpenSpec.ofChange s with cond := some uptoSmall }

/-- 'hedgelaw4.HelloTells', WHERE WHAT IT READS IS OF BULK AT MOST 1048576: true; the input reads as it did. -/
def helloTellsUptoRow : OpenClaim := { program := "ytmjgmngdahhbkaa", sum := "de536965a7ff483f5202b811e8777e220ccd946d67af90faf87c8092b8b497d6", func := "hedgerow/hedgelaw4.HelloTells", spec := "helloTells", apart := false, narrowed := true }
def HelloTellsUptoSaid : Prop := helloTellsUptoRow.holds Try.pinned (OpenSpec.upto helloTellsSpec)

/-- 'hedgelaw4.HelloTurns', WHERE WHAT IT READS IS OF BULK AT MOST 1048576: true; the input reads as it did. -/
def helloTurnsUptoRow : OpenClaim := { program := "ytmjgmngdahhbkaa", sum := "de536965a7ff483f5202b811e8777e220ccd946d67af90faf87c8092b8b497d6", func := "hedgerow/hedgelaw4.HelloTurns", spec := "helloTurns", apart := false, narrowed := true }
def HelloTurnsUptoSaid : Prop := helloTurnsUptoRow.holds Try.pinned (OpenSpec.upto helloTurnsSpec)

/-- 'hedgelaw4.HelloMore', WHERE WHAT IT READS IS OF BULK AT MOST 1048576: true; the input reads as it did. -/
def helloMoreUptoRow : OpenClaim := { program := "ytmjgmngdahhbkaa", sum := "de536965a7ff483f5202b811e8777e220ccd946d67af90faf87c8092b8b497d6", func := "hedgerow/hedgelaw4.HelloMore", spec := "helloMore", apart := false, narrowed := true }
def HelloMoreUptoSaid : Prop := helloMoreUptoRow.holds Try.pinned (OpenSpec.upto helloMoreSpec)

end Rows
end Go.Proofs.Ytmjgmngdahhbkaa
