/-
  NARROWER THAN 'FOR EVERY INPUT', by the rows' own cells (each row's printed sentence says how): TalkTells: laid · TalkOn: laid · TalkSettles: laid · TalkRings: laid · TalkOpens: laid · TalkTrees: laid · TalkAges: laid · TalkQuiet: laid · TalkBack: laid.
  DERIVED. THE GIVEN ROWS OF THIS SEAT. 9 by the template 'for every input the law returns true; each argument reads behind the call as it read before'; 0 by the template 'total and deterministic' (their statements: YtaneiffnhphkhaaGreatDoorTotals.lean).
  GIVEN WITH THE SEED: the statements are not yours to turn. If you find one false, say at which input.
  Laid BY PROGRAM, IN A SANDBOX (cutbox-rows.mjs): the forced cells as the released guide's own fill.sh prints them over the translation a1765df9c423ac26… (all of the seat's roots in one cut). By AI agents, Wed Nov 11 2026. No macro, syntax, notation, axiom, sorry.
-/
import Derived.Test.YtaneiffnhphkhaaGreatDoorChecked
import GoSem.Claim
import GoSem.ClaimJoined
import GoSem.ClaimMapViews
import Derived.JoinedTies
import Derived.KernelRfl
namespace Go.Proofs.YtaneiffnhphkhaaGreatDoor
/- THE CELL 'sum', in the pinned program and in every row, IS THE sha256 OF THE DUMP (.gsa) THAT YtaneiffnhphkhaaGreatDoorProg.lean LOADS. Nothing in Lean hashes anything: it is a label: what it is worth is what the hold of that sum in a sandbox is worth. -/
noncomputable def Tryz.pinned : Pinned := { name := "ytaneiffnhphkhaagreatdoor", sum := "a1765df9c423ac26f51a4a7ea6ecff871fd5af280d93819baaa841967719e3bd", checked := Tryz.checked }
namespace Rows
def none {H : Type} : Left H := { results := [], args := [] }

/- WHAT THE LISTED PACKAGE-LEVEL VARIABLES READ AS WHEN THE CALL BEGINS. Each datum BY PROGRAM (the guide's laid-datum.mjs) off the statement by which the dump's own 'gosem.cut.vars' lays the variable. In a bare row this is a premise. The card (YtaneiffnhphkhaaGreatDoorCards.lean) ties it to the program's text. -/
def laid_hedgerow_md5_turns {H : Type} : DataW H := .agg [.agg [.lit (.int .i64 7), .lit (.int .i64 12), .lit (.int .i64 17), .lit (.int .i64 22)], .agg [.lit (.int .i64 5), .lit (.int .i64 9), .lit (.int .i64 14), .lit (.int .i64 20)], .agg [.lit (.int .i64 4), .lit (.int .i64 11), .lit (.int .i64 16), .lit (.int .i64 23)], .agg [.lit (.int .i64 6), .lit (.int .i64 10), .lit (.int .i64 15), .lit (.int .i64 21)]]
def laid_hedgerow_md5_addends {H : Type} : DataW H := .agg [.lit (.int .u32 3614090360), .lit (.int .u32 3905402710), .lit (.int .u32 606105819), .lit (.int .u32 3250441966), .lit (.int .u32 4118548399), .lit (.int .u32 1200080426), .lit (.int .u32 2821735955), .lit (.int .u32 4249261313), .lit (.int .u32 1770035416), .lit (.int .u32 2336552879), .lit (.int .u32 4294925233), .lit (.int .u32 2304563134), .lit (.int .u32 1804603682), .lit (.int .u32 4254626195), .lit (.int .u32 2792965006), .lit (.int .u32 1236535329), .lit (.int .u32 4129170786), .lit (.int .u32 3225465664), .lit (.int .u32 643717713), .lit (.int .u32 3921069994), .lit (.int .u32 3593408605), .lit (.int .u32 38016083), .lit (.int .u32 3634488961), .lit (.int .u32 3889429448), .lit (.int .u32 568446438), .lit (.int .u32 3275163606), .lit (.int .u32 4107603335), .lit (.int .u32 1163531501), .lit (.int .u32 2850285829), .lit (.int .u32 4243563512), .lit (.int .u32 1735328473), .lit (.int .u32 2368359562), .lit (.int .u32 4294588738), .lit (.int .u32 2272392833), .lit (.int .u32 1839030562), .lit (.int .u32 4259657740), .lit (.int .u32 2763975236), .lit (.int .u32 1272893353), .lit (.int .u32 4139469664), .lit (.int .u32 3200236656), .lit (.int .u32 681279174), .lit (.int .u32 3936430074), .lit (.int .u32 3572445317), .lit (.int .u32 76029189), .lit (.int .u32 3654602809), .lit (.int .u32 3873151461), .lit (.int .u32 530742520), .lit (.int .u32 3299628645), .lit (.int .u32 4096336452), .lit (.int .u32 1126891415), .lit (.int .u32 2878612391), .lit (.int .u32 4237533241), .lit (.int .u32 1700485571), .lit (.int .u32 2399980690), .lit (.int .u32 4293915773), .lit (.int .u32 2240044497), .lit (.int .u32 1873313359), .lit (.int .u32 4264355552), .lit (.int .u32 2734768916), .lit (.int .u32 1309151649), .lit (.int .u32 4149444226), .lit (.int .u32 3174756917), .lit (.int .u32 718787259), .lit (.int .u32 3951481745)]

/-- 'hedgelaw7.TalkTells': WHATEVER THE INPUT: true; the input reads as it did. -/
def talkTellsSpec : ChangeSpec := { name := "talkTells", fn := fun _ => fun
  | [d1, d2, d3, d4, d5, d6, d7] => { results := [.lit (.bool true)], args := [d1, d2, d3, d4, d5, d6, d7] }
  | _ => none }
def talkTellsRow : OpenClaim := { program := "ytaneiffnhphkhaagreatdoor", sum := "a1765df9c423ac26f51a4a7ea6ecff871fd5af280d93819baaa841967719e3bd", func := "hedgerow/hedgelaw7.TalkTells", spec := "talkTells", unfollowed := true, recurses := true, named := ["hedgerow/md5.addends", "hedgerow/md5.turns"], plainKeys := false, apart := false, laid := [("hedgerow/md5.turns", laid_hedgerow_md5_turns), ("hedgerow/md5.addends", laid_hedgerow_md5_addends)] }
def TalkTellsSaid : Prop := talkTellsRow.holds Tryz.pinned (OpenSpec.ofChange talkTellsSpec)

/-- ITS FALSE NEIGHBOUR: 'it returns false'. Refute it at one input. -/
def talkTellsWrong : ChangeSpec := { name := "talkTells", fn := fun _ => fun
  | [d1, d2, d3, d4, d5, d6, d7] => { results := [.lit (.bool false)], args := [d1, d2, d3, d4, d5, d6, d7] }
  | _ => none }
def TalkTellsWrongFalsely : Prop := talkTellsRow.holds Tryz.pinned (OpenSpec.ofChange talkTellsWrong)

/-- 'hedgelaw7.TalkOn': WHATEVER THE INPUT: true; the input reads as it did. -/
def talkOnSpec : ChangeSpec := { name := "talkOn", fn := fun _ => fun
  | [d1, d2, d3, d4] => { results := [.lit (.bool true)], args := [d1, d2, d3, d4] }
  | _ => none }
def talkOnRow : OpenClaim := { program := "ytaneiffnhphkhaagreatdoor", sum := "a1765df9c423ac26f51a4a7ea6ecff871fd5af280d93819baaa841967719e3bd", func := "hedgerow/hedgelaw7.TalkOn", spec := "talkOn", unfollowed := true, recurses := true, named := ["hedgerow/md5.addends", "hedgerow/md5.turns"], plainKeys := false, apart := false, laid := [("hedgerow/md5.turns", laid_hedgerow_md5_turns), ("hedgerow/md5.addends", laid_hedgerow_md5_addends)] }
def TalkOnSaid : Prop := talkOnRow.holds Tryz.pinned (OpenSpec.ofChange talkOnSpec)

/-- ITS FALSE NEIGHBOUR: 'it returns false'. Refute it at one input. -/
def talkOnWrong : ChangeSpec := { name := "talkOn", fn := fun _ => fun
  | [d1, d2, d3, d4] => { results := [.lit (.bool false)], args := [d1, d2, d3, d4] }
  | _ => none }
def TalkOnWrongFalsely : Prop := talkOnRow.holds Tryz.pinned (OpenSpec.ofChange talkOnWrong)

/-- 'hedgelaw7.TalkSettles': WHATEVER THE INPUT: true; the input reads as it did. -/
def talkSettlesSpec : ChangeSpec := { name := "talkSettles", fn := fun _ => fun
  | [d1, d2, d3, d4] => { results := [.lit (.bool true)], args := [d1, d2, d3, d4] }
  | _ => none }
def talkSettlesRow : OpenClaim := { program := "ytaneiffnhphkhaagreatdoor", sum := "a1765df9c423ac26f51a4a7ea6ecff871fd5af280d93819baaa841967719e3bd", func := "hedgerow/hedgelaw7.TalkSettles", spec := "talkSettles", unfollowed := true, recurses := true, named := ["hedgerow/md5.addends", "hedgerow/md5.turns"], plainKeys := false, apart := false, laid := [("hedgerow/md5.turns", laid_hedgerow_md5_turns), ("hedgerow/md5.addends", laid_hedgerow_md5_addends)] }
def TalkSettlesSaid : Prop := talkSettlesRow.holds Tryz.pinned (OpenSpec.ofChange talkSettlesSpec)

/-- ITS FALSE NEIGHBOUR: 'it returns false'. Refute it at one input. -/
def talkSettlesWrong : ChangeSpec := { name := "talkSettles", fn := fun _ => fun
  | [d1, d2, d3, d4] => { results := [.lit (.bool false)], args := [d1, d2, d3, d4] }
  | _ => none }
def TalkSettlesWrongFalsely : Prop := talkSettlesRow.holds Tryz.pinned (OpenSpec.ofChange talkSettlesWrong)

/-- 'hedgelaw7.TalkRings': WHATEVER THE INPUT: true; the input reads as it did. -/
def talkRingsSpec : ChangeSpec := { name := "talkRings", fn := fun _ => fun
  | [d1, d2, d3, d4] => { results := [.lit (.bool true)], args := [d1, d2, d3, d4] }
  | _ => none }
def talkRingsRow : OpenClaim := { program := "ytaneiffnhphkhaagreatdoor", sum := "a1765df9c423ac26f51a4a7ea6ecff871fd5af280d93819baaa841967719e3bd", func := "hedgerow/hedgelaw7.TalkRings", spec := "talkRings", unfollowed := true, recurses := true, named := ["hedgerow/md5.addends", "hedgerow/md5.turns"], plainKeys := false, apart := false, laid := [("hedgerow/md5.turns", laid_hedgerow_md5_turns), ("hedgerow/md5.addends", laid_hedgerow_md5_addends)] }
def TalkRingsSaid : Prop := talkRingsRow.holds Tryz.pinned (OpenSpec.ofChange talkRingsSpec)

/-- ITS FALSE NEIGHBOUR: 'it returns false'. Refute it at one input. -/
def talkRingsWrong : ChangeSpec := { name := "talkRings", fn := fun _ => fun
  | [d1, d2, d3, d4] => { results := [.lit (.bool false)], args := [d1, d2, d3, d4] }
  | _ => none }
def TalkRingsWrongFalsely : Prop := talkRingsRow.holds Tryz.pinned (OpenSpec.ofChange talkRingsWrong)

/-- 'hedgelaw7.TalkOpens': WHATEVER THE INPUT: true; the input reads as it did. -/
def talkOpensSpec : ChangeSpec := { name := "talkOpens", fn := fun _ => fun
  | [d1, d2, d3] => { results := [.lit (.bool true)], args := [d1, d2, d3] }
  | _ => none }
def talkOpensRow : OpenClaim := { program := "ytaneiffnhphkhaagreatdoor", sum := "a1765df9c423ac26f51a4a7ea6ecff871fd5af280d93819baaa841967719e3bd", func := "hedgerow/hedgelaw7.TalkOpens", spec := "talkOpens", unfollowed := true, recurses := true, named := ["hedgerow/md5.addends", "hedgerow/md5.turns"], plainKeys := false, apart := false, laid := [("hedgerow/md5.turns", laid_hedgerow_md5_turns), ("hedgerow/md5.addends", laid_hedgerow_md5_addends)] }
def TalkOpensSaid : Prop := talkOpensRow.holds Tryz.pinned (OpenSpec.ofChange talkOpensSpec)

/-- ITS FALSE NEIGHBOUR: 'it returns false'. Refute it at one input. -/
def talkOpensWrong : ChangeSpec := { name := "talkOpens", fn := fun _ => fun
  | [d1, d2, d3] => { results := [.lit (.bool false)], args := [d1, d2, d3] }
  | _ => none }
def TalkOpensWrongFalsely : Prop := talkOpensRow.holds Tryz.pinned (OpenSpec.ofChange talkOpensWrong)

/-- 'hedgelaw7.TalkTrees': WHATEVER THE INPUT: true; the input reads as it did. -/
def talkTreesSpec : ChangeSpec := { name := "talkTrees", fn := fun _ => fun
  | [d1, d2, d3, d4] => { results := [.lit (.bool true)], args := [d1, d2, d3, d4] }
  | _ => none }
def talkTreesRow : OpenClaim := { program := "ytaneiffnhphkhaagreatdoor", sum := "a1765df9c423ac26f51a4a7ea6ecff871fd5af280d93819baaa841967719e3bd", func := "hedgerow/hedgelaw7.TalkTrees", spec := "talkTrees", unfollowed := true, recurses := true, named := ["hedgerow/md5.addends", "hedgerow/md5.turns"], plainKeys := false, apart := false, laid := [("hedgerow/md5.turns", laid_hedgerow_md5_turns), ("hedgerow/md5.addends", laid_hedgerow_md5_addends)] }
def TalkTreesSaid : Prop := talkTreesRow.holds Tryz.pinned (OpenSpec.ofChange talkTreesSpec)

/-- ITS FALSE NEIGHBOUR: 'it returns false'. Refute it at one input. -/
def talkTreesWrong : ChangeSpec := { name := "talkTrees", fn := fun _ => fun
  | [d1, d2, d3, d4] => { results := [.lit (.bool false)], args := [d1, d2, d3, d4] }
  | _ => none }
def TalkTreesWrongFalsely : Prop := talkTreesRow.holds Tryz.pinned (OpenSpec.ofChange talkTreesWrong)

/-- 'hedgelaw7.TalkAges': WHATEVER THE INPUT: true; the input reads as it did. -/
def talkAgesSpec : ChangeSpec := { name := "talkAges", fn := fun _ => fun
  | [d1, d2, d3] => { results := [.lit (.bool true)], args := [d1, d2, d3] }
  | _ => none }
def talkAgesRow : OpenClaim := { program := "ytaneiffnhphkhaagreatdoor", sum := "a1765df9c423ac26f51a4a7ea6ecff871fd5af280d93819baaa841967719e3bd", func := "hedgerow/hedgelaw7.TalkAges", spec := "talkAges", unfollowed := true, recurses := true, named := ["hedgerow/md5.addends", "hedgerow/md5.turns"], plainKeys := false, apart := false, laid := [("hedgerow/md5.turns", laid_hedgerow_md5_turns), ("hedgerow/md5.addends", laid_hedgerow_md5_addends)] }
def TalkAgesSaid : Prop := talkAgesRow.holds Tryz.pinned (OpenSpec.ofChange talkAgesSpec)

/-- ITS FALSE NEIGHBOUR: 'it returns false'. Refute it at one input. -/
def talkAgesWrong : ChangeSpec := { name := "talkAges", fn := fun _ => fun
  | [d1, d2, d3] => { results := [.lit (.bool false)], args := [d1, d2, d3] }
  | _ => none }
def TalkAgesWrongFalsely : Prop := talkAgesRow.holds Tryz.pinned (OpenSpec.ofChange talkAgesWrong)

/-- 'hedgelaw7.TalkQuiet': WHATEVER THE INPUT: true; the input reads as it did. -/
def talkQuietSpec : ChangeSpec := { name := "talkQuiet", fn := fun _ => fun
  | [d1, d2, d3] => { results := [.lit (.bool true)], args := [d1, d2, d3] }
  | _ => none }
def talkQuietRow : OpenClaim := { program := "ytaneiffnhphkhaagreatdoor", sum := "a1765df9c423ac26f51a4a7ea6ecff871fd5af280d93819baaa841967719e3bd", func := "hedgerow/hedgelaw7.TalkQuiet", spec := "talkQuiet", unfollowed := true, recurses := true, named := ["hedgerow/md5.addends", "hedgerow/md5.turns"], plainKeys := false, apart := false, laid := [("hedgerow/md5.turns", laid_hedgerow_md5_turns), ("hedgerow/md5.addends", laid_hedgerow_md5_addends)] }
def TalkQuietSaid : Prop := talkQuietRow.holds Tryz.pinned (OpenSpec.ofChange talkQuietSpec)

/-- ITS FALSE NEIGHBOUR: 'it returns false'. Refute it at one input. -/
def talkQuietWrong : ChangeSpec := { name := "talkQuiet", fn := fun _ => fun
  | [d1, d2, d3] => { results := [.lit (.bool false)], args := [d1, d2, d3] }
  | _ => none }
def TalkQuietWrongFalsely : Prop := talkQuietRow.holds Tryz.pinned (OpenSpec.ofChange talkQuietWrong)

/-- 'hedgelaw7.TalkBack': WHATEVER THE INPUT: true; the input reads as it did. -/
def talkBackSpec : ChangeSpec := { name := "talkBack", fn := fun _ => fun
  | [d1, d2, d3, d4, d5] => { results := [.lit (.bool true)], args := [d1, d2, d3, d4, d5] }
  | _ => none }
def talkBackRow : OpenClaim := { program := "ytaneiffnhphkhaagreatdoor", sum := "a1765df9c423ac26f51a4a7ea6ecff871fd5af280d93819baaa841967719e3bd", func := "hedgerow/hedgelaw7.TalkBack", spec := "talkBack", unfollowed := true, recurses := true, named := ["hedgerow/md5.addends", "hedgerow/md5.turns"], plainKeys := false, apart := false, laid := [("hedgerow/md5.turns", laid_hedgerow_md5_turns), ("hedgerow/md5.addends", laid_hedgerow_md5_addends)] }
def TalkBackSaid : Prop := talkBackRow.holds Tryz.pinned (OpenSpec.ofChange talkBackSpec)

/-- ITS FALSE NEIGHBOUR: 'it returns false'. Refute it at one input. -/
def talkBackWrong : ChangeSpec := { name := "talkBack", fn := fun _ => fun
  | [d1, d2, d3, d4, d5] => { results := [.lit (.bool false)], args := [d1, d2, d3, d4, d5] }
  | _ => none }
def TalkBackWrongFalsely : Prop := talkBackRow.holds Tryz.pinned (OpenSpec.ofChange talkBackWrong)

/- THE SECOND FORM. 'bulk': how many values and letters a reading holds, each counted each time it is reached (what is shared counts as often as it is met; a slice's spare places count too). A statement '..UptoSaid' is the law's where the arguments, and the package variables that the reading takes, are together of bulk at most 1048576: NARROWER than '..Said'. Prove '..Said' where nothing that the law and all that it calls make is longer than what came in: it says more and counts as full. Else prove '..UptoSaid'. A law counts once. -/
mutual
def uptoBulk {H : Type} : DataW H → Nat
  | .lit (.string bytes) => bytes.length + 1
  | .lit _ => 1
  | .nil => 1
  | .ptr d => uptoBulk d + 1
  | .slice elems spare => uptoBulkAll elems + uptoBulkAll spare + 1
  | .agg parts => uptoBulkAll parts + 1
  | .iface _ d => uptoBulk d + 1
  | .map entries => uptoBulkEntries entries + 1
  | .held _ => 1
def uptoBulkAll {H : Type} : List (DataW H) → Nat
  | [] => 0
  | d :: r => uptoBulk d + uptoBulkAll r
def uptoBulkEntries {H : Type} : List (Lit × DataW H) → Nat
  | [] => 0
  | x :: r => uptoBulkEntry x + uptoBulkEntries r
def uptoBulkEntry {H : Type} : Lit × DataW H → Nat
  | (.string bytes, d) => bytes.length + uptoBulk d + 1
  | (_, d) => uptoBulk d + 1
 end
def uptoSmall : (H : Type) → List (DataW H) → Bool := fun _ ds => decide (uptoBulkAll ds ≤ 1048576)
def OpenSpec.upto (s : _root_.Go.ChangeSpec) : _root_.Go.OpenSpec := { _root_.Go.OpenSpec.ofChange s with cond := some uptoSmall }

/-- 'hedgelaw7.TalkTells', WHERE WHAT IT READS IS OF BULK AT MOST 1048576: true; the input reads as it did. -/
def talkTellsUptoRow : OpenClaim := { program := "ytaneiffnhphkhaagreatdoor", sum := "a1765df9c423ac26f51a4a7ea6ecff871fd5af280d93819baaa841967719e3bd", func := "hedgerow/hedgelaw7.TalkTells", spec := "talkTells", unfollowed := true, recurses := true, named := ["hedgerow/md5.addends", "hedgerow/md5.turns"], plainKeys := false, apart := false, laid := [("hedgerow/md5.turns", laid_hedgerow_md5_turns), ("hedgerow/md5.addends", laid_hedgerow_md5_addends)], narrowed := true }
def TalkTellsUptoSaid : Prop := talkTellsUptoRow.holds Tryz.pinned (OpenSpec.upto talkTellsSpec)

/-- 'hedgelaw7.TalkOn', WHERE WHAT IT READS IS OF BULK AT MOST 1048576: true; the input reads as it did. -/
def talkOnUptoRow : OpenClaim := { program := "ytaneiffnhphkhaagreatdoor", sum := "a1765df9c423ac26f51a4a7ea6ecff871fd5af280d93819baaa841967719e3bd", func := "hedgerow/hedgelaw7.TalkOn", spec := "talkOn", unfollowed := true, recurses := true, named := ["hedgerow/md5.addends", "hedgerow/md5.turns"], plainKeys := false, apart := false, laid := [("hedgerow/md5.turns", laid_hedgerow_md5_turns), ("hedgerow/md5.addends", laid_hedgerow_md5_addends)], narrowed := true }
def TalkOnUptoSaid : Prop := talkOnUptoRow.holds Tryz.pinned (OpenSpec.upto talkOnSpec)

/-- 'hedgelaw7.TalkSettles', WHERE WHAT IT READS IS OF BULK AT MOST 1048576: true; the input reads as it did. -/
def talkSettlesUptoRow : OpenClaim := { program := "ytaneiffnhphkhaagreatdoor", sum := "a1765df9c423ac26f51a4a7ea6ecff871fd5af280d93819baaa841967719e3bd", func := "hedgerow/hedgelaw7.TalkSettles", spec := "talkSettles", unfollowed := true, recurses := true, named := ["hedgerow/md5.addends", "hedgerow/md5.turns"], plainKeys := false, apart := false, laid := [("hedgerow/md5.turns", laid_hedgerow_md5_turns), ("hedgerow/md5.addends", laid_hedgerow_md5_addends)], narrowed := true }
def TalkSettlesUptoSaid : Prop := talkSettlesUptoRow.holds Tryz.pinned (OpenSpec.upto talkSettlesSpec)

/-- 'hedgelaw7.TalkRings', WHERE WHAT IT READS IS OF BULK AT MOST 1048576: true; the input reads as it did. -/
def talkRingsUptoRow : OpenClaim := { program := "ytaneiffnhphkhaagreatdoor", sum := "a1765df9c423ac26f51a4a7ea6ecff871fd5af280d93819baaa841967719e3bd", func := "hedgerow/hedgelaw7.TalkRings", spec := "talkRings", unfollowed := true, recurses := true, named := ["hedgerow/md5.addends", "hedgerow/md5.turns"], plainKeys := false, apart := false, laid := [("hedgerow/md5.turns", laid_hedgerow_md5_turns), ("hedgerow/md5.addends", laid_hedgerow_md5_addends)], narrowed := true }
def TalkRingsUptoSaid : Prop := talkRingsUptoRow.holds Tryz.pinned (OpenSpec.upto talkRingsSpec)

/-- 'hedgelaw7.TalkOpens', WHERE WHAT IT READS IS OF BULK AT MOST 1048576: true; the input reads as it did. -/
def talkOpensUptoRow : OpenClaim := { program := "ytaneiffnhphkhaagreatdoor", sum := "a1765df9c423ac26f51a4a7ea6ecff871fd5af280d93819baaa841967719e3bd", func := "hedgerow/hedgelaw7.TalkOpens", spec := "talkOpens", unfollowed := true, recurses := true, named := ["hedgerow/md5.addends", "hedgerow/md5.turns"], plainKeys := false, apart := false, laid := [("hedgerow/md5.turns", laid_hedgerow_md5_turns), ("hedgerow/md5.addends", laid_hedgerow_md5_addends)], narrowed := true }
def TalkOpensUptoSaid : Prop := talkOpensUptoRow.holds Tryz.pinned (OpenSpec.upto talkOpensSpec)

/-- 'hedgelaw7.TalkTrees', WHERE WHAT IT READS IS OF BULK AT MOST 1048576: true; the input reads as it did. -/
def talkTreesUptoRow : OpenClaim := { program := "ytaneiffnhphkhaagreatdoor", sum := "a1765df9c423ac26f51a4a7ea6ecff871fd5af280d93819baaa841967719e3bd", func := "hedgerow/hedgelaw7.TalkTrees", spec := "talkTrees", unfollowed := true, recurses := true, named := ["hedgerow/md5.addends", "hedgerow/md5.turns"], plainKeys := false, apart := false, laid := [("hedgerow/md5.turns", laid_hedgerow_md5_turns), ("hedgerow/md5.addends", laid_hedgerow_md5_addends)], narrowed := true }
def TalkTreesUptoSaid : Prop := talkTreesUptoRow.holds Tryz.pinned (OpenSpec.upto talkTreesSpec)

/-- 'hedgelaw7.TalkAges', WHERE WHAT IT READS IS OF BULK AT MOST 1048576: true; the input reads as it did. -/
def talkAgesUptoRow : OpenClaim := { program := "ytaneiffnhphkhaagreatdoor", sum := "a1765df9c423ac26f51a4a7ea6ecff871fd5af280d93819baaa841967719e3bd", func := "hedgerow/hedgelaw7.TalkAges", spec := "talkAges", unfollowed := true, recurses := true, named := ["hedgerow/md5.addends", "hedgerow/md5.turns"], plainKeys := false, apart := false, laid := [("hedgerow/md5.turns", laid_hedgerow_md5_turns), ("hedgerow/md5.addends", laid_hedgerow_md5_addends)], narrowed := true }
def TalkAgesUptoSaid : Prop := talkAgesUptoRow.holds Tryz.pinned (OpenSpec.upto talkAgesSpec)

/-- 'hedgelaw7.TalkQuiet', WHERE WHAT IT READS IS OF BULK AT MOST 1048576: true; the input reads as it did. -/
def talkQuietUptoRow : OpenClaim := { program := "ytaneiffnhphkhaagreatdoor", sum := "a1765df9c423ac26f51a4a7ea6ecff871fd5af280d93819baaa841967719e3bd", func := "hedgerow/hedgelaw7.TalkQuiet", spec := "talkQuiet", unfollowed := true, recurses := true, named := ["hedgerow/md5.addends", "hedgerow/md5.turns"], plainKeys := false, apart := false, laid := [("hedgerow/md5.turns", laid_hedgerow_md5_turns), ("hedgerow/md5.addends", laid_hedgerow_md5_addends)], narrowed := true }
def TalkQuietUptoSaid : Prop := talkQuietUptoRow.holds Tryz.pinned (OpenSpec.upto talkQuietSpec)

/-- 'hedgelaw7.TalkBack', WHERE WHAT IT READS IS OF BULK AT MOST 1048576: true; the input reads as it did. -/
def talkBackUptoRow : OpenClaim := { program := "ytaneiffnhphkhaagreatdoor", sum := "a1765df9c423ac26f51a4a7ea6ecff871fd5af280d93819baaa841967719e3bd", func := "hedgerow/hedgelaw7.TalkBack", spec := "talkBack", unfollowed := true, recurses := true, named := ["hedgerow/md5.addends", "hedgerow/md5.turns"], plainKeys := false, apart := false, laid := [("hedgerow/md5.turns", laid_hedgerow_md5_turns), ("hedgerow/md5.addends", laid_hedgerow_md5_addends)], narrowed := true }
def TalkBackUptoSaid : Prop := talkBackUptoRow.holds Tryz.pinned (OpenSpec.upto talkBackSpec)

end Rows
end Go.Proofs.YtaneiffnhphkhaaGreatDoor
