/-
  NARROWER THAN 'FOR EVERY INPUT', by the rows' own cells (each row's printed sentence says how): PlanTells: laid · PlanRoot: laid · PlanFar: laid · PlanEnds: laid · PlanTree: laid · PlanNames: laid · PlanTrees: laid.
  DERIVED. THE GIVEN ROWS OF THIS SEAT. 7 by the template 'for every input the law returns true; each argument reads behind the call as it read before'; 0 by the template 'total and deterministic' (their statements: YtcbpafpaimpfnaaGreatDoorTotals.lean).
  GIVEN WITH THE SEED: the statements are not yours to turn. If you find one false, say at which input.
  Laid BY PROGRAM, IN A SANDBOX (cutbox-rows.mjs): the forced cells as the released guide's own fill.sh prints them over the translation e772d58936fef3a8… (all of the seat's roots in one cut). By AI agents, Wed Nov 11 2026. No macro, syntax, notation, axiom, sorry.
-/
import Derived.Test.YtcbpafpaimpfnaaGreatDoorChecked
import GoSem.Claim
import GoSem.ClaimJoined
import GoSem.ClaimMapViews
import Derived.JoinedTies
import Derived.KernelRfl
namespace Go.Proofs.YtcbpafpaimpfnaaGreatDoor
/- THE CELL 'sum', in the pinned program and in every row, IS THE sha256 OF THE DUMP (.gsa) THAT YtcbpafpaimpfnaaGreatDoorProg.lean LOADS. Nothing in Lean hashes anything: it is a label: what it is worth is what the hold of that sum in a sandbox is worth. -/
noncomputable def Tryz.pinned : Pinned := { name := "ytcbpafpaimpfnaagreatdoor", sum := "e772d58936fef3a8655098d3f991ef64e5d0afbf3df6ac0c8e6fb3a83e1f2b04", checked := Tryz.checked }
namespace Rows
def none {H : Type} : Left H := { results := [], args := [] }

/- WHAT THE LISTED PACKAGE-LEVEL VARIABLES READ AS WHEN THE CALL BEGINS. Each datum BY PROGRAM (the guide's laid-datum.mjs) off the statement by which the dump's own 'gosem.cut.vars' lays the variable. In a bare row this is a premise. The card (YtcbpafpaimpfnaaGreatDoorCards.lean) ties it to the program's text. -/
def laid_hedgerow_md5_turns {H : Type} : DataW H := .agg [.agg [.lit (.int .i64 7), .lit (.int .i64 12), .lit (.int .i64 17), .lit (.int .i64 22)], .agg [.lit (.int .i64 5), .lit (.int .i64 9), .lit (.int .i64 14), .lit (.int .i64 20)], .agg [.lit (.int .i64 4), .lit (.int .i64 11), .lit (.int .i64 16), .lit (.int .i64 23)], .agg [.lit (.int .i64 6), .lit (.int .i64 10), .lit (.int .i64 15), .lit (.int .i64 21)]]
def laid_hedgerow_md5_addends {H : Type} : DataW H := .agg [.lit (.int .u32 3614090360), .lit (.int .u32 3905402710), .lit (.int .u32 606105819), .lit (.int .u32 3250441966), .lit (.int .u32 4118548399), .lit (.int .u32 1200080426), .lit (.int .u32 2821735955), .lit (.int .u32 4249261313), .lit (.int .u32 1770035416), .lit (.int .u32 2336552879), .lit (.int .u32 4294925233), .lit (.int .u32 2304563134), .lit (.int .u32 1804603682), .lit (.int .u32 4254626195), .lit (.int .u32 2792965006), .lit (.int .u32 1236535329), .lit (.int .u32 4129170786), .lit (.int .u32 3225465664), .lit (.int .u32 643717713), .lit (.int .u32 3921069994), .lit (.int .u32 3593408605), .lit (.int .u32 38016083), .lit (.int .u32 3634488961), .lit (.int .u32 3889429448), .lit (.int .u32 568446438), .lit (.int .u32 3275163606), .lit (.int .u32 4107603335), .lit (.int .u32 1163531501), .lit (.int .u32 2850285829), .lit (.int .u32 4243563512), .lit (.int .u32 1735328473), .lit (.int .u32 2368359562), .lit (.int .u32 4294588738), .lit (.int .u32 2272392833), .lit (.int .u32 1839030562), .lit (.int .u32 4259657740), .lit (.int .u32 2763975236), .lit (.int .u32 1272893353), .lit (.int .u32 4139469664), .lit (.int .u32 3200236656), .lit (.int .u32 681279174), .lit (.int .u32 3936430074), .lit (.int .u32 3572445317), .lit (.int .u32 76029189), .lit (.int .u32 3654602809), .lit (.int .u32 3873151461), .lit (.int .u32 530742520), .lit (.int .u32 3299628645), .lit (.int .u32 4096336452), .lit (.int .u32 1126891415), .lit (.int .u32 2878612391), .lit (.int .u32 4237533241), .lit (.int .u32 1700485571), .lit (.int .u32 2399980690), .lit (.int .u32 4293915773), .lit (.int .u32 2240044497), .lit (.int .u32 1873313359), .lit (.int .u32 4264355552), .lit (.int .u32 2734768916), .lit (.int .u32 1309151649), .lit (.int .u32 4149444226), .lit (.int .u32 3174756917), .lit (.int .u32 718787259), .lit (.int .u32 3951481745)]

/-- 'hedgelaw6.PlanTells': WHATEVER THE INPUT: true; the input reads as it did. -/
def planTellsSpec : ChangeSpec := { name := "planTells", fn := fun _ => fun
  | [d1, d2] => { results := [.lit (.bool true)], args := [d1, d2] }
  | _ => none }
def planTellsRow : OpenClaim := { program := "ytcbpafpaimpfnaagreatdoor", sum := "e772d58936fef3a8655098d3f991ef64e5d0afbf3df6ac0c8e6fb3a83e1f2b04", func := "hedgerow/hedgelaw6.PlanTells", spec := "planTells", unfollowed := true, recurses := true, named := ["hedgerow/md5.addends", "hedgerow/md5.turns"], plainKeys := false, apart := false, laid := [("hedgerow/md5.turns", laid_hedgerow_md5_turns), ("hedgerow/md5.addends", laid_hedgerow_md5_addends)] }
def PlanTellsSaid : Prop := planTellsRow.holds Tryz.pinned (OpenSpec.ofChange planTellsSpec)

/-- ITS FALSE NEIGHBOUR: 'it returns false'. Refute it at one input. -/
def planTellsWrong : ChangeSpec := { name := "planTells", fn := fun _ => fun
  | [d1, d2] => { results := [.lit (.bool false)], args := [d1, d2] }
  | _ => none }
def PlanTellsWrongFalsely : Prop := planTellsRow.holds Tryz.pinned (OpenSpec.ofChange planTellsWrong)

/-- 'hedgelaw6.PlanRoot': WHATEVER THE INPUT: true; the input reads as it did. -/
def planRootSpec : ChangeSpec := { name := "planRoot", fn := fun _ => fun
  | [d1, d2] => { results := [.lit (.bool true)], args := [d1, d2] }
  | _ => none }
def planRootRow : OpenClaim := { program := "ytcbpafpaimpfnaagreatdoor", sum := "e772d58936fef3a8655098d3f991ef64e5d0afbf3df6ac0c8e6fb3a83e1f2b04", func := "hedgerow/hedgelaw6.PlanRoot", spec := "planRoot", unfollowed := true, recurses := true, named := ["hedgerow/md5.addends", "hedgerow/md5.turns"], plainKeys := false, apart := false, laid := [("hedgerow/md5.turns", laid_hedgerow_md5_turns), ("hedgerow/md5.addends", laid_hedgerow_md5_addends)] }
def PlanRootSaid : Prop := planRootRow.holds Tryz.pinned (OpenSpec.ofChange planRootSpec)

/-- ITS FALSE NEIGHBOUR: 'it returns false'. Refute it at one input. -/
def planRootWrong : ChangeSpec := { name := "planRoot", fn := fun _ => fun
  | [d1, d2] => { results := [.lit (.bool false)], args := [d1, d2] }
  | _ => none }
def PlanRootWrongFalsely : Prop := planRootRow.holds Tryz.pinned (OpenSpec.ofChange planRootWrong)

/-- 'hedgelaw6.PlanFar': WHATEVER THE INPUT: true; the input reads as it did. -/
def planFarSpec : ChangeSpec := { name := "planFar", fn := fun _ => fun
  | [d1, d2] => { results := [.lit (.bool true)], args := [d1, d2] }
  | _ => none }
def planFarRow : OpenClaim := { program := "ytcbpafpaimpfnaagreatdoor", sum := "e772d58936fef3a8655098d3f991ef64e5d0afbf3df6ac0c8e6fb3a83e1f2b04", func := "hedgerow/hedgelaw6.PlanFar", spec := "planFar", unfollowed := true, recurses := true, named := ["hedgerow/md5.addends", "hedgerow/md5.turns"], plainKeys := false, apart := false, laid := [("hedgerow/md5.turns", laid_hedgerow_md5_turns), ("hedgerow/md5.addends", laid_hedgerow_md5_addends)] }
def PlanFarSaid : Prop := planFarRow.holds Tryz.pinned (OpenSpec.ofChange planFarSpec)

/-- ITS FALSE NEIGHBOUR: 'it returns false'. Refute it at one input. -/
def planFarWrong : ChangeSpec := { name := "planFar", fn := fun _ => fun
  | [d1, d2] => { results := [.lit (.bool false)], args := [d1, d2] }
  | _ => none }
def PlanFarWrongFalsely : Prop := planFarRow.holds Tryz.pinned (OpenSpec.ofChange planFarWrong)

/-- 'hedgelaw6.PlanEnds': WHATEVER THE INPUT: true; the input reads as it did. -/
def planEndsSpec : ChangeSpec := { name := "planEnds", fn := fun _ => fun
  | [d1, d2] => { results := [.lit (.bool true)], args := [d1, d2] }
  | _ => none }
def planEndsRow : OpenClaim := { program := "ytcbpafpaimpfnaagreatdoor", sum := "e772d58936fef3a8655098d3f991ef64e5d0afbf3df6ac0c8e6fb3a83e1f2b04", func := "hedgerow/hedgelaw6.PlanEnds", spec := "planEnds", unfollowed := true, recurses := true, named := ["hedgerow/md5.addends", "hedgerow/md5.turns"], plainKeys := false, apart := false, laid := [("hedgerow/md5.turns", laid_hedgerow_md5_turns), ("hedgerow/md5.addends", laid_hedgerow_md5_addends)] }
def PlanEndsSaid : Prop := planEndsRow.holds Tryz.pinned (OpenSpec.ofChange planEndsSpec)

/-- ITS FALSE NEIGHBOUR: 'it returns false'. Refute it at one input. -/
def planEndsWrong : ChangeSpec := { name := "planEnds", fn := fun _ => fun
  | [d1, d2] => { results := [.lit (.bool false)], args := [d1, d2] }
  | _ => none }
def PlanEndsWrongFalsely : Prop := planEndsRow.holds Tryz.pinned (OpenSpec.ofChange planEndsWrong)

/-- 'hedgelaw6.PlanTree': WHATEVER THE INPUT: true; the input reads as it did. -/
def planTreeSpec : ChangeSpec := { name := "planTree", fn := fun _ => fun
  | [d1, d2] => { results := [.lit (.bool true)], args := [d1, d2] }
  | _ => none }
def planTreeRow : OpenClaim := { program := "ytcbpafpaimpfnaagreatdoor", sum := "e772d58936fef3a8655098d3f991ef64e5d0afbf3df6ac0c8e6fb3a83e1f2b04", func := "hedgerow/hedgelaw6.PlanTree", spec := "planTree", unfollowed := true, recurses := true, named := ["hedgerow/md5.addends", "hedgerow/md5.turns"], plainKeys := false, apart := false, laid := [("hedgerow/md5.turns", laid_hedgerow_md5_turns), ("hedgerow/md5.addends", laid_hedgerow_md5_addends)] }
def PlanTreeSaid : Prop := planTreeRow.holds Tryz.pinned (OpenSpec.ofChange planTreeSpec)

/-- ITS FALSE NEIGHBOUR: 'it returns false'. Refute it at one input. -/
def planTreeWrong : ChangeSpec := { name := "planTree", fn := fun _ => fun
  | [d1, d2] => { results := [.lit (.bool false)], args := [d1, d2] }
  | _ => none }
def PlanTreeWrongFalsely : Prop := planTreeRow.holds Tryz.pinned (OpenSpec.ofChange planTreeWrong)

/-- 'hedgelaw6.PlanNames': WHATEVER THE INPUT: true; the input reads as it did. -/
def planNamesSpec : ChangeSpec := { name := "planNames", fn := fun _ => fun
  | [d1, d2] => { results := [.lit (.bool true)], args := [d1, d2] }
  | _ => none }
def planNamesRow : OpenClaim := { program := "ytcbpafpaimpfnaagreatdoor", sum := "e772d58936fef3a8655098d3f991ef64e5d0afbf3df6ac0c8e6fb3a83e1f2b04", func := "hedgerow/hedgelaw6.PlanNames", spec := "planNames", unfollowed := true, recurses := true, named := ["hedgerow/md5.addends", "hedgerow/md5.turns"], plainKeys := false, apart := false, laid := [("hedgerow/md5.turns", laid_hedgerow_md5_turns), ("hedgerow/md5.addends", laid_hedgerow_md5_addends)] }
def PlanNamesSaid : Prop := planNamesRow.holds Tryz.pinned (OpenSpec.ofChange planNamesSpec)

/-- ITS FALSE NEIGHBOUR: 'it returns false'. Refute it at one input. -/
def planNamesWrong : ChangeSpec := { name := "planNames", fn := fun _ => fun
  | [d1, d2] => { results := [.lit (.bool false)], args := [d1, d2] }
  | _ => none }
def PlanNamesWrongFalsely : Prop := planNamesRow.holds Tryz.pinned (OpenSpec.ofChange planNamesWrong)

/-- 'hedgelaw6.PlanTrees': WHATEVER THE INPUT: true; the input reads as it did. -/
def planTreesSpec : ChangeSpec := { name := "planTrees", fn := fun _ => fun
  | [d1, d2, d3, d4, d5] => { results := [.lit (.bool true)], args := [d1, d2, d3, d4, d5] }
  | _ => none }
def planTreesRow : OpenClaim := { program := "ytcbpafpaimpfnaagreatdoor", sum := "e772d58936fef3a8655098d3f991ef64e5d0afbf3df6ac0c8e6fb3a83e1f2b04", func := "hedgerow/hedgelaw6.PlanTrees", spec := "planTrees", unfollowed := true, recurses := true, named := ["hedgerow/md5.addends", "hedgerow/md5.turns"], plainKeys := false, apart := false, laid := [("hedgerow/md5.turns", laid_hedgerow_md5_turns), ("hedgerow/md5.addends", laid_hedgerow_md5_addends)] }
def PlanTreesSaid : Prop := planTreesRow.holds Tryz.pinned (OpenSpec.ofChange planTreesSpec)

/-- ITS FALSE NEIGHBOUR: 'it returns false'. Refute it at one input. -/
def planTreesWrong : ChangeSpec := { name := "planTrees", fn := fun _ => fun
  | [d1, d2, d3, d4, d5] => { results := [.lit (.bool false)], args := [d1, d2, d3, d4, d5] }
  | _ => none }
def PlanTreesWrongFalsely : Prop := planTreesRow.holds Tryz.pinned (OpenSpec.ofChange planTreesWrong)

/- THE SECOND FORM. 'bulk': how many values and letters a reading holds, each counted each time it is reached (what is shared counts as often as it is met; a slice's spare places count too). A statement '..UptoSaid' is the law's where the arguments, and the package variables that the reading takes, are together of bulk at most 1048576: NARROWER than '..Said'. Prove '..Said' where nothing that the law and all that it calls make is longer than what came in: it says more and counts as full. Else prove '..UptoSaid'. A law counts once. -/
mutual
def uptoBulk {H : Type} : DataW H → Nat
  | .lit (.string bytes) => bytes.length + 1
  | .lit _ => 1
  | .nil => 1
  | .ptr d => uptoBulk d + 1
  | .slice elems spare => uptoBulkAll elems + uptoBulkAll spare + 1
  | .agg parts => uptoBulkAll parts + 1
  | .iface _ d => uptoBulk d + 1
  | .map entries => uptoBulkEntries entries + 1
  | .held _ => 1
def uptoBulkAll {H : Type} : List (DataW H) → Nat
  | [] => 0
  | d :: r => uptoBulk d + uptoBulkAll r
def uptoBulkEntries {H : Type} : List (Lit × DataW H) → Nat
  | [] => 0
  | x :: r => uptoBulkEntry x + uptoBulkEntries r
def uptoBulkEntry {H : Type} : Lit × DataW H → Nat
  | (.string bytes, d) => bytes.length + uptoBulk d + 1
  | (_, d) => uptoBulk d + 1
 end
def uptoSmall : (H : Type) → List (DataW H) → Bool := fun _ ds => decide (uptoBulkAll ds ≤ 1048576)
def OpenSpec.upto (s : _root_.Go.ChangeSpec) : _root_.Go.OpenSpec := { _root_.Go.OpenSpec.ofChange s with cond := some uptoSmall }

/-- 'hedgelaw6.PlanTells', WHERE WHAT IT READS IS OF BULK AT MOST 1048576: true; the input reads as it did. -/
def planTellsUptoRow : OpenClaim := { program := "ytcbpafpaimpfnaagreatdoor", sum := "e772d58936fef3a8655098d3f991ef64e5d0afbf3df6ac0c8e6fb3a83e1f2b04", func := "hedgerow/hedgelaw6.PlanTells", spec := "planTells", unfollowed := true, recurses := true, named := ["hedgerow/md5.addends", "hedgerow/md5.turns"], plainKeys := false, apart := false, laid := [("hedgerow/md5.turns", laid_hedgerow_md5_turns), ("hedgerow/md5.addends", laid_hedgerow_md5_addends)], narrowed := true }
def PlanTellsUptoSaid : Prop := planTellsUptoRow.holds Tryz.pinned (OpenSpec.upto planTellsSpec)

/-- 'hedgelaw6.PlanRoot', WHERE WHAT IT READS IS OF BULK AT MOST 1048576: true; the input reads as it did. -/
def planRootUptoRow : OpenClaim := { program := "ytcbpafpaimpfnaagreatdoor", sum := "e772d58936fef3a8655098d3f991ef64e5d0afbf3df6ac0c8e6fb3a83e1f2b04", func := "hedgerow/hedgelaw6.PlanRoot", spec := "planRoot", unfollowed := true, recurses := true, named := ["hedgerow/md5.addends", "hedgerow/md5.turns"], plainKeys := false, apart := false, laid := [("hedgerow/md5.turns", laid_hedgerow_md5_turns), ("hedgerow/md5.addends", laid_hedgerow_md5_addends)], narrowed := true }
def PlanRootUptoSaid : Prop := planRootUptoRow.holds Tryz.pinned (OpenSpec.upto planRootSpec)

/-- 'hedgelaw6.PlanFar', WHERE WHAT IT READS IS OF BULK AT MOST 1048576: true; the input reads as it did. -/
def planFarUptoRow : OpenClaim := { program := "ytcbpafpaimpfnaagreatdoor", sum := "e772d58936fef3a8655098d3f991ef64e5d0afbf3df6ac0c8e6fb3a83e1f2b04", func := "hedgerow/hedgelaw6.PlanFar", spec := "planFar", unfollowed := true, recurses := true, named := ["hedgerow/md5.addends", "hedgerow/md5.turns"], plainKeys := false, apart := false, laid := [("hedgerow/md5.turns", laid_hedgerow_md5_turns), ("hedgerow/md5.addends", laid_hedgerow_md5_addends)], narrowed := true }
def PlanFarUptoSaid : Prop := planFarUptoRow.holds Tryz.pinned (OpenSpec.upto planFarSpec)

/-- 'hedgelaw6.PlanEnds', WHERE WHAT IT READS IS OF BULK AT MOST 1048576: true; the input reads as it did. -/
def planEndsUptoRow : OpenClaim := { program := "ytcbpafpaimpfnaagreatdoor", sum := "e772d58936fef3a8655098d3f991ef64e5d0afbf3df6ac0c8e6fb3a83e1f2b04", func := "hedgerow/hedgelaw6.PlanEnds", spec := "planEnds", unfollowed := true, recurses := true, named := ["hedgerow/md5.addends", "hedgerow/md5.turns"], plainKeys := false, apart := false, laid := [("hedgerow/md5.turns", laid_hedgerow_md5_turns), ("hedgerow/md5.addends", laid_hedgerow_md5_addends)], narrowed := true }
def PlanEndsUptoSaid : Prop := planEndsUptoRow.holds Tryz.pinned (OpenSpec.upto planEndsSpec)

/-- 'hedgelaw6.PlanTree', WHERE WHAT IT READS IS OF BULK AT MOST 1048576: true; the input reads as it did. -/
def planTreeUptoRow : OpenClaim := { program := "ytcbpafpaimpfnaagreatdoor", sum := "e772d58936fef3a8655098d3f991ef64e5d0afbf3df6ac0c8e6fb3a83e1f2b04", func := "hedgerow/hedgelaw6.PlanTree", spec := "planTree", unfollowed := true, recurses := true, named := ["hedgerow/md5.addends", "hedgerow/md5.turns"], plainKeys := false, apart := false, laid := [("hedgerow/md5.turns", laid_hedgerow_md5_turns), ("hedgerow/md5.addends", laid_hedgerow_md5_addends)], narrowed := true }
def PlanTreeUptoSaid : Prop := planTreeUptoRow.holds Tryz.pinned (OpenSpec.upto planTreeSpec)

/-- 'hedgelaw6.PlanNames', WHERE WHAT IT READS IS OF BULK AT MOST 1048576: true; the input reads as it did. -/
def planNamesUptoRow : OpenClaim := { program := "ytcbpafpaimpfnaagreatdoor", sum := "e772d58936fef3a8655098d3f991ef64e5d0afbf3df6ac0c8e6fb3a83e1f2b04", func := "hedgerow/hedgelaw6.PlanNames", spec := "planNames", unfollowed := true, recurses := true, named := ["hedgerow/md5.addends", "hedgerow/md5.turns"], plainKeys := false, apart := false, laid := [("hedgerow/md5.turns", laid_hedgerow_md5_turns), ("hedgerow/md5.addends", laid_hedgerow_md5_addends)], narrowed := true }
def PlanNamesUptoSaid : Prop := planNamesUptoRow.holds Tryz.pinned (OpenSpec.upto planNamesSpec)

/-- 'hedgelaw6.PlanTrees', WHERE WHAT IT READS IS OF BULK AT MOST 1048576: true; the input reads as it did. -/
def planTreesUptoRow : OpenClaim := { program := "ytcbpafpaimpfnaagreatdoor", sum := "e772d58936fef3a8655098d3f991ef64e5d0afbf3df6ac0c8e6fb3a83e1f2b04", func := "hedgerow/hedgelaw6.PlanTrees", spec := "planTrees", unfollowed := true, recurses := true, named := ["hedgerow/md5.addends", "hedgerow/md5.turns"], plainKeys := false, apart := false, laid := [("hedgerow/md5.turns", laid_hedgerow_md5_turns), ("hedgerow/md5.addends", laid_hedgerow_md5_addends)], narrowed := true }
def PlanTreesUptoSaid : Prop := planTreesUptoRow.holds Tryz.pinned (OpenSpec.upto planTreesSpec)

end Rows
end Go.Proofs.YtcbpafpaimpfnaaGreatDoor
