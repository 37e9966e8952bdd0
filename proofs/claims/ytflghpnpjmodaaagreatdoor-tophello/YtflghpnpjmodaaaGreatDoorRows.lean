/-
  NARROWER THAN 'FOR EVERY INPUT', by the rows' own cells (each row's printed sentence says how): TopShut: laid · TopLine: laid · TopGhost: laid · TopHello: laid · TopFirst: laid · TopCheap: laid · TopRing: laid · TopTrees: laid · TopPath: laid.
  DERIVED. THE GIVEN ROWS OF THIS SEAT. 9 by the template 'for every input the law returns true; each argument reads behind the call as it read before'; 0 by the template 'total and deterministic' (their statements: YtflghpnpjmodaaaGreatDoorTotals.lean).
  GIVEN WITH THE SEED: the statements are not yours to turn. If you find one false, say at which input.
  Laid BY PROGRAM, IN A SANDBOX (cutbox-rows.mjs): the forced cells as the released guide's own fill.sh prints them over the translation d0ee518bf567c60c… (all of the seat's roots in one cut). By AI agents, Wed Nov 11 2026. No macro, syntax, notation, axiom, sorry.
-/
import Derived.Test.YtflghpnpjmodaaaGreatDoorChecked
import GoSem.Claim
import GoSem.ClaimJoined
import GoSem.ClaimMapViews
import Derived.JoinedTies
import Derived.KernelRfl
namespace Go.Proofs.YtflghpnpjmodaaaGreatDoor
/- THE CELL 'sum', in the pinned program and in every row, IS THE sha256 OF THE DUMP (.gsa) THAT YtflghpnpjmodaaaGreatDoorProg.lean LOADS. Nothing in Lean hashes anything: it is a label: what it is worth is what the hold of that sum in a sandbox is worth. -/
noncomputable def Tryz.pinned : Pinned := { name := "ytflghpnpjmodaaagreatdoor", sum := "d0ee518bf567c60cfe07658c01d0b8524a699b4ac86d985c8c50d721edd00f26", checked := Tryz.checked }
namespace Rows
def none {H : Type} : Left H := { results := [], args := [] }

/- WHAT THE LISTED PACKAGE-LEVEL VARIABLES READ AS WHEN THE CALL BEGINS. Each datum BY PROGRAM (the guide's laid-datum.mjs) off the statement by which the dump's own 'gosem.cut.vars' lays the variable. In a bare row this is a premise. The card (YtflghpnpjmodaaaGreatDoorCards.lean) ties it to the program's text. -/
def laid_hedgerow_md5_turns {H : Type} : DataW H := .agg [.agg [.lit (.int .i64 7), .lit (.int .i64 12), .lit (.int .i64 17), .lit (.int .i64 22)], .agg [.lit (.int .i64 5), .lit (.int .i64 9), .lit (.int .i64 14), .lit (.int .i64 20)], .agg [.lit (.int .i64 4), .lit (.int .i64 11), .lit (.int .i64 16), .lit (.int .i64 23)], .agg [.lit (.int .i64 6), .lit (.int .i64 10), .lit (.int .i64 15), .lit (.int .i64 21)]]
def laid_hedgerow_md5_addends {H : Type} : DataW H := .agg [.lit (.int .u32 3614090360), .lit (.int .u32 3905402710), .lit (.int .u32 606105819), .lit (.int .u32 3250441966), .lit (.int .u32 4118548399), .lit (.int .u32 1200080426), .lit (.int .u32 2821735955), .lit (.int .u32 4249261313), .lit (.int .u32 1770035416), .lit (.int .u32 2336552879), .lit (.int .u32 4294925233), .lit (.int .u32 2304563134), .lit (.int .u32 1804603682), .lit (.int .u32 4254626195), .lit (.int .u32 2792965006), .lit (.int .u32 1236535329), .lit (.int .u32 4129170786), .lit (.int .u32 3225465664), .lit (.int .u32 643717713), .lit (.int .u32 3921069994), .lit (.int .u32 3593408605), .lit (.int .u32 38016083), .lit (.int .u32 3634488961), .lit (.int .u32 3889429448), .lit (.int .u32 568446438), .lit (.int .u32 3275163606), .lit (.int .u32 4107603335), .lit (.int .u32 1163531501), .lit (.int .u32 2850285829), .lit (.int .u32 4243563512), .lit (.int .u32 1735328473), .lit (.int .u32 2368359562), .lit (.int .u32 4294588738), .lit (.int .u32 2272392833), .lit (.int .u32 1839030562), .lit (.int .u32 4259657740), .lit (.int .u32 2763975236), .lit (.int .u32 1272893353), .lit (.int .u32 4139469664), .lit (.int .u32 3200236656), .lit (.int .u32 681279174), .lit (.int .u32 3936430074), .lit (.int .u32 3572445317), .lit (.int .u32 76029189), .lit (.int .u32 3654602809), .lit (.int .u32 3873151461), .lit (.int .u32 530742520), .lit (.int .u32 3299628645), .lit (.int .u32 4096336452), .lit (.int .u32 1126891415), .lit (.int .u32 2878612391), .lit (.int .u32 4237533241), .lit (.int .u32 1700485571), .lit (.int .u32 2399980690), .lit (.int .u32 4293915773), .lit (.int .u32 2240044497), .lit (.int .u32 1873313359), .lit (.int .u32 4264355552), .lit (.int .u32 2734768916), .lit (.int .u32 1309151649), .lit (.int .u32 4149444226), .lit (.int .u32 3174756917), .lit (.int .u32 718787259), .lit (.int .u32 3951481745)]

/-- 'hedgetop.TopShut': WHATEVER THE INPUT: true; the input reads as it did. -/
def topShutSpec : ChangeSpec := { name := "topShut", fn := fun _ => fun
  | [d] => { results := [.lit (.bool true)], args := [d] }
  | _ => none }
def topShutRow : OpenClaim := { program := "ytflghpnpjmodaaagreatdoor", sum := "d0ee518bf567c60cfe07658c01d0b8524a699b4ac86d985c8c50d721edd00f26", func := "hedgerow/hedgetop.TopShut", spec := "topShut", unfollowed := true, recurses := true, named := ["hedgerow/md5.addends", "hedgerow/md5.turns"], plainKeys := false, apart := false, laid := [("hedgerow/md5.turns", laid_hedgerow_md5_turns), ("hedgerow/md5.addends", laid_hedgerow_md5_addends)] }
def TopShutSaid : Prop := topShutRow.holds Tryz.pinned (OpenSpec.ofChange topShutSpec)

/-- ITS FALSE NEIGHBOUR: 'it returns false'. Refute it at one input. -/
def topShutWrong : ChangeSpec := { name := "topShut", fn := fun _ => fun
  | [d] => { results := [.lit (.bool false)], args := [d] }
  | _ => none }
def TopShutWrongFalsely : Prop := topShutRow.holds Tryz.pinned (OpenSpec.ofChange topShutWrong)

/-- 'hedgetop.TopLine': WHATEVER THE INPUT: true; the input reads as it did. -/
def topLineSpec : ChangeSpec := { name := "topLine", fn := fun _ => fun
  | [d1, d2] => { results := [.lit (.bool true)], args := [d1, d2] }
  | _ => none }
def topLineRow : OpenClaim := { program := "ytflghpnpjmodaaagreatdoor", sum := "d0ee518bf567c60cfe07658c01d0b8524a699b4ac86d985c8c50d721edd00f26", func := "hedgerow/hedgetop.TopLine", spec := "topLine", unfollowed := true, recurses := true, named := ["hedgerow/md5.addends", "hedgerow/md5.turns"], plainKeys := false, apart := false, laid := [("hedgerow/md5.turns", laid_hedgerow_md5_turns), ("hedgerow/md5.addends", laid_hedgerow_md5_addends)] }
def TopLineSaid : Prop := topLineRow.holds Tryz.pinned (OpenSpec.ofChange topLineSpec)

/-- ITS FALSE NEIGHBOUR: 'it returns false'. Refute it at one input. -/
def topLineWrong : ChangeSpec := { name := "topLine", fn := fun _ => fun
  | [d1, d2] => { results := [.lit (.bool false)], args := [d1, d2] }
  | _ => none }
def TopLineWrongFalsely : Prop := topLineRow.holds Tryz.pinned (OpenSpec.ofChange topLineWrong)

/-- 'hedgetop.TopGhost': WHATEVER THE INPUT: true; the input reads as it did. -/
def topGhostSpec : ChangeSpec := { name := "topGhost", fn := fun _ => fun
  | [d1, d2] => { results := [.lit (.bool true)], args := [d1, d2] }
  | _ => none }
def topGhostRow : OpenClaim := { program := "ytflghpnpjmodaaagreatdoor", sum := "d0ee518bf567c60cfe07658c01d0b8524a699b4ac86d985c8c50d721edd00f26", func := "hedgerow/hedgetop.TopGhost", spec := "topGhost", unfollowed := true, recurses := true, named := ["hedgerow/md5.addends", "hedgerow/md5.turns"], plainKeys := false, apart := false, laid := [("hedgerow/md5.turns", laid_hedgerow_md5_turns), ("hedgerow/md5.addends", laid_hedgerow_md5_addends)] }
def TopGhostSaid : Prop := topGhostRow.holds Tryz.pinned (OpenSpec.ofChange topGhostSpec)

/-- ITS FALSE NEIGHBOUR: 'it returns false'. Refute it at one input. -/
def topGhostWrong : ChangeSpec := { name := "topGhost", fn := fun _ => fun
  | [d1, d2] => { results := [.lit (.bool false)], args := [d1, d2] }
  | _ => none }
def TopGhostWrongFalsely : Prop := topGhostRow.holds Tryz.pinned (OpenSpec.ofChange topGhostWrong)

/-- 'hedgetop.TopHello': WHATEVER THE INPUT: true; the input reads as it did. -/
def topHelloSpec : ChangeSpec := { name := "topHello", fn := fun _ => fun
  | [d1, d2, d3, d4] => { results := [.lit (.bool true)], args := [d1, d2, d3, d4] }
  | _ => none }
def topHelloRow : OpenClaim := { program := "ytflghpnpjmodaaagreatdoor", sum := "d0ee518bf567c60cfe07658c01d0b8524a699b4ac86d985c8c50d721edd00f26", func := "hedgerow/hedgetop.TopHello", spec := "topHello", unfollowed := true, recurses := true, named := ["hedgerow/md5.addends", "hedgerow/md5.turns"], plainKeys := false, apart := false, laid := [("hedgerow/md5.turns", laid_hedgerow_md5_turns), ("hedgerow/md5.addends", laid_hedgerow_md5_addends)] }
def TopHelloSaid : Prop := topHelloRow.holds Tryz.pinned (OpenSpec.ofChange topHelloSpec)

/-- ITS FALSE NEIGHBOUR: 'it returns false'. Refute it at one input. -/
def topHelloWrong : ChangeSpec := { name := "topHello", fn := fun _ => fun
  | [d1, d2, d3, d4] => { results := [.lit (.bool false)], args := [d1, d2, d3, d4] }
  | _ => none }
def TopHelloWrongFalsely : Prop := topHelloRow.holds Tryz.pinned (OpenSpec.ofChange topHelloWrong)

/-- 'hedgetop.TopFirst': WHATEVER THE INPUT: true; the input reads as it did. -/
def topFirstSpec : ChangeSpec := { name := "topFirst", fn := fun _ => fun
  | [d1, d2, d3, d4] => { results := [.lit (.bool true)], args := [d1, d2, d3, d4] }
  | _ => none }
def topFirstRow : OpenClaim := { program := "ytflghpnpjmodaaagreatdoor", sum := "d0ee518bf567c60cfe07658c01d0b8524a699b4ac86d985c8c50d721edd00f26", func := "hedgerow/hedgetop.TopFirst", spec := "topFirst", unfollowed := true, recurses := true, named := ["hedgerow/md5.addends", "hedgerow/md5.turns"], plainKeys := false, apart := false, laid := [("hedgerow/md5.turns", laid_hedgerow_md5_turns), ("hedgerow/md5.addends", laid_hedgerow_md5_addends)] }
def TopFirstSaid : Prop := topFirstRow.holds Tryz.pinned (OpenSpec.ofChange topFirstSpec)

/-- ITS FALSE NEIGHBOUR: 'it returns false'. Refute it at one input. -/
def topFirstWrong : ChangeSpec := { name := "topFirst", fn := fun _ => fun
  | [d1, d2, d3, d4] => { results := [.lit (.bool false)], args := [d1, d2, d3, d4] }
  | _ => none }
def TopFirstWrongFalsely : Prop := topFirstRow.holds Tryz.pinned (OpenSpec.ofChange topFirstWrong)

/-- 'hedgetop.TopCheap': WHATEVER THE INPUT: true; the input reads as it did. -/
def topCheapSpec : ChangeSpec := { name := "topCheap", fn := fun _ => fun
  | [d1, d2] => { results := [.lit (.bool true)], args := [d1, d2] }
  | _ => none }
def topCheapRow : OpenClaim := { program := "ytflghpnpjmodaaagreatdoor", sum := "d0ee518bf567c60cfe07658c01d0b8524a699b4ac86d985c8c50d721edd00f26", func := "hedgerow/hedgetop.TopCheap", spec := "topCheap", unfollowed := true, recurses := true, named := ["hedgerow/md5.addends", "hedgerow/md5.turns"], plainKeys := false, apart := false, laid := [("hedgerow/md5.turns", laid_hedgerow_md5_turns), ("hedgerow/md5.addends", laid_hedgerow_md5_addends)] }
def TopCheapSaid : Prop := topCheapRow.holds Tryz.pinned (OpenSpec.ofChange topCheapSpec)

/-- ITS FALSE NEIGHBOUR: 'it returns false'. Refute it at one input. -/
def topCheapWrong : ChangeSpec := { name := "topCheap", fn := fun _ => fun
  | [d1, d2] => { results := [.lit (.bool false)], args := [d1, d2] }
  | _ => none }
def TopCheapWrongFalsely : Prop := topCheapRow.holds Tryz.pinned (OpenSpec.ofChange topCheapWrong)

/-- 'hedgetop.TopRing': WHATEVER THE INPUT: true; the input reads as it did. -/
def topRingSpec : ChangeSpec := { name := "topRing", fn := fun _ => fun
  | [d1, d2, d3] => { results := [.lit (.bool true)], args := [d1, d2, d3] }
  | _ => none }
def topRingRow : OpenClaim := { program := "ytflghpnpjmodaaagreatdoor", sum := "d0ee518bf567c60cfe07658c01d0b8524a699b4ac86d985c8c50d721edd00f26", func := "hedgerow/hedgetop.TopRing", spec := "topRing", unfollowed := true, recurses := true, named := ["hedgerow/md5.addends", "hedgerow/md5.turns"], plainKeys := false, apart := false, laid := [("hedgerow/md5.turns", laid_hedgerow_md5_turns), ("hedgerow/md5.addends", laid_hedgerow_md5_addends)] }
def TopRingSaid : Prop := topRingRow.holds Tryz.pinned (OpenSpec.ofChange topRingSpec)

/-- ITS FALSE NEIGHBOUR: 'it returns false'. Refute it at one input. -/
def topRingWrong : ChangeSpec := { name := "topRing", fn := fun _ => fun
  | [d1, d2, d3] => { results := [.lit (.bool false)], args := [d1, d2, d3] }
  | _ => none }
def TopRingWrongFalsely : Prop := topRingRow.holds Tryz.pinned (OpenSpec.ofChange topRingWrong)

/-- 'hedgetop.TopTrees': WHATEVER THE INPUT: true; the input reads as it did. -/
def topTreesSpec : ChangeSpec := { name := "topTrees", fn := fun _ => fun
  | [d1, d2, d3] => { results := [.lit (.bool true)], args := [d1, d2, d3] }
  | _ => none }
def topTreesRow : OpenClaim := { program := "ytflghpnpjmodaaagreatdoor", sum := "d0ee518bf567c60cfe07658c01d0b8524a699b4ac86d985c8c50d721edd00f26", func := "hedgerow/hedgetop.TopTrees", spec := "topTrees", unfollowed := true, recurses := true, named := ["hedgerow/md5.addends", "hedgerow/md5.turns"], plainKeys := false, apart := false, laid := [("hedgerow/md5.turns", laid_hedgerow_md5_turns), ("hedgerow/md5.addends", laid_hedgerow_md5_addends)] }
def TopTreesSaid : Prop := topTreesRow.holds Tryz.pinned (OpenSpec.ofChange topTreesSpec)

/-- ITS FALSE NEIGHBOUR: 'it returns false'. Refute it at one input. -/
def topTreesWrong : ChangeSpec := { name := "topTrees", fn := fun _ => fun
  | [d1, d2, d3] => { results := [.lit (.bool false)], args := [d1, d2, d3] }
  | _ => none }
def TopTreesWrongFalsely : Prop := topTreesRow.holds Tryz.pinned (OpenSpec.ofChange topTreesWrong)

/-- 'hedgetop.TopPath': WHATEVER THE INPUT: true; the input reads as it did. -/
def topPathSpec : ChangeSpec := { name := "topPath", fn := fun _ => fun
  | [d1, d2, d3] => { results := [.lit (.bool true)], args := [d1, d2, d3] }
  | _ => none }
def topPathRow : OpenClaim := { program := "ytflghpnpjmodaaagreatdoor", sum := "d0ee518bf567c60cfe07658c01d0b8524a699b4ac86d985c8c50d721edd00f26", func := "hedgerow/hedgetop.TopPath", spec := "topPath", unfollowed := true, recurses := true, named := ["hedgerow/md5.addends", "hedgerow/md5.turns"], plainKeys := false, apart := false, laid := [("hedgerow/md5.turns", laid_hedgerow_md5_turns), ("hedgerow/md5.addends", laid_hedgerow_md5_addends)] }
def TopPathSaid : Prop := topPathRow.holds Tryz.pinned (OpenSpec.ofChange topPathSpec)

/-- ITS FALSE NEIGHBOUR: 'it returns false'. Refute it at one input. -/
def topPathWrong : ChangeSpec := { name := "topPath", fn := fun _ => fun
  | [d1, d2, d3] => { results := [.lit (.bool false)], args := [d1, d2, d3] }
  | _ => none }
def TopPathWrongFalsely : Prop := topPathRow.holds Tryz.pinned (OpenSpec.ofChange topPathWrong)

/- THE SECOND FORM. 'bulk': how many values and letters a reading holds, each counted each time it is reached (what is shared counts as often as it is met; a slice's spare places count too). A statement '..UptoSaid' is the law's where the arguments, and the package variables that the reading takes, are together of bulk at most 1048576: NARROWER than '..Said'. Prove '..Said' where nothing that the law and all that it calls make is longer than what came in: it says more and counts as full. Else prove '..UptoSaid'. A law counts once. -/
mutual
def uptoBulk {H : Type} : DataW H → Nat
  | .lit (.string bytes) => bytes.length + 1
  | .lit _ => 1
  | .nil => 1
  | .ptr d => uptoBulk d + 1
  | .slice elems spare => uptoBulkAll elems + uptoBulkAll spare + 1
  | .agg parts => uptoBulkAll parts + 1
  | .iface _ d => uptoBulk d + 1
  | .map entries => uptoBulkEntries entries + 1
  | .held _ => 1
def uptoBulkAll {H : Type} : List (DataW H) → Nat
  | [] => 0
  | d :: r => uptoBulk d + uptoBulkAll r
def uptoBulkEntries {H : Type} : List (Lit × DataW H) → Nat
  | [] => 0
  | x :: r => uptoBulkEntry x + uptoBulkEntries r
def uptoBulkEntry {H : Type} : Lit × DataW H → Nat
  | (.string bytes, d) => bytes.length + uptoBulk d + 1
  | (_, d) => uptoBulk d + 1
 end
def uptoSmall : (H : Type) → List (DataW H) → Bool := fun _ ds => decide (uptoBulkAll ds ≤ 1048576)
def OpenSpec.upto (s : _root_.Go.ChangeSpec) : _root_.Go.OpenSpec := { _root_.Go.OpenSpec.ofChange s with cond := some uptoSmall }

/-- 'hedgetop.TopShut', WHERE WHAT IT READS IS OF BULK AT MOST 1048576: true; the input reads as it did. -/
def topShutUptoRow : OpenClaim := { program := "ytflghpnpjmodaaagreatdoor", sum := "d0ee518bf567c60cfe07658c01d0b8524a699b4ac86d985c8c50d721edd00f26", func := "hedgerow/hedgetop.TopShut", spec := "topShut", unfollowed := true, recurses := true, named := ["hedgerow/md5.addends", "hedgerow/md5.turns"], plainKeys := false, apart := false, laid := [("hedgerow/md5.turns", laid_hedgerow_md5_turns), ("hedgerow/md5.addends", laid_hedgerow_md5_addends)], narrowed := true }
def TopShutUptoSaid : Prop := topShutUptoRow.holds Tryz.pinned (OpenSpec.upto topShutSpec)

/-- 'hedgetop.TopLine', WHERE WHAT IT READS IS OF BULK AT MOST 1048576: true; the input reads as it did. -/
def topLineUptoRow : OpenClaim := { program := "ytflghpnpjmodaaagreatdoor", sum := "d0ee518bf567c60cfe07658c01d0b8524a699b4ac86d985c8c50d721edd00f26", func := "hedgerow/hedgetop.TopLine", spec := "topLine", unfollowed := true, recurses := true, named := ["hedgerow/md5.addends", "hedgerow/md5.turns"], plainKeys := false, apart := false, laid := [("hedgerow/md5.turns", laid_hedgerow_md5_turns), ("hedgerow/md5.addends", laid_hedgerow_md5_addends)], narrowed := true }
def TopLineUptoSaid : Prop := topLineUptoRow.holds Tryz.pinned (OpenSpec.upto topLineSpec)

/-- 'hedgetop.TopGhost', WHERE WHAT IT READS IS OF BULK AT MOST 1048576: true; the input reads as it did. -/
def topGhostUptoRow : OpenClaim := { program := "ytflghpnpjmodaaagreatdoor", sum := "d0ee518bf567c60cfe07658c01d0b8524a699b4ac86d985c8c50d721edd00f26", func := "hedgerow/hedgetop.TopGhost", spec := "topGhost", unfollowed := true, recurses := true, named := ["hedgerow/md5.addends", "hedgerow/md5.turns"], plainKeys := false, apart := false, laid := [("hedgerow/md5.turns", laid_hedgerow_md5_turns), ("hedgerow/md5.addends", laid_hedgerow_md5_addends)], narrowed := true }
def TopGhostUptoSaid : Prop := topGhostUptoRow.holds Tryz.pinned (OpenSpec.upto topGhostSpec)

/-- 'hedgetop.TopHello', WHERE WHAT IT READS IS OF BULK AT MOST 1048576: true; the input reads as it did. -/
def topHelloUptoRow : OpenClaim := { program := "ytflghpnpjmodaaagreatdoor", sum := "d0ee518bf567c60cfe07658c01d0b8524a699b4ac86d985c8c50d721edd00f26", func := "hedgerow/hedgetop.TopHello", spec := "topHello", unfollowed := true, recurses := true, named := ["hedgerow/md5.addends", "hedgerow/md5.turns"], plainKeys := false, apart := false, laid := [("hedgerow/md5.turns", laid_hedgerow_md5_turns), ("hedgerow/md5.addends", laid_hedgerow_md5_addends)], narrowed := true }
def TopHelloUptoSaid : Prop := topHelloUptoRow.holds Tryz.pinned (OpenSpec.upto topHelloSpec)

/-- 'hedgetop.TopFirst', WHERE WHAT IT READS IS OF BULK AT MOST 1048576: true; the input reads as it did. -/
def topFirstUptoRow : OpenClaim := { program := "ytflghpnpjmodaaagreatdoor", sum := "d0ee518bf567c60cfe07658c01d0b8524a699b4ac86d985c8c50d721edd00f26", func := "hedgerow/hedgetop.TopFirst", spec := "topFirst", unfollowed := true, recurses := true, named := ["hedgerow/md5.addends", "hedgerow/md5.turns"], plainKeys := false, apart := false, laid := [("hedgerow/md5.turns", laid_hedgerow_md5_turns), ("hedgerow/md5.addends", laid_hedgerow_md5_addends)], narrowed := true }
def TopFirstUptoSaid : Prop := topFirstUptoRow.holds Tryz.pinned (OpenSpec.upto topFirstSpec)

/-- 'hedgetop.TopCheap', WHERE WHAT IT READS IS OF BULK AT MOST 1048576: true; the input reads as it did. -/
def topCheapUptoRow : OpenClaim := { program := "ytflghpnpjmodaaagreatdoor", sum := "d0ee518bf567c60cfe07658c01d0b8524a699b4ac86d985c8c50d721edd00f26", func := "hedgerow/hedgetop.TopCheap", spec := "topCheap", unfollowed := true, recurses := true, named := ["hedgerow/md5.addends", "hedgerow/md5.turns"], plainKeys := false, apart := false, laid := [("hedgerow/md5.turns", laid_hedgerow_md5_turns), ("hedgerow/md5.addends", laid_hedgerow_md5_addends)], narrowed := true }
def TopCheapUptoSaid : Prop := topCheapUptoRow.holds Tryz.pinned (OpenSpec.upto topCheapSpec)

/-- 'hedgetop.TopRing', WHERE WHAT IT READS IS OF BULK AT MOST 1048576: true; the input reads as it did. -/
def topRingUptoRow : OpenClaim := { program := "ytflghpnpjmodaaagreatdoor", sum := "d0ee518bf567c60cfe07658c01d0b8524a699b4ac86d985c8c50d721edd00f26", func := "hedgerow/hedgetop.TopRing", spec := "topRing", unfollowed := true, recurses := true, named := ["hedgerow/md5.addends", "hedgerow/md5.turns"], plainKeys := false, apart := false, laid := [("hedgerow/md5.turns", laid_hedgerow_md5_turns), ("hedgerow/md5.addends", laid_hedgerow_md5_addends)], narrowed := true }
def TopRingUptoSaid : Prop := topRingUptoRow.holds Tryz.pinned (OpenSpec.upto topRingSpec)

/-- 'hedgetop.TopTrees', WHERE WHAT IT READS IS OF BULK AT MOST 1048576: true; the input reads as it did. -/
def topTreesUptoRow : OpenClaim := { program := "ytflghpnpjmodaaagreatdoor", sum := "d0ee518bf567c60cfe07658c01d0b8524a699b4ac86d985c8c50d721edd00f26", func := "hedgerow/hedgetop.TopTrees", spec := "topTrees", unfollowed := true, recurses := true, named := ["hedgerow/md5.addends", "hedgerow/md5.turns"], plainKeys := false, apart := false, laid := [("hedgerow/md5.turns", laid_hedgerow_md5_turns), ("hedgerow/md5.addends", laid_hedgerow_md5_addends)], narrowed := true }
def TopTreesUptoSaid : Prop := topTreesUptoRow.holds Tryz.pinned (OpenSpec.upto topTreesSpec)

/-- 'hedgetop.TopPath', WHERE WHAT IT READS IS OF BULK AT MOST 1048576: true; the input reads as it did. -/
def topPathUptoRow : OpenClaim := { program := "ytflghpnpjmodaaagreatdoor", sum := "d0ee518bf567c60cfe07658c01d0b8524a699b4ac86d985c8c50d721edd00f26", func := "hedgerow/hedgetop.TopPath", spec := "topPath", unfollowed := true, recurses := true, named := ["hedgerow/md5.addends", "hedgerow/md5.turns"], plainKeys := false, apart := false, laid := [("hedgerow/md5.turns", laid_hedgerow_md5_turns), ("hedgerow/md5.addends", laid_hedgerow_md5_addends)], narrowed := true }
def TopPathUptoSaid : Prop := topPathUptoRow.holds Tryz.pinned (OpenSpec.upto topPathSpec)

end Rows
end Go.Proofs.YtflghpnpjmodaaaGreatDoor
