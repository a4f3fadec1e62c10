/-
  NARROWER THAN 'FOR EVERY INPUT', by the rows' own cells (each row's printed sentence says how): FnExactSplit: laid · FnExactJoined: laid · FnExactCentered: laid · FnExactConvExact: laid · FnExactModText: laid.
  DERIVED. THE GIVEN ROWS OF THIS SEAT. 5 by the template 'for every input the law returns true; each argument reads behind the call as it read before'; 0 by the template 'total and deterministic' (their statements: YtaapmpjkcddabaaDoorTotals.lean).
  GIVEN WITH THE SEED: the statements are not yours to turn. If you find one false, say at which input.
  Laid BY PROGRAM, IN A SANDBOX (cutbox-rows.mjs): the forced cells as the released guide's own fill.sh prints them over the translation 46cf31b827d8552e… (all of the seat's roots in one cut). By AI agents, Wed Nov 11 2026. No macro, syntax, notation, axiom, sorry.
-/
import Derived.Test.YtaapmpjkcddabaaDoorChecked
import GoSem.Claim
import GoSem.ClaimJoined
import GoSem.ClaimMapViews
import Derived.JoinedTies
import Derived.KernelRfl
namespace Go.Proofs.YtaapmpjkcddabaaDoor
/- THE CELL 'sum', in the pinned program and in every row, IS THE sha256 OF THE DUMP (.gsa) THAT YtaapmpjkcddabaaDoorProg.lean LOADS. Nothing in Lean hashes anything: it is a label: what it is worth is what the hold of that sum in a sandbox is worth. -/
noncomputable def Tryd.pinned : Pinned := { name := "ytaapmpjkcddabaadoor", sum := "46cf31b827d8552e12dae7e6526de64847fc49c4358bee1002e9a45ea4a7419c", checked := Tryd.checked }
namespace Rows
def none {H : Type} : Left H := { results := [], args := [] }

/- WHAT THE LISTED PACKAGE-LEVEL VARIABLES READ AS WHEN THE CALL BEGINS. Each datum BY PROGRAM (the guide's laid-datum.mjs) off the statement by which the dump's own 'gosem.cut.vars' lays the variable. In a bare row this is a premise. The card (YtaapmpjkcddabaaDoorCards.lean) ties it to the program's text. -/
def laid_loop_example_g00710_impl_fieldTable {H : Type} : DataW H := .agg [.agg [.lit (.int .i64 17), .lit (.int .i64 3), .lit (.int .i64 4)], .agg [.lit (.int .i64 97), .lit (.int .i64 5), .lit (.int .i64 5)], .agg [.lit (.int .i64 193), .lit (.int .i64 5), .lit (.int .i64 6)], .agg [.lit (.int .i64 257), .lit (.int .i64 3), .lit (.int .i64 8)], .agg [.lit (.int .i64 7681), .lit (.int .i64 17), .lit (.int .i64 9)], .agg [.lit (.int .i64 12289), .lit (.int .i64 11), .lit (.int .i64 12)], .agg [.lit (.int .i64 998244353), .lit (.int .i64 3), .lit (.int .i64 23)], .agg [.lit (.int .i64 469762049), .lit (.int .i64 3), .lit (.int .i64 26)], .agg [.lit (.int .i64 1004535809), .lit (.int .i64 3), .lit (.int .i64 21)]]

/-- 'laws.FnExactSplit': WHATEVER THE INPUT: true; the input reads as it did. -/
def fnExactSplitSpec : ChangeSpec := { name := "fnExactSplit", vars := ["loop.example/g00710/impl.fieldTable"], fn := fun _ => fun
  | [d, g1] => { results := [.lit (.bool true)], args := [d], vars := [g1] }
  | _ => none }
def fnExactSplitRow : OpenClaim := { program := "ytaapmpjkcddabaadoor", sum := "46cf31b827d8552e12dae7e6526de64847fc49c4358bee1002e9a45ea4a7419c", func := "loop.example/g00710/laws.FnExactSplit", spec := "fnExactSplit", named := ["loop.example/g00710/impl.fieldTable"], apart := false, laid := [("loop.example/g00710/impl.fieldTable", laid_loop_example_g00710_impl_fieldTable)] }
def FnExactSplitSaid : Prop := fnExactSplitRow.holds Tryd.pinned (OpenSpec.ofChange fnExactSplitSpec)

/-- ITS FALSE NEIGHBOUR: 'it returns false'. Refute it at one input. -/
def fnExactSplitWrong : ChangeSpec := { name := "fnExactSplit", vars := ["loop.example/g00710/impl.fieldTable"], fn := fun _ => fun
  | [d, g1] => { results := [.lit (.bool false)], args := [d], vars := [g1] }
  | _ => none }
def FnExactSplitWrongFalsely : Prop := fnExactSplitRow.holds Tryd.pinned (OpenSpec.ofChange fnExactSplitWrong)

/-- 'laws.FnExactJoined': WHATEVER THE INPUT: true; the input reads as it did. -/
def fnExactJoinedSpec : ChangeSpec := { name := "fnExactJoined", vars := ["loop.example/g00710/impl.fieldTable"], fn := fun _ => fun
  | [d1, d2, g1] => { results := [.lit (.bool true)], args := [d1, d2], vars := [g1] }
  | _ => none }
def fnExactJoinedRow : OpenClaim := { program := "ytaapmpjkcddabaadoor", sum := "46cf31b827d8552e12dae7e6526de64847fc49c4358bee1002e9a45ea4a7419c", func := "loop.example/g00710/laws.FnExactJoined", spec := "fnExactJoined", named := ["loop.example/g00710/impl.fieldTable"], apart := false, laid := [("loop.example/g00710/impl.fieldTable", laid_loop_example_g00710_impl_fieldTable)] }
def FnExactJoinedSaid : Prop := fnExactJoinedRow.holds Tryd.pinned (OpenSpec.ofChange fnExactJoinedSpec)

/-- ITS FALSE NEIGHBOUR: 'it returns false'. Refute it at one input. -/
def fnExactJoinedWrong : ChangeSpec := { name := "fnExactJoined", vars := ["loop.example/g00710/impl.fieldTable"], fn := fun _ => fun
  | [d1, d2, g1] => { results := [.lit (.bool false)], args := [d1, d2], vars := [g1] }
  | _ => none }
def FnExactJoinedWrongFalsely : Prop := fnExactJoinedRow.holds Tryd.pinned (OpenSpec.ofChange fnExactJoinedWrong)

/-- 'laws.FnExactCentered': WHATEVER THE INPUT: true; the input reads as it did. -/
def fnExactCenteredSpec : ChangeSpec := { name := "fnExactCentered", vars := ["loop.example/g00710/impl.fieldTable"], fn := fun _ => fun
  | [d1, d2, g1] => { results := [.lit (.bool true)], args := [d1, d2], vars := [g1] }
  | _ => none }
def fnExactCenteredRow : OpenClaim := { program := "ytaapmpjkcddabaadoor", sum := "46cf31b827d8552e12dae7e6526de64847fc49c4358bee1002e9a45ea4a7419c", func := "loop.example/g00710/laws.FnExactCentered", spec := "fnExactCentered", named := ["loop.example/g00710/impl.fieldTable"], apart := false, laid := [("loop.example/g00710/impl.fieldTable", laid_loop_example_g00710_impl_fieldTable)] }
def FnExactCenteredSaid : Prop := fnExactCenteredRow.holds Tryd.pinned (OpenSpec.ofChange fnExactCenteredSpec)

/-- ITS FALSE NEIGHBOUR: 'it returns false'. Refute it at one input. -/
def fnExactCenteredWrong : ChangeSpec := { name := "fnExactCentered", vars := ["loop.example/g00710/impl.fieldTable"], fn := fun _ => fun
  | [d1, d2, g1] => { results := [.lit (.bool false)], args := [d1, d2], vars := [g1] }
  | _ => none }
def FnExactCenteredWrongFalsely : Prop := fnExactCenteredRow.holds Tryd.pinned (OpenSpec.ofChange fnExactCenteredWrong)

/-- 'laws.FnExactConvExact': WHATEVER THE INPUT: true; the input reads as it did. -/
def fnExactConvExactSpec : ChangeSpec := { name := "fnExactConvExact", vars := ["loop.example/g00710/impl.fieldTable"], fn := fun _ => fun
  | [d1, d2, g1] => { results := [.lit (.bool true)], args := [d1, d2], vars := [g1] }
  | _ => none }
def fnExactConvExactRow : OpenClaim := { program := "ytaapmpjkcddabaadoor", sum := "46cf31b827d8552e12dae7e6526de64847fc49c4358bee1002e9a45ea4a7419c", func := "loop.example/g00710/laws.FnExactConvExact", spec := "fnExactConvExact", named := ["loop.example/g00710/impl.fieldTable"], apart := false, laid := [("loop.example/g00710/impl.fieldTable", laid_loop_example_g00710_impl_fieldTable)] }
def FnExactConvExactSaid : Prop := fnExactConvExactRow.holds Tryd.pinned (OpenSpec.ofChange fnExactConvExactSpec)

/-- ITS FALSE NEIGHBOUR: 'it returns false'. Refute it at one input. -/
def fnExactConvExactWrong : ChangeSpec := { name := "fnExactConvExact", vars := ["loop.example/g00710/impl.fieldTable"], fn := fun _ => fun
  | [d1, d2, g1] => { results := [.lit (.bool false)], args := [d1, d2], vars := [g1] }
  | _ => none }
def FnExactConvExactWrongFalsely : Prop := fnExactConvExactRow.holds Tryd.pinned (OpenSpec.ofChange fnExactConvExactWrong)

/-- 'laws.FnExactModText': WHATEVER THE INPUT: true; the input reads as it did. -/
def fnExactModTextSpec : ChangeSpec := { name := "fnExactModText", vars := ["loop.example/g00710/impl.fieldTable"], fn := fun _ => fun
  | [d1, d2, g1] => { results := [.lit (.bool true)], args := [d1, d2], vars := [g1] }
  | _ => none }
def fnExactModTextRow : OpenClaim := { program := "ytaapmpjkcddabaadoor", sum := "46cf31b827d8552e12dae7e6526de64847fc49c4358bee1002e9a45ea4a7419c", func := "loop.example/g00710/laws.FnExactModText", spec := "fnExactModText", named := ["loop.example/g00710/impl.fieldTable"], apart := false, laid := [("loop.example/g00710/impl.fieldTable", laid_loop_example_g00710_impl_fieldTable)] }
def FnExactModTextSaid : Prop := fnExactModTextRow.holds Tryd.pinned (OpenSpec.ofChange fnExactModTextSpec)

/-- ITS FALSE NEIGHBOUR: 'it returns false'. Refute it at one input. -/
def fnExactModTextWrong : ChangeSpec := { name := "fnExactModText", vars := ["loop.example/g00710/impl.fieldTable"], fn := fun _ => fun
  | [d1, d2, g1] => { results := [.lit (.bool false)], args := [d1, d2], vars := [g1] }
  | _ => none }
def FnExactModTextWrongFalsely : Prop := fnExactModTextRow.holds Tryd.pinned (OpenSpec.ofChange fnExactModTextWrong)

/- THE SECOND FORM. 'bulk': how many values and letters a reading holds, each counted each time it is reached (what is shared counts as often as it is met; a slice's spare places count too). A statement '..UptoSaid' is the law's where the arguments, and the package variables that the reading takes, are together of bulk at most 1048576: NARROWER than '..Said'. Prove '..Said' where nothing that the law and all that it calls make is longer than what came in: it says more and counts as full. Else prove '..UptoSaid'. A law counts once. -/
mutual
def uptoBulk {H : Type} : DataW H → Nat
  | .lit (.string bytes) => bytes.length + 1
  | .lit _ => 1
  | .nil => 1
  | .ptr d => uptoBulk d + 1
  | .slice elems spare => uptoBulkAll elems + uptoBulkAll spare + 1
  | .agg parts => uptoBulkAll parts + 1
  | .iface _ d => uptoBulk d + 1
  | .map entries => uptoBulkEntries entries + 1
  | .held _ => 1
def uptoBulkAll {H : Type} : List (DataW H) → Nat
  | [] => 0
  | d :: r => uptoBulk d + uptoBulkAll r
def uptoBulkEntries {H : Type} : List (Lit × DataW H) → Nat
  | [] => 0
  | x :: r => uptoBulkEntry x + uptoBulkEntries r
def uptoBulkEntry {H : Type} : Lit × DataW H → Nat
  | (.string bytes, d) => bytes.length + uptoBulk d + 1
  | (_, d) => uptoBulk d + 1
 end
def uptoSmall : (H : Type) → List (DataW H) → Bool := fun _ ds => decide (uptoBulkAll ds ≤ 1048576)
def OpenSpec.upto (s : _root_.Go.ChangeSpec) : _root_.Go.OpenSpec := { _root_.Go.OpenSpec.ofChange s with cond := some uptoSmall }

/-- 'laws.FnExactSplit', WHERE WHAT IT READS IS OF BULK AT MOST 1048576: true; the input reads as it did. -/
def fnExactSplitUptoRow : OpenClaim := { program := "ytaapmpjkcddabaadoor", sum := "46cf31b827d8552e12dae7e6526de64847fc49c4358bee1002e9a45ea4a7419c", func := "loop.example/g00710/laws.FnExactSplit", spec := "fnExactSplit", named := ["loop.example/g00710/impl.fieldTable"], apart := false, laid := [("loop.example/g00710/impl.fieldTable", laid_loop_example_g00710_impl_fieldTable)], narrowed := true }
def FnExactSplitUptoSaid : Prop := fnExactSplitUptoRow.holds Tryd.pinned (OpenSpec.upto fnExactSplitSpec)

/-- 'laws.FnExactJoined', WHERE WHAT IT READS IS OF BULK AT MOST 1048576: true; the input reads as it did. -/
def fnExactJoinedUptoRow : OpenClaim := { program := "ytaapmpjkcddabaadoor", sum := "46cf31b827d8552e12dae7e6526de64847fc49c4358bee1002e9a45ea4a7419c", func := "loop.example/g00710/laws.FnExactJoined", spec := "fnExactJoined", named := ["loop.example/g00710/impl.fieldTable"], apart := false, laid := [("loop.example/g00710/impl.fieldTable", laid_loop_example_g00710_impl_fieldTable)], narrowed := true }
def FnExactJoinedUptoSaid : Prop := fnExactJoinedUptoRow.holds Tryd.pinned (OpenSpec.upto fnExactJoinedSpec)

/-- 'laws.FnExactCentered', WHERE WHAT IT READS IS OF BULK AT MOST 1048576: true; the input reads as it did. -/
def fnExactCenteredUptoRow : OpenClaim := { program := "ytaapmpjkcddabaadoor", sum := "46cf31b827d8552e12dae7e6526de64847fc49c4358bee1002e9a45ea4a7419c", func := "loop.example/g00710/laws.FnExactCentered", spec := "fnExactCentered", named := ["loop.example/g00710/impl.fieldTable"], apart := false, laid := [("loop.example/g00710/impl.fieldTable", laid_loop_example_g00710_impl_fieldTable)], narrowed := true }
def FnExactCenteredUptoSaid : Prop := fnExactCenteredUptoRow.holds Tryd.pinned (OpenSpec.upto fnExactCenteredSpec)

/-- 'laws.FnExactConvExact', WHERE WHAT IT READS IS OF BULK AT MOST 1048576: true; the input reads as it did. -/
def fnExactConvExactUptoRow : OpenClaim := { program := "ytaapmpjkcddabaadoor", sum := "46cf31b827d8552e12dae7e6526de64847fc49c4358bee1002e9a45ea4a7419c", func := "loop.example/g00710/laws.FnExactConvExact", spec := "fnExactConvExact", named := ["loop.example/g00710/impl.fieldTable"], apart := false, laid := [("loop.example/g00710/impl.fieldTable", laid_loop_example_g00710_impl_fieldTable)], narrowed := true }
def FnExactConvExactUptoSaid : Prop := fnExactConvExactUptoRow.holds Tryd.pinned (OpenSpec.upto fnExactConvExactSpec)

/-- 'laws.FnExactModText', WHERE WHAT IT READS IS OF BULK AT MOST 1048576: true; the input reads as it did. -/
def fnExactModTextUptoRow : OpenClaim := { program := "ytaapmpjkcddabaadoor", sum := "46cf31b827d8552e12dae7e6526de64847fc49c4358bee1002e9a45ea4a7419c", func := "loop.example/g00710/laws.FnExactModText", spec := "fnExactModText", named := ["loop.example/g00710/impl.fieldTable"], apart := false, laid := [("loop.example/g00710/impl.fieldTable", laid_loop_example_g00710_impl_fieldTable)], narrowed := true }
def FnExactModTextUptoSaid : Prop := fnExactModTextUptoRow.holds Tryd.pinned (OpenSpec.upto fnExactModTextSpec)

end Rows
end Go.Proofs.YtaapmpjkcddabaaDoor
