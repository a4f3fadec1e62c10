/-
  NARROWER THAN 'FOR EVERY INPUT', by the rows' own cells (each row's printed sentence says how): FnExactOddValues: laid · FnExactOddBack: laid · FnExactRingInverse: laid · FnExactNorm: laid · FnExactTrace: laid · FnExactDigitParts: laid · FnExactRejoin: laid · FnExactRescale: laid.
  DERIVED. THE GIVEN ROWS OF THIS SEAT. 8 by the template 'for every input the law returns true; each argument reads behind the call as it read before'; 0 by the template 'total and deterministic' (their statements: YtoonpnfhcmghmabDoorTotals.lean).
  GIVEN WITH THE SEED: the statements are not yours to turn. If you find one false, say at which input.
  Laid BY PROGRAM, IN A SANDBOX (cutbox-rows.mjs): the forced cells as the released guide's own fill.sh prints them over the translation 32b77d3efaf922fa… (all of the seat's roots in one cut). By AI agents, Wed Nov 11 2026. No macro, syntax, notation, axiom, sorry.
-/
import Derived.Test.YtoonpnfhcmghmabDoorChecked
import GoSem.Claim
import GoSem.ClaimJoined
import GoSem.ClaimMapViews
import Derived.JoinedTies
import Derived.KernelRfl
namespace Go.Proofs.YtoonpnfhcmghmabDoor
/- THE CELL 'sum', in the pinned program and in every row, IS THE sha256 OF THE DUMP (.gsa) THAT YtoonpnfhcmghmabDoorProg.lean LOADS. Nothing in Lean hashes anything: it is a label: what it is worth is what the hold of that sum in a sandbox is worth. -/
noncomputable def Tryd.pinned : Pinned := { name := "ytoonpnfhcmghmabdoor", sum := "32b77d3efaf922fa5761075a41f62dcc1ee3ff78fa48ca25512880e19d7ba93f", checked := Tryd.checked }
namespace Rows
def none {H : Type} : Left H := { results := [], args := [] }

/- WHAT THE LISTED PACKAGE-LEVEL VARIABLES READ AS WHEN THE CALL BEGINS. Each datum BY PROGRAM (the guide's laid-datum.mjs) off the statement by which the dump's own 'gosem.cut.vars' lays the variable. In a bare row this is a premise. The card (YtoonpnfhcmghmabDoorCards.lean) ties it to the program's text. -/
def laid_loop_example_g00710_impl_fieldTable {H : Type} : DataW H := .agg [.agg [.lit (.int .i64 17), .lit (.int .i64 3), .lit (.int .i64 4)], .agg [.lit (.int .i64 97), .lit (.int .i64 5), .lit (.int .i64 5)], .agg [.lit (.int .i64 193), .lit (.int .i64 5), .lit (.int .i64 6)], .agg [.lit (.int .i64 257), .lit (.int .i64 3), .lit (.int .i64 8)], .agg [.lit (.int .i64 7681), .lit (.int .i64 17), .lit (.int .i64 9)], .agg [.lit (.int .i64 12289), .lit (.int .i64 11), .lit (.int .i64 12)], .agg [.lit (.int .i64 998244353), .lit (.int .i64 3), .lit (.int .i64 23)], .agg [.lit (.int .i64 469762049), .lit (.int .i64 3), .lit (.int .i64 26)], .agg [.lit (.int .i64 1004535809), .lit (.int .i64 3), .lit (.int .i64 21)]]

/-- 'laws.FnExactOddValues': WHATEVER THE INPUT: true; the input reads as it did. -/
def fnExactOddValuesSpec : ChangeSpec := { name := "fnExactOddValues", vars := ["loop.example/g00710/impl.fieldTable"], fn := fun _ => fun
  | [d1, d2, g1] => { results := [.lit (.bool true)], args := [d1, d2], vars := [g1] }
  | _ => none }
def fnExactOddValuesRow : OpenClaim := { program := "ytoonpnfhcmghmabdoor", sum := "32b77d3efaf922fa5761075a41f62dcc1ee3ff78fa48ca25512880e19d7ba93f", func := "loop.example/g00710/laws.FnExactOddValues", spec := "fnExactOddValues", unfollowed := true, recurses := true, named := ["loop.example/g00710/impl.fieldTable"], apart := false, laid := [("loop.example/g00710/impl.fieldTable", laid_loop_example_g00710_impl_fieldTable)] }
def FnExactOddValuesSaid : Prop := fnExactOddValuesRow.holds Tryd.pinned (OpenSpec.ofChange fnExactOddValuesSpec)

/-- ITS FALSE NEIGHBOUR: 'it returns false'. Refute it at one input. -/
def fnExactOddValuesWrong : ChangeSpec := { name := "fnExactOddValues", vars := ["loop.example/g00710/impl.fieldTable"], fn := fun _ => fun
  | [d1, d2, g1] => { results := [.lit (.bool false)], args := [d1, d2], vars := [g1] }
  | _ => none }
def FnExactOddValuesWrongFalsely : Prop := fnExactOddValuesRow.holds Tryd.pinned (OpenSpec.ofChange fnExactOddValuesWrong)

/-- 'laws.FnExactOddBack': WHATEVER THE INPUT: true; the input reads as it did. -/
def fnExactOddBackSpec : ChangeSpec := { name := "fnExactOddBack", vars := ["loop.example/g00710/impl.fieldTable"], fn := fun _ => fun
  | [d1, d2, g1] => { results := [.lit (.bool true)], args := [d1, d2], vars := [g1] }
  | _ => none }
def fnExactOddBackRow : OpenClaim := { program := "ytoonpnfhcmghmabdoor", sum := "32b77d3efaf922fa5761075a41f62dcc1ee3ff78fa48ca25512880e19d7ba93f", func := "loop.example/g00710/laws.FnExactOddBack", spec := "fnExactOddBack", unfollowed := true, recurses := true, named := ["loop.example/g00710/impl.fieldTable"], apart := false, laid := [("loop.example/g00710/impl.fieldTable", laid_loop_example_g00710_impl_fieldTable)] }
def FnExactOddBackSaid : Prop := fnExactOddBackRow.holds Tryd.pinned (OpenSpec.ofChange fnExactOddBackSpec)

/-- ITS FALSE NEIGHBOUR: 'it returns false'. Refute it at one input. -/
def fnExactOddBackWrong : ChangeSpec := { name := "fnExactOddBack", vars := ["loop.example/g00710/impl.fieldTable"], fn := fun _ => fun
  | [d1, d2, g1] => { results := [.lit (.bool false)], args := [d1, d2], vars := [g1] }
  | _ => none }
def FnExactOddBackWrongFalsely : Prop := fnExactOddBackRow.holds Tryd.pinned (OpenSpec.ofChange fnExactOddBackWrong)

/-- 'laws.FnExactRingInverse': WHATEVER THE INPUT: true; the input reads as it did. -/
def fnExactRingInverseSpec : ChangeSpec := { name := "fnExactRingInverse", vars := ["loop.example/g00710/impl.fieldTable"], fn := fun _ => fun
  | [d1, d2, g1] => { results := [.lit (.bool true)], args := [d1, d2], vars := [g1] }
  | _ => none }
def fnExactRingInverseRow : OpenClaim := { program := "ytoonpnfhcmghmabdoor", sum := "32b77d3efaf922fa5761075a41f62dcc1ee3ff78fa48ca25512880e19d7ba93f", func := "loop.example/g00710/laws.FnExactRingInverse", spec := "fnExactRingInverse", unfollowed := true, recurses := true, named := ["loop.example/g00710/impl.fieldTable"], apart := false, laid := [("loop.example/g00710/impl.fieldTable", laid_loop_example_g00710_impl_fieldTable)] }
def FnExactRingInverseSaid : Prop := fnExactRingInverseRow.holds Tryd.pinned (OpenSpec.ofChange fnExactRingInverseSpec)

/-- ITS FALSE NEIGHBOUR: 'it returns false'. Refute it at one input. -/
def fnExactRingInverseWrong : ChangeSpec := { name := "fnExactRingInverse", vars := ["loop.example/g00710/impl.fieldTable"], fn := fun _ => fun
  | [d1, d2, g1] => { results := [.lit (.bool false)], args := [d1, d2], vars := [g1] }
  | _ => none }
def FnExactRingInverseWrongFalsely : Prop := fnExactRingInverseRow.holds Tryd.pinned (OpenSpec.ofChange fnExactRingInverseWrong)

/-- 'laws.FnExactNorm': WHATEVER THE INPUT: true; the input reads as it did. -/
def fnExactNormSpec : ChangeSpec := { name := "fnExactNorm", vars := ["loop.example/g00710/impl.fieldTable"], fn := fun _ => fun
  | [d1, d2, g1] => { results := [.lit (.bool true)], args := [d1, d2], vars := [g1] }
  | _ => none }
def fnExactNormRow : OpenClaim := { program := "ytoonpnfhcmghmabdoor", sum := "32b77d3efaf922fa5761075a41f62dcc1ee3ff78fa48ca25512880e19d7ba93f", func := "loop.example/g00710/laws.FnExactNorm", spec := "fnExactNorm", unfollowed := true, recurses := true, named := ["loop.example/g00710/impl.fieldTable"], apart := false, laid := [("loop.example/g00710/impl.fieldTable", laid_loop_example_g00710_impl_fieldTable)] }
def FnExactNormSaid : Prop := fnExactNormRow.holds Tryd.pinned (OpenSpec.ofChange fnExactNormSpec)

/-- ITS FALSE NEIGHBOUR: 'it returns false'. Refute it at one input. -/
def fnExactNormWrong : ChangeSpec := { name := "fnExactNorm", vars := ["loop.example/g00710/impl.fieldTable"], fn := fun _ => fun
  | [d1, d2, g1] => { results := [.lit (.bool false)], args := [d1, d2], vars := [g1] }
  | _ => none }
def FnExactNormWrongFalsely : Prop := fnExactNormRow.holds Tryd.pinned (OpenSpec.ofChange fnExactNormWrong)

/-- 'laws.FnExactTrace': WHATEVER THE INPUT: true; the input reads as it did. -/
def fnExactTraceSpec : ChangeSpec := { name := "fnExactTrace", vars := ["loop.example/g00710/impl.fieldTable"], fn := fun _ => fun
  | [d1, d2, g1] => { results := [.lit (.bool true)], args := [d1, d2], vars := [g1] }
  | _ => none }
def fnExactTraceRow : OpenClaim := { program := "ytoonpnfhcmghmabdoor", sum := "32b77d3efaf922fa5761075a41f62dcc1ee3ff78fa48ca25512880e19d7ba93f", func := "loop.example/g00710/laws.FnExactTrace", spec := "fnExactTrace", unfollowed := true, recurses := true, named := ["loop.example/g00710/impl.fieldTable"], apart := false, laid := [("loop.example/g00710/impl.fieldTable", laid_loop_example_g00710_impl_fieldTable)] }
def FnExactTraceSaid : Prop := fnExactTraceRow.holds Tryd.pinned (OpenSpec.ofChange fnExactTraceSpec)

/-- ITS FALSE NEIGHBOUR: 'it returns false'. Refute it at one input. -/
def fnExactTraceWrong : ChangeSpec := { name := "fnExactTrace", vars := ["loop.example/g00710/impl.fieldTable"], fn := fun _ => fun
  | [d1, d2, g1] => { results := [.lit (.bool false)], args := [d1, d2], vars := [g1] }
  | _ => none }
def FnExactTraceWrongFalsely : Prop := fnExactTraceRow.holds Tryd.pinned (OpenSpec.ofChange fnExactTraceWrong)

/-- 'laws.FnExactDigitParts': WHATEVER THE INPUT: true; the input reads as it did. -/
def fnExactDigitPartsSpec : ChangeSpec := { name := "fnExactDigitParts", vars := ["loop.example/g00710/impl.fieldTable"], fn := fun _ => fun
  | [d1, d2, d3, d4, g1] => { results := [.lit (.bool true)], args := [d1, d2, d3, d4], vars := [g1] }
  | _ => none }
def fnExactDigitPartsRow : OpenClaim := { program := "ytoonpnfhcmghmabdoor", sum := "32b77d3efaf922fa5761075a41f62dcc1ee3ff78fa48ca25512880e19d7ba93f", func := "loop.example/g00710/laws.FnExactDigitParts", spec := "fnExactDigitParts", named := ["loop.example/g00710/impl.fieldTable"], apart := false, laid := [("loop.example/g00710/impl.fieldTable", laid_loop_example_g00710_impl_fieldTable)] }
def FnExactDigitPartsSaid : Prop := fnExactDigitPartsRow.holds Tryd.pinned (OpenSpec.ofChange fnExactDigitPartsSpec)

/-- ITS FALSE NEIGHBOUR: 'it returns false'. Refute it at one input. -/
def fnExactDigitPartsWrong : ChangeSpec := { name := "fnExactDigitParts", vars := ["loop.example/g00710/impl.fieldTable"], fn := fun _ => fun
  | [d1, d2, d3, d4, g1] => { results := [.lit (.bool false)], args := [d1, d2, d3, d4], vars := [g1] }
  | _ => none }
def FnExactDigitPartsWrongFalsely : Prop := fnExactDigitPartsRow.holds Tryd.pinned (OpenSpec.ofChange fnExactDigitPartsWrong)

/-- 'laws.FnExactRejoin': WHATEVER THE INPUT: true; the input reads as it did. -/
def fnExactRejoinSpec : ChangeSpec := { name := "fnExactRejoin", vars := ["loop.example/g00710/impl.fieldTable"], fn := fun _ => fun
  | [d1, d2, d3, g1] => { results := [.lit (.bool true)], args := [d1, d2, d3], vars := [g1] }
  | _ => none }
def fnExactRejoinRow : OpenClaim := { program := "ytoonpnfhcmghmabdoor", sum := "32b77d3efaf922fa5761075a41f62dcc1ee3ff78fa48ca25512880e19d7ba93f", func := "loop.example/g00710/laws.FnExactRejoin", spec := "fnExactRejoin", unfollowed := true, recurses := true, named := ["loop.example/g00710/impl.fieldTable"], apart := false, laid := [("loop.example/g00710/impl.fieldTable", laid_loop_example_g00710_impl_fieldTable)] }
def FnExactRejoinSaid : Prop := fnExactRejoinRow.holds Tryd.pinned (OpenSpec.ofChange fnExactRejoinSpec)

/-- ITS FALSE NEIGHBOUR: 'it returns false'. Refute it at one input. -/
def fnExactRejoinWrong : ChangeSpec := { name := "fnExactRejoin", vars := ["loop.example/g00710/impl.fieldTable"], fn := fun _ => fun
  | [d1, d2, d3, g1] => { results := [.lit (.bool false)], args := [d1, d2, d3], vars := [g1] }
  | _ => none }
def FnExactRejoinWrongFalsely : Prop := fnExactRejoinRow.holds Tryd.pinned (OpenSpec.ofChange fnExactRejoinWrong)

/-- 'laws.FnExactRescale': WHATEVER THE INPUT: true; the input reads as it did. -/
def fnExactRescaleSpec : ChangeSpec := { name := "fnExactRescale", vars := ["loop.example/g00710/impl.fieldTable"], fn := fun _ => fun
  | [d1, d2, d3, g1] => { results := [.lit (.bool true)], args := [d1, d2, d3], vars := [g1] }
  | _ => none }
def fnExactRescaleRow : OpenClaim := { program := "ytoonpnfhcmghmabdoor", sum := "32b77d3efaf922fa5761075a41f62dcc1ee3ff78fa48ca25512880e19d7ba93f", func := "loop.example/g00710/laws.FnExactRescale", spec := "fnExactRescale", named := ["loop.example/g00710/impl.fieldTable"], apart := false, laid := [("loop.example/g00710/impl.fieldTable", laid_loop_example_g00710_impl_fieldTable)] }
def FnExactRescaleSaid : Prop := fnExactRescaleRow.holds Tryd.pinned (OpenSpec.ofChange fnExactRescaleSpec)

/-- ITS FALSE NEIGHBOUR: 'it returns false'. Refute it at one input. -/
def fnExactRescaleWrong : ChangeSpec := { name := "fnExactRescale", vars := ["loop.example/g00710/impl.fieldTable"], fn := fun _ => fun
  | [d1, d2, d3, g1] => { results := [.lit (.bool false)], args := [d1, d2, d3], vars := [g1] }
  | _ => none }
def FnExactRescaleWrongFalsely : Prop := fnExactRescaleRow.holds Tryd.pinned (OpenSpec.ofChange fnExactRescaleWrong)

/- THE SECOND FORM. 'bulk': how many values and letters a reading holds, each counted each time it is reached (what is shared counts as often as it is met; a slice's spare places count too). A statement '..UptoSaid' is the law's where the arguments, and the package variables that the reading takes, are together of bulk at most 1048576: NARROWER than '..Said'. Prove '..Said' where nothing that the law and all that it calls make is longer than what came in: it says more and counts as full. Else prove '..UptoSaid'. A law counts once. -/
mutual
def uptoBulk {H : Type} : DataW H → Nat
  | .lit (.string bytes) => bytes.length + 1
  | .lit _ => 1
  | .nil => 1
  | .ptr d => uptoBulk d + 1
  | .slice elems spare => uptoBulkAll elems + uptoBulkAll spare + 1
  | .agg parts => uptoBulkAll parts + 1
  | .iface _ d => uptoBulk d + 1
  | .map entries => uptoBulkEntries entries + 1
  | .held _ => 1
def uptoBulkAll {H : Type} : List (DataW H) → Nat
  | [] => 0
  | d :: r => uptoBulk d + uptoBulkAll r
def uptoBulkEntries {H : Type} : List (Lit × DataW H) → Nat
  | [] => 0
  | x :: r => uptoBulkEntry x + uptoBulkEntries r
def uptoBulkEntry {H : Type} : Lit × DataW H → Nat
  | (.string bytes, d) => bytes.length + uptoBulk d + 1
  | (_, d) => uptoBulk d + 1
 end
def uptoSmall : (H : Type) → List (DataW H) → Bool := fun _ ds => decide (uptoBulkAll ds ≤ 1048576)
def OpenSpec.upto (s : _root_.Go.ChangeSpec) : _root_.Go.OpenSpec := { _root_.Go.OpenSpec.ofChange s with cond := some uptoSmall }

/-- 'laws.FnExactOddValues', WHERE WHAT IT READS IS OF BULK AT MOST 1048576: true; the input reads as it did. -/
def fnExactOddValuesUptoRow : OpenClaim := { program := "ytoonpnfhcmghmabdoor", sum := "32b77d3efaf922fa5761075a41f62dcc1ee3ff78fa48ca25512880e19d7ba93f", func := "loop.example/g00710/laws.FnExactOddValues", spec := "fnExactOddValues", unfollowed := true, recurses := true, named := ["loop.example/g00710/impl.fieldTable"], apart := false, laid := [("loop.example/g00710/impl.fieldTable", laid_loop_example_g00710_impl_fieldTable)], narrowed := true }
def FnExactOddValuesUptoSaid : Prop := fnExactOddValuesUptoRow.holds Tryd.pinned (OpenSpec.upto fnExactOddValuesSpec)

/-- 'laws.FnExactOddBack', WHERE WHAT IT READS IS OF BULK AT MOST 1048576: true; the input reads as it did. -/
def fnExactOddBackUptoRow : OpenClaim := { program := "ytoonpnfhcmghmabdoor", sum := "32b77d3efaf922fa5761075a41f62dcc1ee3ff78fa48ca25512880e19d7ba93f", func := "loop.example/g00710/laws.FnExactOddBack", spec := "fnExactOddBack", unfollowed := true, recurses := true, named := ["loop.example/g00710/impl.fieldTable"], apart := false, laid := [("loop.example/g00710/impl.fieldTable", laid_loop_example_g00710_impl_fieldTable)], narrowed := true }
def FnExactOddBackUptoSaid : Prop := fnExactOddBackUptoRow.holds Tryd.pinned (OpenSpec.upto fnExactOddBackSpec)

/-- 'laws.FnExactRingInverse', WHERE WHAT IT READS IS OF BULK AT MOST 1048576: true; the input reads as it did. -/
def fnExactRingInverseUptoRow : OpenClaim := { program := "ytoonpnfhcmghmabdoor", sum := "32b77d3efaf922fa5761075a41f62dcc1ee3ff78fa48ca25512880e19d7ba93f", func := "loop.example/g00710/laws.FnExactRingInverse", spec := "fnExactRingInverse", unfollowed := true, recurses := true, named := ["loop.example/g00710/impl.fieldTable"], apart := false, laid := [("loop.example/g00710/impl.fieldTable", laid_loop_example_g00710_impl_fieldTable)], narrowed := true }
def FnExactRingInverseUptoSaid : Prop := fnExactRingInverseUptoRow.holds Tryd.pinned (OpenSpec.upto fnExactRingInverseSpec)

/-- 'laws.FnExactNorm', WHERE WHAT IT READS IS OF BULK AT MOST 1048576: true; the input reads as it did. -/
def fnExactNormUptoRow : OpenClaim := { program := "ytoonpnfhcmghmabdoor", sum := "32b77d3efaf922fa5761075a41f62dcc1ee3ff78fa48ca25512880e19d7ba93f", func := "loop.example/g00710/laws.FnExactNorm", spec := "fnExactNorm", unfollowed := true, recurses := true, named := ["loop.example/g00710/impl.fieldTable"], apart := false, laid := [("loop.example/g00710/impl.fieldTable", laid_loop_example_g00710_impl_fieldTable)], narrowed := true }
def FnExactNormUptoSaid : Prop := fnExactNormUptoRow.holds Tryd.pinned (OpenSpec.upto fnExactNormSpec)

/-- 'laws.FnExactTrace', WHERE WHAT IT READS IS OF BULK AT MOST 1048576: true; the input reads as it did. -/
def fnExactTraceUptoRow : OpenClaim := { program := "ytoonpnfhcmghmabdoor", sum := "32b77d3efaf922fa5761075a41f62dcc1ee3ff78fa48ca25512880e19d7ba93f", func := "loop.example/g00710/laws.FnExactTrace", spec := "fnExactTrace", unfollowed := true, recurses := true, named := ["loop.example/g00710/impl.fieldTable"], apart := false, laid := [("loop.example/g00710/impl.fieldTable", laid_loop_example_g00710_impl_fieldTable)], narrowed := true }
def FnExactTraceUptoSaid : Prop := fnExactTraceUptoRow.holds Tryd.pinned (OpenSpec.upto fnExactTraceSpec)

/-- 'laws.FnExactDigitParts', WHERE WHAT IT READS IS OF BULK AT MOST 1048576: true; the input reads as it did. -/
def fnExactDigitPartsUptoRow : OpenClaim := { program := "ytoonpnfhcmghmabdoor", sum := "32b77d3efaf922fa5761075a41f62dcc1ee3ff78fa48ca25512880e19d7ba93f", func := "loop.example/g00710/laws.FnExactDigitParts", spec := "fnExactDigitParts", named := ["loop.example/g00710/impl.fieldTable"], apart := false, laid := [("loop.example/g00710/impl.fieldTable", laid_loop_example_g00710_impl_fieldTable)], narrowed := true }
def FnExactDigitPartsUptoSaid : Prop := fnExactDigitPartsUptoRow.holds Tryd.pinned (OpenSpec.upto fnExactDigitPartsSpec)

/-- 'laws.FnExactRejoin', WHERE WHAT IT READS IS OF BULK AT MOST 1048576: true; the input reads as it did. -/
def fnExactRejoinUptoRow : OpenClaim := { program := "ytoonpnfhcmghmabdoor", sum := "32b77d3efaf922fa5761075a41f62dcc1ee3ff78fa48ca25512880e19d7ba93f", func := "loop.example/g00710/laws.FnExactRejoin", spec := "fnExactRejoin", unfollowed := true, recurses := true, named := ["loop.example/g00710/impl.fieldTable"], apart := false, laid := [("loop.example/g00710/impl.fieldTable", laid_loop_example_g00710_impl_fieldTable)], narrowed := true }
def FnExactRejoinUptoSaid : Prop := fnExactRejoinUptoRow.holds Tryd.pinned (OpenSpec.upto fnExactRejoinSpec)

/-- 'laws.FnExactRescale', WHERE WHAT IT READS IS OF BULK AT MOST 1048576: true; the input reads as it did. -/
def fnExactRescaleUptoRow : OpenClaim := { program := "ytoonpnfhcmghmabdoor", sum := "32b77d3efaf922fa5761075a41f62dcc1ee3ff78fa48ca25512880e19d7ba93f", func := "loop.example/g00710/laws.FnExactRescale", spec := "fnExactRescale", named := ["loop.example/g00710/impl.fieldTable"], apart := false, laid := [("loop.example/g00710/impl.fieldTable", laid_loop_example_g00710_impl_fieldTable)], narrowed := true }
def FnExactRescaleUptoSaid : Prop := fnExactRescaleUptoRow.holds Tryd.pinned (OpenSpec.upto fnExactRescaleSpec)

end Rows
end Go.Proofs.YtoonpnfhcmghmabDoor
