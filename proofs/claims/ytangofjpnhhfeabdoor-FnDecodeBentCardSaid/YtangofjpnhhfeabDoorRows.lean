/-
  NARROWER THAN 'FOR EVERY INPUT', by the rows' own cells (each row's printed sentence says how): FnExactDecodeWord: laid · FnExactBlame: laid · FnExactDecodeGaps: laid · FnInterpolateBack: laid · FnWeights: laid · FnDecodeBent: laid · FnGaps: laid.
  DERIVED. THE GIVEN ROWS OF THIS SEAT. 7 by the template 'for every input the law returns true; each argument reads behind the call as it read before'; 0 by the template 'total and deterministic' (their statements: YtangofjpnhhfeabDoorTotals.lean).
  GIVEN WITH THE SEED: the statements are not yours to turn. If you find one false, say at which input.
  Laid BY PROGRAM, IN A SANDBOX (cutbox-rows.mjs): the forced cells as the released guide's own fill.sh prints them over the translation 52fcc5287bf5517c… (all of the seat's roots in one cut). By AI agents, Wed Nov 11 2026. No macro, syntax, notation, axiom, sorry.
-/
import Derived.Test.YtangofjpnhhfeabDoorChecked
import GoSem.Claim
import GoSem.ClaimJoined
import GoSem.ClaimMapViews
import Derived.JoinedTies
import Derived.KernelRfl
namespace Go.Proofs.YtangofjpnhhfeabDoor
/- THE CELL 'sum', in the pinned program and in every row, IS THE sha256 OF THE DUMP (.gsa) THAT YtangofjpnhhfeabDoorProg.lean LOADS. Nothing in Lean hashes anything: it is a label: what it is worth is what the hold of that sum in a sandbox is worth. -/
noncomputable def Tryd.pinned : Pinned := { name := "ytangofjpnhhfeabdoor", sum := "52fcc5287bf5517cf830e1668f3e3a7b8312715caef71292668a7659af31a2a6", checked := Tryd.checked }
namespace Rows
def none {H : Type} : Left H := { results := [], args := [] }

/- WHAT THE LISTED PACKAGE-LEVEL VARIABLES READ AS WHEN THE CALL BEGINS. Each datum BY PROGRAM (the guide's laid-datum.mjs) off the statement by which the dump's own 'gosem.cut.vars' lays the variable. In a bare row this is a premise. The card (YtangofjpnhhfeabDoorCards.lean) ties it to the program's text. -/
def laid_errors_errorType {H : Type} : DataW H := .iface "internal/reflectlite.rtype" (.agg [.ptr (.lit (.string [101, 114, 114, 111, 114]))])
def laid_loop_example_g00710_impl_fieldTable {H : Type} : DataW H := .agg [.agg [.lit (.int .i64 17), .lit (.int .i64 3), .lit (.int .i64 4)], .agg [.lit (.int .i64 97), .lit (.int .i64 5), .lit (.int .i64 5)], .agg [.lit (.int .i64 193), .lit (.int .i64 5), .lit (.int .i64 6)], .agg [.lit (.int .i64 257), .lit (.int .i64 3), .lit (.int .i64 8)], .agg [.lit (.int .i64 7681), .lit (.int .i64 17), .lit (.int .i64 9)], .agg [.lit (.int .i64 12289), .lit (.int .i64 11), .lit (.int .i64 12)], .agg [.lit (.int .i64 998244353), .lit (.int .i64 3), .lit (.int .i64 23)], .agg [.lit (.int .i64 469762049), .lit (.int .i64 3), .lit (.int .i64 26)], .agg [.lit (.int .i64 1004535809), .lit (.int .i64 3), .lit (.int .i64 21)]]

/-- 'laws.FnExactDecodeWord': WHATEVER THE INPUT: true; the input reads as it did. -/
def fnExactDecodeWordSpec : ChangeSpec := { name := "fnExactDecodeWord", vars := ["loop.example/g00710/impl.fieldTable"], fn := fun _ => fun
  | [d1, d2, d3, d4, g1] => { results := [.lit (.bool true)], args := [d1, d2, d3, d4], vars := [g1] }
  | _ => none }
def fnExactDecodeWordRow : OpenClaim := { program := "ytangofjpnhhfeabdoor", sum := "52fcc5287bf5517cf830e1668f3e3a7b8312715caef71292668a7659af31a2a6", func := "loop.example/g00710/laws.FnExactDecodeWord", spec := "fnExactDecodeWord", inPlace := ["internal/reflectlite.ValueOf", "(internal/reflectlite.Value).Type", "(internal/reflectlite.Value).IsNil", "internal/reflectlite.TypeOf", "(internal/reflectlite.Value).Elem", "(internal/reflectlite.Value).Set"], unfollowed := true, recurses := true, named := ["loop.example/g00710/impl.fieldTable", "errors.errorType"], apart := false, laid := [("errors.errorType", laid_errors_errorType), ("loop.example/g00710/impl.fieldTable", laid_loop_example_g00710_impl_fieldTable)] }
def FnExactDecodeWordSaid : Prop := fnExactDecodeWordRow.holds Tryd.pinned (OpenSpec.ofChange fnExactDecodeWordSpec)

/-- ITS FALSE NEIGHBOUR: 'it returns false'. Refute it at one input. -/
def fnExactDecodeWordWrong : ChangeSpec := { name := "fnExactDecodeWord", vars := ["loop.example/g00710/impl.fieldTable"], fn := fun _ => fun
  | [d1, d2, d3, d4, g1] => { results := [.lit (.bool false)], args := [d1, d2, d3, d4], vars := [g1] }
  | _ => none }
def FnExactDecodeWordWrongFalsely : Prop := fnExactDecodeWordRow.holds Tryd.pinned (OpenSpec.ofChange fnExactDecodeWordWrong)

/-- 'laws.FnExactBlame': WHATEVER THE INPUT: true; the input reads as it did. -/
def fnExactBlameSpec : ChangeSpec := { name := "fnExactBlame", vars := ["loop.example/g00710/impl.fieldTable"], fn := fun _ => fun
  | [d1, d2, d3, d4, g1] => { results := [.lit (.bool true)], args := [d1, d2, d3, d4], vars := [g1] }
  | _ => none }
def fnExactBlameRow : OpenClaim := { program := "ytangofjpnhhfeabdoor", sum := "52fcc5287bf5517cf830e1668f3e3a7b8312715caef71292668a7659af31a2a6", func := "loop.example/g00710/laws.FnExactBlame", spec := "fnExactBlame", inPlace := ["internal/reflectlite.ValueOf", "(internal/reflectlite.Value).Type", "(internal/reflectlite.Value).IsNil", "internal/reflectlite.TypeOf", "(internal/reflectlite.Value).Elem", "(internal/reflectlite.Value).Set"], unfollowed := true, recurses := true, named := ["loop.example/g00710/impl.fieldTable", "errors.errorType"], apart := false, laid := [("errors.errorType", laid_errors_errorType), ("loop.example/g00710/impl.fieldTable", laid_loop_example_g00710_impl_fieldTable)] }
def FnExactBlameSaid : Prop := fnExactBlameRow.holds Tryd.pinned (OpenSpec.ofChange fnExactBlameSpec)

/-- ITS FALSE NEIGHBOUR: 'it returns false'. Refute it at one input. -/
def fnExactBlameWrong : ChangeSpec := { name := "fnExactBlame", vars := ["loop.example/g00710/impl.fieldTable"], fn := fun _ => fun
  | [d1, d2, d3, d4, g1] => { results := [.lit (.bool false)], args := [d1, d2, d3, d4], vars := [g1] }
  | _ => none }
def FnExactBlameWrongFalsely : Prop := fnExactBlameRow.holds Tryd.pinned (OpenSpec.ofChange fnExactBlameWrong)

/-- 'laws.FnExactDecodeGaps': WHATEVER THE INPUT: true; the input reads as it did. -/
def fnExactDecodeGapsSpec : ChangeSpec := { name := "fnExactDecodeGaps", vars := ["loop.example/g00710/impl.fieldTable"], fn := fun _ => fun
  | [d1, d2, d3, d4, d5, g1] => { results := [.lit (.bool true)], args := [d1, d2, d3, d4, d5], vars := [g1] }
  | _ => none }
def fnExactDecodeGapsRow : OpenClaim := { program := "ytangofjpnhhfeabdoor", sum := "52fcc5287bf5517cf830e1668f3e3a7b8312715caef71292668a7659af31a2a6", func := "loop.example/g00710/laws.FnExactDecodeGaps", spec := "fnExactDecodeGaps", inPlace := ["internal/reflectlite.ValueOf", "(internal/reflectlite.Value).Type", "(internal/reflectlite.Value).IsNil", "internal/reflectlite.TypeOf", "(internal/reflectlite.Value).Elem", "(internal/reflectlite.Value).Set"], unfollowed := true, recurses := true, named := ["loop.example/g00710/impl.fieldTable", "errors.errorType"], apart := false, laid := [("errors.errorType", laid_errors_errorType), ("loop.example/g00710/impl.fieldTable", laid_loop_example_g00710_impl_fieldTable)] }
def FnExactDecodeGapsSaid : Prop := fnExactDecodeGapsRow.holds Tryd.pinned (OpenSpec.ofChange fnExactDecodeGapsSpec)

/-- ITS FALSE NEIGHBOUR: 'it returns false'. Refute it at one input. -/
def fnExactDecodeGapsWrong : ChangeSpec := { name := "fnExactDecodeGaps", vars := ["loop.example/g00710/impl.fieldTable"], fn := fun _ => fun
  | [d1, d2, d3, d4, d5, g1] => { results := [.lit (.bool false)], args := [d1, d2, d3, d4, d5], vars := [g1] }
  | _ => none }
def FnExactDecodeGapsWrongFalsely : Prop := fnExactDecodeGapsRow.holds Tryd.pinned (OpenSpec.ofChange fnExactDecodeGapsWrong)

/-- 'laws.FnInterpolateBack': WHATEVER THE INPUT: true; the input reads as it did. -/
def fnInterpolateBackSpec : ChangeSpec := { name := "fnInterpolateBack", vars := ["loop.example/g00710/impl.fieldTable"], fn := fun _ => fun
  | [d, g1] => { results := [.lit (.bool true)], args := [d], vars := [g1] }
  | _ => none }
def fnInterpolateBackRow : OpenClaim := { program := "ytangofjpnhhfeabdoor", sum := "52fcc5287bf5517cf830e1668f3e3a7b8312715caef71292668a7659af31a2a6", func := "loop.example/g00710/laws.FnInterpolateBack", spec := "fnInterpolateBack", recurses := true, named := ["loop.example/g00710/impl.fieldTable"], apart := false, laid := [("loop.example/g00710/impl.fieldTable", laid_loop_example_g00710_impl_fieldTable)] }
def FnInterpolateBackSaid : Prop := fnInterpolateBackRow.holds Tryd.pinned (OpenSpec.ofChange fnInterpolateBackSpec)

/-- ITS FALSE NEIGHBOUR: 'it returns false'. Refute it at one input. -/
def fnInterpolateBackWrong : ChangeSpec := { name := "fnInterpolateBack", vars := ["loop.example/g00710/impl.fieldTable"], fn := fun _ => fun
  | [d, g1] => { results := [.lit (.bool false)], args := [d], vars := [g1] }
  | _ => none }
def FnInterpolateBackWrongFalsely : Prop := fnInterpolateBackRow.holds Tryd.pinned (OpenSpec.ofChange fnInterpolateBackWrong)

/-- 'laws.FnWeights': WHATEVER THE INPUT: true; the input reads as it did. -/
def fnWeightsSpec : ChangeSpec := { name := "fnWeights", vars := ["loop.example/g00710/impl.fieldTable"], fn := fun _ => fun
  | [d, g1] => { results := [.lit (.bool true)], args := [d], vars := [g1] }
  | _ => none }
def fnWeightsRow : OpenClaim := { program := "ytangofjpnhhfeabdoor", sum := "52fcc5287bf5517cf830e1668f3e3a7b8312715caef71292668a7659af31a2a6", func := "loop.example/g00710/laws.FnWeights", spec := "fnWeights", recurses := true, named := ["loop.example/g00710/impl.fieldTable"], apart := false, laid := [("loop.example/g00710/impl.fieldTable", laid_loop_example_g00710_impl_fieldTable)] }
def FnWeightsSaid : Prop := fnWeightsRow.holds Tryd.pinned (OpenSpec.ofChange fnWeightsSpec)

/-- ITS FALSE NEIGHBOUR: 'it returns false'. Refute it at one input. -/
def fnWeightsWrong : ChangeSpec := { name := "fnWeights", vars := ["loop.example/g00710/impl.fieldTable"], fn := fun _ => fun
  | [d, g1] => { results := [.lit (.bool false)], args := [d], vars := [g1] }
  | _ => none }
def FnWeightsWrongFalsely : Prop := fnWeightsRow.holds Tryd.pinned (OpenSpec.ofChange fnWeightsWrong)

/-- 'laws.FnDecodeBent': WHATEVER THE INPUT: true; the input reads as it did. -/
def fnDecodeBentSpec : ChangeSpec := { name := "fnDecodeBent", vars := ["loop.example/g00710/impl.fieldTable"], fn := fun _ => fun
  | [d, g1] => { results := [.lit (.bool true)], args := [d], vars := [g1] }
  | _ => none }
def fnDecodeBentRow : OpenClaim := { program := "ytangofjpnhhfeabdoor", sum := "52fcc5287bf5517cf830e1668f3e3a7b8312715caef71292668a7659af31a2a6", func := "loop.example/g00710/laws.FnDecodeBent", spec := "fnDecodeBent", inPlace := ["internal/reflectlite.ValueOf", "(internal/reflectlite.Value).Type", "(internal/reflectlite.Value).IsNil", "internal/reflectlite.TypeOf", "(internal/reflectlite.Value).Elem", "(internal/reflectlite.Value).Set"], unfollowed := true, recurses := true, named := ["loop.example/g00710/impl.fieldTable", "errors.errorType"], apart := false, laid := [("errors.errorType", laid_errors_errorType), ("loop.example/g00710/impl.fieldTable", laid_loop_example_g00710_impl_fieldTable)] }
def FnDecodeBentSaid : Prop := fnDecodeBentRow.holds Tryd.pinned (OpenSpec.ofChange fnDecodeBentSpec)

/-- ITS FALSE NEIGHBOUR: 'it returns false'. Refute it at one input. -/
def fnDecodeBentWrong : ChangeSpec := { name := "fnDecodeBent", vars := ["loop.example/g00710/impl.fieldTable"], fn := fun _ => fun
  | [d, g1] => { results := [.lit (.bool false)], args := [d], vars := [g1] }
  | _ => none }
def FnDecodeBentWrongFalsely : Prop := fnDecodeBentRow.holds Tryd.pinned (OpenSpec.ofChange fnDecodeBentWrong)

/-- 'laws.FnGaps': WHATEVER THE INPUT: true; the input reads as it did. -/
def fnGapsSpec : ChangeSpec := { name := "fnGaps", vars := ["loop.example/g00710/impl.fieldTable"], fn := fun _ => fun
  | [d, g1] => { results := [.lit (.bool true)], args := [d], vars := [g1] }
  | _ => none }
def fnGapsRow : OpenClaim := { program := "ytangofjpnhhfeabdoor", sum := "52fcc5287bf5517cf830e1668f3e3a7b8312715caef71292668a7659af31a2a6", func := "loop.example/g00710/laws.FnGaps", spec := "fnGaps", inPlace := ["internal/reflectlite.ValueOf", "(internal/reflectlite.Value).Type", "(internal/reflectlite.Value).IsNil", "internal/reflectlite.TypeOf", "(internal/reflectlite.Value).Elem", "(internal/reflectlite.Value).Set"], unfollowed := true, recurses := true, named := ["loop.example/g00710/impl.fieldTable", "errors.errorType"], apart := false, laid := [("errors.errorType", laid_errors_errorType), ("loop.example/g00710/impl.fieldTable", laid_loop_example_g00710_impl_fieldTable)] }
def FnGapsSaid : Prop := fnGapsRow.holds Tryd.pinned (OpenSpec.ofChange fnGapsSpec)

/-- ITS FALSE NEIGHBOUR: 'it returns false'. Refute it at one input. -/
def fnGapsWrong : ChangeSpec := { name := "fnGaps", vars := ["loop.example/g00710/impl.fieldTable"], fn := fun _ => fun
  | [d, g1] => { results := [.lit (.bool false)], args := [d], vars := [g1] }
  | _ => none }
def FnGapsWrongFalsely : Prop := fnGapsRow.holds Tryd.pinned (OpenSpec.ofChange fnGapsWrong)

/- THE SECOND FORM. 'bulk': how many values and letters a reading holds, each counted each time it is reached (what is shared counts as often as it is met; a slice's spare places count too). A statement '..UptoSaid' is the law's where the arguments, and the package variables that the reading takes, are together of bulk at most 1048576: NARROWER than '..Said'. Prove '..Said' where nothing that the law and all that it calls make is longer than what came in: it says more and counts as full. Else prove '..UptoSaid'. A law counts once. -/
mutual
def uptoBulk {H : Type} : DataW H → Nat
  | .lit (.string bytes) => bytes.length + 1
  | .lit _ => 1
  | .nil => 1
  | .ptr d => uptoBulk d + 1
  | .slice elems spare => uptoBulkAll elems + uptoBulkAll spare + 1
  | .agg parts => uptoBulkAll parts + 1
  | .iface _ d => uptoBulk d + 1
  | .map entries => uptoBulkEntries entries + 1
  | .held _ => 1
def uptoBulkAll {H : Type} : List (DataW H) → Nat
  | [] => 0
  | d :: r => uptoBulk d + uptoBulkAll r
def uptoBulkEntries {H : Type} : List (Lit × DataW H) → Nat
  | [] => 0
  | x :: r => uptoBulkEntry x + uptoBulkEntries r
def uptoBulkEntry {H : Type} : Lit × DataW H → Nat
  | (.string bytes, d) => bytes.length + uptoBulk d + 1
  | (_, d) => uptoBulk d + 1
 end
def uptoSmall : (H : Type) → List (DataW H) → Bool := fun _ ds => decide (uptoBulkAll ds ≤ 1048576)
def OpenSpec.upto (s : _root_.Go.ChangeSpec) : _root_.Go.OpenSpec := { _root_.Go.OpenSpec.ofChange s with cond := some uptoSmall }

/-- 'laws.FnExactDecodeWord', WHERE WHAT IT READS IS OF BULK AT MOST 1048576: true; the input reads as it did. -/
def fnExactDecodeWordUptoRow : OpenClaim := { program := "ytangofjpnhhfeabdoor", sum := "52fcc5287bf5517cf830e1668f3e3a7b8312715caef71292668a7659af31a2a6", func := "loop.example/g00710/laws.FnExactDecodeWord", spec := "fnExactDecodeWord", inPlace := ["internal/reflectlite.ValueOf", "(internal/reflectlite.Value).Type", "(internal/reflectlite.Value).IsNil", "internal/reflectlite.TypeOf", "(internal/reflectlite.Value).Elem", "(internal/reflectlite.Value).Set"], unfollowed := true, recurses := true, named := ["loop.example/g00710/impl.fieldTable", "errors.errorType"], apart := false, laid := [("errors.errorType", laid_errors_errorType), ("loop.example/g00710/impl.fieldTable", laid_loop_example_g00710_impl_fieldTable)], narrowed := true }
def FnExactDecodeWordUptoSaid : Prop := fnExactDecodeWordUptoRow.holds Tryd.pinned (OpenSpec.upto fnExactDecodeWordSpec)

/-- 'laws.FnExactBlame', WHERE WHAT IT READS IS OF BULK AT MOST 1048576: true; the input reads as it did. -/
def fnExactBlameUptoRow : OpenClaim := { program := "ytangofjpnhhfeabdoor", sum := "52fcc5287bf5517cf830e1668f3e3a7b8312715caef71292668a7659af31a2a6", func := "loop.example/g00710/laws.FnExactBlame", spec := "fnExactBlame", inPlace := ["internal/reflectlite.ValueOf", "(internal/reflectlite.Value).Type", "(internal/reflectlite.Value).IsNil", "internal/reflectlite.TypeOf", "(internal/reflectlite.Value).Elem", "(internal/reflectlite.Value).Set"], unfollowed := true, recurses := true, named := ["loop.example/g00710/impl.fieldTable", "errors.errorType"], apart := false, laid := [("errors.errorType", laid_errors_errorType), ("loop.example/g00710/impl.fieldTable", laid_loop_example_g00710_impl_fieldTable)], narrowed := true }
def FnExactBlameUptoSaid : Prop := fnExactBlameUptoRow.holds Tryd.pinned (OpenSpec.upto fnExactBlameSpec)

/-- 'laws.FnExactDecodeGaps', WHERE WHAT IT READS IS OF BULK AT MOST 1048576: true; the input reads as it did. -/
def fnExactDecodeGapsUptoRow : OpenClaim := { program := "ytangofjpnhhfeabdoor", sum := "52fcc5287bf5517cf830e1668f3e3a7b8312715caef71292668a7659af31a2a6", func := "loop.example/g00710/laws.FnExactDecodeGaps", spec := "fnExactDecodeGaps", inPlace := ["internal/reflectlite.ValueOf", "(internal/reflectlite.Value).Type", "(internal/reflectlite.Value).IsNil", "internal/reflectlite.TypeOf", "(internal/reflectlite.Value).Elem", "(internal/reflectlite.Value).Set"], unfollowed := true, recurses := true, named := ["loop.example/g00710/impl.fieldTable", "errors.errorType"], apart := false, laid := [("errors.errorType", laid_errors_errorType), ("loop.example/g00710/impl.fieldTable", laid_loop_example_g00710_impl_fieldTable)], narrowed := true }
def FnExactDecodeGapsUptoSaid : Prop := fnExactDecodeGapsUptoRow.holds Tryd.pinned (OpenSpec.upto fnExactDecodeGapsSpec)

/-- 'laws.FnInterpolateBack', WHERE WHAT IT READS IS OF BULK AT MOST 1048576: true; the input reads as it did. -/
def fnInterpolateBackUptoRow : OpenClaim := { program := "ytangofjpnhhfeabdoor", sum := "52fcc5287bf5517cf830e1668f3e3a7b8312715caef71292668a7659af31a2a6", func := "loop.example/g00710/laws.FnInterpolateBack", spec := "fnInterpolateBack", recurses := true, named := ["loop.example/g00710/impl.fieldTable"], apart := false, laid := [("loop.example/g00710/impl.fieldTable", laid_loop_example_g00710_impl_fieldTable)], narrowed := true }
def FnInterpolateBackUptoSaid : Prop := fnInterpolateBackUptoRow.holds Tryd.pinned (OpenSpec.upto fnInterpolateBackSpec)

/-- 'laws.FnWeights', WHERE WHAT IT READS IS OF BULK AT MOST 1048576: true; the input reads as it did. -/
def fnWeightsUptoRow : OpenClaim := { program := "ytangofjpnhhfeabdoor", sum := "52fcc5287bf5517cf830e1668f3e3a7b8312715caef71292668a7659af31a2a6", func := "loop.example/g00710/laws.FnWeights", spec := "fnWeights", recurses := true, named := ["loop.example/g00710/impl.fieldTable"], apart := false, laid := [("loop.example/g00710/impl.fieldTable", laid_loop_example_g00710_impl_fieldTable)], narrowed := true }
def FnWeightsUptoSaid : Prop := fnWeightsUptoRow.holds Tryd.pinned (OpenSpec.upto fnWeightsSpec)

/-- 'laws.FnDecodeBent', WHERE WHAT IT READS IS OF BULK AT MOST 1048576: true; the input reads as it did. -/
def fnDecodeBentUptoRow : OpenClaim := { program := "ytangofjpnhhfeabdoor", sum := "52fcc5287bf5517cf830e1668f3e3a7b8312715caef71292668a7659af31a2a6", func := "loop.example/g00710/laws.FnDecodeBent", spec := "fnDecodeBent", inPlace := ["internal/reflectlite.ValueOf", "(internal/reflectlite.Value).Type", "(internal/reflectlite.Value).IsNil", "internal/reflectlite.TypeOf", "(internal/reflectlite.Value).Elem", "(internal/reflectlite.Value).Set"], unfollowed := true, recurses := true, named := ["loop.example/g00710/impl.fieldTable", "errors.errorType"], apart := false, laid := [("errors.errorType", laid_errors_errorType), ("loop.example/g00710/impl.fieldTable", laid_loop_example_g00710_impl_fieldTable)], narrowed := true }
def FnDecodeBentUptoSaid : Prop := fnDecodeBentUptoRow.holds Tryd.pinned (OpenSpec.upto fnDecodeBentSpec)

/-- 'laws.FnGaps', WHERE WHAT IT READS IS OF BULK AT MOST 1048576: true; the input reads as it did. -/
def fnGapsUptoRow : OpenClaim := { program := "ytangofjpnhhfeabdoor", sum := "52fcc5287bf5517cf830e1668f3e3a7b8312715caef71292668a7659af31a2a6", func := "loop.example/g00710/laws.FnGaps", spec := "fnGaps", inPlace := ["internal/reflectlite.ValueOf", "(internal/reflectlite.Value).Type", "(internal/reflectlite.Value).IsNil", "internal/reflectlite.TypeOf", "(internal/reflectlite.Value).Elem", "(internal/reflectlite.Value).Set"], unfollowed := true, recurses := true, named := ["loop.example/g00710/impl.fieldTable", "errors.errorType"], apart := false, laid := [("errors.errorType", laid_errors_errorType), ("loop.example/g00710/impl.fieldTable", laid_loop_example_g00710_impl_fieldTable)], narrowed := true }
def FnGapsUptoSaid : Prop := fnGapsUptoRow.holds Tryd.pinned (OpenSpec.upto fnGapsSpec)

end Rows
end Go.Proofs.YtangofjpnhhfeabDoor
