/-
  NARROWER THAN 'FOR EVERY INPUT', by the rows' own cells (each row's printed sentence says how): FnExactVectorOk: laid · FnExactForward: laid · FnExactBackward: laid · FnExactPointwise: laid · FnExactCyclic: laid · FnExactTwisted: laid · FnExactStage: laid · FnExactEnergy: laid · FnExactRotate: laid · FnExactCorrelate: laid.
  DERIVED. THE GIVEN ROWS OF THIS SEAT. 10 by the template 'for every input the law returns true; each argument reads behind the call as it read before'; 0 by the template 'total and deterministic' (their statements: YtnipffmookkkdaaDoorTotals.lean).
  GIVEN WITH THE SEED: the statements are not yours to turn. If you find one false, say at which input.
  Laid BY PROGRAM, IN A SANDBOX (cutbox-rows.mjs): the forced cells as the released guide's own fill.sh prints them over the translation c4157ed75514fe0d… (all of the seat's roots in one cut). By AI agents, Wed Nov 11 2026. No macro, syntax, notation, axiom, sorry.
-/
import Derived.Test.YtnipffmookkkdaaDoorChecked
import GoSem.Claim
import GoSem.ClaimJoined
import GoSem.ClaimMapViews
import Derived.JoinedTies
import Derived.KernelRfl
namespace Go.Proofs.YtnipffmookkkdaaDoor
/- THE CELL 'sum', in the pinned program and in every row, IS THE sha256 OF THE DUMP (.gsa) THAT YtnipffmookkkdaaDoorProg.lean LOADS. Nothing in Lean hashes anything: it is a label: what it is worth is what the hold of that sum in a sandbox is worth. -/
noncomputable def Tryd.pinned : Pinned := { name := "ytnipffmookkkdaadoor", sum := "c4157ed75514fe0d878a9cedb978b735e618b8e6a88d948dec3e63faccdbc52b", checked := Tryd.checked }
namespace Rows
def none {H : Type} : Left H := { results := [], args := [] }

/- WHAT THE LISTED PACKAGE-LEVEL VARIABLES READ AS WHEN THE CALL BEGINS. Each datum BY PROGRAM (the guide's laid-datum.mjs) off the statement by which the dump's own 'gosem.cut.vars' lays the variable. In a bare row this is a premise. The card (YtnipffmookkkdaaDoorCards.lean) ties it to the program's text. -/
def laid_loop_example_g00710_impl_fieldTable {H : Type} : DataW H := .agg [.agg [.lit (.int .i64 17), .lit (.int .i64 3), .lit (.int .i64 4)], .agg [.lit (.int .i64 97), .lit (.int .i64 5), .lit (.int .i64 5)], .agg [.lit (.int .i64 193), .lit (.int .i64 5), .lit (.int .i64 6)], .agg [.lit (.int .i64 257), .lit (.int .i64 3), .lit (.int .i64 8)], .agg [.lit (.int .i64 7681), .lit (.int .i64 17), .lit (.int .i64 9)], .agg [.lit (.int .i64 12289), .lit (.int .i64 11), .lit (.int .i64 12)], .agg [.lit (.int .i64 998244353), .lit (.int .i64 3), .lit (.int .i64 23)], .agg [.lit (.int .i64 469762049), .lit (.int .i64 3), .lit (.int .i64 26)], .agg [.lit (.int .i64 1004535809), .lit (.int .i64 3), .lit (.int .i64 21)]]

/-- 'laws.FnExactVectorOk': WHATEVER THE INPUT: true; the input reads as it did. -/
def fnExactVectorOkSpec : ChangeSpec := { name := "fnExactVectorOk", vars := ["loop.example/g00710/impl.fieldTable"], fn := fun _ => fun
  | [d1, d2, g1] => { results := [.lit (.bool true)], args := [d1, d2], vars := [g1] }
  | _ => none }
def fnExactVectorOkRow : OpenClaim := { program := "ytnipffmookkkdaadoor", sum := "c4157ed75514fe0d878a9cedb978b735e618b8e6a88d948dec3e63faccdbc52b", func := "loop.example/g00710/laws.FnExactVectorOk", spec := "fnExactVectorOk", named := ["loop.example/g00710/impl.fieldTable"], apart := false, laid := [("loop.example/g00710/impl.fieldTable", laid_loop_example_g00710_impl_fieldTable)] }
def FnExactVectorOkSaid : Prop := fnExactVectorOkRow.holds Tryd.pinned (OpenSpec.ofChange fnExactVectorOkSpec)

/-- ITS FALSE NEIGHBOUR: 'it returns false'. Refute it at one input. -/
def fnExactVectorOkWrong : ChangeSpec := { name := "fnExactVectorOk", vars := ["loop.example/g00710/impl.fieldTable"], fn := fun _ => fun
  | [d1, d2, g1] => { results := [.lit (.bool false)], args := [d1, d2], vars := [g1] }
  | _ => none }
def FnExactVectorOkWrongFalsely : Prop := fnExactVectorOkRow.holds Tryd.pinned (OpenSpec.ofChange fnExactVectorOkWrong)

/-- 'laws.FnExactForward': WHATEVER THE INPUT: true; the input reads as it did. -/
def fnExactForwardSpec : ChangeSpec := { name := "fnExactForward", vars := ["loop.example/g00710/impl.fieldTable"], fn := fun _ => fun
  | [d1, d2, g1] => { results := [.lit (.bool true)], args := [d1, d2], vars := [g1] }
  | _ => none }
def fnExactForwardRow : OpenClaim := { program := "ytnipffmookkkdaadoor", sum := "c4157ed75514fe0d878a9cedb978b735e618b8e6a88d948dec3e63faccdbc52b", func := "loop.example/g00710/laws.FnExactForward", spec := "fnExactForward", unfollowed := true, recurses := true, named := ["loop.example/g00710/impl.fieldTable"], apart := false, laid := [("loop.example/g00710/impl.fieldTable", laid_loop_example_g00710_impl_fieldTable)] }
def FnExactForwardSaid : Prop := fnExactForwardRow.holds Tryd.pinned (OpenSpec.ofChange fnExactForwardSpec)

/-- ITS FALSE NEIGHBOUR: 'it returns false'. Refute it at one input. -/
def fnExactForwardWrong : ChangeSpec := { name := "fnExactForward", vars := ["loop.example/g00710/impl.fieldTable"], fn := fun _ => fun
  | [d1, d2, g1] => { results := [.lit (.bool false)], args := [d1, d2], vars := [g1] }
  | _ => none }
def FnExactForwardWrongFalsely : Prop := fnExactForwardRow.holds Tryd.pinned (OpenSpec.ofChange fnExactForwardWrong)

/-- 'laws.FnExactBackward': WHATEVER THE INPUT: true; the input reads as it did. -/
def fnExactBackwardSpec : ChangeSpec := { name := "fnExactBackward", vars := ["loop.example/g00710/impl.fieldTable"], fn := fun _ => fun
  | [d1, d2, g1] => { results := [.lit (.bool true)], args := [d1, d2], vars := [g1] }
  | _ => none }
def fnExactBackwardRow : OpenClaim := { program := "ytnipffmookkkdaadoor", sum := "c4157ed75514fe0d878a9cedb978b735e618b8e6a88d948dec3e63faccdbc52b", func := "loop.example/g00710/laws.FnExactBackward", spec := "fnExactBackward", unfollowed := true, recurses := true, named := ["loop.example/g00710/impl.fieldTable"], apart := false, laid := [("loop.example/g00710/impl.fieldTable", laid_loop_example_g00710_impl_fieldTable)] }
def FnExactBackwardSaid : Prop := fnExactBackwardRow.holds Tryd.pinned (OpenSpec.ofChange fnExactBackwardSpec)

/-- ITS FALSE NEIGHBOUR: 'it returns false'. Refute it at one input. -/
def fnExactBackwardWrong : ChangeSpec := { name := "fnExactBackward", vars := ["loop.example/g00710/impl.fieldTable"], fn := fun _ => fun
  | [d1, d2, g1] => { results := [.lit (.bool false)], args := [d1, d2], vars := [g1] }
  | _ => none }
def FnExactBackwardWrongFalsely : Prop := fnExactBackwardRow.holds Tryd.pinned (OpenSpec.ofChange fnExactBackwardWrong)

/-- 'laws.FnExactPointwise': WHATEVER THE INPUT: true; the input reads as it did. -/
def fnExactPointwiseSpec : ChangeSpec := { name := "fnExactPointwise", vars := ["loop.example/g00710/impl.fieldTable"], fn := fun _ => fun
  | [d1, d2, d3, g1] => { results := [.lit (.bool true)], args := [d1, d2, d3], vars := [g1] }
  | _ => none }
def fnExactPointwiseRow : OpenClaim := { program := "ytnipffmookkkdaadoor", sum := "c4157ed75514fe0d878a9cedb978b735e618b8e6a88d948dec3e63faccdbc52b", func := "loop.example/g00710/laws.FnExactPointwise", spec := "fnExactPointwise", named := ["loop.example/g00710/impl.fieldTable"], apart := false, laid := [("loop.example/g00710/impl.fieldTable", laid_loop_example_g00710_impl_fieldTable)] }
def FnExactPointwiseSaid : Prop := fnExactPointwiseRow.holds Tryd.pinned (OpenSpec.ofChange fnExactPointwiseSpec)

/-- ITS FALSE NEIGHBOUR: 'it returns false'. Refute it at one input. -/
def fnExactPointwiseWrong : ChangeSpec := { name := "fnExactPointwise", vars := ["loop.example/g00710/impl.fieldTable"], fn := fun _ => fun
  | [d1, d2, d3, g1] => { results := [.lit (.bool false)], args := [d1, d2, d3], vars := [g1] }
  | _ => none }
def FnExactPointwiseWrongFalsely : Prop := fnExactPointwiseRow.holds Tryd.pinned (OpenSpec.ofChange fnExactPointwiseWrong)

/-- 'laws.FnExactCyclic': WHATEVER THE INPUT: true; the input reads as it did. -/
def fnExactCyclicSpec : ChangeSpec := { name := "fnExactCyclic", vars := ["loop.example/g00710/impl.fieldTable"], fn := fun _ => fun
  | [d1, d2, d3, g1] => { results := [.lit (.bool true)], args := [d1, d2, d3], vars := [g1] }
  | _ => none }
def fnExactCyclicRow : OpenClaim := { program := "ytnipffmookkkdaadoor", sum := "c4157ed75514fe0d878a9cedb978b735e618b8e6a88d948dec3e63faccdbc52b", func := "loop.example/g00710/laws.FnExactCyclic", spec := "fnExactCyclic", unfollowed := true, recurses := true, named := ["loop.example/g00710/impl.fieldTable"], apart := false, laid := [("loop.example/g00710/impl.fieldTable", laid_loop_example_g00710_impl_fieldTable)] }
def FnExactCyclicSaid : Prop := fnExactCyclicRow.holds Tryd.pinned (OpenSpec.ofChange fnExactCyclicSpec)

/-- ITS FALSE NEIGHBOUR: 'it returns false'. Refute it at one input. -/
def fnExactCyclicWrong : ChangeSpec := { name := "fnExactCyclic", vars := ["loop.example/g00710/impl.fieldTable"], fn := fun _ => fun
  | [d1, d2, d3, g1] => { results := [.lit (.bool false)], args := [d1, d2, d3], vars := [g1] }
  | _ => none }
def FnExactCyclicWrongFalsely : Prop := fnExactCyclicRow.holds Tryd.pinned (OpenSpec.ofChange fnExactCyclicWrong)

/-- 'laws.FnExactTwisted': WHATEVER THE INPUT: true; the input reads as it did. -/
def fnExactTwistedSpec : ChangeSpec := { name := "fnExactTwisted", vars := ["loop.example/g00710/impl.fieldTable"], fn := fun _ => fun
  | [d1, d2, d3, g1] => { results := [.lit (.bool true)], args := [d1, d2, d3], vars := [g1] }
  | _ => none }
def fnExactTwistedRow : OpenClaim := { program := "ytnipffmookkkdaadoor", sum := "c4157ed75514fe0d878a9cedb978b735e618b8e6a88d948dec3e63faccdbc52b", func := "loop.example/g00710/laws.FnExactTwisted", spec := "fnExactTwisted", named := ["loop.example/g00710/impl.fieldTable"], apart := false, laid := [("loop.example/g00710/impl.fieldTable", laid_loop_example_g00710_impl_fieldTable)] }
def FnExactTwistedSaid : Prop := fnExactTwistedRow.holds Tryd.pinned (OpenSpec.ofChange fnExactTwistedSpec)

/-- ITS FALSE NEIGHBOUR: 'it returns false'. Refute it at one input. -/
def fnExactTwistedWrong : ChangeSpec := { name := "fnExactTwisted", vars := ["loop.example/g00710/impl.fieldTable"], fn := fun _ => fun
  | [d1, d2, d3, g1] => { results := [.lit (.bool false)], args := [d1, d2, d3], vars := [g1] }
  | _ => none }
def FnExactTwistedWrongFalsely : Prop := fnExactTwistedRow.holds Tryd.pinned (OpenSpec.ofChange fnExactTwistedWrong)

/-- 'laws.FnExactStage': WHATEVER THE INPUT: true; the input reads as it did. -/
def fnExactStageSpec : ChangeSpec := { name := "fnExactStage", vars := ["loop.example/g00710/impl.fieldTable"], fn := fun _ => fun
  | [d1, d2, d3, g1] => { results := [.lit (.bool true)], args := [d1, d2, d3], vars := [g1] }
  | _ => none }
def fnExactStageRow : OpenClaim := { program := "ytnipffmookkkdaadoor", sum := "c4157ed75514fe0d878a9cedb978b735e618b8e6a88d948dec3e63faccdbc52b", func := "loop.example/g00710/laws.FnExactStage", spec := "fnExactStage", unfollowed := true, recurses := true, named := ["loop.example/g00710/impl.fieldTable"], apart := false, laid := [("loop.example/g00710/impl.fieldTable", laid_loop_example_g00710_impl_fieldTable)] }
def FnExactStageSaid : Prop := fnExactStageRow.holds Tryd.pinned (OpenSpec.ofChange fnExactStageSpec)

/-- ITS FALSE NEIGHBOUR: 'it returns false'. Refute it at one input. -/
def fnExactStageWrong : ChangeSpec := { name := "fnExactStage", vars := ["loop.example/g00710/impl.fieldTable"], fn := fun _ => fun
  | [d1, d2, d3, g1] => { results := [.lit (.bool false)], args := [d1, d2, d3], vars := [g1] }
  | _ => none }
def FnExactStageWrongFalsely : Prop := fnExactStageRow.holds Tryd.pinned (OpenSpec.ofChange fnExactStageWrong)

/-- 'laws.FnExactEnergy': WHATEVER THE INPUT: true; the input reads as it did. -/
def fnExactEnergySpec : ChangeSpec := { name := "fnExactEnergy", vars := ["loop.example/g00710/impl.fieldTable"], fn := fun _ => fun
  | [d1, d2, g1] => { results := [.lit (.bool true)], args := [d1, d2], vars := [g1] }
  | _ => none }
def fnExactEnergyRow : OpenClaim := { program := "ytnipffmookkkdaadoor", sum := "c4157ed75514fe0d878a9cedb978b735e618b8e6a88d948dec3e63faccdbc52b", func := "loop.example/g00710/laws.FnExactEnergy", spec := "fnExactEnergy", named := ["loop.example/g00710/impl.fieldTable"], apart := false, laid := [("loop.example/g00710/impl.fieldTable", laid_loop_example_g00710_impl_fieldTable)] }
def FnExactEnergySaid : Prop := fnExactEnergyRow.holds Tryd.pinned (OpenSpec.ofChange fnExactEnergySpec)

/-- ITS FALSE NEIGHBOUR: 'it returns false'. Refute it at one input. -/
def fnExactEnergyWrong : ChangeSpec := { name := "fnExactEnergy", vars := ["loop.example/g00710/impl.fieldTable"], fn := fun _ => fun
  | [d1, d2, g1] => { results := [.lit (.bool false)], args := [d1, d2], vars := [g1] }
  | _ => none }
def FnExactEnergyWrongFalsely : Prop := fnExactEnergyRow.holds Tryd.pinned (OpenSpec.ofChange fnExactEnergyWrong)

/-- 'laws.FnExactRotate': WHATEVER THE INPUT: true; the input reads as it did. -/
def fnExactRotateSpec : ChangeSpec := { name := "fnExactRotate", vars := ["loop.example/g00710/impl.fieldTable"], fn := fun _ => fun
  | [d1, d2, d3, g1] => { results := [.lit (.bool true)], args := [d1, d2, d3], vars := [g1] }
  | _ => none }
def fnExactRotateRow : OpenClaim := { program := "ytnipffmookkkdaadoor", sum := "c4157ed75514fe0d878a9cedb978b735e618b8e6a88d948dec3e63faccdbc52b", func := "loop.example/g00710/laws.FnExactRotate", spec := "fnExactRotate", named := ["loop.example/g00710/impl.fieldTable"], apart := false, laid := [("loop.example/g00710/impl.fieldTable", laid_loop_example_g00710_impl_fieldTable)] }
def FnExactRotateSaid : Prop := fnExactRotateRow.holds Tryd.pinned (OpenSpec.ofChange fnExactRotateSpec)

/-- ITS FALSE NEIGHBOUR: 'it returns false'. Refute it at one input. -/
def fnExactRotateWrong : ChangeSpec := { name := "fnExactRotate", vars := ["loop.example/g00710/impl.fieldTable"], fn := fun _ => fun
  | [d1, d2, d3, g1] => { results := [.lit (.bool false)], args := [d1, d2, d3], vars := [g1] }
  | _ => none }
def FnExactRotateWrongFalsely : Prop := fnExactRotateRow.holds Tryd.pinned (OpenSpec.ofChange fnExactRotateWrong)

/-- 'laws.FnExactCorrelate': WHATEVER THE INPUT: true; the input reads as it did. -/
def fnExactCorrelateSpec : ChangeSpec := { name := "fnExactCorrelate", vars := ["loop.example/g00710/impl.fieldTable"], fn := fun _ => fun
  | [d1, d2, d3, g1] => { results := [.lit (.bool true)], args := [d1, d2, d3], vars := [g1] }
  | _ => none }
def fnExactCorrelateRow : OpenClaim := { program := "ytnipffmookkkdaadoor", sum := "c4157ed75514fe0d878a9cedb978b735e618b8e6a88d948dec3e63faccdbc52b", func := "loop.example/g00710/laws.FnExactCorrelate", spec := "fnExactCorrelate", unfollowed := true, recurses := true, named := ["loop.example/g00710/impl.fieldTable"], apart := false, laid := [("loop.example/g00710/impl.fieldTable", laid_loop_example_g00710_impl_fieldTable)] }
def FnExactCorrelateSaid : Prop := fnExactCorrelateRow.holds Tryd.pinned (OpenSpec.ofChange fnExactCorrelateSpec)

/-- ITS FALSE NEIGHBOUR: 'it returns false'. Refute it at one input. -/
def fnExactCorrelateWrong : ChangeSpec := { name := "fnExactCorrelate", vars := ["loop.example/g00710/impl.fieldTable"], fn := fun _ => fun
  | [d1, d2, d3, g1] => { results := [.lit (.bool false)], args := [d1, d2, d3], vars := [g1] }
  | _ => none }
def FnExactCorrelateWrongFalsely : Prop := fnExactCorrelateRow.holds Tryd.pinned (OpenSpec.ofChange fnExactCorrelateWrong)

/- THE SECOND FORM. 'bulk': how many values and letters a reading holds, each counted each time it is reached (what is shared counts as often as it is met; a slice's spare places count too). A statement '..UptoSaid' is the law's where the arguments, and the package variables that the reading takes, are together of bulk at most 1048576: NARROWER than '..Said'. Prove '..Said' where nothing that the law and all that it calls make is longer than what came in: it says more and counts as full. Else prove '..UptoSaid'. A law counts once. -/
mutual
def uptoBulk {H : Type} : DataW H → Nat
  | .lit (.string bytes) => bytes.length + 1
  | .lit _ => 1
  | .nil => 1
  | .ptr d => uptoBulk d + 1
  | .slice elems spare => uptoBulkAll elems + uptoBulkAll spare + 1
  | .agg parts => uptoBulkAll parts + 1
  | .iface _ d => uptoBulk d + 1
  | .map entries => uptoBulkEntries entries + 1
  | .held _ => 1
def uptoBulkAll {H : Type} : List (DataW H) → Nat
  | [] => 0
  | d :: r => uptoBulk d + uptoBulkAll r
def uptoBulkEntries {H : Type} : List (Lit × DataW H) → Nat
  | [] => 0
  | x :: r => uptoBulkEntry x + uptoBulkEntries r
def uptoBulkEntry {H : Type} : Lit × DataW H → Nat
  | (.string bytes, d) => bytes.length + uptoBulk d + 1
  | (_, d) => uptoBulk d + 1
 end
def uptoSmall : (H : Type) → List (DataW H) → Bool := fun _ ds => decide (uptoBulkAll ds ≤ 1048576)
def OpenSpec.upto (s : _root_.Go.ChangeSpec) : _root_.Go.OpenSpec := { _root_.Go.OpenSpec.ofChange s with cond := some uptoSmall }

/-- 'laws.FnExactVectorOk', WHERE WHAT IT READS IS OF BULK AT MOST 1048576: true; the input reads as it did. -/
def fnExactVectorOkUptoRow : OpenClaim := { program := "ytnipffmookkkdaadoor", sum := "c4157ed75514fe0d878a9cedb978b735e618b8e6a88d948dec3e63faccdbc52b", func := "loop.example/g00710/laws.FnExactVectorOk", spec := "fnExactVectorOk", named := ["loop.example/g00710/impl.fieldTable"], apart := false, laid := [("loop.example/g00710/impl.fieldTable", laid_loop_example_g00710_impl_fieldTable)], narrowed := true }
def FnExactVectorOkUptoSaid : Prop := fnExactVectorOkUptoRow.holds Tryd.pinned (OpenSpec.upto fnExactVectorOkSpec)

/-- 'laws.FnExactForward', WHERE WHAT IT READS IS OF BULK AT MOST 1048576: true; the input reads as it did. -/
def fnExactForwardUptoRow : OpenClaim := { program := "ytnipffmookkkdaadoor", sum := "c4157ed75514fe0d878a9cedb978b735e618b8e6a88d948dec3e63faccdbc52b", func := "loop.example/g00710/laws.FnExactForward", spec := "fnExactForward", unfollowed := true, recurses := true, named := ["loop.example/g00710/impl.fieldTable"], apart := false, laid := [("loop.example/g00710/impl.fieldTable", laid_loop_example_g00710_impl_fieldTable)], narrowed := true }
def FnExactForwardUptoSaid : Prop := fnExactForwardUptoRow.holds Tryd.pinned (OpenSpec.upto fnExactForwardSpec)

/-- 'laws.FnExactBackward', WHERE WHAT IT READS IS OF BULK AT MOST 1048576: true; the input reads as it did. -/
def fnExactBackwardUptoRow : OpenClaim := { program := "ytnipffmookkkdaadoor", sum := "c4157ed75514fe0d878a9cedb978b735e618b8e6a88d948dec3e63faccdbc52b", func := "loop.example/g00710/laws.FnExactBackward", spec := "fnExactBackward", unfollowed := true, recurses := true, named := ["loop.example/g00710/impl.fieldTable"], apart := false, laid := [("loop.example/g00710/impl.fieldTable", laid_loop_example_g00710_impl_fieldTable)], narrowed := true }
def FnExactBackwardUptoSaid : Prop := fnExactBackwardUptoRow.holds Tryd.pinned (OpenSpec.upto fnExactBackwardSpec)

/-- 'laws.FnExactPointwise', WHERE WHAT IT READS IS OF BULK AT MOST 1048576: true; the input reads as it did. -/
def fnExactPointwiseUptoRow : OpenClaim := { program := "ytnipffmookkkdaadoor", sum := "c4157ed75514fe0d878a9cedb978b735e618b8e6a88d948dec3e63faccdbc52b", func := "loop.example/g00710/laws.FnExactPointwise", spec := "fnExactPointwise", named := ["loop.example/g00710/impl.fieldTable"], apart := false, laid := [("loop.example/g00710/impl.fieldTable", laid_loop_example_g00710_impl_fieldTable)], narrowed := true }
def FnExactPointwiseUptoSaid : Prop := fnExactPointwiseUptoRow.holds Tryd.pinned (OpenSpec.upto fnExactPointwiseSpec)

/-- 'laws.FnExactCyclic', WHERE WHAT IT READS IS OF BULK AT MOST 1048576: true; the input reads as it did. -/
def fnExactCyclicUptoRow : OpenClaim := { program := "ytnipffmookkkdaadoor", sum := "c4157ed75514fe0d878a9cedb978b735e618b8e6a88d948dec3e63faccdbc52b", func := "loop.example/g00710/laws.FnExactCyclic", spec := "fnExactCyclic", unfollowed := true, recurses := true, named := ["loop.example/g00710/impl.fieldTable"], apart := false, laid := [("loop.example/g00710/impl.fieldTable", laid_loop_example_g00710_impl_fieldTable)], narrowed := true }
def FnExactCyclicUptoSaid : Prop := fnExactCyclicUptoRow.holds Tryd.pinned (OpenSpec.upto fnExactCyclicSpec)

/-- 'laws.FnExactTwisted', WHERE WHAT IT READS IS OF BULK AT MOST 1048576: true; the input reads as it did. -/
def fnExactTwistedUptoRow : OpenClaim := { program := "ytnipffmookkkdaadoor", sum := "c4157ed75514fe0d878a9cedb978b735e618b8e6a88d948dec3e63faccdbc52b", func := "loop.example/g00710/laws.FnExactTwisted", spec := "fnExactTwisted", named := ["loop.example/g00710/impl.fieldTable"], apart := false, laid := [("loop.example/g00710/impl.fieldTable", laid_loop_example_g00710_impl_fieldTable)], narrowed := true }
def FnExactTwistedUptoSaid : Prop := fnExactTwistedUptoRow.holds Tryd.pinned (OpenSpec.upto fnExactTwistedSpec)

/-- 'laws.FnExactStage', WHERE WHAT IT READS IS OF BULK AT MOST 1048576: true; the input reads as it did. -/
def fnExactStageUptoRow : OpenClaim := { program := "ytnipffmookkkdaadoor", sum := "c4157ed75514fe0d878a9cedb978b735e618b8e6a88d948dec3e63faccdbc52b", func := "loop.example/g00710/laws.FnExactStage", spec := "fnExactStage", unfollowed := true, recurses := true, named := ["loop.example/g00710/impl.fieldTable"], apart := false, laid := [("loop.example/g00710/impl.fieldTable", laid_loop_example_g00710_impl_fieldTable)], narrowed := true }
def FnExactStageUptoSaid : Prop := fnExactStageUptoRow.holds Tryd.pinned (OpenSpec.upto fnExactStageSpec)

/-- 'laws.FnExactEnergy', WHERE WHAT IT READS IS OF BULK AT MOST 1048576: true; the input reads as it did. -/
def fnExactEnergyUptoRow : OpenClaim := { program := "ytnipffmookkkdaadoor", sum := "c4157ed75514fe0d878a9cedb978b735e618b8e6a88d948dec3e63faccdbc52b", func := "loop.example/g00710/laws.FnExactEnergy", spec := "fnExactEnergy", named := ["loop.example/g00710/impl.fieldTable"], apart := false, laid := [("loop.example/g00710/impl.fieldTable", laid_loop_example_g00710_impl_fieldTable)], narrowed := true }
def FnExactEnergyUptoSaid : Prop := fnExactEnergyUptoRow.holds Tryd.pinned (OpenSpec.upto fnExactEnergySpec)

/-- 'laws.FnExactRotate', WHERE WHAT IT READS IS OF BULK AT MOST 1048576: true; the input reads as it did. -/
def fnExactRotateUptoRow : OpenClaim := { program := "ytnipffmookkkdaadoor", sum := "c4157ed75514fe0d878a9cedb978b735e618b8e6a88d948dec3e63faccdbc52b", func := "loop.example/g00710/laws.FnExactRotate", spec := "fnExactRotate", named := ["loop.example/g00710/impl.fieldTable"], apart := false, laid := [("loop.example/g00710/impl.fieldTable", laid_loop_example_g00710_impl_fieldTable)], narrowed := true }
def FnExactRotateUptoSaid : Prop := fnExactRotateUptoRow.holds Tryd.pinned (OpenSpec.upto fnExactRotateSpec)

/-- 'laws.FnExactCorrelate', WHERE WHAT IT READS IS OF BULK AT MOST 1048576: true; the input reads as it did. -/
def fnExactCorrelateUptoRow : OpenClaim := { program := "ytnipffmookkkdaadoor", sum := "c4157ed75514fe0d878a9cedb978b735e618b8e6a88d948dec3e63faccdbc52b", func := "loop.example/g00710/laws.FnExactCorrelate", spec := "fnExactCorrelate", unfollowed := true, recurses := true, named := ["loop.example/g00710/impl.fieldTable"], apart := false, laid := [("loop.example/g00710/impl.fieldTable", laid_loop_example_g00710_impl_fieldTable)], narrowed := true }
def FnExactCorrelateUptoSaid : Prop := fnExactCorrelateUptoRow.holds Tryd.pinned (OpenSpec.upto fnExactCorrelateSpec)

end Rows
end Go.Proofs.YtnipffmookkkdaaDoor
