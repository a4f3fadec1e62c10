/-
  NARROWER THAN 'FOR EVERY INPUT', by the rows' own cells (each row's printed sentence says how): FnFieldRing: laid · FnInverseBack: laid · FnOrderLeast: laid · FnSquares: laid · FnBatch: laid · FnExactModulus: laid · FnExactGenerator: laid · FnExactTwoPower: laid · FnExactReduce: laid · FnExactAdd: laid · FnExactSub: laid · FnExactMul: laid · FnExactInverse: laid · FnExactPower: laid · FnExactOrder: laid · FnExactSquareRoot: laid · FnExactBatchInverse: laid · FnExactDot: laid.
  DERIVED. THE GIVEN ROWS OF THIS SEAT. 18 by the template 'for every input the law returns true; each argument reads behind the call as it read before'; 0 by the template 'total and deterministic' (their statements: YtpbncphbcnjlgaaDoorTotals.lean).
  GIVEN WITH THE SEED: the statements are not yours to turn. If you find one false, say at which input.
  Laid BY PROGRAM, IN A SANDBOX (cutbox-rows.mjs): the forced cells as the released guide's own fill.sh prints them over the translation 525edf98860038b9… (all of the seat's roots in one cut). By AI agents, Wed Nov 11 2026. No macro, syntax, notation, axiom, sorry.
-/
import Derived.Test.YtpbncphbcnjlgaaDoorChecked
import GoSem.Claim
import GoSem.ClaimJoined
import GoSem.ClaimMapViews
import Derived.JoinedTies
import Derived.KernelRfl
namespace Go.Proofs.YtpbncphbcnjlgaaDoor
/- THE CELL 'sum', in the pinned program and in every row, IS THE sha256 OF THE DUMP (.gsa) THAT YtpbncphbcnjlgaaDoorProg.lean LOADS. Nothing in Lean hashes anything: it is a label: what it is worth is what the hold of that sum in a sandbox is worth. -/
noncomputable def Tryd.pinned : Pinned := { name := "ytpbncphbcnjlgaadoor", sum := "525edf98860038b90c4ef6e1ad50a3d42628083ee5bbc8f63e228d997821be2d", checked := Tryd.checked }
namespace Rows
def none {H : Type} : Left H := { results := [], args := [] }

/- WHAT THE LISTED PACKAGE-LEVEL VARIABLES READ AS WHEN THE CALL BEGINS. Each datum BY PROGRAM (the guide's laid-datum.mjs) off the statement by which the dump's own 'gosem.cut.vars' lays the variable. In a bare row this is a premise. The card (YtpbncphbcnjlgaaDoorCards.lean) ties it to the program's text. -/
def laid_loop_example_g00710_impl_fieldTable {H : Type} : DataW H := .agg [.agg [.lit (.int .i64 17), .lit (.int .i64 3), .lit (.int .i64 4)], .agg [.lit (.int .i64 97), .lit (.int .i64 5), .lit (.int .i64 5)], .agg [.lit (.int .i64 193), .lit (.int .i64 5), .lit (.int .i64 6)], .agg [.lit (.int .i64 257), .lit (.int .i64 3), .lit (.int .i64 8)], .agg [.lit (.int .i64 7681), .lit (.int .i64 17), .lit (.int .i64 9)], .agg [.lit (.int .i64 12289), .lit (.int .i64 11), .lit (.int .i64 12)], .agg [.lit (.int .i64 998244353), .lit (.int .i64 3), .lit (.int .i64 23)], .agg [.lit (.int .i64 469762049), .lit (.int .i64 3), .lit (.int .i64 26)], .agg [.lit (.int .i64 1004535809), .lit (.int .i64 3), .lit (.int .i64 21)]]

/-- 'laws.FnFieldRing': WHATEVER THE INPUT: true; the input reads as it did. -/
def fnFieldRingSpec : ChangeSpec := { name := "fnFieldRing", vars := ["loop.example/g00710/impl.fieldTable"], fn := fun _ => fun
  | [d, g1] => { results := [.lit (.bool true)], args := [d], vars := [g1] }
  | _ => none }
def fnFieldRingRow : OpenClaim := { program := "ytpbncphbcnjlgaadoor", sum := "525edf98860038b90c4ef6e1ad50a3d42628083ee5bbc8f63e228d997821be2d", func := "loop.example/g00710/laws.FnFieldRing", spec := "fnFieldRing", named := ["loop.example/g00710/impl.fieldTable"], apart := false, laid := [("loop.example/g00710/impl.fieldTable", laid_loop_example_g00710_impl_fieldTable)] }
def FnFieldRingSaid : Prop := fnFieldRingRow.holds Tryd.pinned (OpenSpec.ofChange fnFieldRingSpec)

/-- ITS FALSE NEIGHBOUR: 'it returns false'. Refute it at one input. -/
def fnFieldRingWrong : ChangeSpec := { name := "fnFieldRing", vars := ["loop.example/g00710/impl.fieldTable"], fn := fun _ => fun
  | [d, g1] => { results := [.lit (.bool false)], args := [d], vars := [g1] }
  | _ => none }
def FnFieldRingWrongFalsely : Prop := fnFieldRingRow.holds Tryd.pinned (OpenSpec.ofChange fnFieldRingWrong)

/-- 'laws.FnInverseBack': WHATEVER THE INPUT: true; the input reads as it did. -/
def fnInverseBackSpec : ChangeSpec := { name := "fnInverseBack", vars := ["loop.example/g00710/impl.fieldTable"], fn := fun _ => fun
  | [d, g1] => { results := [.lit (.bool true)], args := [d], vars := [g1] }
  | _ => none }
def fnInverseBackRow : OpenClaim := { program := "ytpbncphbcnjlgaadoor", sum := "525edf98860038b90c4ef6e1ad50a3d42628083ee5bbc8f63e228d997821be2d", func := "loop.example/g00710/laws.FnInverseBack", spec := "fnInverseBack", named := ["loop.example/g00710/impl.fieldTable"], apart := false, laid := [("loop.example/g00710/impl.fieldTable", laid_loop_example_g00710_impl_fieldTable)] }
def FnInverseBackSaid : Prop := fnInverseBackRow.holds Tryd.pinned (OpenSpec.ofChange fnInverseBackSpec)

/-- ITS FALSE NEIGHBOUR: 'it returns false'. Refute it at one input. -/
def fnInverseBackWrong : ChangeSpec := { name := "fnInverseBack", vars := ["loop.example/g00710/impl.fieldTable"], fn := fun _ => fun
  | [d, g1] => { results := [.lit (.bool false)], args := [d], vars := [g1] }
  | _ => none }
def FnInverseBackWrongFalsely : Prop := fnInverseBackRow.holds Tryd.pinned (OpenSpec.ofChange fnInverseBackWrong)

/-- 'laws.FnOrderLeast': WHATEVER THE INPUT: true; the input reads as it did. -/
def fnOrderLeastSpec : ChangeSpec := { name := "fnOrderLeast", vars := ["loop.example/g00710/impl.fieldTable"], fn := fun _ => fun
  | [d, g1] => { results := [.lit (.bool true)], args := [d], vars := [g1] }
  | _ => none }
def fnOrderLeastRow : OpenClaim := { program := "ytpbncphbcnjlgaadoor", sum := "525edf98860038b90c4ef6e1ad50a3d42628083ee5bbc8f63e228d997821be2d", func := "loop.example/g00710/laws.FnOrderLeast", spec := "fnOrderLeast", named := ["loop.example/g00710/impl.fieldTable"], apart := false, laid := [("loop.example/g00710/impl.fieldTable", laid_loop_example_g00710_impl_fieldTable)] }
def FnOrderLeastSaid : Prop := fnOrderLeastRow.holds Tryd.pinned (OpenSpec.ofChange fnOrderLeastSpec)

/-- ITS FALSE NEIGHBOUR: 'it returns false'. Refute it at one input. -/
def fnOrderLeastWrong : ChangeSpec := { name := "fnOrderLeast", vars := ["loop.example/g00710/impl.fieldTable"], fn := fun _ => fun
  | [d, g1] => { results := [.lit (.bool false)], args := [d], vars := [g1] }
  | _ => none }
def FnOrderLeastWrongFalsely : Prop := fnOrderLeastRow.holds Tryd.pinned (OpenSpec.ofChange fnOrderLeastWrong)

/-- 'laws.FnSquares': WHATEVER THE INPUT: true; the input reads as it did. -/
def fnSquaresSpec : ChangeSpec := { name := "fnSquares", vars := ["loop.example/g00710/impl.fieldTable"], fn := fun _ => fun
  | [d, g1] => { results := [.lit (.bool true)], args := [d], vars := [g1] }
  | _ => none }
def fnSquaresRow : OpenClaim := { program := "ytpbncphbcnjlgaadoor", sum := "525edf98860038b90c4ef6e1ad50a3d42628083ee5bbc8f63e228d997821be2d", func := "loop.example/g00710/laws.FnSquares", spec := "fnSquares", named := ["loop.example/g00710/impl.fieldTable"], apart := false, laid := [("loop.example/g00710/impl.fieldTable", laid_loop_example_g00710_impl_fieldTable)] }
def FnSquaresSaid : Prop := fnSquaresRow.holds Tryd.pinned (OpenSpec.ofChange fnSquaresSpec)

/-- ITS FALSE NEIGHBOUR: 'it returns false'. Refute it at one input. -/
def fnSquaresWrong : ChangeSpec := { name := "fnSquares", vars := ["loop.example/g00710/impl.fieldTable"], fn := fun _ => fun
  | [d, g1] => { results := [.lit (.bool false)], args := [d], vars := [g1] }
  | _ => none }
def FnSquaresWrongFalsely : Prop := fnSquaresRow.holds Tryd.pinned (OpenSpec.ofChange fnSquaresWrong)

/-- 'laws.FnBatch': WHATEVER THE INPUT: true; the input reads as it did. -/
def fnBatchSpec : ChangeSpec := { name := "fnBatch", vars := ["loop.example/g00710/impl.fieldTable"], fn := fun _ => fun
  | [d, g1] => { results := [.lit (.bool true)], args := [d], vars := [g1] }
  | _ => none }
def fnBatchRow : OpenClaim := { program := "ytpbncphbcnjlgaadoor", sum := "525edf98860038b90c4ef6e1ad50a3d42628083ee5bbc8f63e228d997821be2d", func := "loop.example/g00710/laws.FnBatch", spec := "fnBatch", named := ["loop.example/g00710/impl.fieldTable"], apart := false, laid := [("loop.example/g00710/impl.fieldTable", laid_loop_example_g00710_impl_fieldTable)] }
def FnBatchSaid : Prop := fnBatchRow.holds Tryd.pinned (OpenSpec.ofChange fnBatchSpec)

/-- ITS FALSE NEIGHBOUR: 'it returns false'. Refute it at one input. -/
def fnBatchWrong : ChangeSpec := { name := "fnBatch", vars := ["loop.example/g00710/impl.fieldTable"], fn := fun _ => fun
  | [d, g1] => { results := [.lit (.bool false)], args := [d], vars := [g1] }
  | _ => none }
def FnBatchWrongFalsely : Prop := fnBatchRow.holds Tryd.pinned (OpenSpec.ofChange fnBatchWrong)

/-- 'laws.FnExactModulus': WHATEVER THE INPUT: true; the input reads as it did. -/
def fnExactModulusSpec : ChangeSpec := { name := "fnExactModulus", vars := ["loop.example/g00710/impl.fieldTable"], fn := fun _ => fun
  | [d, g1] => { results := [.lit (.bool true)], args := [d], vars := [g1] }
  | _ => none }
def fnExactModulusRow : OpenClaim := { program := "ytpbncphbcnjlgaadoor", sum := "525edf98860038b90c4ef6e1ad50a3d42628083ee5bbc8f63e228d997821be2d", func := "loop.example/g00710/laws.FnExactModulus", spec := "fnExactModulus", named := ["loop.example/g00710/impl.fieldTable"], apart := false, laid := [("loop.example/g00710/impl.fieldTable", laid_loop_example_g00710_impl_fieldTable)] }
def FnExactModulusSaid : Prop := fnExactModulusRow.holds Tryd.pinned (OpenSpec.ofChange fnExactModulusSpec)

/-- ITS FALSE NEIGHBOUR: 'it returns false'. Refute it at one input. -/
def fnExactModulusWrong : ChangeSpec := { name := "fnExactModulus", vars := ["loop.example/g00710/impl.fieldTable"], fn := fun _ => fun
  | [d, g1] => { results := [.lit (.bool false)], args := [d], vars := [g1] }
  | _ => none }
def FnExactModulusWrongFalsely : Prop := fnExactModulusRow.holds Tryd.pinned (OpenSpec.ofChange fnExactModulusWrong)

/-- 'laws.FnExactGenerator': WHATEVER THE INPUT: true; the input reads as it did. -/
def fnExactGeneratorSpec : ChangeSpec := { name := "fnExactGenerator", vars := ["loop.example/g00710/impl.fieldTable"], fn := fun _ => fun
  | [d, g1] => { results := [.lit (.bool true)], args := [d], vars := [g1] }
  | _ => none }
def fnExactGeneratorRow : OpenClaim := { program := "ytpbncphbcnjlgaadoor", sum := "525edf98860038b90c4ef6e1ad50a3d42628083ee5bbc8f63e228d997821be2d", func := "loop.example/g00710/laws.FnExactGenerator", spec := "fnExactGenerator", named := ["loop.example/g00710/impl.fieldTable"], apart := false, laid := [("loop.example/g00710/impl.fieldTable", laid_loop_example_g00710_impl_fieldTable)] }
def FnExactGeneratorSaid : Prop := fnExactGeneratorRow.holds Tryd.pinned (OpenSpec.ofChange fnExactGeneratorSpec)

/-- ITS FALSE NEIGHBOUR: 'it returns false'. Refute it at one input. -/
def fnExactGeneratorWrong : ChangeSpec := { name := "fnExactGenerator", vars := ["loop.example/g00710/impl.fieldTable"], fn := fun _ => fun
  | [d, g1] => { results := [.lit (.bool false)], args := [d], vars := [g1] }
  | _ => none }
def FnExactGeneratorWrongFalsely : Prop := fnExactGeneratorRow.holds Tryd.pinned (OpenSpec.ofChange fnExactGeneratorWrong)

/-- 'laws.FnExactTwoPower': WHATEVER THE INPUT: true; the input reads as it did. -/
def fnExactTwoPowerSpec : ChangeSpec := { name := "fnExactTwoPower", vars := ["loop.example/g00710/impl.fieldTable"], fn := fun _ => fun
  | [d, g1] => { results := [.lit (.bool true)], args := [d], vars := [g1] }
  | _ => none }
def fnExactTwoPowerRow : OpenClaim := { program := "ytpbncphbcnjlgaadoor", sum := "525edf98860038b90c4ef6e1ad50a3d42628083ee5bbc8f63e228d997821be2d", func := "loop.example/g00710/laws.FnExactTwoPower", spec := "fnExactTwoPower", named := ["loop.example/g00710/impl.fieldTable"], apart := false, laid := [("loop.example/g00710/impl.fieldTable", laid_loop_example_g00710_impl_fieldTable)] }
def FnExactTwoPowerSaid : Prop := fnExactTwoPowerRow.holds Tryd.pinned (OpenSpec.ofChange fnExactTwoPowerSpec)

/-- ITS FALSE NEIGHBOUR: 'it returns false'. Refute it at one input. -/
def fnExactTwoPowerWrong : ChangeSpec := { name := "fnExactTwoPower", vars := ["loop.example/g00710/impl.fieldTable"], fn := fun _ => fun
  | [d, g1] => { results := [.lit (.bool false)], args := [d], vars := [g1] }
  | _ => none }
def FnExactTwoPowerWrongFalsely : Prop := fnExactTwoPowerRow.holds Tryd.pinned (OpenSpec.ofChange fnExactTwoPowerWrong)

/-- 'laws.FnExactReduce': WHATEVER THE INPUT: true; the input reads as it did. -/
def fnExactReduceSpec : ChangeSpec := { name := "fnExactReduce", vars := ["loop.example/g00710/impl.fieldTable"], fn := fun _ => fun
  | [d1, d2, g1] => { results := [.lit (.bool true)], args := [d1, d2], vars := [g1] }
  | _ => none }
def fnExactReduceRow : OpenClaim := { program := "ytpbncphbcnjlgaadoor", sum := "525edf98860038b90c4ef6e1ad50a3d42628083ee5bbc8f63e228d997821be2d", func := "loop.example/g00710/laws.FnExactReduce", spec := "fnExactReduce", named := ["loop.example/g00710/impl.fieldTable"], apart := false, laid := [("loop.example/g00710/impl.fieldTable", laid_loop_example_g00710_impl_fieldTable)] }
def FnExactReduceSaid : Prop := fnExactReduceRow.holds Tryd.pinned (OpenSpec.ofChange fnExactReduceSpec)

/-- ITS FALSE NEIGHBOUR: 'it returns false'. Refute it at one input. -/
def fnExactReduceWrong : ChangeSpec := { name := "fnExactReduce", vars := ["loop.example/g00710/impl.fieldTable"], fn := fun _ => fun
  | [d1, d2, g1] => { results := [.lit (.bool false)], args := [d1, d2], vars := [g1] }
  | _ => none }
def FnExactReduceWrongFalsely : Prop := fnExactReduceRow.holds Tryd.pinned (OpenSpec.ofChange fnExactReduceWrong)

/-- 'laws.FnExactAdd': WHATEVER THE INPUT: true; the input reads as it did. -/
def fnExactAddSpec : ChangeSpec := { name := "fnExactAdd", vars := ["loop.example/g00710/impl.fieldTable"], fn := fun _ => fun
  | [d1, d2, d3, g1] => { results := [.lit (.bool true)], args := [d1, d2, d3], vars := [g1] }
  | _ => none }
def fnExactAddRow : OpenClaim := { program := "ytpbncphbcnjlgaadoor", sum := "525edf98860038b90c4ef6e1ad50a3d42628083ee5bbc8f63e228d997821be2d", func := "loop.example/g00710/laws.FnExactAdd", spec := "fnExactAdd", named := ["loop.example/g00710/impl.fieldTable"], apart := false, laid := [("loop.example/g00710/impl.fieldTable", laid_loop_example_g00710_impl_fieldTable)] }
def FnExactAddSaid : Prop := fnExactAddRow.holds Tryd.pinned (OpenSpec.ofChange fnExactAddSpec)

/-- ITS FALSE NEIGHBOUR: 'it returns false'. Refute it at one input. -/
def fnExactAddWrong : ChangeSpec := { name := "fnExactAdd", vars := ["loop.example/g00710/impl.fieldTable"], fn := fun _ => fun
  | [d1, d2, d3, g1] => { results := [.lit (.bool false)], args := [d1, d2, d3], vars := [g1] }
  | _ => none }
def FnExactAddWrongFalsely : Prop := fnExactAddRow.holds Tryd.pinned (OpenSpec.ofChange fnExactAddWrong)

/-- 'laws.FnExactSub': WHATEVER THE INPUT: true; the input reads as it did. -/
def fnExactSubSpec : ChangeSpec := { name := "fnExactSub", vars := ["loop.example/g00710/impl.fieldTable"], fn := fun _ => fun
  | [d1, d2, d3, g1] => { results := [.lit (.bool true)], args := [d1, d2, d3], vars := [g1] }
  | _ => none }
def fnExactSubRow : OpenClaim := { program := "ytpbncphbcnjlgaadoor", sum := "525edf98860038b90c4ef6e1ad50a3d42628083ee5bbc8f63e228d997821be2d", func := "loop.example/g00710/laws.FnExactSub", spec := "fnExactSub", named := ["loop.example/g00710/impl.fieldTable"], apart := false, laid := [("loop.example/g00710/impl.fieldTable", laid_loop_example_g00710_impl_fieldTable)] }
def FnExactSubSaid : Prop := fnExactSubRow.holds Tryd.pinned (OpenSpec.ofChange fnExactSubSpec)

/-- ITS FALSE NEIGHBOUR: 'it returns false'. Refute it at one input. -/
def fnExactSubWrong : ChangeSpec := { name := "fnExactSub", vars := ["loop.example/g00710/impl.fieldTable"], fn := fun _ => fun
  | [d1, d2, d3, g1] => { results := [.lit (.bool false)], args := [d1, d2, d3], vars := [g1] }
  | _ => none }
def FnExactSubWrongFalsely : Prop := fnExactSubRow.holds Tryd.pinned (OpenSpec.ofChange fnExactSubWrong)

/-- 'laws.FnExactMul': WHATEVER THE INPUT: true; the input reads as it did. -/
def fnExactMulSpec : ChangeSpec := { name := "fnExactMul", vars := ["loop.example/g00710/impl.fieldTable"], fn := fun _ => fun
  | [d1, d2, d3, g1] => { results := [.lit (.bool true)], args := [d1, d2, d3], vars := [g1] }
  | _ => none }
def fnExactMulRow : OpenClaim := { program := "ytpbncphbcnjlgaadoor", sum := "525edf98860038b90c4ef6e1ad50a3d42628083ee5bbc8f63e228d997821be2d", func := "loop.example/g00710/laws.FnExactMul", spec := "fnExactMul", named := ["loop.example/g00710/impl.fieldTable"], apart := false, laid := [("loop.example/g00710/impl.fieldTable", laid_loop_example_g00710_impl_fieldTable)] }
def FnExactMulSaid : Prop := fnExactMulRow.holds Tryd.pinned (OpenSpec.ofChange fnExactMulSpec)

/-- ITS FALSE NEIGHBOUR: 'it returns false'. Refute it at one input. -/
def fnExactMulWrong : ChangeSpec := { name := "fnExactMul", vars := ["loop.example/g00710/impl.fieldTable"], fn := fun _ => fun
  | [d1, d2, d3, g1] => { results := [.lit (.bool false)], args := [d1, d2, d3], vars := [g1] }
  | _ => none }
def FnExactMulWrongFalsely : Prop := fnExactMulRow.holds Tryd.pinned (OpenSpec.ofChange fnExactMulWrong)

/-- 'laws.FnExactInverse': WHATEVER THE INPUT: true; the input reads as it did. -/
def fnExactInverseSpec : ChangeSpec := { name := "fnExactInverse", vars := ["loop.example/g00710/impl.fieldTable"], fn := fun _ => fun
  | [d1, d2, g1] => { results := [.lit (.bool true)], args := [d1, d2], vars := [g1] }
  | _ => none }
def fnExactInverseRow : OpenClaim := { program := "ytpbncphbcnjlgaadoor", sum := "525edf98860038b90c4ef6e1ad50a3d42628083ee5bbc8f63e228d997821be2d", func := "loop.example/g00710/laws.FnExactInverse", spec := "fnExactInverse", named := ["loop.example/g00710/impl.fieldTable"], apart := false, laid := [("loop.example/g00710/impl.fieldTable", laid_loop_example_g00710_impl_fieldTable)] }
def FnExactInverseSaid : Prop := fnExactInverseRow.holds Tryd.pinned (OpenSpec.ofChange fnExactInverseSpec)

/-- ITS FALSE NEIGHBOUR: 'it returns false'. Refute it at one input. -/
def fnExactInverseWrong : ChangeSpec := { name := "fnExactInverse", vars := ["loop.example/g00710/impl.fieldTable"], fn := fun _ => fun
  | [d1, d2, g1] => { results := [.lit (.bool false)], args := [d1, d2], vars := [g1] }
  | _ => none }
def FnExactInverseWrongFalsely : Prop := fnExactInverseRow.holds Tryd.pinned (OpenSpec.ofChange fnExactInverseWrong)

/-- 'laws.FnExactPower': WHATEVER THE INPUT: true; the input reads as it did. -/
def fnExactPowerSpec : ChangeSpec := { name := "fnExactPower", vars := ["loop.example/g00710/impl.fieldTable"], fn := fun _ => fun
  | [d1, d2, d3, g1] => { results := [.lit (.bool true)], args := [d1, d2, d3], vars := [g1] }
  | _ => none }
def fnExactPowerRow : OpenClaim := { program := "ytpbncphbcnjlgaadoor", sum := "525edf98860038b90c4ef6e1ad50a3d42628083ee5bbc8f63e228d997821be2d", func := "loop.example/g00710/laws.FnExactPower", spec := "fnExactPower", named := ["loop.example/g00710/impl.fieldTable"], apart := false, laid := [("loop.example/g00710/impl.fieldTable", laid_loop_example_g00710_impl_fieldTable)] }
def FnExactPowerSaid : Prop := fnExactPowerRow.holds Tryd.pinned (OpenSpec.ofChange fnExactPowerSpec)

/-- ITS FALSE NEIGHBOUR: 'it returns false'. Refute it at one input. -/
def fnExactPowerWrong : ChangeSpec := { name := "fnExactPower", vars := ["loop.example/g00710/impl.fieldTable"], fn := fun _ => fun
  | [d1, d2, d3, g1] => { results := [.lit (.bool false)], args := [d1, d2, d3], vars := [g1] }
  | _ => none }
def FnExactPowerWrongFalsely : Prop := fnExactPowerRow.holds Tryd.pinned (OpenSpec.ofChange fnExactPowerWrong)

/-- 'laws.FnExactOrder': WHATEVER THE INPUT: true; the input reads as it did. -/
def fnExactOrderSpec : ChangeSpec := { name := "fnExactOrder", vars := ["loop.example/g00710/impl.fieldTable"], fn := fun _ => fun
  | [d1, d2, g1] => { results := [.lit (.bool true)], args := [d1, d2], vars := [g1] }
  | _ => none }
def fnExactOrderRow : OpenClaim := { program := "ytpbncphbcnjlgaadoor", sum := "525edf98860038b90c4ef6e1ad50a3d42628083ee5bbc8f63e228d997821be2d", func := "loop.example/g00710/laws.FnExactOrder", spec := "fnExactOrder", named := ["loop.example/g00710/impl.fieldTable"], apart := false, laid := [("loop.example/g00710/impl.fieldTable", laid_loop_example_g00710_impl_fieldTable)] }
def FnExactOrderSaid : Prop := fnExactOrderRow.holds Tryd.pinned (OpenSpec.ofChange fnExactOrderSpec)

/-- ITS FALSE NEIGHBOUR: 'it returns false'. Refute it at one input. -/
def fnExactOrderWrong : ChangeSpec := { name := "fnExactOrder", vars := ["loop.example/g00710/impl.fieldTable"], fn := fun _ => fun
  | [d1, d2, g1] => { results := [.lit (.bool false)], args := [d1, d2], vars := [g1] }
  | _ => none }
def FnExactOrderWrongFalsely : Prop := fnExactOrderRow.holds Tryd.pinned (OpenSpec.ofChange fnExactOrderWrong)

/-- 'laws.FnExactSquareRoot': WHATEVER THE INPUT: true; the input reads as it did. -/
def fnExactSquareRootSpec : ChangeSpec := { name := "fnExactSquareRoot", vars := ["loop.example/g00710/impl.fieldTable"], fn := fun _ => fun
  | [d1, d2, g1] => { results := [.lit (.bool true)], args := [d1, d2], vars := [g1] }
  | _ => none }
def fnExactSquareRootRow : OpenClaim := { program := "ytpbncphbcnjlgaadoor", sum := "525edf98860038b90c4ef6e1ad50a3d42628083ee5bbc8f63e228d997821be2d", func := "loop.example/g00710/laws.FnExactSquareRoot", spec := "fnExactSquareRoot", named := ["loop.example/g00710/impl.fieldTable"], apart := false, laid := [("loop.example/g00710/impl.fieldTable", laid_loop_example_g00710_impl_fieldTable)] }
def FnExactSquareRootSaid : Prop := fnExactSquareRootRow.holds Tryd.pinned (OpenSpec.ofChange fnExactSquareRootSpec)

/-- ITS FALSE NEIGHBOUR: 'it returns false'. Refute it at one input. -/
def fnExactSquareRootWrong : ChangeSpec := { name := "fnExactSquareRoot", vars := ["loop.example/g00710/impl.fieldTable"], fn := fun _ => fun
  | [d1, d2, g1] => { results := [.lit (.bool false)], args := [d1, d2], vars := [g1] }
  | _ => none }
def FnExactSquareRootWrongFalsely : Prop := fnExactSquareRootRow.holds Tryd.pinned (OpenSpec.ofChange fnExactSquareRootWrong)

/-- 'laws.FnExactBatchInverse': WHATEVER THE INPUT: true; the input reads as it did. -/
def fnExactBatchInverseSpec : ChangeSpec := { name := "fnExactBatchInverse", vars := ["loop.example/g00710/impl.fieldTable"], fn := fun _ => fun
  | [d1, d2, g1] => { results := [.lit (.bool true)], args := [d1, d2], vars := [g1] }
  | _ => none }
def fnExactBatchInverseRow : OpenClaim := { program := "ytpbncphbcnjlgaadoor", sum := "525edf98860038b90c4ef6e1ad50a3d42628083ee5bbc8f63e228d997821be2d", func := "loop.example/g00710/laws.FnExactBatchInverse", spec := "fnExactBatchInverse", named := ["loop.example/g00710/impl.fieldTable"], apart := false, laid := [("loop.example/g00710/impl.fieldTable", laid_loop_example_g00710_impl_fieldTable)] }
def FnExactBatchInverseSaid : Prop := fnExactBatchInverseRow.holds Tryd.pinned (OpenSpec.ofChange fnExactBatchInverseSpec)

/-- ITS FALSE NEIGHBOUR: 'it returns false'. Refute it at one input. -/
def fnExactBatchInverseWrong : ChangeSpec := { name := "fnExactBatchInverse", vars := ["loop.example/g00710/impl.fieldTable"], fn := fun _ => fun
  | [d1, d2, g1] => { results := [.lit (.bool false)], args := [d1, d2], vars := [g1] }
  | _ => none }
def FnExactBatchInverseWrongFalsely : Prop := fnExactBatchInverseRow.holds Tryd.pinned (OpenSpec.ofChange fnExactBatchInverseWrong)

/-- 'laws.FnExactDot': WHATEVER THE INPUT: true; the input reads as it did. -/
def fnExactDotSpec : ChangeSpec := { name := "fnExactDot", vars := ["loop.example/g00710/impl.fieldTable"], fn := fun _ => fun
  | [d1, d2, d3, g1] => { results := [.lit (.bool true)], args := [d1, d2, d3], vars := [g1] }
  | _ => none }
def fnExactDotRow : OpenClaim := { program := "ytpbncphbcnjlgaadoor", sum := "525edf98860038b90c4ef6e1ad50a3d42628083ee5bbc8f63e228d997821be2d", func := "loop.example/g00710/laws.FnExactDot", spec := "fnExactDot", named := ["loop.example/g00710/impl.fieldTable"], apart := false, laid := [("loop.example/g00710/impl.fieldTable", laid_loop_example_g00710_impl_fieldTable)] }
def FnExactDotSaid : Prop := fnExactDotRow.holds Tryd.pinned (OpenSpec.ofChange fnExactDotSpec)

/-- ITS FALSE NEIGHBOUR: 'it returns false'. Refute it at one input. -/
def fnExactDotWrong : ChangeSpec := { name := "fnExactDot", vars := ["loop.example/g00710/impl.fieldTable"], fn := fun _ => fun
  | [d1, d2, d3, g1] => { results := [.lit (.bool false)], args := [d1, d2, d3], vars := [g1] }
  | _ => none }
def FnExactDotWrongFalsely : Prop := fnExactDotRow.holds Tryd.pinned (OpenSpec.ofChange fnExactDotWrong)

/- THE SECOND FORM. 'bulk': how many values and letters a reading holds, each counted each time it is reached (what is shared counts as often as it is met; a slice's spare places count too). A statement '..UptoSaid' is the law's where the arguments, and the package variables that the reading takes, are together of bulk at most 1048576: NARROWER than '..Said'. Prove '..Said' where nothing that the law and all that it calls make is longer than what came in: it says more and counts as full. Else prove '..UptoSaid'. A law counts once. -/
mutual
def uptoBulk {H : Type} : DataW H → Nat
  | .lit (.string bytes) => bytes.length + 1
  | .lit _ => 1
  | .nil => 1
  | .ptr d => uptoBulk d + 1
  | .slice elems spare => uptoBulkAll elems + uptoBulkAll spare + 1
  | .agg parts => uptoBulkAll parts + 1
  | .iface _ d => uptoBulk d + 1
  | .map entries => uptoBulkEntries entries + 1
  | .held _ => 1
def uptoBulkAll {H : Type} : List (DataW H) → Nat
  | [] => 0
  | d :: r => uptoBulk d + uptoBulkAll r
def uptoBulkEntries {H : Type} : List (Lit × DataW H) → Nat
  | [] => 0
  | x :: r => uptoBulkEntry x + uptoBulkEntries r
def uptoBulkEntry {H : Type} : Lit × DataW H → Nat
  | (.string bytes, d) => bytes.length + uptoBulk d + 1
  | (_, d) => uptoBulk d + 1
 end
def uptoSmall : (H : Type) → List (DataW H) → Bool := fun _ ds => decide (uptoBulkAll ds ≤ 1048576)
def OpenSpec.upto (s : _root_.Go.ChangeSpec) : _root_.Go.OpenSpec := { _root_.Go.OpenSpec.ofChange s with cond := some uptoSmall }

/-- 'laws.FnFieldRing', WHERE WHAT IT READS IS OF BULK AT MOST 1048576: true; the input reads as it did. -/
def fnFieldRingUptoRow : OpenClaim := { program := "ytpbncphbcnjlgaadoor", sum := "525edf98860038b90c4ef6e1ad50a3d42628083ee5bbc8f63e228d997821be2d", func := "loop.example/g00710/laws.FnFieldRing", spec := "fnFieldRing", named := ["loop.example/g00710/impl.fieldTable"], apart := false, laid := [("loop.example/g00710/impl.fieldTable", laid_loop_example_g00710_impl_fieldTable)], narrowed := true }
def FnFieldRingUptoSaid : Prop := fnFieldRingUptoRow.holds Tryd.pinned (OpenSpec.upto fnFieldRingSpec)

/-- 'laws.FnInverseBack', WHERE WHAT IT READS IS OF BULK AT MOST 1048576: true; the input reads as it did. -/
def fnInverseBackUptoRow : OpenClaim := { program := "ytpbncphbcnjlgaadoor", sum := "525edf98860038b90c4ef6e1ad50a3d42628083ee5bbc8f63e228d997821be2d", func := "loop.example/g00710/laws.FnInverseBack", spec := "fnInverseBack", named := ["loop.example/g00710/impl.fieldTable"], apart := false, laid := [("loop.example/g00710/impl.fieldTable", laid_loop_example_g00710_impl_fieldTable)], narrowed := true }
def FnInverseBackUptoSaid : Prop := fnInverseBackUptoRow.holds Tryd.pinned (OpenSpec.upto fnInverseBackSpec)

/-- 'laws.FnOrderLeast', WHERE WHAT IT READS IS OF BULK AT MOST 1048576: true; the input reads as it did. -/
def fnOrderLeastUptoRow : OpenClaim := { program := "ytpbncphbcnjlgaadoor", sum := "525edf98860038b90c4ef6e1ad50a3d42628083ee5bbc8f63e228d997821be2d", func := "loop.example/g00710/laws.FnOrderLeast", spec := "fnOrderLeast", named := ["loop.example/g00710/impl.fieldTable"], apart := false, laid := [("loop.example/g00710/impl.fieldTable", laid_loop_example_g00710_impl_fieldTable)], narrowed := true }
def FnOrderLeastUptoSaid : Prop := fnOrderLeastUptoRow.holds Tryd.pinned (OpenSpec.upto fnOrderLeastSpec)

/-- 'laws.FnSquares', WHERE WHAT IT READS IS OF BULK AT MOST 1048576: true; the input reads as it did. -/
def fnSquaresUptoRow : OpenClaim := { program := "ytpbncphbcnjlgaadoor", sum := "525edf98860038b90c4ef6e1ad50a3d42628083ee5bbc8f63e228d997821be2d", func := "loop.example/g00710/laws.FnSquares", spec := "fnSquares", named := ["loop.example/g00710/impl.fieldTable"], apart := false, laid := [("loop.example/g00710/impl.fieldTable", laid_loop_example_g00710_impl_fieldTable)], narrowed := true }
def FnSquaresUptoSaid : Prop := fnSquaresUptoRow.holds Tryd.pinned (OpenSpec.upto fnSquaresSpec)

/-- 'laws.FnBatch', WHERE WHAT IT READS IS OF BULK AT MOST 1048576: true; the input reads as it did. -/
def fnBatchUptoRow : OpenClaim := { program := "ytpbncphbcnjlgaadoor", sum := "525edf98860038b90c4ef6e1ad50a3d42628083ee5bbc8f63e228d997821be2d", func := "loop.example/g00710/laws.FnBatch", spec := "fnBatch", named := ["loop.example/g00710/impl.fieldTable"], apart := false, laid := [("loop.example/g00710/impl.fieldTable", laid_loop_example_g00710_impl_fieldTable)], narrowed := true }
def FnBatchUptoSaid : Prop := fnBatchUptoRow.holds Tryd.pinned (OpenSpec.upto fnBatchSpec)

/-- 'laws.FnExactModulus', WHERE WHAT IT READS IS OF BULK AT MOST 1048576: true; the input reads as it did. -/
def fnExactModulusUptoRow : OpenClaim := { program := "ytpbncphbcnjlgaadoor", sum := "525edf98860038b90c4ef6e1ad50a3d42628083ee5bbc8f63e228d997821be2d", func := "loop.example/g00710/laws.FnExactModulus", spec := "fnExactModulus", named := ["loop.example/g00710/impl.fieldTable"], apart := false, laid := [("loop.example/g00710/impl.fieldTable", laid_loop_example_g00710_impl_fieldTable)], narrowed := true }
def FnExactModulusUptoSaid : Prop := fnExactModulusUptoRow.holds Tryd.pinned (OpenSpec.upto fnExactModulusSpec)

/-- 'laws.FnExactGenerator', WHERE WHAT IT READS IS OF BULK AT MOST 1048576: true; the input reads as it did. -/
def fnExactGeneratorUptoRow : OpenClaim := { program := "ytpbncphbcnjlgaadoor", sum := "525edf98860038b90c4ef6e1ad50a3d42628083ee5bbc8f63e228d997821be2d", func := "loop.example/g00710/laws.FnExactGenerator", spec := "fnExactGenerator", named := ["loop.example/g00710/impl.fieldTable"], apart := false, laid := [("loop.example/g00710/impl.fieldTable", laid_loop_example_g00710_impl_fieldTable)], narrowed := true }
def FnExactGeneratorUptoSaid : Prop := fnExactGeneratorUptoRow.holds Tryd.pinned (OpenSpec.upto fnExactGeneratorSpec)

/-- 'laws.FnExactTwoPower', WHERE WHAT IT READS IS OF BULK AT MOST 1048576: true; the input reads as it did. -/
def fnExactTwoPowerUptoRow : OpenClaim := { program := "ytpbncphbcnjlgaadoor", sum := "525edf98860038b90c4ef6e1ad50a3d42628083ee5bbc8f63e228d997821be2d", func := "loop.example/g00710/laws.FnExactTwoPower", spec := "fnExactTwoPower", named := ["loop.example/g00710/impl.fieldTable"], apart := false, laid := [("loop.example/g00710/impl.fieldTable", laid_loop_example_g00710_impl_fieldTable)], narrowed := true }
def FnExactTwoPowerUptoSaid : Prop := fnExactTwoPowerUptoRow.holds Tryd.pinned (OpenSpec.upto fnExactTwoPowerSpec)

/-- 'laws.FnExactReduce', WHERE WHAT IT READS IS OF BULK AT MOST 1048576: true; the input reads as it did. -/
def fnExactReduceUptoRow : OpenClaim := { program := "ytpbncphbcnjlgaadoor", sum := "525edf98860038b90c4ef6e1ad50a3d42628083ee5bbc8f63e228d997821be2d", func := "loop.example/g00710/laws.FnExactReduce", spec := "fnExactReduce", named := ["loop.example/g00710/impl.fieldTable"], apart := false, laid := [("loop.example/g00710/impl.fieldTable", laid_loop_example_g00710_impl_fieldTable)], narrowed := true }
def FnExactReduceUptoSaid : Prop := fnExactReduceUptoRow.holds Tryd.pinned (OpenSpec.upto fnExactReduceSpec)

/-- 'laws.FnExactAdd', WHERE WHAT IT READS IS OF BULK AT MOST 1048576: true; the input reads as it did. -/
def fnExactAddUptoRow : OpenClaim := { program := "ytpbncphbcnjlgaadoor", sum := "525edf98860038b90c4ef6e1ad50a3d42628083ee5bbc8f63e228d997821be2d", func := "loop.example/g00710/laws.FnExactAdd", spec := "fnExactAdd", named := ["loop.example/g00710/impl.fieldTable"], apart := false, laid := [("loop.example/g00710/impl.fieldTable", laid_loop_example_g00710_impl_fieldTable)], narrowed := true }
def FnExactAddUptoSaid : Prop := fnExactAddUptoRow.holds Tryd.pinned (OpenSpec.upto fnExactAddSpec)

/-- 'laws.FnExactSub', WHERE WHAT IT READS IS OF BULK AT MOST 1048576: true; the input reads as it did. -/
def fnExactSubUptoRow : OpenClaim := { program := "ytpbncphbcnjlgaadoor", sum := "525edf98860038b90c4ef6e1ad50a3d42628083ee5bbc8f63e228d997821be2d", func := "loop.example/g00710/laws.FnExactSub", spec := "fnExactSub", named := ["loop.example/g00710/impl.fieldTable"], apart := false, laid := [("loop.example/g00710/impl.fieldTable", laid_loop_example_g00710_impl_fieldTable)], narrowed := true }
def FnExactSubUptoSaid : Prop := fnExactSubUptoRow.holds Tryd.pinned (OpenSpec.upto fnExactSubSpec)

/-- 'laws.FnExactMul', WHERE WHAT IT READS IS OF BULK AT MOST 1048576: true; the input reads as it did. -/
def fnExactMulUptoRow : OpenClaim := { program := "ytpbncphbcnjlgaadoor", sum := "525edf98860038b90c4ef6e1ad50a3d42628083ee5bbc8f63e228d997821be2d", func := "loop.example/g00710/laws.FnExactMul", spec := "fnExactMul", named := ["loop.example/g00710/impl.fieldTable"], apart := false, laid := [("loop.example/g00710/impl.fieldTable", laid_loop_example_g00710_impl_fieldTable)], narrowed := true }
def FnExactMulUptoSaid : Prop := fnExactMulUptoRow.holds Tryd.pinned (OpenSpec.upto fnExactMulSpec)

/-- 'laws.FnExactInverse', WHERE WHAT IT READS IS OF BULK AT MOST 1048576: true; the input reads as it did. -/
def fnExactInverseUptoRow : OpenClaim := { program := "ytpbncphbcnjlgaadoor", sum := "525edf98860038b90c4ef6e1ad50a3d42628083ee5bbc8f63e228d997821be2d", func := "loop.example/g00710/laws.FnExactInverse", spec := "fnExactInverse", named := ["loop.example/g00710/impl.fieldTable"], apart := false, laid := [("loop.example/g00710/impl.fieldTable", laid_loop_example_g00710_impl_fieldTable)], narrowed := true }
def FnExactInverseUptoSaid : Prop := fnExactInverseUptoRow.holds Tryd.pinned (OpenSpec.upto fnExactInverseSpec)

/-- 'laws.FnExactPower', WHERE WHAT IT READS IS OF BULK AT MOST 1048576: true; the input reads as it did. -/
def fnExactPowerUptoRow : OpenClaim := { program := "ytpbncphbcnjlgaadoor", sum := "525edf98860038b90c4ef6e1ad50a3d42628083ee5bbc8f63e228d997821be2d", func := "loop.example/g00710/laws.FnExactPower", spec := "fnExactPower", named := ["loop.example/g00710/impl.fieldTable"], apart := false, laid := [("loop.example/g00710/impl.fieldTable", laid_loop_example_g00710_impl_fieldTable)], narrowed := true }
def FnExactPowerUptoSaid : Prop := fnExactPowerUptoRow.holds Tryd.pinned (OpenSpec.upto fnExactPowerSpec)

/-- 'laws.FnExactOrder', WHERE WHAT IT READS IS OF BULK AT MOST 1048576: true; the input reads as it did. -/
def fnExactOrderUptoRow : OpenClaim := { program := "ytpbncphbcnjlgaadoor", sum := "525edf98860038b90c4ef6e1ad50a3d42628083ee5bbc8f63e228d997821be2d", func := "loop.example/g00710/laws.FnExactOrder", spec := "fnExactOrder", named := ["loop.example/g00710/impl.fieldTable"], apart := false, laid := [("loop.example/g00710/impl.fieldTable", laid_loop_example_g00710_impl_fieldTable)], narrowed := true }
def FnExactOrderUptoSaid : Prop := fnExactOrderUptoRow.holds Tryd.pinned (OpenSpec.upto fnExactOrderSpec)

/-- 'laws.FnExactSquareRoot', WHERE WHAT IT READS IS OF BULK AT MOST 1048576: true; the input reads as it did. -/
def fnExactSquareRootUptoRow : OpenClaim := { program := "ytpbncphbcnjlgaadoor", sum := "525edf98860038b90c4ef6e1ad50a3d42628083ee5bbc8f63e228d997821be2d", func := "loop.example/g00710/laws.FnExactSquareRoot", spec := "fnExactSquareRoot", named := ["loop.example/g00710/impl.fieldTable"], apart := false, laid := [("loop.example/g00710/impl.fieldTable", laid_loop_example_g00710_impl_fieldTable)], narrowed := true }
def FnExactSquareRootUptoSaid : Prop := fnExactSquareRootUptoRow.holds Tryd.pinned (OpenSpec.upto fnExactSquareRootSpec)

/-- 'laws.FnExactBatchInverse', WHERE WHAT IT READS IS OF BULK AT MOST 1048576: true; the input reads as it did. -/
def fnExactBatchInverseUptoRow : OpenClaim := { program := "ytpbncphbcnjlgaadoor", sum := "525edf98860038b90c4ef6e1ad50a3d42628083ee5bbc8f63e228d997821be2d", func := "loop.example/g00710/laws.FnExactBatchInverse", spec := "fnExactBatchInverse", named := ["loop.example/g00710/impl.fieldTable"], apart := false, laid := [("loop.example/g00710/impl.fieldTable", laid_loop_example_g00710_impl_fieldTable)], narrowed := true }
def FnExactBatchInverseUptoSaid : Prop := fnExactBatchInverseUptoRow.holds Tryd.pinned (OpenSpec.upto fnExactBatchInverseSpec)

/-- 'laws.FnExactDot', WHERE WHAT IT READS IS OF BULK AT MOST 1048576: true; the input reads as it did. -/
def fnExactDotUptoRow : OpenClaim := { program := "ytpbncphbcnjlgaadoor", sum := "525edf98860038b90c4ef6e1ad50a3d42628083ee5bbc8f63e228d997821be2d", func := "loop.example/g00710/laws.FnExactDot", spec := "fnExactDot", named := ["loop.example/g00710/impl.fieldTable"], apart := false, laid := [("loop.example/g00710/impl.fieldTable", laid_loop_example_g00710_impl_fieldTable)], narrowed := true }
def FnExactDotUptoSaid : Prop := fnExactDotUptoRow.holds Tryd.pinned (OpenSpec.upto fnExactDotSpec)

end Rows
end Go.Proofs.YtpbncphbcnjlgaaDoor
