/-
  NARROWER THAN 'FOR EVERY INPUT', by the rows' own cells (each row's printed sentence says how): FnExactAddPoly: laid · FnExactDegree: laid · FnExactDerivative: laid · FnExactPolyOk: laid · FnExactScalePoly: laid · FnExactShiftPoly: laid · FnExactSubPoly: laid · FnExactTrim: laid.
  DERIVED. THE GIVEN ROWS OF THIS SEAT. 8 by the template 'for every input the law returns true; each argument reads behind the call as it read before'; 0 by the template 'total and deterministic' (their statements: YthmbgiidfngmdaaDoorTotals.lean).
  GIVEN WITH THE SEED: the statements are not yours to turn. If you find one false, say at which input.
  Laid BY PROGRAM, IN A SANDBOX (cutbox-rows.mjs): the forced cells as the released guide's own fill.sh prints them over the translation 556fc87d13276c66… (all of the seat's roots in one cut). By AI agents, Wed Nov 11 2026. No macro, syntax, notation, axiom, sorry.
-/
import Derived.Test.YthmbgiidfngmdaaDoorChecked
import GoSem.Claim
import GoSem.ClaimJoined
import GoSem.ClaimMapViews
import Derived.JoinedTies
import Derived.KernelRfl
namespace Go.Proofs.YthmbgiidfngmdaaDoor
/- THE CELL 'sum', in the pinned program and in every row, IS THE sha256 OF THE DUMP (.gsa) THAT YthmbgiidfngmdaaDoorProg.lean LOADS. Nothing in Lean hashes anything: it is a label: what it is worth is what the hold of that sum in a sandbox is worth. -/
noncomputable def Tryd.pinned : Pinned := { name := "ythmbgiidfngmdaadoor", sum := "556fc87d13276c660044490193bd15da716c39df7e57a55901ebe54afe9c9e28", checked := Tryd.checked }
namespace Rows
def none {H : Type} : Left H := { results := [], args := [] }

/- WHAT THE LISTED PACKAGE-LEVEL VARIABLES READ AS WHEN THE CALL BEGINS. Each datum BY PROGRAM (the guide's laid-datum.mjs) off the statement by which the dump's own 'gosem.cut.vars' lays the variable. In a bare row this is a premise. The card (YthmbgiidfngmdaaDoorCards.lean) ties it to the program's text. -/
def laid_loop_example_g00710_impl_fieldTable {H : Type} : DataW H := .agg [.agg [.lit (.int .i64 17), .lit (.int .i64 3), .lit (.int .i64 4)], .agg [.lit (.int .i64 97), .lit (.int .i64 5), .lit (.int .i64 5)], .agg [.lit (.int .i64 193), .lit (.int .i64 5), .lit (.int .i64 6)], .agg [.lit (.int .i64 257), .lit (.int .i64 3), .lit (.int .i64 8)], .agg [.lit (.int .i64 7681), .lit (.int .i64 17), .lit (.int .i64 9)], .agg [.lit (.int .i64 12289), .lit (.int .i64 11), .lit (.int .i64 12)], .agg [.lit (.int .i64 998244353), .lit (.int .i64 3), .lit (.int .i64 23)], .agg [.lit (.int .i64 469762049), .lit (.int .i64 3), .lit (.int .i64 26)], .agg [.lit (.int .i64 1004535809), .lit (.int .i64 3), .lit (.int .i64 21)]]

/-- 'laws.FnExactAddPoly': WHATEVER THE INPUT: true; the input reads as it did. -/
def fnExactAddPolySpec : ChangeSpec := { name := "fnExactAddPoly", vars := ["loop.example/g00710/impl.fieldTable"], fn := fun _ => fun
  | [d1, d2, d3, g1] => { results := [.lit (.bool true)], args := [d1, d2, d3], vars := [g1] }
  | _ => none }
def fnExactAddPolyRow : OpenClaim := { program := "ythmbgiidfngmdaadoor", sum := "556fc87d13276c660044490193bd15da716c39df7e57a55901ebe54afe9c9e28", func := "loop.example/g00710/laws.FnExactAddPoly", spec := "fnExactAddPoly", named := ["loop.example/g00710/impl.fieldTable"], apart := false, laid := [("loop.example/g00710/impl.fieldTable", laid_loop_example_g00710_impl_fieldTable)] }
def FnExactAddPolySaid : Prop := fnExactAddPolyRow.holds Tryd.pinned (OpenSpec.ofChange fnExactAddPolySpec)

/-- ITS FALSE NEIGHBOUR: 'it returns false'. Refute it at one input. -/
def fnExactAddPolyWrong : ChangeSpec := { name := "fnExactAddPoly", vars := ["loop.example/g00710/impl.fieldTable"], fn := fun _ => fun
  | [d1, d2, d3, g1] => { results := [.lit (.bool false)], args := [d1, d2, d3], vars := [g1] }
  | _ => none }
def FnExactAddPolyWrongFalsely : Prop := fnExactAddPolyRow.holds Tryd.pinned (OpenSpec.ofChange fnExactAddPolyWrong)

/-- 'laws.FnExactDegree': WHATEVER THE INPUT: true; the input reads as it did. -/
def fnExactDegreeSpec : ChangeSpec := { name := "fnExactDegree", vars := ["loop.example/g00710/impl.fieldTable"], fn := fun _ => fun
  | [d1, d2, g1] => { results := [.lit (.bool true)], args := [d1, d2], vars := [g1] }
  | _ => none }
def fnExactDegreeRow : OpenClaim := { program := "ythmbgiidfngmdaadoor", sum := "556fc87d13276c660044490193bd15da716c39df7e57a55901ebe54afe9c9e28", func := "loop.example/g00710/laws.FnExactDegree", spec := "fnExactDegree", named := ["loop.example/g00710/impl.fieldTable"], apart := false, laid := [("loop.example/g00710/impl.fieldTable", laid_loop_example_g00710_impl_fieldTable)] }
def FnExactDegreeSaid : Prop := fnExactDegreeRow.holds Tryd.pinned (OpenSpec.ofChange fnExactDegreeSpec)

/-- ITS FALSE NEIGHBOUR: 'it returns false'. Refute it at one input. -/
def fnExactDegreeWrong : ChangeSpec := { name := "fnExactDegree", vars := ["loop.example/g00710/impl.fieldTable"], fn := fun _ => fun
  | [d1, d2, g1] => { results := [.lit (.bool false)], args := [d1, d2], vars := [g1] }
  | _ => none }
def FnExactDegreeWrongFalsely : Prop := fnExactDegreeRow.holds Tryd.pinned (OpenSpec.ofChange fnExactDegreeWrong)

/-- 'laws.FnExactDerivative': WHATEVER THE INPUT: true; the input reads as it did. -/
def fnExactDerivativeSpec : ChangeSpec := { name := "fnExactDerivative", vars := ["loop.example/g00710/impl.fieldTable"], fn := fun _ => fun
  | [d1, d2, g1] => { results := [.lit (.bool true)], args := [d1, d2], vars := [g1] }
  | _ => none }
def fnExactDerivativeRow : OpenClaim := { program := "ythmbgiidfngmdaadoor", sum := "556fc87d13276c660044490193bd15da716c39df7e57a55901ebe54afe9c9e28", func := "loop.example/g00710/laws.FnExactDerivative", spec := "fnExactDerivative", named := ["loop.example/g00710/impl.fieldTable"], apart := false, laid := [("loop.example/g00710/impl.fieldTable", laid_loop_example_g00710_impl_fieldTable)] }
def FnExactDerivativeSaid : Prop := fnExactDerivativeRow.holds Tryd.pinned (OpenSpec.ofChange fnExactDerivativeSpec)

/-- ITS FALSE NEIGHBOUR: 'it returns false'. Refute it at one input. -/
def fnExactDerivativeWrong : ChangeSpec := { name := "fnExactDerivative", vars := ["loop.example/g00710/impl.fieldTable"], fn := fun _ => fun
  | [d1, d2, g1] => { results := [.lit (.bool false)], args := [d1, d2], vars := [g1] }
  | _ => none }
def FnExactDerivativeWrongFalsely : Prop := fnExactDerivativeRow.holds Tryd.pinned (OpenSpec.ofChange fnExactDerivativeWrong)

/-- 'laws.FnExactPolyOk': WHATEVER THE INPUT: true; the input reads as it did. -/
def fnExactPolyOkSpec : ChangeSpec := { name := "fnExactPolyOk", vars := ["loop.example/g00710/impl.fieldTable"], fn := fun _ => fun
  | [d1, d2, g1] => { results := [.lit (.bool true)], args := [d1, d2], vars := [g1] }
  | _ => none }
def fnExactPolyOkRow : OpenClaim := { program := "ythmbgiidfngmdaadoor", sum := "556fc87d13276c660044490193bd15da716c39df7e57a55901ebe54afe9c9e28", func := "loop.example/g00710/laws.FnExactPolyOk", spec := "fnExactPolyOk", named := ["loop.example/g00710/impl.fieldTable"], apart := false, laid := [("loop.example/g00710/impl.fieldTable", laid_loop_example_g00710_impl_fieldTable)] }
def FnExactPolyOkSaid : Prop := fnExactPolyOkRow.holds Tryd.pinned (OpenSpec.ofChange fnExactPolyOkSpec)

/-- ITS FALSE NEIGHBOUR: 'it returns false'. Refute it at one input. -/
def fnExactPolyOkWrong : ChangeSpec := { name := "fnExactPolyOk", vars := ["loop.example/g00710/impl.fieldTable"], fn := fun _ => fun
  | [d1, d2, g1] => { results := [.lit (.bool false)], args := [d1, d2], vars := [g1] }
  | _ => none }
def FnExactPolyOkWrongFalsely : Prop := fnExactPolyOkRow.holds Tryd.pinned (OpenSpec.ofChange fnExactPolyOkWrong)

/-- 'laws.FnExactScalePoly': WHATEVER THE INPUT: true; the input reads as it did. -/
def fnExactScalePolySpec : ChangeSpec := { name := "fnExactScalePoly", vars := ["loop.example/g00710/impl.fieldTable"], fn := fun _ => fun
  | [d1, d2, d3, g1] => { results := [.lit (.bool true)], args := [d1, d2, d3], vars := [g1] }
  | _ => none }
def fnExactScalePolyRow : OpenClaim := { program := "ythmbgiidfngmdaadoor", sum := "556fc87d13276c660044490193bd15da716c39df7e57a55901ebe54afe9c9e28", func := "loop.example/g00710/laws.FnExactScalePoly", spec := "fnExactScalePoly", named := ["loop.example/g00710/impl.fieldTable"], apart := false, laid := [("loop.example/g00710/impl.fieldTable", laid_loop_example_g00710_impl_fieldTable)] }
def FnExactScalePolySaid : Prop := fnExactScalePolyRow.holds Tryd.pinned (OpenSpec.ofChange fnExactScalePolySpec)

/-- ITS FALSE NEIGHBOUR: 'it returns false'. Refute it at one input. -/
def fnExactScalePolyWrong : ChangeSpec := { name := "fnExactScalePoly", vars := ["loop.example/g00710/impl.fieldTable"], fn := fun _ => fun
  | [d1, d2, d3, g1] => { results := [.lit (.bool false)], args := [d1, d2, d3], vars := [g1] }
  | _ => none }
def FnExactScalePolyWrongFalsely : Prop := fnExactScalePolyRow.holds Tryd.pinned (OpenSpec.ofChange fnExactScalePolyWrong)

/-- 'laws.FnExactShiftPoly': WHATEVER THE INPUT: true; the input reads as it did. -/
def fnExactShiftPolySpec : ChangeSpec := { name := "fnExactShiftPoly", vars := ["loop.example/g00710/impl.fieldTable"], fn := fun _ => fun
  | [d1, d2, d3, g1] => { results := [.lit (.bool true)], args := [d1, d2, d3], vars := [g1] }
  | _ => none }
def fnExactShiftPolyRow : OpenClaim := { program := "ythmbgiidfngmdaadoor", sum := "556fc87d13276c660044490193bd15da716c39df7e57a55901ebe54afe9c9e28", func := "loop.example/g00710/laws.FnExactShiftPoly", spec := "fnExactShiftPoly", named := ["loop.example/g00710/impl.fieldTable"], apart := false, laid := [("loop.example/g00710/impl.fieldTable", laid_loop_example_g00710_impl_fieldTable)] }
def FnExactShiftPolySaid : Prop := fnExactShiftPolyRow.holds Tryd.pinned (OpenSpec.ofChange fnExactShiftPolySpec)

/-- ITS FALSE NEIGHBOUR: 'it returns false'. Refute it at one input. -/
def fnExactShiftPolyWrong : ChangeSpec := { name := "fnExactShiftPoly", vars := ["loop.example/g00710/impl.fieldTable"], fn := fun _ => fun
  | [d1, d2, d3, g1] => { results := [.lit (.bool false)], args := [d1, d2, d3], vars := [g1] }
  | _ => none }
def FnExactShiftPolyWrongFalsely : Prop := fnExactShiftPolyRow.holds Tryd.pinned (OpenSpec.ofChange fnExactShiftPolyWrong)

/-- 'laws.FnExactSubPoly': WHATEVER THE INPUT: true; the input reads as it did. -/
def fnExactSubPolySpec : ChangeSpec := { name := "fnExactSubPoly", vars := ["loop.example/g00710/impl.fieldTable"], fn := fun _ => fun
  | [d1, d2, d3, g1] => { results := [.lit (.bool true)], args := [d1, d2, d3], vars := [g1] }
  | _ => none }
def fnExactSubPolyRow : OpenClaim := { program := "ythmbgiidfngmdaadoor", sum := "556fc87d13276c660044490193bd15da716c39df7e57a55901ebe54afe9c9e28", func := "loop.example/g00710/laws.FnExactSubPoly", spec := "fnExactSubPoly", named := ["loop.example/g00710/impl.fieldTable"], apart := false, laid := [("loop.example/g00710/impl.fieldTable", laid_loop_example_g00710_impl_fieldTable)] }
def FnExactSubPolySaid : Prop := fnExactSubPolyRow.holds Tryd.pinned (OpenSpec.ofChange fnExactSubPolySpec)

/-- ITS FALSE NEIGHBOUR: 'it returns false'. Refute it at one input. -/
def fnExactSubPolyWrong : ChangeSpec := { name := "fnExactSubPoly", vars := ["loop.example/g00710/impl.fieldTable"], fn := fun _ => fun
  | [d1, d2, d3, g1] => { results := [.lit (.bool false)], args := [d1, d2, d3], vars := [g1] }
  | _ => none }
def FnExactSubPolyWrongFalsely : Prop := fnExactSubPolyRow.holds Tryd.pinned (OpenSpec.ofChange fnExactSubPolyWrong)

/-- 'laws.FnExactTrim': WHATEVER THE INPUT: true; the input reads as it did. -/
def fnExactTrimSpec : ChangeSpec := { name := "fnExactTrim", vars := ["loop.example/g00710/impl.fieldTable"], fn := fun _ => fun
  | [d1, d2, g1] => { results := [.lit (.bool true)], args := [d1, d2], vars := [g1] }
  | _ => none }
def fnExactTrimRow : OpenClaim := { program := "ythmbgiidfngmdaadoor", sum := "556fc87d13276c660044490193bd15da716c39df7e57a55901ebe54afe9c9e28", func := "loop.example/g00710/laws.FnExactTrim", spec := "fnExactTrim", named := ["loop.example/g00710/impl.fieldTable"], apart := false, laid := [("loop.example/g00710/impl.fieldTable", laid_loop_example_g00710_impl_fieldTable)] }
def FnExactTrimSaid : Prop := fnExactTrimRow.holds Tryd.pinned (OpenSpec.ofChange fnExactTrimSpec)

/-- ITS FALSE NEIGHBOUR: 'it returns false'. Refute it at one input. -/
def fnExactTrimWrong : ChangeSpec := { name := "fnExactTrim", vars := ["loop.example/g00710/impl.fieldTable"], fn := fun _ => fun
  | [d1, d2, g1] => { results := [.lit (.bool false)], args := [d1, d2], vars := [g1] }
  | _ => none }
def FnExactTrimWrongFalsely : Prop := fnExactTrimRow.holds Tryd.pinned (OpenSpec.ofChange fnExactTrimWrong)

/- THE SECOND FORM. 'bulk': how many values and letters a reading holds, each counted each time it is reached (what is shared counts as often as it is met; a slice's spare places count too). A statement '..UptoSaid' is the law's where the arguments, and the package variables that the reading takes, are together of bulk at most 1048576: NARROWER than '..Said'. Prove '..Said' where nothing that the law and all that it calls make is longer than what came in: it says more and counts as full. Else prove '..UptoSaid'. A law counts once. -/
mutual
def uptoBulk {H : Type} : DataW H → Nat
  | .lit (.string bytes) => bytes.length + 1
  | .lit _ => 1
  | .nil => 1
  | .ptr d => uptoBulk d + 1
  | .slice elems spare => uptoBulkAll elems + uptoBulkAll spare + 1
  | .agg parts => uptoBulkAll parts + 1
  | .iface _ d => uptoBulk d + 1
  | .map entries => uptoBulkEntries entries + 1
  | .held _ => 1
def uptoBulkAll {H : Type} : List (DataW H) → Nat
  | [] => 0
  | d :: r => uptoBulk d + uptoBulkAll r
def uptoBulkEntries {H : Type} : List (Lit × DataW H) → Nat
  | [] => 0
  | x :: r => uptoBulkEntry x + uptoBulkEntries r
def uptoBulkEntry {H : Type} : Lit × DataW H → Nat
  | (.string bytes, d) => bytes.length + uptoBulk d + 1
  | (_, d) => uptoBulk d + 1
 end
def uptoSmall : (H : Type) → List (DataW H) → Bool := fun _ ds => decide (uptoBulkAll ds ≤ 1048576)
def OpenSpec.upto (s : _root_.Go.ChangeSpec) : _root_.Go.OpenSpec := { _root_.Go.OpenSpec.ofChange s with cond := some uptoSmall }

/-- 'laws.FnExactAddPoly', WHERE WHAT IT READS IS OF BULK AT MOST 1048576: true; the input reads as it did. -/
def fnExactAddPolyUptoRow : OpenClaim := { program := "ythmbgiidfngmdaadoor", sum := "556fc87d13276c660044490193bd15da716c39df7e57a55901ebe54afe9c9e28", func := "loop.example/g00710/laws.FnExactAddPoly", spec := "fnExactAddPoly", named := ["loop.example/g00710/impl.fieldTable"], apart := false, laid := [("loop.example/g00710/impl.fieldTable", laid_loop_example_g00710_impl_fieldTable)], narrowed := true }
def FnExactAddPolyUptoSaid : Prop := fnExactAddPolyUptoRow.holds Tryd.pinned (OpenSpec.upto fnExactAddPolySpec)

/-- 'laws.FnExactDegree', WHERE WHAT IT READS IS OF BULK AT MOST 1048576: true; the input reads as it did. -/
def fnExactDegreeUptoRow : OpenClaim := { program := "ythmbgiidfngmdaadoor", sum := "556fc87d13276c660044490193bd15da716c39df7e57a55901ebe54afe9c9e28", func := "loop.example/g00710/laws.FnExactDegree", spec := "fnExactDegree", named := ["loop.example/g00710/impl.fieldTable"], apart := false, laid := [("loop.example/g00710/impl.fieldTable", laid_loop_example_g00710_impl_fieldTable)], narrowed := true }
def FnExactDegreeUptoSaid : Prop := fnExactDegreeUptoRow.holds Tryd.pinned (OpenSpec.upto fnExactDegreeSpec)

/-- 'laws.FnExactDerivative', WHERE WHAT IT READS IS OF BULK AT MOST 1048576: true; the input reads as it did. -/
def fnExactDerivativeUptoRow : OpenClaim := { program := "ythmbgiidfngmdaadoor", sum := "556fc87d13276c660044490193bd15da716c39df7e57a55901ebe54afe9c9e28", func := "loop.example/g00710/laws.FnExactDerivative", spec := "fnExactDerivative", named := ["loop.example/g00710/impl.fieldTable"], apart := false, laid := [("loop.example/g00710/impl.fieldTable", laid_loop_example_g00710_impl_fieldTable)], narrowed := true }
def FnExactDerivativeUptoSaid : Prop := fnExactDerivativeUptoRow.holds Tryd.pinned (OpenSpec.upto fnExactDerivativeSpec)

/-- 'laws.FnExactPolyOk', WHERE WHAT IT READS IS OF BULK AT MOST 1048576: true; the input reads as it did. -/
def fnExactPolyOkUptoRow : OpenClaim := { program := "ythmbgiidfngmdaadoor", sum := "556fc87d13276c660044490193bd15da716c39df7e57a55901ebe54afe9c9e28", func := "loop.example/g00710/laws.FnExactPolyOk", spec := "fnExactPolyOk", named := ["loop.example/g00710/impl.fieldTable"], apart := false, laid := [("loop.example/g00710/impl.fieldTable", laid_loop_example_g00710_impl_fieldTable)], narrowed := true }
def FnExactPolyOkUptoSaid : Prop := fnExactPolyOkUptoRow.holds Tryd.pinned (OpenSpec.upto fnExactPolyOkSpec)

/-- 'laws.FnExactScalePoly', WHERE WHAT IT READS IS OF BULK AT MOST 1048576: true; the input reads as it did. -/
def fnExactScalePolyUptoRow : OpenClaim := { program := "ythmbgiidfngmdaadoor", sum := "556fc87d13276c660044490193bd15da716c39df7e57a55901ebe54afe9c9e28", func := "loop.example/g00710/laws.FnExactScalePoly", spec := "fnExactScalePoly", named := ["loop.example/g00710/impl.fieldTable"], apart := false, laid := [("loop.example/g00710/impl.fieldTable", laid_loop_example_g00710_impl_fieldTable)], narrowed := true }
def FnExactScalePolyUptoSaid : Prop := fnExactScalePolyUptoRow.holds Tryd.pinned (OpenSpec.upto fnExactScalePolySpec)

/-- 'laws.FnExactShiftPoly', WHERE WHAT IT READS IS OF BULK AT MOST 1048576: true; the input reads as it did. -/
def fnExactShiftPolyUptoRow : OpenClaim := { program := "ythmbgiidfngmdaadoor", sum := "556fc87d13276c660044490193bd15da716c39df7e57a55901ebe54afe9c9e28", func := "loop.example/g00710/laws.FnExactShiftPoly", spec := "fnExactShiftPoly", named := ["loop.example/g00710/impl.fieldTable"], apart := false, laid := [("loop.example/g00710/impl.fieldTable", laid_loop_example_g00710_impl_fieldTable)], narrowed := true }
def FnExactShiftPolyUptoSaid : Prop := fnExactShiftPolyUptoRow.holds Tryd.pinned (OpenSpec.upto fnExactShiftPolySpec)

/-- 'laws.FnExactSubPoly', WHERE WHAT IT READS IS OF BULK AT MOST 1048576: true; the input reads as it did. -/
def fnExactSubPolyUptoRow : OpenClaim := { program := "ythmbgiidfngmdaadoor", sum := "556fc87d13276c660044490193bd15da716c39df7e57a55901ebe54afe9c9e28", func := "loop.example/g00710/laws.FnExactSubPoly", spec := "fnExactSubPoly", named := ["loop.example/g00710/impl.fieldTable"], apart := false, laid := [("loop.example/g00710/impl.fieldTable", laid_loop_example_g00710_impl_fieldTable)], narrowed := true }
def FnExactSubPolyUptoSaid : Prop := fnExactSubPolyUptoRow.holds Tryd.pinned (OpenSpec.upto fnExactSubPolySpec)

/-- 'laws.FnExactTrim', WHERE WHAT IT READS IS OF BULK AT MOST 1048576: true; the input reads as it did. -/
def fnExactTrimUptoRow : OpenClaim := { program := "ythmbgiidfngmdaadoor", sum := "556fc87d13276c660044490193bd15da716c39df7e57a55901ebe54afe9c9e28", func := "loop.example/g00710/laws.FnExactTrim", spec := "fnExactTrim", named := ["loop.example/g00710/impl.fieldTable"], apart := false, laid := [("loop.example/g00710/impl.fieldTable", laid_loop_example_g00710_impl_fieldTable)], narrowed := true }
def FnExactTrimUptoSaid : Prop := fnExactTrimUptoRow.holds Tryd.pinned (OpenSpec.upto fnExactTrimSpec)

end Rows
end Go.Proofs.YthmbgiidfngmdaaDoor
