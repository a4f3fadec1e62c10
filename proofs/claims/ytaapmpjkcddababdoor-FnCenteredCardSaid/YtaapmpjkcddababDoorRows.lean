/-
  NARROWER THAN 'FOR EVERY INPUT', by the rows' own cells (each row's printed sentence says how): FnExactMulText: laid · FnExactPowText: laid · FnCentered: laid · FnConvByFields: laid · FnTexts: laid · FnPowText: laid.
  DERIVED. THE GIVEN ROWS OF THIS SEAT. 6 by the template 'for every input the law returns true; each argument reads behind the call as it read before'; 0 by the template 'total and deterministic' (their statements: YtaapmpjkcddababDoorTotals.lean).
  GIVEN WITH THE SEED: the statements are not yours to turn. If you find one false, say at which input.
  Laid BY PROGRAM, IN A SANDBOX (cutbox-rows.mjs): the forced cells as the released guide's own fill.sh prints them over the translation ddadc0c7e3f2337b… (all of the seat's roots in one cut). By AI agents, Wed Nov 11 2026. No macro, syntax, notation, axiom, sorry.
-/
import Derived.Test.YtaapmpjkcddababDoorChecked
import GoSem.Claim
import GoSem.ClaimJoined
import GoSem.ClaimMapViews
import Derived.JoinedTies
import Derived.KernelRfl
namespace Go.Proofs.YtaapmpjkcddababDoor
/- THE CELL 'sum', in the pinned program and in every row, IS THE sha256 OF THE DUMP (.gsa) THAT YtaapmpjkcddababDoorProg.lean LOADS. Nothing in Lean hashes anything: it is a label: what it is worth is what the hold of that sum in a sandbox is worth. -/
noncomputable def Tryd.pinned : Pinned := { name := "ytaapmpjkcddababdoor", sum := "ddadc0c7e3f2337b07c9ce95c085faede0c547e50bccd9223ed19b2c96489797", checked := Tryd.checked }
namespace Rows
def none {H : Type} : Left H := { results := [], args := [] }

/- WHAT THE LISTED PACKAGE-LEVEL VARIABLES READ AS WHEN THE CALL BEGINS. Each datum BY PROGRAM (the guide's laid-datum.mjs) off the statement by which the dump's own 'gosem.cut.vars' lays the variable. In a bare row this is a premise. The card (YtaapmpjkcddababDoorCards.lean) ties it to the program's text. -/
def laid_loop_example_g00710_impl_fieldTable {H : Type} : DataW H := .agg [.agg [.lit (.int .i64 17), .lit (.int .i64 3), .lit (.int .i64 4)], .agg [.lit (.int .i64 97), .lit (.int .i64 5), .lit (.int .i64 5)], .agg [.lit (.int .i64 193), .lit (.int .i64 5), .lit (.int .i64 6)], .agg [.lit (.int .i64 257), .lit (.int .i64 3), .lit (.int .i64 8)], .agg [.lit (.int .i64 7681), .lit (.int .i64 17), .lit (.int .i64 9)], .agg [.lit (.int .i64 12289), .lit (.int .i64 11), .lit (.int .i64 12)], .agg [.lit (.int .i64 998244353), .lit (.int .i64 3), .lit (.int .i64 23)], .agg [.lit (.int .i64 469762049), .lit (.int .i64 3), .lit (.int .i64 26)], .agg [.lit (.int .i64 1004535809), .lit (.int .i64 3), .lit (.int .i64 21)]]

/-- 'laws.FnExactMulText': WHATEVER THE INPUT: true; the input reads as it did. -/
def fnExactMulTextSpec : ChangeSpec := { name := "fnExactMulText", vars := ["loop.example/g00710/impl.fieldTable"], fn := fun _ => fun
  | [d1, d2, g1] => { results := [.lit (.bool true)], args := [d1, d2], vars := [g1] }
  | _ => none }
def fnExactMulTextRow : OpenClaim := { program := "ytaapmpjkcddababdoor", sum := "ddadc0c7e3f2337b07c9ce95c085faede0c547e50bccd9223ed19b2c96489797", func := "loop.example/g00710/laws.FnExactMulText", spec := "fnExactMulText", named := ["loop.example/g00710/impl.fieldTable"], apart := false, laid := [("loop.example/g00710/impl.fieldTable", laid_loop_example_g00710_impl_fieldTable)] }
def FnExactMulTextSaid : Prop := fnExactMulTextRow.holds Tryd.pinned (OpenSpec.ofChange fnExactMulTextSpec)

/-- ITS FALSE NEIGHBOUR: 'it returns false'. Refute it at one input. -/
def fnExactMulTextWrong : ChangeSpec := { name := "fnExactMulText", vars := ["loop.example/g00710/impl.fieldTable"], fn := fun _ => fun
  | [d1, d2, g1] => { results := [.lit (.bool false)], args := [d1, d2], vars := [g1] }
  | _ => none }
def FnExactMulTextWrongFalsely : Prop := fnExactMulTextRow.holds Tryd.pinned (OpenSpec.ofChange fnExactMulTextWrong)

/-- 'laws.FnExactPowText': WHATEVER THE INPUT: true; the input reads as it did. -/
def fnExactPowTextSpec : ChangeSpec := { name := "fnExactPowText", vars := ["loop.example/g00710/impl.fieldTable"], fn := fun _ => fun
  | [d1, d2, g1] => { results := [.lit (.bool true)], args := [d1, d2], vars := [g1] }
  | _ => none }
def fnExactPowTextRow : OpenClaim := { program := "ytaapmpjkcddababdoor", sum := "ddadc0c7e3f2337b07c9ce95c085faede0c547e50bccd9223ed19b2c96489797", func := "loop.example/g00710/laws.FnExactPowText", spec := "fnExactPowText", named := ["loop.example/g00710/impl.fieldTable"], apart := false, laid := [("loop.example/g00710/impl.fieldTable", laid_loop_example_g00710_impl_fieldTable)] }
def FnExactPowTextSaid : Prop := fnExactPowTextRow.holds Tryd.pinned (OpenSpec.ofChange fnExactPowTextSpec)

/-- ITS FALSE NEIGHBOUR: 'it returns false'. Refute it at one input. -/
def fnExactPowTextWrong : ChangeSpec := { name := "fnExactPowText", vars := ["loop.example/g00710/impl.fieldTable"], fn := fun _ => fun
  | [d1, d2, g1] => { results := [.lit (.bool false)], args := [d1, d2], vars := [g1] }
  | _ => none }
def FnExactPowTextWrongFalsely : Prop := fnExactPowTextRow.holds Tryd.pinned (OpenSpec.ofChange fnExactPowTextWrong)

/-- 'laws.FnCentered': WHATEVER THE INPUT: true; the input reads as it did. -/
def fnCenteredSpec : ChangeSpec := { name := "fnCentered", vars := ["loop.example/g00710/impl.fieldTable"], fn := fun _ => fun
  | [d, g1] => { results := [.lit (.bool true)], args := [d], vars := [g1] }
  | _ => none }
def fnCenteredRow : OpenClaim := { program := "ytaapmpjkcddababdoor", sum := "ddadc0c7e3f2337b07c9ce95c085faede0c547e50bccd9223ed19b2c96489797", func := "loop.example/g00710/laws.FnCentered", spec := "fnCentered", named := ["loop.example/g00710/impl.fieldTable"], apart := false, laid := [("loop.example/g00710/impl.fieldTable", laid_loop_example_g00710_impl_fieldTable)] }
def FnCenteredSaid : Prop := fnCenteredRow.holds Tryd.pinned (OpenSpec.ofChange fnCenteredSpec)

/-- ITS FALSE NEIGHBOUR: 'it returns false'. Refute it at one input. -/
def fnCenteredWrong : ChangeSpec := { name := "fnCentered", vars := ["loop.example/g00710/impl.fieldTable"], fn := fun _ => fun
  | [d, g1] => { results := [.lit (.bool false)], args := [d], vars := [g1] }
  | _ => none }
def FnCenteredWrongFalsely : Prop := fnCenteredRow.holds Tryd.pinned (OpenSpec.ofChange fnCenteredWrong)

/-- 'laws.FnConvByFields': WHATEVER THE INPUT: true; the input reads as it did. -/
def fnConvByFieldsSpec : ChangeSpec := { name := "fnConvByFields", vars := ["loop.example/g00710/impl.fieldTable"], fn := fun _ => fun
  | [d, g1] => { results := [.lit (.bool true)], args := [d], vars := [g1] }
  | _ => none }
def fnConvByFieldsRow : OpenClaim := { program := "ytaapmpjkcddababdoor", sum := "ddadc0c7e3f2337b07c9ce95c085faede0c547e50bccd9223ed19b2c96489797", func := "loop.example/g00710/laws.FnConvByFields", spec := "fnConvByFields", named := ["loop.example/g00710/impl.fieldTable"], apart := false, laid := [("loop.example/g00710/impl.fieldTable", laid_loop_example_g00710_impl_fieldTable)] }
def FnConvByFieldsSaid : Prop := fnConvByFieldsRow.holds Tryd.pinned (OpenSpec.ofChange fnConvByFieldsSpec)

/-- ITS FALSE NEIGHBOUR: 'it returns false'. Refute it at one input. -/
def fnConvByFieldsWrong : ChangeSpec := { name := "fnConvByFields", vars := ["loop.example/g00710/impl.fieldTable"], fn := fun _ => fun
  | [d, g1] => { results := [.lit (.bool false)], args := [d], vars := [g1] }
  | _ => none }
def FnConvByFieldsWrongFalsely : Prop := fnConvByFieldsRow.holds Tryd.pinned (OpenSpec.ofChange fnConvByFieldsWrong)

/-- 'laws.FnTexts': WHATEVER THE INPUT: true; the input reads as it did. -/
def fnTextsSpec : ChangeSpec := { name := "fnTexts", vars := ["loop.example/g00710/impl.fieldTable"], fn := fun _ => fun
  | [d, g1] => { results := [.lit (.bool true)], args := [d], vars := [g1] }
  | _ => none }
def fnTextsRow : OpenClaim := { program := "ytaapmpjkcddababdoor", sum := "ddadc0c7e3f2337b07c9ce95c085faede0c547e50bccd9223ed19b2c96489797", func := "loop.example/g00710/laws.FnTexts", spec := "fnTexts", named := ["loop.example/g00710/impl.fieldTable"], apart := false, laid := [("loop.example/g00710/impl.fieldTable", laid_loop_example_g00710_impl_fieldTable)] }
def FnTextsSaid : Prop := fnTextsRow.holds Tryd.pinned (OpenSpec.ofChange fnTextsSpec)

/-- ITS FALSE NEIGHBOUR: 'it returns false'. Refute it at one input. -/
def fnTextsWrong : ChangeSpec := { name := "fnTexts", vars := ["loop.example/g00710/impl.fieldTable"], fn := fun _ => fun
  | [d, g1] => { results := [.lit (.bool false)], args := [d], vars := [g1] }
  | _ => none }
def FnTextsWrongFalsely : Prop := fnTextsRow.holds Tryd.pinned (OpenSpec.ofChange fnTextsWrong)

/-- 'laws.FnPowText': WHATEVER THE INPUT: true; the input reads as it did. -/
def fnPowTextSpec : ChangeSpec := { name := "fnPowText", vars := ["loop.example/g00710/impl.fieldTable"], fn := fun _ => fun
  | [d, g1] => { results := [.lit (.bool true)], args := [d], vars := [g1] }
  | _ => none }
def fnPowTextRow : OpenClaim := { program := "ytaapmpjkcddababdoor", sum := "ddadc0c7e3f2337b07c9ce95c085faede0c547e50bccd9223ed19b2c96489797", func := "loop.example/g00710/laws.FnPowText", spec := "fnPowText", named := ["loop.example/g00710/impl.fieldTable"], apart := false, laid := [("loop.example/g00710/impl.fieldTable", laid_loop_example_g00710_impl_fieldTable)] }
def FnPowTextSaid : Prop := fnPowTextRow.holds Tryd.pinned (OpenSpec.ofChange fnPowTextSpec)

/-- ITS FALSE NEIGHBOUR: 'it returns false'. Refute it at one input. -/
def fnPowTextWrong : ChangeSpec := { name := "fnPowText", vars := ["loop.example/g00710/impl.fieldTable"], fn := fun _ => fun
  | [d, g1] => { results := [.lit (.bool false)], args := [d], vars := [g1] }
  | _ => none }
def FnPowTextWrongFalsely : Prop := fnPowTextRow.holds Tryd.pinned (OpenSpec.ofChange fnPowTextWrong)

/- THE SECOND FORM. 'bulk': how many values and letters a reading holds, each counted each time it is reached (what is shared counts as often as it is met; a slice's spare places count too). A statement '..UptoSaid' is the law's where the arguments, and the package variables that the reading takes, are together of bulk at most 1048576: NARROWER than '..Said'. Prove '..Said' where nothing that the law and all that it calls make is longer than what came in: it says more and counts as full. Else prove '..UptoSaid'. A law counts once. -/
mutual
def uptoBulk {H : Type} : DataW H → Nat
  | .lit (.string bytes) => bytes.length + 1
  | .lit _ => 1
  | .nil => 1
  | .ptr d => uptoBulk d + 1
  | .slice elems spare => uptoBulkAll elems + uptoBulkAll spare + 1
  | .agg parts => uptoBulkAll parts + 1
  | .iface _ d => uptoBulk d + 1
  | .map entries => uptoBulkEntries entries + 1
  | .held _ => 1
def uptoBulkAll {H : Type} : List (DataW H) → Nat
  | [] => 0
  | d :: r => uptoBulk d + uptoBulkAll r
def uptoBulkEntries {H : Type} : List (Lit × DataW H) → Nat
  | [] => 0
  | x :: r => uptoBulkEntry x + uptoBulkEntries r
def uptoBulkEntry {H : Type} : Lit × DataW H → Nat
  | (.string bytes, d) => bytes.length + uptoBulk d + 1
  | (_, d) => uptoBulk d + 1
 end
def uptoSmall : (H : Type) → List (DataW H) → Bool := fun _ ds => decide (uptoBulkAll ds ≤ 1048576)
def OpenSpec.upto (s : _root_.Go.ChangeSpec) : _root_.Go.OpenSpec := { _root_.Go.OpenSpec.ofChange s with cond := some uptoSmall }

/-- 'laws.FnExactMulText', WHERE WHAT IT READS IS OF BULK AT MOST 1048576: true; the input reads as it did. -/
def fnExactMulTextUptoRow : OpenClaim := { program := "ytaapmpjkcddababdoor", sum := "ddadc0c7e3f2337b07c9ce95c085faede0c547e50bccd9223ed19b2c96489797", func := "loop.example/g00710/laws.FnExactMulText", spec := "fnExactMulText", named := ["loop.example/g00710/impl.fieldTable"], apart := false, laid := [("loop.example/g00710/impl.fieldTable", laid_loop_example_g00710_impl_fieldTable)], narrowed := true }
def FnExactMulTextUptoSaid : Prop := fnExactMulTextUptoRow.holds Tryd.pinned (OpenSpec.upto fnExactMulTextSpec)

/-- 'laws.FnExactPowText', WHERE WHAT IT READS IS OF BULK AT MOST 1048576: true; the input reads as it did. -/
def fnExactPowTextUptoRow : OpenClaim := { program := "ytaapmpjkcddababdoor", sum := "ddadc0c7e3f2337b07c9ce95c085faede0c547e50bccd9223ed19b2c96489797", func := "loop.example/g00710/laws.FnExactPowText", spec := "fnExactPowText", named := ["loop.example/g00710/impl.fieldTable"], apart := false, laid := [("loop.example/g00710/impl.fieldTable", laid_loop_example_g00710_impl_fieldTable)], narrowed := true }
def FnExactPowTextUptoSaid : Prop := fnExactPowTextUptoRow.holds Tryd.pinned (OpenSpec.upto fnExactPowTextSpec)

/-- 'laws.FnCentered', WHERE WHAT IT READS IS OF BULK AT MOST 1048576: true; the input reads as it did. -/
def fnCenteredUptoRow : OpenClaim := { program := "ytaapmpjkcddababdoor", sum := "ddadc0c7e3f2337b07c9ce95c085faede0c547e50bccd9223ed19b2c96489797", func := "loop.example/g00710/laws.FnCentered", spec := "fnCentered", named := ["loop.example/g00710/impl.fieldTable"], apart := false, laid := [("loop.example/g00710/impl.fieldTable", laid_loop_example_g00710_impl_fieldTable)], narrowed := true }
def FnCenteredUptoSaid : Prop := fnCenteredUptoRow.holds Tryd.pinned (OpenSpec.upto fnCenteredSpec)

/-- 'laws.FnConvByFields', WHERE WHAT IT READS IS OF BULK AT MOST 1048576: true; the input reads as it did. -/
def fnConvByFieldsUptoRow : OpenClaim := { program := "ytaapmpjkcddababdoor", sum := "ddadc0c7e3f2337b07c9ce95c085faede0c547e50bccd9223ed19b2c96489797", func := "loop.example/g00710/laws.FnConvByFields", spec := "fnConvByFields", named := ["loop.example/g00710/impl.fieldTable"], apart := false, laid := [("loop.example/g00710/impl.fieldTable", laid_loop_example_g00710_impl_fieldTable)], narrowed := true }
def FnConvByFieldsUptoSaid : Prop := fnConvByFieldsUptoRow.holds Tryd.pinned (OpenSpec.upto fnConvByFieldsSpec)

/-- 'laws.FnTexts', WHERE WHAT IT READS IS OF BULK AT MOST 1048576: true; the input reads as it did. -/
def fnTextsUptoRow : OpenClaim := { program := "ytaapmpjkcddababdoor", sum := "ddadc0c7e3f2337b07c9ce95c085faede0c547e50bccd9223ed19b2c96489797", func := "loop.example/g00710/laws.FnTexts", spec := "fnTexts", named := ["loop.example/g00710/impl.fieldTable"], apart := false, laid := [("loop.example/g00710/impl.fieldTable", laid_loop_example_g00710_impl_fieldTable)], narrowed := true }
def FnTextsUptoSaid : Prop := fnTextsUptoRow.holds Tryd.pinned (OpenSpec.upto fnTextsSpec)

/-- 'laws.FnPowText', WHERE WHAT IT READS IS OF BULK AT MOST 1048576: true; the input reads as it did. -/
def fnPowTextUptoRow : OpenClaim := { program := "ytaapmpjkcddababdoor", sum := "ddadc0c7e3f2337b07c9ce95c085faede0c547e50bccd9223ed19b2c96489797", func := "loop.example/g00710/laws.FnPowText", spec := "fnPowText", named := ["loop.example/g00710/impl.fieldTable"], apart := false, laid := [("loop.example/g00710/impl.fieldTable", laid_loop_example_g00710_impl_fieldTable)], narrowed := true }
def FnPowTextUptoSaid : Prop := fnPowTextUptoRow.holds Tryd.pinned (OpenSpec.upto fnPowTextSpec)

end Rows
end Go.Proofs.YtaapmpjkcddababDoor
