/-
  NARROWER THAN 'FOR EVERY INPUT', by the rows' own cells (each row's printed sentence says how): FnExactConvPoly: laid · FnForwardBack: laid · FnConvolution: laid · FnStages: laid · FnEnergy: laid · FnRotate: laid · FnTwistedFold: laid.
  DERIVED. THE GIVEN ROWS OF THIS SEAT. 7 by the template 'for every input the law returns true; each argument reads behind the call as it read before'; 0 by the template 'total and deterministic' (their statements: YtnipffmookkkdabDoorTotals.lean).
  GIVEN WITH THE SEED: the statements are not yours to turn. If you find one false, say at which input.
  Laid BY PROGRAM, IN A SANDBOX (cutbox-rows.mjs): the forced cells as the released guide's own fill.sh prints them over the translation f69a7f35d4adb8a1… (all of the seat's roots in one cut). By AI agents, Wed Nov 11 2026. No macro, syntax, notation, axiom, sorry.
-/
import Derived.Test.YtnipffmookkkdabDoorChecked
import GoSem.Claim
import GoSem.ClaimJoined
import GoSem.ClaimMapViews
import Derived.JoinedTies
import Derived.KernelRfl
namespace Go.Proofs.YtnipffmookkkdabDoor
/- THE CELL 'sum', in the pinned program and in every row, IS THE sha256 OF THE DUMP (.gsa) THAT YtnipffmookkkdabDoorProg.lean LOADS. Nothing in Lean hashes anything: it is a label: what it is worth is what the hold of that sum in a sandbox is worth. -/
noncomputable def Tryd.pinned : Pinned := { name := "ytnipffmookkkdabdoor", sum := "f69a7f35d4adb8a1f6d032aa1cbf48f19d48f779ba4f6a4d947fd9789e2f47aa", checked := Tryd.checked }
namespace Rows
def none {H : Type} : Left H := { results := [], args := [] }

/- WHAT THE LISTED PACKAGE-LEVEL VARIABLES READ AS WHEN THE CALL BEGINS. Each datum BY PROGRAM (the guide's laid-datum.mjs) off the statement by which the dump's own 'gosem.cut.vars' lays the variable. In a bare row this is a premise. The card (YtnipffmookkkdabDoorCards.lean) ties it to the program's text. -/
def laid_loop_example_g00710_impl_fieldTable {H : Type} : DataW H := .agg [.agg [.lit (.int .i64 17), .lit (.int .i64 3), .lit (.int .i64 4)], .agg [.lit (.int .i64 97), .lit (.int .i64 5), .lit (.int .i64 5)], .agg [.lit (.int .i64 193), .lit (.int .i64 5), .lit (.int .i64 6)], .agg [.lit (.int .i64 257), .lit (.int .i64 3), .lit (.int .i64 8)], .agg [.lit (.int .i64 7681), .lit (.int .i64 17), .lit (.int .i64 9)], .agg [.lit (.int .i64 12289), .lit (.int .i64 11), .lit (.int .i64 12)], .agg [.lit (.int .i64 998244353), .lit (.int .i64 3), .lit (.int .i64 23)], .agg [.lit (.int .i64 469762049), .lit (.int .i64 3), .lit (.int .i64 26)], .agg [.lit (.int .i64 1004535809), .lit (.int .i64 3), .lit (.int .i64 21)]]

/-- 'laws.FnExactConvPoly': WHATEVER THE INPUT: true; the input reads as it did. -/
def fnExactConvPolySpec : ChangeSpec := { name := "fnExactConvPoly", vars := ["loop.example/g00710/impl.fieldTable"], fn := fun _ => fun
  | [d1, d2, d3, g1] => { results := [.lit (.bool true)], args := [d1, d2, d3], vars := [g1] }
  | _ => none }
def fnExactConvPolyRow : OpenClaim := { program := "ytnipffmookkkdabdoor", sum := "f69a7f35d4adb8a1f6d032aa1cbf48f19d48f779ba4f6a4d947fd9789e2f47aa", func := "loop.example/g00710/laws.FnExactConvPoly", spec := "fnExactConvPoly", unfollowed := true, recurses := true, named := ["loop.example/g00710/impl.fieldTable"], apart := false, laid := [("loop.example/g00710/impl.fieldTable", laid_loop_example_g00710_impl_fieldTable)] }
def FnExactConvPolySaid : Prop := fnExactConvPolyRow.holds Tryd.pinned (OpenSpec.ofChange fnExactConvPolySpec)

/-- ITS FALSE NEIGHBOUR: 'it returns false'. Refute it at one input. -/
def fnExactConvPolyWrong : ChangeSpec := { name := "fnExactConvPoly", vars := ["loop.example/g00710/impl.fieldTable"], fn := fun _ => fun
  | [d1, d2, d3, g1] => { results := [.lit (.bool false)], args := [d1, d2, d3], vars := [g1] }
  | _ => none }
def FnExactConvPolyWrongFalsely : Prop := fnExactConvPolyRow.holds Tryd.pinned (OpenSpec.ofChange fnExactConvPolyWrong)

/-- 'laws.FnForwardBack': WHATEVER THE INPUT: true; the input reads as it did. -/
def fnForwardBackSpec : ChangeSpec := { name := "fnForwardBack", vars := ["loop.example/g00710/impl.fieldTable"], fn := fun _ => fun
  | [d, g1] => { results := [.lit (.bool true)], args := [d], vars := [g1] }
  | _ => none }
def fnForwardBackRow : OpenClaim := { program := "ytnipffmookkkdabdoor", sum := "f69a7f35d4adb8a1f6d032aa1cbf48f19d48f779ba4f6a4d947fd9789e2f47aa", func := "loop.example/g00710/laws.FnForwardBack", spec := "fnForwardBack", unfollowed := true, recurses := true, named := ["loop.example/g00710/impl.fieldTable"], apart := false, laid := [("loop.example/g00710/impl.fieldTable", laid_loop_example_g00710_impl_fieldTable)] }
def FnForwardBackSaid : Prop := fnForwardBackRow.holds Tryd.pinned (OpenSpec.ofChange fnForwardBackSpec)

/-- ITS FALSE NEIGHBOUR: 'it returns false'. Refute it at one input. -/
def fnForwardBackWrong : ChangeSpec := { name := "fnForwardBack", vars := ["loop.example/g00710/impl.fieldTable"], fn := fun _ => fun
  | [d, g1] => { results := [.lit (.bool false)], args := [d], vars := [g1] }
  | _ => none }
def FnForwardBackWrongFalsely : Prop := fnForwardBackRow.holds Tryd.pinned (OpenSpec.ofChange fnForwardBackWrong)

/-- 'laws.FnConvolution': WHATEVER THE INPUT: true; the input reads as it did. -/
def fnConvolutionSpec : ChangeSpec := { name := "fnConvolution", vars := ["loop.example/g00710/impl.fieldTable"], fn := fun _ => fun
  | [d, g1] => { results := [.lit (.bool true)], args := [d], vars := [g1] }
  | _ => none }
def fnConvolutionRow : OpenClaim := { program := "ytnipffmookkkdabdoor", sum := "f69a7f35d4adb8a1f6d032aa1cbf48f19d48f779ba4f6a4d947fd9789e2f47aa", func := "loop.example/g00710/laws.FnConvolution", spec := "fnConvolution", unfollowed := true, recurses := true, named := ["loop.example/g00710/impl.fieldTable"], apart := false, laid := [("loop.example/g00710/impl.fieldTable", laid_loop_example_g00710_impl_fieldTable)] }
def FnConvolutionSaid : Prop := fnConvolutionRow.holds Tryd.pinned (OpenSpec.ofChange fnConvolutionSpec)

/-- ITS FALSE NEIGHBOUR: 'it returns false'. Refute it at one input. -/
def fnConvolutionWrong : ChangeSpec := { name := "fnConvolution", vars := ["loop.example/g00710/impl.fieldTable"], fn := fun _ => fun
  | [d, g1] => { results := [.lit (.bool false)], args := [d], vars := [g1] }
  | _ => none }
def FnConvolutionWrongFalsely : Prop := fnConvolutionRow.holds Tryd.pinned (OpenSpec.ofChange fnConvolutionWrong)

/-- 'laws.FnStages': WHATEVER THE INPUT: true; the input reads as it did. -/
def fnStagesSpec : ChangeSpec := { name := "fnStages", vars := ["loop.example/g00710/impl.fieldTable"], fn := fun _ => fun
  | [d, g1] => { results := [.lit (.bool true)], args := [d], vars := [g1] }
  | _ => none }
def fnStagesRow : OpenClaim := { program := "ytnipffmookkkdabdoor", sum := "f69a7f35d4adb8a1f6d032aa1cbf48f19d48f779ba4f6a4d947fd9789e2f47aa", func := "loop.example/g00710/laws.FnStages", spec := "fnStages", unfollowed := true, recurses := true, named := ["loop.example/g00710/impl.fieldTable"], apart := false, laid := [("loop.example/g00710/impl.fieldTable", laid_loop_example_g00710_impl_fieldTable)] }
def FnStagesSaid : Prop := fnStagesRow.holds Tryd.pinned (OpenSpec.ofChange fnStagesSpec)

/-- ITS FALSE NEIGHBOUR: 'it returns false'. Refute it at one input. -/
def fnStagesWrong : ChangeSpec := { name := "fnStages", vars := ["loop.example/g00710/impl.fieldTable"], fn := fun _ => fun
  | [d, g1] => { results := [.lit (.bool false)], args := [d], vars := [g1] }
  | _ => none }
def FnStagesWrongFalsely : Prop := fnStagesRow.holds Tryd.pinned (OpenSpec.ofChange fnStagesWrong)

/-- 'laws.FnEnergy': WHATEVER THE INPUT: true; the input reads as it did. -/
def fnEnergySpec : ChangeSpec := { name := "fnEnergy", vars := ["loop.example/g00710/impl.fieldTable"], fn := fun _ => fun
  | [d, g1] => { results := [.lit (.bool true)], args := [d], vars := [g1] }
  | _ => none }
def fnEnergyRow : OpenClaim := { program := "ytnipffmookkkdabdoor", sum := "f69a7f35d4adb8a1f6d032aa1cbf48f19d48f779ba4f6a4d947fd9789e2f47aa", func := "loop.example/g00710/laws.FnEnergy", spec := "fnEnergy", unfollowed := true, recurses := true, named := ["loop.example/g00710/impl.fieldTable"], apart := false, laid := [("loop.example/g00710/impl.fieldTable", laid_loop_example_g00710_impl_fieldTable)] }
def FnEnergySaid : Prop := fnEnergyRow.holds Tryd.pinned (OpenSpec.ofChange fnEnergySpec)

/-- ITS FALSE NEIGHBOUR: 'it returns false'. Refute it at one input. -/
def fnEnergyWrong : ChangeSpec := { name := "fnEnergy", vars := ["loop.example/g00710/impl.fieldTable"], fn := fun _ => fun
  | [d, g1] => { results := [.lit (.bool false)], args := [d], vars := [g1] }
  | _ => none }
def FnEnergyWrongFalsely : Prop := fnEnergyRow.holds Tryd.pinned (OpenSpec.ofChange fnEnergyWrong)

/-- 'laws.FnRotate': WHATEVER THE INPUT: true; the input reads as it did. -/
def fnRotateSpec : ChangeSpec := { name := "fnRotate", vars := ["loop.example/g00710/impl.fieldTable"], fn := fun _ => fun
  | [d, g1] => { results := [.lit (.bool true)], args := [d], vars := [g1] }
  | _ => none }
def fnRotateRow : OpenClaim := { program := "ytnipffmookkkdabdoor", sum := "f69a7f35d4adb8a1f6d032aa1cbf48f19d48f779ba4f6a4d947fd9789e2f47aa", func := "loop.example/g00710/laws.FnRotate", spec := "fnRotate", unfollowed := true, recurses := true, named := ["loop.example/g00710/impl.fieldTable"], apart := false, laid := [("loop.example/g00710/impl.fieldTable", laid_loop_example_g00710_impl_fieldTable)] }
def FnRotateSaid : Prop := fnRotateRow.holds Tryd.pinned (OpenSpec.ofChange fnRotateSpec)

/-- ITS FALSE NEIGHBOUR: 'it returns false'. Refute it at one input. -/
def fnRotateWrong : ChangeSpec := { name := "fnRotate", vars := ["loop.example/g00710/impl.fieldTable"], fn := fun _ => fun
  | [d, g1] => { results := [.lit (.bool false)], args := [d], vars := [g1] }
  | _ => none }
def FnRotateWrongFalsely : Prop := fnRotateRow.holds Tryd.pinned (OpenSpec.ofChange fnRotateWrong)

/-- 'laws.FnTwistedFold': WHATEVER THE INPUT: true; the input reads as it did. -/
def fnTwistedFoldSpec : ChangeSpec := { name := "fnTwistedFold", vars := ["loop.example/g00710/impl.fieldTable"], fn := fun _ => fun
  | [d, g1] => { results := [.lit (.bool true)], args := [d], vars := [g1] }
  | _ => none }
def fnTwistedFoldRow : OpenClaim := { program := "ytnipffmookkkdabdoor", sum := "f69a7f35d4adb8a1f6d032aa1cbf48f19d48f779ba4f6a4d947fd9789e2f47aa", func := "loop.example/g00710/laws.FnTwistedFold", spec := "fnTwistedFold", named := ["loop.example/g00710/impl.fieldTable"], apart := false, laid := [("loop.example/g00710/impl.fieldTable", laid_loop_example_g00710_impl_fieldTable)] }
def FnTwistedFoldSaid : Prop := fnTwistedFoldRow.holds Tryd.pinned (OpenSpec.ofChange fnTwistedFoldSpec)

/-- ITS FALSE NEIGHBOUR: 'it returns false'. Refute it at one input. -/
def fnTwistedFoldWrong : ChangeSpec := { name := "fnTwistedFold", vars := ["loop.example/g00710/impl.fieldTable"], fn := fun _ => fun
  | [d, g1] => { results := [.lit (.bool false)], args := [d], vars := [g1] }
  | _ => none }
def FnTwistedFoldWrongFalsely : Prop := fnTwistedFoldRow.holds Tryd.pinned (OpenSpec.ofChange fnTwistedFoldWrong)

/- THE SECOND FORM. 'bulk': how many values and letters a reading holds, each counted each time it is reached (what is shared counts as often as it is met; a slice's spare places count too). A statement '..UptoSaid' is the law's where the arguments, and the package variables that the reading takes, are together of bulk at most 1048576: NARROWER than '..Said'. Prove '..Said' where nothing that the law and all that it calls make is longer than what came in: it says more and counts as full. Else prove '..UptoSaid'. A law counts once. -/
mutual
def uptoBulk {H : Type} : DataW H → Nat
  | .lit (.string bytes) => bytes.length + 1
  | .lit _ => 1
  | .nil => 1
  | .ptr d => uptoBulk d + 1
  | .slice elems spare => uptoBulkAll elems + uptoBulkAll spare + 1
  | .agg parts => uptoBulkAll parts + 1
  | .iface _ d => uptoBulk d + 1
  | .map entries => uptoBulkEntries entries + 1
  | .held _ => 1
def uptoBulkAll {H : Type} : List (DataW H) → Nat
  | [] => 0
  | d :: r => uptoBulk d + uptoBulkAll r
def uptoBulkEntries {H : Type} : List (Lit × DataW H) → Nat
  | [] => 0
  | x :: r => uptoBulkEntry x + uptoBulkEntries r
def uptoBulkEntry {H : Type} : Lit × DataW H → Nat
  | (.string bytes, d) => bytes.length + uptoBulk d + 1
  | (_, d) => uptoBulk d + 1
 end
def uptoSmall : (H : Type) → List (DataW H) → Bool := fun _ ds => decide (uptoBulkAll ds ≤ 1048576)
def OpenSpec.upto (s : _root_.Go.ChangeSpec) : _root_.Go.OpenSpec := { _root_.Go.OpenSpec.ofChange s with cond := some uptoSmall }

/-- 'laws.FnExactConvPoly', WHERE WHAT IT READS IS OF BULK AT MOST 1048576: true; the input reads as it did. -/
def fnExactConvPolyUptoRow : OpenClaim := { program := "ytnipffmookkkdabdoor", sum := "f69a7f35d4adb8a1f6d032aa1cbf48f19d48f779ba4f6a4d947fd9789e2f47aa", func := "loop.example/g00710/laws.FnExactConvPoly", spec := "fnExactConvPoly", unfollowed := true, recurses := true, named := ["loop.example/g00710/impl.fieldTable"], apart := false, laid := [("loop.example/g00710/impl.fieldTable", laid_loop_example_g00710_impl_fieldTable)], narrowed := true }
def FnExactConvPolyUptoSaid : Prop := fnExactConvPolyUptoRow.holds Tryd.pinned (OpenSpec.upto fnExactConvPolySpec)

/-- 'laws.FnForwardBack', WHERE WHAT IT READS IS OF BULK AT MOST 1048576: true; the input reads as it did. -/
def fnForwardBackUptoRow : OpenClaim := { program := "ytnipffmookkkdabdoor", sum := "f69a7f35d4adb8a1f6d032aa1cbf48f19d48f779ba4f6a4d947fd9789e2f47aa", func := "loop.example/g00710/laws.FnForwardBack", spec := "fnForwardBack", unfollowed := true, recurses := true, named := ["loop.example/g00710/impl.fieldTable"], apart := false, laid := [("loop.example/g00710/impl.fieldTable", laid_loop_example_g00710_impl_fieldTable)], narrowed := true }
def FnForwardBackUptoSaid : Prop := fnForwardBackUptoRow.holds Tryd.pinned (OpenSpec.upto fnForwardBackSpec)

/-- 'laws.FnConvolution', WHERE WHAT IT READS IS OF BULK AT MOST 1048576: true; the input reads as it did. -/
def fnConvolutionUptoRow : OpenClaim := { program := "ytnipffmookkkdabdoor", sum := "f69a7f35d4adb8a1f6d032aa1cbf48f19d48f779ba4f6a4d947fd9789e2f47aa", func := "loop.example/g00710/laws.FnConvolution", spec := "fnConvolution", unfollowed := true, recurses := true, named := ["loop.example/g00710/impl.fieldTable"], apart := false, laid := [("loop.example/g00710/impl.fieldTable", laid_loop_example_g00710_impl_fieldTable)], narrowed := true }
def FnConvolutionUptoSaid : Prop := fnConvolutionUptoRow.holds Tryd.pinned (OpenSpec.upto fnConvolutionSpec)

/-- 'laws.FnStages', WHERE WHAT IT READS IS OF BULK AT MOST 1048576: true; the input reads as it did. -/
def fnStagesUptoRow : OpenClaim := { program := "ytnipffmookkkdabdoor", sum := "f69a7f35d4adb8a1f6d032aa1cbf48f19d48f779ba4f6a4d947fd9789e2f47aa", func := "loop.example/g00710/laws.FnStages", spec := "fnStages", unfollowed := true, recurses := true, named := ["loop.example/g00710/impl.fieldTable"], apart := false, laid := [("loop.example/g00710/impl.fieldTable", laid_loop_example_g00710_impl_fieldTable)], narrowed := true }
def FnStagesUptoSaid : Prop := fnStagesUptoRow.holds Tryd.pinned (OpenSpec.upto fnStagesSpec)

/-- 'laws.FnEnergy', WHERE WHAT IT READS IS OF BULK AT MOST 1048576: true; the input reads as it did. -/
def fnEnergyUptoRow : OpenClaim := { program := "ytnipffmookkkdabdoor", sum := "f69a7f35d4adb8a1f6d032aa1cbf48f19d48f779ba4f6a4d947fd9789e2f47aa", func := "loop.example/g00710/laws.FnEnergy", spec := "fnEnergy", unfollowed := true, recurses := true, named := ["loop.example/g00710/impl.fieldTable"], apart := false, laid := [("loop.example/g00710/impl.fieldTable", laid_loop_example_g00710_impl_fieldTable)], narrowed := true }
def FnEnergyUptoSaid : Prop := fnEnergyUptoRow.holds Tryd.pinned (OpenSpec.upto fnEnergySpec)

/-- 'laws.FnRotate', WHERE WHAT IT READS IS OF BULK AT MOST 1048576: true; the input reads as it did. -/
def fnRotateUptoRow : OpenClaim := { program := "ytnipffmookkkdabdoor", sum := "f69a7f35d4adb8a1f6d032aa1cbf48f19d48f779ba4f6a4d947fd9789e2f47aa", func := "loop.example/g00710/laws.FnRotate", spec := "fnRotate", unfollowed := true, recurses := true, named := ["loop.example/g00710/impl.fieldTable"], apart := false, laid := [("loop.example/g00710/impl.fieldTable", laid_loop_example_g00710_impl_fieldTable)], narrowed := true }
def FnRotateUptoSaid : Prop := fnRotateUptoRow.holds Tryd.pinned (OpenSpec.upto fnRotateSpec)

/-- 'laws.FnTwistedFold', WHERE WHAT IT READS IS OF BULK AT MOST 1048576: true; the input reads as it did. -/
def fnTwistedFoldUptoRow : OpenClaim := { program := "ytnipffmookkkdabdoor", sum := "f69a7f35d4adb8a1f6d032aa1cbf48f19d48f779ba4f6a4d947fd9789e2f47aa", func := "loop.example/g00710/laws.FnTwistedFold", spec := "fnTwistedFold", named := ["loop.example/g00710/impl.fieldTable"], apart := false, laid := [("loop.example/g00710/impl.fieldTable", laid_loop_example_g00710_impl_fieldTable)], narrowed := true }
def FnTwistedFoldUptoSaid : Prop := fnTwistedFoldUptoRow.holds Tryd.pinned (OpenSpec.upto fnTwistedFoldSpec)

end Rows
end Go.Proofs.YtnipffmookkkdabDoor
