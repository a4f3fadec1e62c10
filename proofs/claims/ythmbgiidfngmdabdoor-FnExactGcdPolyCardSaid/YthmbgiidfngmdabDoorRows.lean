/-
  NARROWER THAN 'FOR EVERY INPUT', by the rows' own cells (each row's printed sentence says how): FnExactCompose: laid · FnExactDivMod: laid · FnExactEvalPoly: laid · FnExactGcdPoly: laid · FnExactMulPoly: laid · FnExactPowMod: laid · FnExactSquareFree: laid.
  DERIVED. THE GIVEN ROWS OF THIS SEAT. 7 by the template 'for every input the law returns true; each argument reads behind the call as it read before'; 0 by the template 'total and deterministic' (their statements: YthmbgiidfngmdabDoorTotals.lean).
  GIVEN WITH THE SEED: the statements are not yours to turn. If you find one false, say at which input.
  Laid BY PROGRAM, IN A SANDBOX (cutbox-rows.mjs): the forced cells as the released guide's own fill.sh prints them over the translation 024a0c8ebcf88224… (all of the seat's roots in one cut). By AI agents, Wed Nov 11 2026. No macro, syntax, notation, axiom, sorry.
-/
import Derived.Test.YthmbgiidfngmdabDoorChecked
import GoSem.Claim
import GoSem.ClaimJoined
import GoSem.ClaimMapViews
import Derived.JoinedTies
import Derived.KernelRfl
namespace Go.Proofs.YthmbgiidfngmdabDoor
/- THE CELL 'sum', in the pinned program and in every row, IS THE sha256 OF THE DUMP (.gsa) THAT YthmbgiidfngmdabDoorProg.lean LOADS. Nothing in Lean hashes anything: it is a label: what it is worth is what the hold of that sum in a sandbox is worth. -/
noncomputable def Tryd.pinned : Pinned := { name := "ythmbgiidfngmdabdoor", sum := "024a0c8ebcf882244f46d9d12097b835a842609182efa94fc0078aa091c6eade", checked := Tryd.checked }
namespace Rows
def none {H : Type} : Left H := { results := [], args := [] }

/- WHAT THE LISTED PACKAGE-LEVEL VARIABLES READ AS WHEN THE CALL BEGINS. Each datum BY PROGRAM (the guide's laid-datum.mjs) off the statement by which the dump's own 'gosem.cut.vars' lays the variable. In a bare row this is a premise. The card (YthmbgiidfngmdabDoorCards.lean) ties it to the program's text. -/
def laid_loop_example_g00710_impl_fieldTable {H : Type} : DataW H := .agg [.agg [.lit (.int .i64 17), .lit (.int .i64 3), .lit (.int .i64 4)], .agg [.lit (.int .i64 97), .lit (.int .i64 5), .lit (.int .i64 5)], .agg [.lit (.int .i64 193), .lit (.int .i64 5), .lit (.int .i64 6)], .agg [.lit (.int .i64 257), .lit (.int .i64 3), .lit (.int .i64 8)], .agg [.lit (.int .i64 7681), .lit (.int .i64 17), .lit (.int .i64 9)], .agg [.lit (.int .i64 12289), .lit (.int .i64 11), .lit (.int .i64 12)], .agg [.lit (.int .i64 998244353), .lit (.int .i64 3), .lit (.int .i64 23)], .agg [.lit (.int .i64 469762049), .lit (.int .i64 3), .lit (.int .i64 26)], .agg [.lit (.int .i64 1004535809), .lit (.int .i64 3), .lit (.int .i64 21)]]

/-- 'laws.FnExactCompose': WHATEVER THE INPUT: true; the input reads as it did. -/
def fnExactComposeSpec : ChangeSpec := { name := "fnExactCompose", vars := ["loop.example/g00710/impl.fieldTable"], fn := fun _ => fun
  | [d1, d2, d3, g1] => { results := [.lit (.bool true)], args := [d1, d2, d3], vars := [g1] }
  | _ => none }
def fnExactComposeRow : OpenClaim := { program := "ythmbgiidfngmdabdoor", sum := "024a0c8ebcf882244f46d9d12097b835a842609182efa94fc0078aa091c6eade", func := "loop.example/g00710/laws.FnExactCompose", spec := "fnExactCompose", named := ["loop.example/g00710/impl.fieldTable"], apart := false, laid := [("loop.example/g00710/impl.fieldTable", laid_loop_example_g00710_impl_fieldTable)] }
def FnExactComposeSaid : Prop := fnExactComposeRow.holds Tryd.pinned (OpenSpec.ofChange fnExactComposeSpec)

/-- ITS FALSE NEIGHBOUR: 'it returns false'. Refute it at one input. -/
def fnExactComposeWrong : ChangeSpec := { name := "fnExactCompose", vars := ["loop.example/g00710/impl.fieldTable"], fn := fun _ => fun
  | [d1, d2, d3, g1] => { results := [.lit (.bool false)], args := [d1, d2, d3], vars := [g1] }
  | _ => none }
def FnExactComposeWrongFalsely : Prop := fnExactComposeRow.holds Tryd.pinned (OpenSpec.ofChange fnExactComposeWrong)

/-- 'laws.FnExactDivMod': WHATEVER THE INPUT: true; the input reads as it did. -/
def fnExactDivModSpec : ChangeSpec := { name := "fnExactDivMod", vars := ["loop.example/g00710/impl.fieldTable"], fn := fun _ => fun
  | [d1, d2, d3, g1] => { results := [.lit (.bool true)], args := [d1, d2, d3], vars := [g1] }
  | _ => none }
def fnExactDivModRow : OpenClaim := { program := "ythmbgiidfngmdabdoor", sum := "024a0c8ebcf882244f46d9d12097b835a842609182efa94fc0078aa091c6eade", func := "loop.example/g00710/laws.FnExactDivMod", spec := "fnExactDivMod", named := ["loop.example/g00710/impl.fieldTable"], apart := false, laid := [("loop.example/g00710/impl.fieldTable", laid_loop_example_g00710_impl_fieldTable)] }
def FnExactDivModSaid : Prop := fnExactDivModRow.holds Tryd.pinned (OpenSpec.ofChange fnExactDivModSpec)

/-- ITS FALSE NEIGHBOUR: 'it returns false'. Refute it at one input. -/
def fnExactDivModWrong : ChangeSpec := { name := "fnExactDivMod", vars := ["loop.example/g00710/impl.fieldTable"], fn := fun _ => fun
  | [d1, d2, d3, g1] => { results := [.lit (.bool false)], args := [d1, d2, d3], vars := [g1] }
  | _ => none }
def FnExactDivModWrongFalsely : Prop := fnExactDivModRow.holds Tryd.pinned (OpenSpec.ofChange fnExactDivModWrong)

/-- 'laws.FnExactEvalPoly': WHATEVER THE INPUT: true; the input reads as it did. -/
def fnExactEvalPolySpec : ChangeSpec := { name := "fnExactEvalPoly", vars := ["loop.example/g00710/impl.fieldTable"], fn := fun _ => fun
  | [d1, d2, d3, g1] => { results := [.lit (.bool true)], args := [d1, d2, d3], vars := [g1] }
  | _ => none }
def fnExactEvalPolyRow : OpenClaim := { program := "ythmbgiidfngmdabdoor", sum := "024a0c8ebcf882244f46d9d12097b835a842609182efa94fc0078aa091c6eade", func := "loop.example/g00710/laws.FnExactEvalPoly", spec := "fnExactEvalPoly", named := ["loop.example/g00710/impl.fieldTable"], apart := false, laid := [("loop.example/g00710/impl.fieldTable", laid_loop_example_g00710_impl_fieldTable)] }
def FnExactEvalPolySaid : Prop := fnExactEvalPolyRow.holds Tryd.pinned (OpenSpec.ofChange fnExactEvalPolySpec)

/-- ITS FALSE NEIGHBOUR: 'it returns false'. Refute it at one input. -/
def fnExactEvalPolyWrong : ChangeSpec := { name := "fnExactEvalPoly", vars := ["loop.example/g00710/impl.fieldTable"], fn := fun _ => fun
  | [d1, d2, d3, g1] => { results := [.lit (.bool false)], args := [d1, d2, d3], vars := [g1] }
  | _ => none }
def FnExactEvalPolyWrongFalsely : Prop := fnExactEvalPolyRow.holds Tryd.pinned (OpenSpec.ofChange fnExactEvalPolyWrong)

/-- 'laws.FnExactGcdPoly': WHATEVER THE INPUT: true; the input reads as it did. -/
def fnExactGcdPolySpec : ChangeSpec := { name := "fnExactGcdPoly", vars := ["loop.example/g00710/impl.fieldTable"], fn := fun _ => fun
  | [d1, d2, d3, g1] => { results := [.lit (.bool true)], args := [d1, d2, d3], vars := [g1] }
  | _ => none }
def fnExactGcdPolyRow : OpenClaim := { program := "ythmbgiidfngmdabdoor", sum := "024a0c8ebcf882244f46d9d12097b835a842609182efa94fc0078aa091c6eade", func := "loop.example/g00710/laws.FnExactGcdPoly", spec := "fnExactGcdPoly", named := ["loop.example/g00710/impl.fieldTable"], apart := false, laid := [("loop.example/g00710/impl.fieldTable", laid_loop_example_g00710_impl_fieldTable)] }
def FnExactGcdPolySaid : Prop := fnExactGcdPolyRow.holds Tryd.pinned (OpenSpec.ofChange fnExactGcdPolySpec)

/-- ITS FALSE NEIGHBOUR: 'it returns false'. Refute it at one input. -/
def fnExactGcdPolyWrong : ChangeSpec := { name := "fnExactGcdPoly", vars := ["loop.example/g00710/impl.fieldTable"], fn := fun _ => fun
  | [d1, d2, d3, g1] => { results := [.lit (.bool false)], args := [d1, d2, d3], vars := [g1] }
  | _ => none }
def FnExactGcdPolyWrongFalsely : Prop := fnExactGcdPolyRow.holds Tryd.pinned (OpenSpec.ofChange fnExactGcdPolyWrong)

/-- 'laws.FnExactMulPoly': WHATEVER THE INPUT: true; the input reads as it did. -/
def fnExactMulPolySpec : ChangeSpec := { name := "fnExactMulPoly", vars := ["loop.example/g00710/impl.fieldTable"], fn := fun _ => fun
  | [d1, d2, d3, g1] => { results := [.lit (.bool true)], args := [d1, d2, d3], vars := [g1] }
  | _ => none }
def fnExactMulPolyRow : OpenClaim := { program := "ythmbgiidfngmdabdoor", sum := "024a0c8ebcf882244f46d9d12097b835a842609182efa94fc0078aa091c6eade", func := "loop.example/g00710/laws.FnExactMulPoly", spec := "fnExactMulPoly", named := ["loop.example/g00710/impl.fieldTable"], apart := false, laid := [("loop.example/g00710/impl.fieldTable", laid_loop_example_g00710_impl_fieldTable)] }
def FnExactMulPolySaid : Prop := fnExactMulPolyRow.holds Tryd.pinned (OpenSpec.ofChange fnExactMulPolySpec)

/-- ITS FALSE NEIGHBOUR: 'it returns false'. Refute it at one input. -/
def fnExactMulPolyWrong : ChangeSpec := { name := "fnExactMulPoly", vars := ["loop.example/g00710/impl.fieldTable"], fn := fun _ => fun
  | [d1, d2, d3, g1] => { results := [.lit (.bool false)], args := [d1, d2, d3], vars := [g1] }
  | _ => none }
def FnExactMulPolyWrongFalsely : Prop := fnExactMulPolyRow.holds Tryd.pinned (OpenSpec.ofChange fnExactMulPolyWrong)

/-- 'laws.FnExactPowMod': WHATEVER THE INPUT: true; the input reads as it did. -/
def fnExactPowModSpec : ChangeSpec := { name := "fnExactPowMod", vars := ["loop.example/g00710/impl.fieldTable"], fn := fun _ => fun
  | [d1, d2, d3, d4, g1] => { results := [.lit (.bool true)], args := [d1, d2, d3, d4], vars := [g1] }
  | _ => none }
def fnExactPowModRow : OpenClaim := { program := "ythmbgiidfngmdabdoor", sum := "024a0c8ebcf882244f46d9d12097b835a842609182efa94fc0078aa091c6eade", func := "loop.example/g00710/laws.FnExactPowMod", spec := "fnExactPowMod", named := ["loop.example/g00710/impl.fieldTable"], apart := false, laid := [("loop.example/g00710/impl.fieldTable", laid_loop_example_g00710_impl_fieldTable)] }
def FnExactPowModSaid : Prop := fnExactPowModRow.holds Tryd.pinned (OpenSpec.ofChange fnExactPowModSpec)

/-- ITS FALSE NEIGHBOUR: 'it returns false'. Refute it at one input. -/
def fnExactPowModWrong : ChangeSpec := { name := "fnExactPowMod", vars := ["loop.example/g00710/impl.fieldTable"], fn := fun _ => fun
  | [d1, d2, d3, d4, g1] => { results := [.lit (.bool false)], args := [d1, d2, d3, d4], vars := [g1] }
  | _ => none }
def FnExactPowModWrongFalsely : Prop := fnExactPowModRow.holds Tryd.pinned (OpenSpec.ofChange fnExactPowModWrong)

/-- 'laws.FnExactSquareFree': WHATEVER THE INPUT: true; the input reads as it did. -/
def fnExactSquareFreeSpec : ChangeSpec := { name := "fnExactSquareFree", vars := ["loop.example/g00710/impl.fieldTable"], fn := fun _ => fun
  | [d1, d2, g1] => { results := [.lit (.bool true)], args := [d1, d2], vars := [g1] }
  | _ => none }
def fnExactSquareFreeRow : OpenClaim := { program := "ythmbgiidfngmdabdoor", sum := "024a0c8ebcf882244f46d9d12097b835a842609182efa94fc0078aa091c6eade", func := "loop.example/g00710/laws.FnExactSquareFree", spec := "fnExactSquareFree", named := ["loop.example/g00710/impl.fieldTable"], apart := false, laid := [("loop.example/g00710/impl.fieldTable", laid_loop_example_g00710_impl_fieldTable)] }
def FnExactSquareFreeSaid : Prop := fnExactSquareFreeRow.holds Tryd.pinned (OpenSpec.ofChange fnExactSquareFreeSpec)

/-- ITS FALSE NEIGHBOUR: 'it returns false'. Refute it at one input. -/
def fnExactSquareFreeWrong : ChangeSpec := { name := "fnExactSquareFree", vars := ["loop.example/g00710/impl.fieldTable"], fn := fun _ => fun
  | [d1, d2, g1] => { results := [.lit (.bool false)], args := [d1, d2], vars := [g1] }
  | _ => none }
def FnExactSquareFreeWrongFalsely : Prop := fnExactSquareFreeRow.holds Tryd.pinned (OpenSpec.ofChange fnExactSquareFreeWrong)

/- THE SECOND FORM. 'bulk': how many values and letters a reading holds, each counted each time it is reached (what is shared counts as often as it is met; a slice's spare places count too). A statement '..UptoSaid' is the law's where the arguments, and the package variables that the reading takes, are together of bulk at most 1048576: NARROWER than '..Said'. Prove '..Said' where nothing that the law and all that it calls make is longer than what came in: it says more and counts as full. Else prove '..UptoSaid'. A law counts once. -/
mutual
def uptoBulk {H : Type} : DataW H → Nat
  | .lit (.string bytes) => bytes.length + 1
  | .lit _ => 1
  | .nil => 1
  | .ptr d => uptoBulk d + 1
  | .slice elems spare => uptoBulkAll elems + uptoBulkAll spare + 1
  | .agg parts => uptoBulkAll parts + 1
  | .iface _ d => uptoBulk d + 1
  | .map entries => uptoBulkEntries entries + 1
  | .held _ => 1
def uptoBulkAll {H : Type} : List (DataW H) → Nat
  | [] => 0
  | d :: r => uptoBulk d + uptoBulkAll r
def uptoBulkEntries {H : Type} : List (Lit × DataW H) → Nat
  | [] => 0
  | x :: r => uptoBulkEntry x + uptoBulkEntries r
def uptoBulkEntry {H : Type} : Lit × DataW H → Nat
  | (.string bytes, d) => bytes.length + uptoBulk d + 1
  | (_, d) => uptoBulk d + 1
 end
def uptoSmall : (H : Type) → List (DataW H) → Bool := fun _ ds => decide (uptoBulkAll ds ≤ 1048576)
def OpenSpec.upto (s : _root_.Go.ChangeSpec) : _root_.Go.OpenSpec := { _root_.Go.OpenSpec.ofChange s with cond := some uptoSmall }

/-- 'laws.FnExactCompose', WHERE WHAT IT READS IS OF BULK AT MOST 1048576: true; the input reads as it did. -/
def fnExactComposeUptoRow : OpenClaim := { program := "ythmbgiidfngmdabdoor", sum := "024a0c8ebcf882244f46d9d12097b835a842609182efa94fc0078aa091c6eade", func := "loop.example/g00710/laws.FnExactCompose", spec := "fnExactCompose", named := ["loop.example/g00710/impl.fieldTable"], apart := false, laid := [("loop.example/g00710/impl.fieldTable", laid_loop_example_g00710_impl_fieldTable)], narrowed := true }
def FnExactComposeUptoSaid : Prop := fnExactComposeUptoRow.holds Tryd.pinned (OpenSpec.upto fnExactComposeSpec)

/-- 'laws.FnExactDivMod', WHERE WHAT IT READS IS OF BULK AT MOST 1048576: true; the input reads as it did. -/
def fnExactDivModUptoRow : OpenClaim := { program := "ythmbgiidfngmdabdoor", sum := "024a0c8ebcf882244f46d9d12097b835a842609182efa94fc0078aa091c6eade", func := "loop.example/g00710/laws.FnExactDivMod", spec := "fnExactDivMod", named := ["loop.example/g00710/impl.fieldTable"], apart := false, laid := [("loop.example/g00710/impl.fieldTable", laid_loop_example_g00710_impl_fieldTable)], narrowed := true }
def FnExactDivModUptoSaid : Prop := fnExactDivModUptoRow.holds Tryd.pinned (OpenSpec.upto fnExactDivModSpec)

/-- 'laws.FnExactEvalPoly', WHERE WHAT IT READS IS OF BULK AT MOST 1048576: true; the input reads as it did. -/
def fnExactEvalPolyUptoRow : OpenClaim := { program := "ythmbgiidfngmdabdoor", sum := "024a0c8ebcf882244f46d9d12097b835a842609182efa94fc0078aa091c6eade", func := "loop.example/g00710/laws.FnExactEvalPoly", spec := "fnExactEvalPoly", named := ["loop.example/g00710/impl.fieldTable"], apart := false, laid := [("loop.example/g00710/impl.fieldTable", laid_loop_example_g00710_impl_fieldTable)], narrowed := true }
def FnExactEvalPolyUptoSaid : Prop := fnExactEvalPolyUptoRow.holds Tryd.pinned (OpenSpec.upto fnExactEvalPolySpec)

/-- 'laws.FnExactGcdPoly', WHERE WHAT IT READS IS OF BULK AT MOST 1048576: true; the input reads as it did. -/
def fnExactGcdPolyUptoRow : OpenClaim := { program := "ythmbgiidfngmdabdoor", sum := "024a0c8ebcf882244f46d9d12097b835a842609182efa94fc0078aa091c6eade", func := "loop.example/g00710/laws.FnExactGcdPoly", spec := "fnExactGcdPoly", named := ["loop.example/g00710/impl.fieldTable"], apart := false, laid := [("loop.example/g00710/impl.fieldTable", laid_loop_example_g00710_impl_fieldTable)], narrowed := true }
def FnExactGcdPolyUptoSaid : Prop := fnExactGcdPolyUptoRow.holds Tryd.pinned (OpenSpec.upto fnExactGcdPolySpec)

/-- 'laws.FnExactMulPoly', WHERE WHAT IT READS IS OF BULK AT MOST 1048576: true; the input reads as it did. -/
def fnExactMulPolyUptoRow : OpenClaim := { program := "ythmbgiidfngmdabdoor", sum := "024a0c8ebcf882244f46d9d12097b835a842609182efa94fc0078aa091c6eade", func := "loop.example/g00710/laws.FnExactMulPoly", spec := "fnExactMulPoly", named := ["loop.example/g00710/impl.fieldTable"], apart := false, laid := [("loop.example/g00710/impl.fieldTable", laid_loop_example_g00710_impl_fieldTable)], narrowed := true }
def FnExactMulPolyUptoSaid : Prop := fnExactMulPolyUptoRow.holds Tryd.pinned (OpenSpec.upto fnExactMulPolySpec)

/-- 'laws.FnExactPowMod', WHERE WHAT IT READS IS OF BULK AT MOST 1048576: true; the input reads as it did. -/
def fnExactPowModUptoRow : OpenClaim := { program := "ythmbgiidfngmdabdoor", sum := "024a0c8ebcf882244f46d9d12097b835a842609182efa94fc0078aa091c6eade", func := "loop.example/g00710/laws.FnExactPowMod", spec := "fnExactPowMod", named := ["loop.example/g00710/impl.fieldTable"], apart := false, laid := [("loop.example/g00710/impl.fieldTable", laid_loop_example_g00710_impl_fieldTable)], narrowed := true }
def FnExactPowModUptoSaid : Prop := fnExactPowModUptoRow.holds Tryd.pinned (OpenSpec.upto fnExactPowModSpec)

/-- 'laws.FnExactSquareFree', WHERE WHAT IT READS IS OF BULK AT MOST 1048576: true; the input reads as it did. -/
def fnExactSquareFreeUptoRow : OpenClaim := { program := "ythmbgiidfngmdabdoor", sum := "024a0c8ebcf882244f46d9d12097b835a842609182efa94fc0078aa091c6eade", func := "loop.example/g00710/laws.FnExactSquareFree", spec := "fnExactSquareFree", named := ["loop.example/g00710/impl.fieldTable"], apart := false, laid := [("loop.example/g00710/impl.fieldTable", laid_loop_example_g00710_impl_fieldTable)], narrowed := true }
def FnExactSquareFreeUptoSaid : Prop := fnExactSquareFreeUptoRow.holds Tryd.pinned (OpenSpec.upto fnExactSquareFreeSpec)

end Rows
end Go.Proofs.YthmbgiidfngmdabDoor
