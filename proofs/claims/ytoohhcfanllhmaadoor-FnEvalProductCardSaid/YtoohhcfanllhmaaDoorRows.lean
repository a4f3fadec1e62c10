/-
  NARROWER THAN 'FOR EVERY INPUT', by the rows' own cells (each row's printed sentence says how): FnDivBack: laid · FnGcd: laid · FnEvalProduct: laid · FnPowMod: laid.
  DERIVED. THE GIVEN ROWS OF THIS SEAT. 4 by the template 'for every input the law returns true; each argument reads behind the call as it read before'; 0 by the template 'total and deterministic' (their statements: YtoohhcfanllhmaaDoorTotals.lean).
  GIVEN WITH THE SEED: the statements are not yours to turn. If you find one false, say at which input.
  Laid BY PROGRAM, IN A SANDBOX (cutbox-rows.mjs): the forced cells as the released guide's own fill.sh prints them over the translation fdc3938235e04e27… (all of the seat's roots in one cut). By AI agents, Wed Nov 11 2026. No macro, syntax, notation, axiom, sorry.
-/
import Derived.Test.YtoohhcfanllhmaaDoorChecked
import GoSem.Claim
import GoSem.ClaimJoined
import GoSem.ClaimMapViews
import Derived.JoinedTies
import Derived.KernelRfl
namespace Go.Proofs.YtoohhcfanllhmaaDoor
/- THE CELL 'sum', in the pinned program and in every row, IS THE sha256 OF THE DUMP (.gsa) THAT YtoohhcfanllhmaaDoorProg.lean LOADS. Nothing in Lean hashes anything: it is a label: what it is worth is what the hold of that sum in a sandbox is worth. -/
noncomputable def Tryd.pinned : Pinned := { name := "ytoohhcfanllhmaadoor", sum := "fdc3938235e04e2775dc4846faed81474b36268b9d0f66d1bdb788841e621952", checked := Tryd.checked }
namespace Rows
def none {H : Type} : Left H := { results := [], args := [] }

/- WHAT THE LISTED PACKAGE-LEVEL VARIABLES READ AS WHEN THE CALL BEGINS. Each datum BY PROGRAM (the guide's laid-datum.mjs) off the statement by which the dump's own 'gosem.cut.vars' lays the variable. In a bare row this is a premise. The card (YtoohhcfanllhmaaDoorCards.lean) ties it to the program's text. -/
def laid_loop_example_g00710_impl_fieldTable {H : Type} : DataW H := .agg [.agg [.lit (.int .i64 17), .lit (.int .i64 3), .lit (.int .i64 4)], .agg [.lit (.int .i64 97), .lit (.int .i64 5), .lit (.int .i64 5)], .agg [.lit (.int .i64 193), .lit (.int .i64 5), .lit (.int .i64 6)], .agg [.lit (.int .i64 257), .lit (.int .i64 3), .lit (.int .i64 8)], .agg [.lit (.int .i64 7681), .lit (.int .i64 17), .lit (.int .i64 9)], .agg [.lit (.int .i64 12289), .lit (.int .i64 11), .lit (.int .i64 12)], .agg [.lit (.int .i64 998244353), .lit (.int .i64 3), .lit (.int .i64 23)], .agg [.lit (.int .i64 469762049), .lit (.int .i64 3), .lit (.int .i64 26)], .agg [.lit (.int .i64 1004535809), .lit (.int .i64 3), .lit (.int .i64 21)]]

/-- 'laws.FnDivBack': WHATEVER THE INPUT: true; the input reads as it did. -/
def fnDivBackSpec : ChangeSpec := { name := "fnDivBack", vars := ["loop.example/g00710/impl.fieldTable"], fn := fun _ => fun
  | [d, g1] => { results := [.lit (.bool true)], args := [d], vars := [g1] }
  | _ => none }
def fnDivBackRow : OpenClaim := { program := "ytoohhcfanllhmaadoor", sum := "fdc3938235e04e2775dc4846faed81474b36268b9d0f66d1bdb788841e621952", func := "loop.example/g00710/laws.FnDivBack", spec := "fnDivBack", named := ["loop.example/g00710/impl.fieldTable"], apart := false, laid := [("loop.example/g00710/impl.fieldTable", laid_loop_example_g00710_impl_fieldTable)] }
def FnDivBackSaid : Prop := fnDivBackRow.holds Tryd.pinned (OpenSpec.ofChange fnDivBackSpec)

/-- ITS FALSE NEIGHBOUR: 'it returns false'. Refute it at one input. -/
def fnDivBackWrong : ChangeSpec := { name := "fnDivBack", vars := ["loop.example/g00710/impl.fieldTable"], fn := fun _ => fun
  | [d, g1] => { results := [.lit (.bool false)], args := [d], vars := [g1] }
  | _ => none }
def FnDivBackWrongFalsely : Prop := fnDivBackRow.holds Tryd.pinned (OpenSpec.ofChange fnDivBackWrong)

/-- 'laws.FnGcd': WHATEVER THE INPUT: true; the input reads as it did. -/
def fnGcdSpec : ChangeSpec := { name := "fnGcd", vars := ["loop.example/g00710/impl.fieldTable"], fn := fun _ => fun
  | [d, g1] => { results := [.lit (.bool true)], args := [d], vars := [g1] }
  | _ => none }
def fnGcdRow : OpenClaim := { program := "ytoohhcfanllhmaadoor", sum := "fdc3938235e04e2775dc4846faed81474b36268b9d0f66d1bdb788841e621952", func := "loop.example/g00710/laws.FnGcd", spec := "fnGcd", named := ["loop.example/g00710/impl.fieldTable"], apart := false, laid := [("loop.example/g00710/impl.fieldTable", laid_loop_example_g00710_impl_fieldTable)] }
def FnGcdSaid : Prop := fnGcdRow.holds Tryd.pinned (OpenSpec.ofChange fnGcdSpec)

/-- ITS FALSE NEIGHBOUR: 'it returns false'. Refute it at one input. -/
def fnGcdWrong : ChangeSpec := { name := "fnGcd", vars := ["loop.example/g00710/impl.fieldTable"], fn := fun _ => fun
  | [d, g1] => { results := [.lit (.bool false)], args := [d], vars := [g1] }
  | _ => none }
def FnGcdWrongFalsely : Prop := fnGcdRow.holds Tryd.pinned (OpenSpec.ofChange fnGcdWrong)

/-- 'laws.FnEvalProduct': WHATEVER THE INPUT: true; the input reads as it did. -/
def fnEvalProductSpec : ChangeSpec := { name := "fnEvalProduct", vars := ["loop.example/g00710/impl.fieldTable"], fn := fun _ => fun
  | [d, g1] => { results := [.lit (.bool true)], args := [d], vars := [g1] }
  | _ => none }
def fnEvalProductRow : OpenClaim := { program := "ytoohhcfanllhmaadoor", sum := "fdc3938235e04e2775dc4846faed81474b36268b9d0f66d1bdb788841e621952", func := "loop.example/g00710/laws.FnEvalProduct", spec := "fnEvalProduct", named := ["loop.example/g00710/impl.fieldTable"], apart := false, laid := [("loop.example/g00710/impl.fieldTable", laid_loop_example_g00710_impl_fieldTable)] }
def FnEvalProductSaid : Prop := fnEvalProductRow.holds Tryd.pinned (OpenSpec.ofChange fnEvalProductSpec)

/-- ITS FALSE NEIGHBOUR: 'it returns false'. Refute it at one input. -/
def fnEvalProductWrong : ChangeSpec := { name := "fnEvalProduct", vars := ["loop.example/g00710/impl.fieldTable"], fn := fun _ => fun
  | [d, g1] => { results := [.lit (.bool false)], args := [d], vars := [g1] }
  | _ => none }
def FnEvalProductWrongFalsely : Prop := fnEvalProductRow.holds Tryd.pinned (OpenSpec.ofChange fnEvalProductWrong)

/-- 'laws.FnPowMod': WHATEVER THE INPUT: true; the input reads as it did. -/
def fnPowModSpec : ChangeSpec := { name := "fnPowMod", vars := ["loop.example/g00710/impl.fieldTable"], fn := fun _ => fun
  | [d, g1] => { results := [.lit (.bool true)], args := [d], vars := [g1] }
  | _ => none }
def fnPowModRow : OpenClaim := { program := "ytoohhcfanllhmaadoor", sum := "fdc3938235e04e2775dc4846faed81474b36268b9d0f66d1bdb788841e621952", func := "loop.example/g00710/laws.FnPowMod", spec := "fnPowMod", named := ["loop.example/g00710/impl.fieldTable"], apart := false, laid := [("loop.example/g00710/impl.fieldTable", laid_loop_example_g00710_impl_fieldTable)] }
def FnPowModSaid : Prop := fnPowModRow.holds Tryd.pinned (OpenSpec.ofChange fnPowModSpec)

/-- ITS FALSE NEIGHBOUR: 'it returns false'. Refute it at one input. -/
def fnPowModWrong : ChangeSpec := { name := "fnPowMod", vars := ["loop.example/g00710/impl.fieldTable"], fn := fun _ => fun
  | [d, g1] => { results := [.lit (.bool false)], args := [d], vars := [g1] }
  | _ => none }
def FnPowModWrongFalsely : Prop := fnPowModRow.holds Tryd.pinned (OpenSpec.ofChange fnPowModWrong)

/- THE SECOND FORM. 'bulk': how many values and letters a reading holds, each counted each time it is reached (what is shared counts as often as it is met; a slice's spare places count too). A statement '..UptoSaid' is the law's where the arguments, and the package variables that the reading takes, are together of bulk at most 1048576: NARROWER than '..Said'. Prove '..Said' where nothing that the law and all that it calls make is longer than what came in: it says more and counts as full. Else prove '..UptoSaid'. A law counts once. -/
mutual
def uptoBulk {H : Type} : DataW H → Nat
  | .lit (.string bytes) => bytes.length + 1
  | .lit _ => 1
  | .nil => 1
  | .ptr d => uptoBulk d + 1
  | .slice elems spare => uptoBulkAll elems + uptoBulkAll spare + 1
  | .agg parts => uptoBulkAll parts + 1
  | .iface _ d => uptoBulk d + 1
  | .map entries => uptoBulkEntries entries + 1
  | .held _ => 1
def uptoBulkAll {H : Type} : List (DataW H) → Nat
  | [] => 0
  | d :: r => uptoBulk d + uptoBulkAll r
def uptoBulkEntries {H : Type} : List (Lit × DataW H) → Nat
  | [] => 0
  | x :: r => uptoBulkEntry x + uptoBulkEntries r
def uptoBulkEntry {H : Type} : Lit × DataW H → Nat
  | (.string bytes, d) => bytes.length + uptoBulk d + 1
  | (_, d) => uptoBulk d + 1
 end
def uptoSmall : (H : Type) → List (DataW H) → Bool := fun _ ds => decide (uptoBulkAll ds ≤ 1048576)
def OpenSpec.upto (s : _root_.Go.ChangeSpec) : _root_.Go.OpenSpec := { _root_.Go.OpenSpec.ofChange s with cond := some uptoSmall }

/-- 'laws.FnDivBack', WHERE WHAT IT READS IS OF BULK AT MOST 1048576: true; the input reads as it did. -/
def fnDivBackUptoRow : OpenClaim := { program := "ytoohhcfanllhmaadoor", sum := "fdc3938235e04e2775dc4846faed81474b36268b9d0f66d1bdb788841e621952", func := "loop.example/g00710/laws.FnDivBack", spec := "fnDivBack", named := ["loop.example/g00710/impl.fieldTable"], apart := false, laid := [("loop.example/g00710/impl.fieldTable", laid_loop_example_g00710_impl_fieldTable)], narrowed := true }
def FnDivBackUptoSaid : Prop := fnDivBackUptoRow.holds Tryd.pinned (OpenSpec.upto fnDivBackSpec)

/-- 'laws.FnGcd', WHERE WHAT IT READS IS OF BULK AT MOST 1048576: true; the input reads as it did. -/
def fnGcdUptoRow : OpenClaim := { program := "ytoohhcfanllhmaadoor", sum := "fdc3938235e04e2775dc4846faed81474b36268b9d0f66d1bdb788841e621952", func := "loop.example/g00710/laws.FnGcd", spec := "fnGcd", named := ["loop.example/g00710/impl.fieldTable"], apart := false, laid := [("loop.example/g00710/impl.fieldTable", laid_loop_example_g00710_impl_fieldTable)], narrowed := true }
def FnGcdUptoSaid : Prop := fnGcdUptoRow.holds Tryd.pinned (OpenSpec.upto fnGcdSpec)

/-- 'laws.FnEvalProduct', WHERE WHAT IT READS IS OF BULK AT MOST 1048576: true; the input reads as it did. -/
def fnEvalProductUptoRow : OpenClaim := { program := "ytoohhcfanllhmaadoor", sum := "fdc3938235e04e2775dc4846faed81474b36268b9d0f66d1bdb788841e621952", func := "loop.example/g00710/laws.FnEvalProduct", spec := "fnEvalProduct", named := ["loop.example/g00710/impl.fieldTable"], apart := false, laid := [("loop.example/g00710/impl.fieldTable", laid_loop_example_g00710_impl_fieldTable)], narrowed := true }
def FnEvalProductUptoSaid : Prop := fnEvalProductUptoRow.holds Tryd.pinned (OpenSpec.upto fnEvalProductSpec)

/-- 'laws.FnPowMod', WHERE WHAT IT READS IS OF BULK AT MOST 1048576: true; the input reads as it did. -/
def fnPowModUptoRow : OpenClaim := { program := "ytoohhcfanllhmaadoor", sum := "fdc3938235e04e2775dc4846faed81474b36268b9d0f66d1bdb788841e621952", func := "loop.example/g00710/laws.FnPowMod", spec := "fnPowMod", named := ["loop.example/g00710/impl.fieldTable"], apart := false, laid := [("loop.example/g00710/impl.fieldTable", laid_loop_example_g00710_impl_fieldTable)], narrowed := true }
def FnPowModUptoSaid : Prop := fnPowModUptoRow.holds Tryd.pinned (OpenSpec.upto fnPowModSpec)

end Rows
end Go.Proofs.YtoohhcfanllhmaaDoor
