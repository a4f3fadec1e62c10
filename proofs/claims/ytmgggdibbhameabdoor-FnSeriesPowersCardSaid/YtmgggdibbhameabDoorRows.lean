/-
  NARROWER THAN 'FOR EVERY INPUT', by the rows' own cells (each row's printed sentence says how): FnExactSeriesSqrt: laid · FnExactSeriesInto: laid · FnExactNewton: laid · FnLogExp: laid · FnLogProduct: laid · FnSeriesPowers: laid · FnSeriesInto: laid · FnNewton: laid.
  DERIVED. THE GIVEN ROWS OF THIS SEAT. 8 by the template 'for every input the law returns true; each argument reads behind the call as it read before'; 0 by the template 'total and deterministic' (their statements: YtmgggdibbhameabDoorTotals.lean).
  GIVEN WITH THE SEED: the statements are not yours to turn. If you find one false, say at which input.
  Laid BY PROGRAM, IN A SANDBOX (cutbox-rows.mjs): the forced cells as the released guide's own fill.sh prints them over the translation dbdac28a0e28c33d… (all of the seat's roots in one cut). By AI agents, Wed Nov 11 2026. No macro, syntax, notation, axiom, sorry.
-/
import Derived.Test.YtmgggdibbhameabDoorChecked
import GoSem.Claim
import GoSem.ClaimJoined
import GoSem.ClaimMapViews
import Derived.JoinedTies
import Derived.KernelRfl
namespace Go.Proofs.YtmgggdibbhameabDoor
/- THE CELL 'sum', in the pinned program and in every row, IS THE sha256 OF THE DUMP (.gsa) THAT YtmgggdibbhameabDoorProg.lean LOADS. Nothing in Lean hashes anything: it is a label: what it is worth is what the hold of that sum in a sandbox is worth. -/
noncomputable def Tryd.pinned : Pinned := { name := "ytmgggdibbhameabdoor", sum := "dbdac28a0e28c33dcfda7479236ecfc08326ad985f2a84065fd0c33f00021903", checked := Tryd.checked }
namespace Rows
def none {H : Type} : Left H := { results := [], args := [] }

/- WHAT THE LISTED PACKAGE-LEVEL VARIABLES READ AS WHEN THE CALL BEGINS. Each datum BY PROGRAM (the guide's laid-datum.mjs) off the statement by which the dump's own 'gosem.cut.vars' lays the variable. In a bare row this is a premise. The card (YtmgggdibbhameabDoorCards.lean) ties it to the program's text. -/
def laid_loop_example_g00710_impl_fieldTable {H : Type} : DataW H := .agg [.agg [.lit (.int .i64 17), .lit (.int .i64 3), .lit (.int .i64 4)], .agg [.lit (.int .i64 97), .lit (.int .i64 5), .lit (.int .i64 5)], .agg [.lit (.int .i64 193), .lit (.int .i64 5), .lit (.int .i64 6)], .agg [.lit (.int .i64 257), .lit (.int .i64 3), .lit (.int .i64 8)], .agg [.lit (.int .i64 7681), .lit (.int .i64 17), .lit (.int .i64 9)], .agg [.lit (.int .i64 12289), .lit (.int .i64 11), .lit (.int .i64 12)], .agg [.lit (.int .i64 998244353), .lit (.int .i64 3), .lit (.int .i64 23)], .agg [.lit (.int .i64 469762049), .lit (.int .i64 3), .lit (.int .i64 26)], .agg [.lit (.int .i64 1004535809), .lit (.int .i64 3), .lit (.int .i64 21)]]

/-- 'laws.FnExactSeriesSqrt': WHATEVER THE INPUT: true; the input reads as it did. -/
def fnExactSeriesSqrtSpec : ChangeSpec := { name := "fnExactSeriesSqrt", vars := ["loop.example/g00710/impl.fieldTable"], fn := fun _ => fun
  | [d1, d2, g1] => { results := [.lit (.bool true)], args := [d1, d2], vars := [g1] }
  | _ => none }
def fnExactSeriesSqrtRow : OpenClaim := { program := "ytmgggdibbhameabdoor", sum := "dbdac28a0e28c33dcfda7479236ecfc08326ad985f2a84065fd0c33f00021903", func := "loop.example/g00710/laws.FnExactSeriesSqrt", spec := "fnExactSeriesSqrt", unfollowed := true, recurses := true, named := ["loop.example/g00710/impl.fieldTable"], apart := false, laid := [("loop.example/g00710/impl.fieldTable", laid_loop_example_g00710_impl_fieldTable)] }
def FnExactSeriesSqrtSaid : Prop := fnExactSeriesSqrtRow.holds Tryd.pinned (OpenSpec.ofChange fnExactSeriesSqrtSpec)

/-- ITS FALSE NEIGHBOUR: 'it returns false'. Refute it at one input. -/
def fnExactSeriesSqrtWrong : ChangeSpec := { name := "fnExactSeriesSqrt", vars := ["loop.example/g00710/impl.fieldTable"], fn := fun _ => fun
  | [d1, d2, g1] => { results := [.lit (.bool false)], args := [d1, d2], vars := [g1] }
  | _ => none }
def FnExactSeriesSqrtWrongFalsely : Prop := fnExactSeriesSqrtRow.holds Tryd.pinned (OpenSpec.ofChange fnExactSeriesSqrtWrong)

/-- 'laws.FnExactSeriesInto': WHATEVER THE INPUT: true; the input reads as it did. -/
def fnExactSeriesIntoSpec : ChangeSpec := { name := "fnExactSeriesInto", vars := ["loop.example/g00710/impl.fieldTable"], fn := fun _ => fun
  | [d1, d2, d3, g1] => { results := [.lit (.bool true)], args := [d1, d2, d3], vars := [g1] }
  | _ => none }
def fnExactSeriesIntoRow : OpenClaim := { program := "ytmgggdibbhameabdoor", sum := "dbdac28a0e28c33dcfda7479236ecfc08326ad985f2a84065fd0c33f00021903", func := "loop.example/g00710/laws.FnExactSeriesInto", spec := "fnExactSeriesInto", named := ["loop.example/g00710/impl.fieldTable"], apart := false, laid := [("loop.example/g00710/impl.fieldTable", laid_loop_example_g00710_impl_fieldTable)] }
def FnExactSeriesIntoSaid : Prop := fnExactSeriesIntoRow.holds Tryd.pinned (OpenSpec.ofChange fnExactSeriesIntoSpec)

/-- ITS FALSE NEIGHBOUR: 'it returns false'. Refute it at one input. -/
def fnExactSeriesIntoWrong : ChangeSpec := { name := "fnExactSeriesInto", vars := ["loop.example/g00710/impl.fieldTable"], fn := fun _ => fun
  | [d1, d2, d3, g1] => { results := [.lit (.bool false)], args := [d1, d2, d3], vars := [g1] }
  | _ => none }
def FnExactSeriesIntoWrongFalsely : Prop := fnExactSeriesIntoRow.holds Tryd.pinned (OpenSpec.ofChange fnExactSeriesIntoWrong)

/-- 'laws.FnExactNewton': WHATEVER THE INPUT: true; the input reads as it did. -/
def fnExactNewtonSpec : ChangeSpec := { name := "fnExactNewton", vars := ["loop.example/g00710/impl.fieldTable"], fn := fun _ => fun
  | [d1, d2, g1] => { results := [.lit (.bool true)], args := [d1, d2], vars := [g1] }
  | _ => none }
def fnExactNewtonRow : OpenClaim := { program := "ytmgggdibbhameabdoor", sum := "dbdac28a0e28c33dcfda7479236ecfc08326ad985f2a84065fd0c33f00021903", func := "loop.example/g00710/laws.FnExactNewton", spec := "fnExactNewton", named := ["loop.example/g00710/impl.fieldTable"], apart := false, laid := [("loop.example/g00710/impl.fieldTable", laid_loop_example_g00710_impl_fieldTable)] }
def FnExactNewtonSaid : Prop := fnExactNewtonRow.holds Tryd.pinned (OpenSpec.ofChange fnExactNewtonSpec)

/-- ITS FALSE NEIGHBOUR: 'it returns false'. Refute it at one input. -/
def fnExactNewtonWrong : ChangeSpec := { name := "fnExactNewton", vars := ["loop.example/g00710/impl.fieldTable"], fn := fun _ => fun
  | [d1, d2, g1] => { results := [.lit (.bool false)], args := [d1, d2], vars := [g1] }
  | _ => none }
def FnExactNewtonWrongFalsely : Prop := fnExactNewtonRow.holds Tryd.pinned (OpenSpec.ofChange fnExactNewtonWrong)

/-- 'laws.FnLogExp': WHATEVER THE INPUT: true; the input reads as it did. -/
def fnLogExpSpec : ChangeSpec := { name := "fnLogExp", vars := ["loop.example/g00710/impl.fieldTable"], fn := fun _ => fun
  | [d, g1] => { results := [.lit (.bool true)], args := [d], vars := [g1] }
  | _ => none }
def fnLogExpRow : OpenClaim := { program := "ytmgggdibbhameabdoor", sum := "dbdac28a0e28c33dcfda7479236ecfc08326ad985f2a84065fd0c33f00021903", func := "loop.example/g00710/laws.FnLogExp", spec := "fnLogExp", unfollowed := true, recurses := true, named := ["loop.example/g00710/impl.fieldTable"], apart := false, laid := [("loop.example/g00710/impl.fieldTable", laid_loop_example_g00710_impl_fieldTable)] }
def FnLogExpSaid : Prop := fnLogExpRow.holds Tryd.pinned (OpenSpec.ofChange fnLogExpSpec)

/-- ITS FALSE NEIGHBOUR: 'it returns false'. Refute it at one input. -/
def fnLogExpWrong : ChangeSpec := { name := "fnLogExp", vars := ["loop.example/g00710/impl.fieldTable"], fn := fun _ => fun
  | [d, g1] => { results := [.lit (.bool false)], args := [d], vars := [g1] }
  | _ => none }
def FnLogExpWrongFalsely : Prop := fnLogExpRow.holds Tryd.pinned (OpenSpec.ofChange fnLogExpWrong)

/-- 'laws.FnLogProduct': WHATEVER THE INPUT: true; the input reads as it did. -/
def fnLogProductSpec : ChangeSpec := { name := "fnLogProduct", vars := ["loop.example/g00710/impl.fieldTable"], fn := fun _ => fun
  | [d, g1] => { results := [.lit (.bool true)], args := [d], vars := [g1] }
  | _ => none }
def fnLogProductRow : OpenClaim := { program := "ytmgggdibbhameabdoor", sum := "dbdac28a0e28c33dcfda7479236ecfc08326ad985f2a84065fd0c33f00021903", func := "loop.example/g00710/laws.FnLogProduct", spec := "fnLogProduct", unfollowed := true, recurses := true, named := ["loop.example/g00710/impl.fieldTable"], apart := false, laid := [("loop.example/g00710/impl.fieldTable", laid_loop_example_g00710_impl_fieldTable)] }
def FnLogProductSaid : Prop := fnLogProductRow.holds Tryd.pinned (OpenSpec.ofChange fnLogProductSpec)

/-- ITS FALSE NEIGHBOUR: 'it returns false'. Refute it at one input. -/
def fnLogProductWrong : ChangeSpec := { name := "fnLogProduct", vars := ["loop.example/g00710/impl.fieldTable"], fn := fun _ => fun
  | [d, g1] => { results := [.lit (.bool false)], args := [d], vars := [g1] }
  | _ => none }
def FnLogProductWrongFalsely : Prop := fnLogProductRow.holds Tryd.pinned (OpenSpec.ofChange fnLogProductWrong)

/-- 'laws.FnSeriesPowers': WHATEVER THE INPUT: true; the input reads as it did. -/
def fnSeriesPowersSpec : ChangeSpec := { name := "fnSeriesPowers", vars := ["loop.example/g00710/impl.fieldTable"], fn := fun _ => fun
  | [d, g1] => { results := [.lit (.bool true)], args := [d], vars := [g1] }
  | _ => none }
def fnSeriesPowersRow : OpenClaim := { program := "ytmgggdibbhameabdoor", sum := "dbdac28a0e28c33dcfda7479236ecfc08326ad985f2a84065fd0c33f00021903", func := "loop.example/g00710/laws.FnSeriesPowers", spec := "fnSeriesPowers", unfollowed := true, recurses := true, named := ["loop.example/g00710/impl.fieldTable"], apart := false, laid := [("loop.example/g00710/impl.fieldTable", laid_loop_example_g00710_impl_fieldTable)] }
def FnSeriesPowersSaid : Prop := fnSeriesPowersRow.holds Tryd.pinned (OpenSpec.ofChange fnSeriesPowersSpec)

/-- ITS FALSE NEIGHBOUR: 'it returns false'. Refute it at one input. -/
def fnSeriesPowersWrong : ChangeSpec := { name := "fnSeriesPowers", vars := ["loop.example/g00710/impl.fieldTable"], fn := fun _ => fun
  | [d, g1] => { results := [.lit (.bool false)], args := [d], vars := [g1] }
  | _ => none }
def FnSeriesPowersWrongFalsely : Prop := fnSeriesPowersRow.holds Tryd.pinned (OpenSpec.ofChange fnSeriesPowersWrong)

/-- 'laws.FnSeriesInto': WHATEVER THE INPUT: true; the input reads as it did. -/
def fnSeriesIntoSpec : ChangeSpec := { name := "fnSeriesInto", vars := ["loop.example/g00710/impl.fieldTable"], fn := fun _ => fun
  | [d, g1] => { results := [.lit (.bool true)], args := [d], vars := [g1] }
  | _ => none }
def fnSeriesIntoRow : OpenClaim := { program := "ytmgggdibbhameabdoor", sum := "dbdac28a0e28c33dcfda7479236ecfc08326ad985f2a84065fd0c33f00021903", func := "loop.example/g00710/laws.FnSeriesInto", spec := "fnSeriesInto", named := ["loop.example/g00710/impl.fieldTable"], apart := false, laid := [("loop.example/g00710/impl.fieldTable", laid_loop_example_g00710_impl_fieldTable)] }
def FnSeriesIntoSaid : Prop := fnSeriesIntoRow.holds Tryd.pinned (OpenSpec.ofChange fnSeriesIntoSpec)

/-- ITS FALSE NEIGHBOUR: 'it returns false'. Refute it at one input. -/
def fnSeriesIntoWrong : ChangeSpec := { name := "fnSeriesInto", vars := ["loop.example/g00710/impl.fieldTable"], fn := fun _ => fun
  | [d, g1] => { results := [.lit (.bool false)], args := [d], vars := [g1] }
  | _ => none }
def FnSeriesIntoWrongFalsely : Prop := fnSeriesIntoRow.holds Tryd.pinned (OpenSpec.ofChange fnSeriesIntoWrong)

/-- 'laws.FnNewton': WHATEVER THE INPUT: true; the input reads as it did. -/
def fnNewtonSpec : ChangeSpec := { name := "fnNewton", vars := ["loop.example/g00710/impl.fieldTable"], fn := fun _ => fun
  | [d, g1] => { results := [.lit (.bool true)], args := [d], vars := [g1] }
  | _ => none }
def fnNewtonRow : OpenClaim := { program := "ytmgggdibbhameabdoor", sum := "dbdac28a0e28c33dcfda7479236ecfc08326ad985f2a84065fd0c33f00021903", func := "loop.example/g00710/laws.FnNewton", spec := "fnNewton", named := ["loop.example/g00710/impl.fieldTable"], apart := false, laid := [("loop.example/g00710/impl.fieldTable", laid_loop_example_g00710_impl_fieldTable)] }
def FnNewtonSaid : Prop := fnNewtonRow.holds Tryd.pinned (OpenSpec.ofChange fnNewtonSpec)

/-- ITS FALSE NEIGHBOUR: 'it returns false'. Refute it at one input. -/
def fnNewtonWrong : ChangeSpec := { name := "fnNewton", vars := ["loop.example/g00710/impl.fieldTable"], fn := fun _ => fun
  | [d, g1] => { results := [.lit (.bool false)], args := [d], vars := [g1] }
  | _ => none }
def FnNewtonWrongFalsely : Prop := fnNewtonRow.holds Tryd.pinned (OpenSpec.ofChange fnNewtonWrong)

/- THE SECOND FORM. 'bulk': how many values and letters a reading holds, each counted each time it is reached (what is shared counts as often as it is met; a slice's spare places count too). A statement '..UptoSaid' is the law's where the arguments, and the package variables that the reading takes, are together of bulk at most 1048576: NARROWER than '..Said'. Prove '..Said' where nothing that the law and all that it calls make is longer than what came in: it says more and counts as full. Else prove '..UptoSaid'. A law counts once. -/
mutual
def uptoBulk {H : Type} : DataW H → Nat
  | .lit (.string bytes) => bytes.length + 1
  | .lit _ => 1
  | .nil => 1
  | .ptr d => uptoBulk d + 1
  | .slice elems spare => uptoBulkAll elems + uptoBulkAll spare + 1
  | .agg parts => uptoBulkAll parts + 1
  | .iface _ d => uptoBulk d + 1
  | .map entries => uptoBulkEntries entries + 1
  | .held _ => 1
def uptoBulkAll {H : Type} : List (DataW H) → Nat
  | [] => 0
  | d :: r => uptoBulk d + uptoBulkAll r
def uptoBulkEntries {H : Type} : List (Lit × DataW H) → Nat
  | [] => 0
  | x :: r => uptoBulkEntry x + uptoBulkEntries r
def uptoBulkEntry {H : Type} : Lit × DataW H → Nat
  | (.string bytes, d) => bytes.length + uptoBulk d + 1
  | (_, d) => uptoBulk d + 1
 end
def uptoSmall : (H : Type) → List (DataW H) → Bool := fun _ ds => decide (uptoBulkAll ds ≤ 1048576)
def OpenSpec.upto (s : _root_.Go.ChangeSpec) : _root_.Go.OpenSpec := { _root_.Go.OpenSpec.ofChange s with cond := some uptoSmall }

/-- 'laws.FnExactSeriesSqrt', WHERE WHAT IT READS IS OF BULK AT MOST 1048576: true; the input reads as it did. -/
def fnExactSeriesSqrtUptoRow : OpenClaim := { program := "ytmgggdibbhameabdoor", sum := "dbdac28a0e28c33dcfda7479236ecfc08326ad985f2a84065fd0c33f00021903", func := "loop.example/g00710/laws.FnExactSeriesSqrt", spec := "fnExactSeriesSqrt", unfollowed := true, recurses := true, named := ["loop.example/g00710/impl.fieldTable"], apart := false, laid := [("loop.example/g00710/impl.fieldTable", laid_loop_example_g00710_impl_fieldTable)], narrowed := true }
def FnExactSeriesSqrtUptoSaid : Prop := fnExactSeriesSqrtUptoRow.holds Tryd.pinned (OpenSpec.upto fnExactSeriesSqrtSpec)

/-- 'laws.FnExactSeriesInto', WHERE WHAT IT READS IS OF BULK AT MOST 1048576: true; the input reads as it did. -/
def fnExactSeriesIntoUptoRow : OpenClaim := { program := "ytmgggdibbhameabdoor", sum := "dbdac28a0e28c33dcfda7479236ecfc08326ad985f2a84065fd0c33f00021903", func := "loop.example/g00710/laws.FnExactSeriesInto", spec := "fnExactSeriesInto", named := ["loop.example/g00710/impl.fieldTable"], apart := false, laid := [("loop.example/g00710/impl.fieldTable", laid_loop_example_g00710_impl_fieldTable)], narrowed := true }
def FnExactSeriesIntoUptoSaid : Prop := fnExactSeriesIntoUptoRow.holds Tryd.pinned (OpenSpec.upto fnExactSeriesIntoSpec)

/-- 'laws.FnExactNewton', WHERE WHAT IT READS IS OF BULK AT MOST 1048576: true; the input reads as it did. -/
def fnExactNewtonUptoRow : OpenClaim := { program := "ytmgggdibbhameabdoor", sum := "dbdac28a0e28c33dcfda7479236ecfc08326ad985f2a84065fd0c33f00021903", func := "loop.example/g00710/laws.FnExactNewton", spec := "fnExactNewton", named := ["loop.example/g00710/impl.fieldTable"], apart := false, laid := [("loop.example/g00710/impl.fieldTable", laid_loop_example_g00710_impl_fieldTable)], narrowed := true }
def FnExactNewtonUptoSaid : Prop := fnExactNewtonUptoRow.holds Tryd.pinned (OpenSpec.upto fnExactNewtonSpec)

/-- 'laws.FnLogExp', WHERE WHAT IT READS IS OF BULK AT MOST 1048576: true; the input reads as it did. -/
def fnLogExpUptoRow : OpenClaim := { program := "ytmgggdibbhameabdoor", sum := "dbdac28a0e28c33dcfda7479236ecfc08326ad985f2a84065fd0c33f00021903", func := "loop.example/g00710/laws.FnLogExp", spec := "fnLogExp", unfollowed := true, recurses := true, named := ["loop.example/g00710/impl.fieldTable"], apart := false, laid := [("loop.example/g00710/impl.fieldTable", laid_loop_example_g00710_impl_fieldTable)], narrowed := true }
def FnLogExpUptoSaid : Prop := fnLogExpUptoRow.holds Tryd.pinned (OpenSpec.upto fnLogExpSpec)

/-- 'laws.FnLogProduct', WHERE WHAT IT READS IS OF BULK AT MOST 1048576: true; the input reads as it did. -/
def fnLogProductUptoRow : OpenClaim := { program := "ytmgggdibbhameabdoor", sum := "dbdac28a0e28c33dcfda7479236ecfc08326ad985f2a84065fd0c33f00021903", func := "loop.example/g00710/laws.FnLogProduct", spec := "fnLogProduct", unfollowed := true, recurses := true, named := ["loop.example/g00710/impl.fieldTable"], apart := false, laid := [("loop.example/g00710/impl.fieldTable", laid_loop_example_g00710_impl_fieldTable)], narrowed := true }
def FnLogProductUptoSaid : Prop := fnLogProductUptoRow.holds Tryd.pinned (OpenSpec.upto fnLogProductSpec)

/-- 'laws.FnSeriesPowers', WHERE WHAT IT READS IS OF BULK AT MOST 1048576: true; the input reads as it did. -/
def fnSeriesPowersUptoRow : OpenClaim := { program := "ytmgggdibbhameabdoor", sum := "dbdac28a0e28c33dcfda7479236ecfc08326ad985f2a84065fd0c33f00021903", func := "loop.example/g00710/laws.FnSeriesPowers", spec := "fnSeriesPowers", unfollowed := true, recurses := true, named := ["loop.example/g00710/impl.fieldTable"], apart := false, laid := [("loop.example/g00710/impl.fieldTable", laid_loop_example_g00710_impl_fieldTable)], narrowed := true }
def FnSeriesPowersUptoSaid : Prop := fnSeriesPowersUptoRow.holds Tryd.pinned (OpenSpec.upto fnSeriesPowersSpec)

/-- 'laws.FnSeriesInto', WHERE WHAT IT READS IS OF BULK AT MOST 1048576: true; the input reads as it did. -/
def fnSeriesIntoUptoRow : OpenClaim := { program := "ytmgggdibbhameabdoor", sum := "dbdac28a0e28c33dcfda7479236ecfc08326ad985f2a84065fd0c33f00021903", func := "loop.example/g00710/laws.FnSeriesInto", spec := "fnSeriesInto", named := ["loop.example/g00710/impl.fieldTable"], apart := false, laid := [("loop.example/g00710/impl.fieldTable", laid_loop_example_g00710_impl_fieldTable)], narrowed := true }
def FnSeriesIntoUptoSaid : Prop := fnSeriesIntoUptoRow.holds Tryd.pinned (OpenSpec.upto fnSeriesIntoSpec)

/-- 'laws.FnNewton', WHERE WHAT IT READS IS OF BULK AT MOST 1048576: true; the input reads as it did. -/
def fnNewtonUptoRow : OpenClaim := { program := "ytmgggdibbhameabdoor", sum := "dbdac28a0e28c33dcfda7479236ecfc08326ad985f2a84065fd0c33f00021903", func := "loop.example/g00710/laws.FnNewton", spec := "fnNewton", named := ["loop.example/g00710/impl.fieldTable"], apart := false, laid := [("loop.example/g00710/impl.fieldTable", laid_loop_example_g00710_impl_fieldTable)], narrowed := true }
def FnNewtonUptoSaid : Prop := fnNewtonUptoRow.holds Tryd.pinned (OpenSpec.upto fnNewtonSpec)

end Rows
end Go.Proofs.YtmgggdibbhameabDoor
