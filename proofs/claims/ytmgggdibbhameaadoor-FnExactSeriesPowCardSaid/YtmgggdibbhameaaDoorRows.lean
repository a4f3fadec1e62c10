/-
  NARROWER THAN 'FOR EVERY INPUT', by the rows' own cells (each row's printed sentence says how): FnExactSeriesOk: laid · FnExactSeriesMul: laid · FnExactSeriesInv: laid · FnExactSeriesDiff: laid · FnExactSeriesSum: laid · FnExactSeriesLog: laid · FnExactSeriesExp: laid · FnExactSeriesPow: laid.
  DERIVED. THE GIVEN ROWS OF THIS SEAT. 8 by the template 'for every input the law returns true; each argument reads behind the call as it read before'; 0 by the template 'total and deterministic' (their statements: YtmgggdibbhameaaDoorTotals.lean).
  GIVEN WITH THE SEED: the statements are not yours to turn. If you find one false, say at which input.
  Laid BY PROGRAM, IN A SANDBOX (cutbox-rows.mjs): the forced cells as the released guide's own fill.sh prints them over the translation 3d8ca462dcc6317c… (all of the seat's roots in one cut). By AI agents, Wed Nov 11 2026. No macro, syntax, notation, axiom, sorry.
-/
import Derived.Test.YtmgggdibbhameaaDoorChecked
import GoSem.Claim
import GoSem.ClaimJoined
import GoSem.ClaimMapViews
import Derived.JoinedTies
import Derived.KernelRfl
namespace Go.Proofs.YtmgggdibbhameaaDoor
/- THE CELL 'sum', in the pinned program and in every row, IS THE sha256 OF THE DUMP (.gsa) THAT YtmgggdibbhameaaDoorProg.lean LOADS. Nothing in Lean hashes anything: it is a label: what it is worth is what the hold of that sum in a sandbox is worth. -/
noncomputable def Tryd.pinned : Pinned := { name := "ytmgggdibbhameaadoor", sum := "3d8ca462dcc6317c0befa7293d43c5bb893c1a65dd2e75987caf6f40255ece3b", checked := Tryd.checked }
namespace Rows
def none {H : Type} : Left H := { results := [], args := [] }

/- WHAT THE LISTED PACKAGE-LEVEL VARIABLES READ AS WHEN THE CALL BEGINS. Each datum BY PROGRAM (the guide's laid-datum.mjs) off the statement by which the dump's own 'gosem.cut.vars' lays the variable. In a bare row this is a premise. The card (YtmgggdibbhameaaDoorCards.lean) ties it to the program's text. -/
def laid_loop_example_g00710_impl_fieldTable {H : Type} : DataW H := .agg [.agg [.lit (.int .i64 17), .lit (.int .i64 3), .lit (.int .i64 4)], .agg [.lit (.int .i64 97), .lit (.int .i64 5), .lit (.int .i64 5)], .agg [.lit (.int .i64 193), .lit (.int .i64 5), .lit (.int .i64 6)], .agg [.lit (.int .i64 257), .lit (.int .i64 3), .lit (.int .i64 8)], .agg [.lit (.int .i64 7681), .lit (.int .i64 17), .lit (.int .i64 9)], .agg [.lit (.int .i64 12289), .lit (.int .i64 11), .lit (.int .i64 12)], .agg [.lit (.int .i64 998244353), .lit (.int .i64 3), .lit (.int .i64 23)], .agg [.lit (.int .i64 469762049), .lit (.int .i64 3), .lit (.int .i64 26)], .agg [.lit (.int .i64 1004535809), .lit (.int .i64 3), .lit (.int .i64 21)]]

/-- 'laws.FnExactSeriesOk': WHATEVER THE INPUT: true; the input reads as it did. -/
def fnExactSeriesOkSpec : ChangeSpec := { name := "fnExactSeriesOk", vars := ["loop.example/g00710/impl.fieldTable"], fn := fun _ => fun
  | [d1, d2, g1] => { results := [.lit (.bool true)], args := [d1, d2], vars := [g1] }
  | _ => none }
def fnExactSeriesOkRow : OpenClaim := { program := "ytmgggdibbhameaadoor", sum := "3d8ca462dcc6317c0befa7293d43c5bb893c1a65dd2e75987caf6f40255ece3b", func := "loop.example/g00710/laws.FnExactSeriesOk", spec := "fnExactSeriesOk", named := ["loop.example/g00710/impl.fieldTable"], apart := false, laid := [("loop.example/g00710/impl.fieldTable", laid_loop_example_g00710_impl_fieldTable)] }
def FnExactSeriesOkSaid : Prop := fnExactSeriesOkRow.holds Tryd.pinned (OpenSpec.ofChange fnExactSeriesOkSpec)

/-- ITS FALSE NEIGHBOUR: 'it returns false'. Refute it at one input. -/
def fnExactSeriesOkWrong : ChangeSpec := { name := "fnExactSeriesOk", vars := ["loop.example/g00710/impl.fieldTable"], fn := fun _ => fun
  | [d1, d2, g1] => { results := [.lit (.bool false)], args := [d1, d2], vars := [g1] }
  | _ => none }
def FnExactSeriesOkWrongFalsely : Prop := fnExactSeriesOkRow.holds Tryd.pinned (OpenSpec.ofChange fnExactSeriesOkWrong)

/-- 'laws.FnExactSeriesMul': WHATEVER THE INPUT: true; the input reads as it did. -/
def fnExactSeriesMulSpec : ChangeSpec := { name := "fnExactSeriesMul", vars := ["loop.example/g00710/impl.fieldTable"], fn := fun _ => fun
  | [d1, d2, d3, g1] => { results := [.lit (.bool true)], args := [d1, d2, d3], vars := [g1] }
  | _ => none }
def fnExactSeriesMulRow : OpenClaim := { program := "ytmgggdibbhameaadoor", sum := "3d8ca462dcc6317c0befa7293d43c5bb893c1a65dd2e75987caf6f40255ece3b", func := "loop.example/g00710/laws.FnExactSeriesMul", spec := "fnExactSeriesMul", named := ["loop.example/g00710/impl.fieldTable"], apart := false, laid := [("loop.example/g00710/impl.fieldTable", laid_loop_example_g00710_impl_fieldTable)] }
def FnExactSeriesMulSaid : Prop := fnExactSeriesMulRow.holds Tryd.pinned (OpenSpec.ofChange fnExactSeriesMulSpec)

/-- ITS FALSE NEIGHBOUR: 'it returns false'. Refute it at one input. -/
def fnExactSeriesMulWrong : ChangeSpec := { name := "fnExactSeriesMul", vars := ["loop.example/g00710/impl.fieldTable"], fn := fun _ => fun
  | [d1, d2, d3, g1] => { results := [.lit (.bool false)], args := [d1, d2, d3], vars := [g1] }
  | _ => none }
def FnExactSeriesMulWrongFalsely : Prop := fnExactSeriesMulRow.holds Tryd.pinned (OpenSpec.ofChange fnExactSeriesMulWrong)

/-- 'laws.FnExactSeriesInv': WHATEVER THE INPUT: true; the input reads as it did. -/
def fnExactSeriesInvSpec : ChangeSpec := { name := "fnExactSeriesInv", vars := ["loop.example/g00710/impl.fieldTable"], fn := fun _ => fun
  | [d1, d2, g1] => { results := [.lit (.bool true)], args := [d1, d2], vars := [g1] }
  | _ => none }
def fnExactSeriesInvRow : OpenClaim := { program := "ytmgggdibbhameaadoor", sum := "3d8ca462dcc6317c0befa7293d43c5bb893c1a65dd2e75987caf6f40255ece3b", func := "loop.example/g00710/laws.FnExactSeriesInv", spec := "fnExactSeriesInv", unfollowed := true, recurses := true, named := ["loop.example/g00710/impl.fieldTable"], apart := false, laid := [("loop.example/g00710/impl.fieldTable", laid_loop_example_g00710_impl_fieldTable)] }
def FnExactSeriesInvSaid : Prop := fnExactSeriesInvRow.holds Tryd.pinned (OpenSpec.ofChange fnExactSeriesInvSpec)

/-- ITS FALSE NEIGHBOUR: 'it returns false'. Refute it at one input. -/
def fnExactSeriesInvWrong : ChangeSpec := { name := "fnExactSeriesInv", vars := ["loop.example/g00710/impl.fieldTable"], fn := fun _ => fun
  | [d1, d2, g1] => { results := [.lit (.bool false)], args := [d1, d2], vars := [g1] }
  | _ => none }
def FnExactSeriesInvWrongFalsely : Prop := fnExactSeriesInvRow.holds Tryd.pinned (OpenSpec.ofChange fnExactSeriesInvWrong)

/-- 'laws.FnExactSeriesDiff': WHATEVER THE INPUT: true; the input reads as it did. -/
def fnExactSeriesDiffSpec : ChangeSpec := { name := "fnExactSeriesDiff", vars := ["loop.example/g00710/impl.fieldTable"], fn := fun _ => fun
  | [d1, d2, g1] => { results := [.lit (.bool true)], args := [d1, d2], vars := [g1] }
  | _ => none }
def fnExactSeriesDiffRow : OpenClaim := { program := "ytmgggdibbhameaadoor", sum := "3d8ca462dcc6317c0befa7293d43c5bb893c1a65dd2e75987caf6f40255ece3b", func := "loop.example/g00710/laws.FnExactSeriesDiff", spec := "fnExactSeriesDiff", named := ["loop.example/g00710/impl.fieldTable"], apart := false, laid := [("loop.example/g00710/impl.fieldTable", laid_loop_example_g00710_impl_fieldTable)] }
def FnExactSeriesDiffSaid : Prop := fnExactSeriesDiffRow.holds Tryd.pinned (OpenSpec.ofChange fnExactSeriesDiffSpec)

/-- ITS FALSE NEIGHBOUR: 'it returns false'. Refute it at one input. -/
def fnExactSeriesDiffWrong : ChangeSpec := { name := "fnExactSeriesDiff", vars := ["loop.example/g00710/impl.fieldTable"], fn := fun _ => fun
  | [d1, d2, g1] => { results := [.lit (.bool false)], args := [d1, d2], vars := [g1] }
  | _ => none }
def FnExactSeriesDiffWrongFalsely : Prop := fnExactSeriesDiffRow.holds Tryd.pinned (OpenSpec.ofChange fnExactSeriesDiffWrong)

/-- 'laws.FnExactSeriesSum': WHATEVER THE INPUT: true; the input reads as it did. -/
def fnExactSeriesSumSpec : ChangeSpec := { name := "fnExactSeriesSum", vars := ["loop.example/g00710/impl.fieldTable"], fn := fun _ => fun
  | [d1, d2, g1] => { results := [.lit (.bool true)], args := [d1, d2], vars := [g1] }
  | _ => none }
def fnExactSeriesSumRow : OpenClaim := { program := "ytmgggdibbhameaadoor", sum := "3d8ca462dcc6317c0befa7293d43c5bb893c1a65dd2e75987caf6f40255ece3b", func := "loop.example/g00710/laws.FnExactSeriesSum", spec := "fnExactSeriesSum", named := ["loop.example/g00710/impl.fieldTable"], apart := false, laid := [("loop.example/g00710/impl.fieldTable", laid_loop_example_g00710_impl_fieldTable)] }
def FnExactSeriesSumSaid : Prop := fnExactSeriesSumRow.holds Tryd.pinned (OpenSpec.ofChange fnExactSeriesSumSpec)

/-- ITS FALSE NEIGHBOUR: 'it returns false'. Refute it at one input. -/
def fnExactSeriesSumWrong : ChangeSpec := { name := "fnExactSeriesSum", vars := ["loop.example/g00710/impl.fieldTable"], fn := fun _ => fun
  | [d1, d2, g1] => { results := [.lit (.bool false)], args := [d1, d2], vars := [g1] }
  | _ => none }
def FnExactSeriesSumWrongFalsely : Prop := fnExactSeriesSumRow.holds Tryd.pinned (OpenSpec.ofChange fnExactSeriesSumWrong)

/-- 'laws.FnExactSeriesLog': WHATEVER THE INPUT: true; the input reads as it did. -/
def fnExactSeriesLogSpec : ChangeSpec := { name := "fnExactSeriesLog", vars := ["loop.example/g00710/impl.fieldTable"], fn := fun _ => fun
  | [d1, d2, g1] => { results := [.lit (.bool true)], args := [d1, d2], vars := [g1] }
  | _ => none }
def fnExactSeriesLogRow : OpenClaim := { program := "ytmgggdibbhameaadoor", sum := "3d8ca462dcc6317c0befa7293d43c5bb893c1a65dd2e75987caf6f40255ece3b", func := "loop.example/g00710/laws.FnExactSeriesLog", spec := "fnExactSeriesLog", unfollowed := true, recurses := true, named := ["loop.example/g00710/impl.fieldTable"], apart := false, laid := [("loop.example/g00710/impl.fieldTable", laid_loop_example_g00710_impl_fieldTable)] }
def FnExactSeriesLogSaid : Prop := fnExactSeriesLogRow.holds Tryd.pinned (OpenSpec.ofChange fnExactSeriesLogSpec)

/-- ITS FALSE NEIGHBOUR: 'it returns false'. Refute it at one input. -/
def fnExactSeriesLogWrong : ChangeSpec := { name := "fnExactSeriesLog", vars := ["loop.example/g00710/impl.fieldTable"], fn := fun _ => fun
  | [d1, d2, g1] => { results := [.lit (.bool false)], args := [d1, d2], vars := [g1] }
  | _ => none }
def FnExactSeriesLogWrongFalsely : Prop := fnExactSeriesLogRow.holds Tryd.pinned (OpenSpec.ofChange fnExactSeriesLogWrong)

/-- 'laws.FnExactSeriesExp': WHATEVER THE INPUT: true; the input reads as it did. -/
def fnExactSeriesExpSpec : ChangeSpec := { name := "fnExactSeriesExp", vars := ["loop.example/g00710/impl.fieldTable"], fn := fun _ => fun
  | [d1, d2, g1] => { results := [.lit (.bool true)], args := [d1, d2], vars := [g1] }
  | _ => none }
def fnExactSeriesExpRow : OpenClaim := { program := "ytmgggdibbhameaadoor", sum := "3d8ca462dcc6317c0befa7293d43c5bb893c1a65dd2e75987caf6f40255ece3b", func := "loop.example/g00710/laws.FnExactSeriesExp", spec := "fnExactSeriesExp", unfollowed := true, recurses := true, named := ["loop.example/g00710/impl.fieldTable"], apart := false, laid := [("loop.example/g00710/impl.fieldTable", laid_loop_example_g00710_impl_fieldTable)] }
def FnExactSeriesExpSaid : Prop := fnExactSeriesExpRow.holds Tryd.pinned (OpenSpec.ofChange fnExactSeriesExpSpec)

/-- ITS FALSE NEIGHBOUR: 'it returns false'. Refute it at one input. -/
def fnExactSeriesExpWrong : ChangeSpec := { name := "fnExactSeriesExp", vars := ["loop.example/g00710/impl.fieldTable"], fn := fun _ => fun
  | [d1, d2, g1] => { results := [.lit (.bool false)], args := [d1, d2], vars := [g1] }
  | _ => none }
def FnExactSeriesExpWrongFalsely : Prop := fnExactSeriesExpRow.holds Tryd.pinned (OpenSpec.ofChange fnExactSeriesExpWrong)

/-- 'laws.FnExactSeriesPow': WHATEVER THE INPUT: true; the input reads as it did. -/
def fnExactSeriesPowSpec : ChangeSpec := { name := "fnExactSeriesPow", vars := ["loop.example/g00710/impl.fieldTable"], fn := fun _ => fun
  | [d1, d2, d3, g1] => { results := [.lit (.bool true)], args := [d1, d2, d3], vars := [g1] }
  | _ => none }
def fnExactSeriesPowRow : OpenClaim := { program := "ytmgggdibbhameaadoor", sum := "3d8ca462dcc6317c0befa7293d43c5bb893c1a65dd2e75987caf6f40255ece3b", func := "loop.example/g00710/laws.FnExactSeriesPow", spec := "fnExactSeriesPow", unfollowed := true, recurses := true, named := ["loop.example/g00710/impl.fieldTable"], apart := false, laid := [("loop.example/g00710/impl.fieldTable", laid_loop_example_g00710_impl_fieldTable)] }
def FnExactSeriesPowSaid : Prop := fnExactSeriesPowRow.holds Tryd.pinned (OpenSpec.ofChange fnExactSeriesPowSpec)

/-- ITS FALSE NEIGHBOUR: 'it returns false'. Refute it at one input. -/
def fnExactSeriesPowWrong : ChangeSpec := { name := "fnExactSeriesPow", vars := ["loop.example/g00710/impl.fieldTable"], fn := fun _ => fun
  | [d1, d2, d3, g1] => { results := [.lit (.bool false)], args := [d1, d2, d3], vars := [g1] }
  | _ => none }
def FnExactSeriesPowWrongFalsely : Prop := fnExactSeriesPowRow.holds Tryd.pinned (OpenSpec.ofChange fnExactSeriesPowWrong)

/- THE SECOND FORM. 'bulk': how many values and letters a reading holds, each counted each time it is reached (what is shared counts as often as it is met; a slice's spare places count too). A statement '..UptoSaid' is the law's where the arguments, and the package variables that the reading takes, are together of bulk at most 1048576: NARROWER than '..Said'. Prove '..Said' where nothing that the law and all that it calls make is longer than what came in: it says more and counts as full. Else prove '..UptoSaid'. A law counts once. -/
mutual
def uptoBulk {H : Type} : DataW H → Nat
  | .lit (.string bytes) => bytes.length + 1
  | .lit _ => 1
  | .nil => 1
  | .ptr d => uptoBulk d + 1
  | .slice elems spare => uptoBulkAll elems + uptoBulkAll spare + 1
  | .agg parts => uptoBulkAll parts + 1
  | .iface _ d => uptoBulk d + 1
  | .map entries => uptoBulkEntries entries + 1
  | .held _ => 1
def uptoBulkAll {H : Type} : List (DataW H) → Nat
  | [] => 0
  | d :: r => uptoBulk d + uptoBulkAll r
def uptoBulkEntries {H : Type} : List (Lit × DataW H) → Nat
  | [] => 0
  | x :: r => uptoBulkEntry x + uptoBulkEntries r
def uptoBulkEntry {H : Type} : Lit × DataW H → Nat
  | (.string bytes, d) => bytes.length + uptoBulk d + 1
  | (_, d) => uptoBulk d + 1
 end
def uptoSmall : (H : Type) → List (DataW H) → Bool := fun _ ds => decide (uptoBulkAll ds ≤ 1048576)
def OpenSpec.upto (s : _root_.Go.ChangeSpec) : _root_.Go.OpenSpec := { _root_.Go.OpenSpec.ofChange s with cond := some uptoSmall }

/-- 'laws.FnExactSeriesOk', WHERE WHAT IT READS IS OF BULK AT MOST 1048576: true; the input reads as it did. -/
def fnExactSeriesOkUptoRow : OpenClaim := { program := "ytmgggdibbhameaadoor", sum := "3d8ca462dcc6317c0befa7293d43c5bb893c1a65dd2e75987caf6f40255ece3b", func := "loop.example/g00710/laws.FnExactSeriesOk", spec := "fnExactSeriesOk", named := ["loop.example/g00710/impl.fieldTable"], apart := false, laid := [("loop.example/g00710/impl.fieldTable", laid_loop_example_g00710_impl_fieldTable)], narrowed := true }
def FnExactSeriesOkUptoSaid : Prop := fnExactSeriesOkUptoRow.holds Tryd.pinned (OpenSpec.upto fnExactSeriesOkSpec)

/-- 'laws.FnExactSeriesMul', WHERE WHAT IT READS IS OF BULK AT MOST 1048576: true; the input reads as it did. -/
def fnExactSeriesMulUptoRow : OpenClaim := { program := "ytmgggdibbhameaadoor", sum := "3d8ca462dcc6317c0befa7293d43c5bb893c1a65dd2e75987caf6f40255ece3b", func := "loop.example/g00710/laws.FnExactSeriesMul", spec := "fnExactSeriesMul", named := ["loop.example/g00710/impl.fieldTable"], apart := false, laid := [("loop.example/g00710/impl.fieldTable", laid_loop_example_g00710_impl_fieldTable)], narrowed := true }
def FnExactSeriesMulUptoSaid : Prop := fnExactSeriesMulUptoRow.holds Tryd.pinned (OpenSpec.upto fnExactSeriesMulSpec)

/-- 'laws.FnExactSeriesInv', WHERE WHAT IT READS IS OF BULK AT MOST 1048576: true; the input reads as it did. -/
def fnExactSeriesInvUptoRow : OpenClaim := { program := "ytmgggdibbhameaadoor", sum := "3d8ca462dcc6317c0befa7293d43c5bb893c1a65dd2e75987caf6f40255ece3b", func := "loop.example/g00710/laws.FnExactSeriesInv", spec := "fnExactSeriesInv", unfollowed := true, recurses := true, named := ["loop.example/g00710/impl.fieldTable"], apart := false, laid := [("loop.example/g00710/impl.fieldTable", laid_loop_example_g00710_impl_fieldTable)], narrowed := true }
def FnExactSeriesInvUptoSaid : Prop := fnExactSeriesInvUptoRow.holds Tryd.pinned (OpenSpec.upto fnExactSeriesInvSpec)

/-- 'laws.FnExactSeriesDiff', WHERE WHAT IT READS IS OF BULK AT MOST 1048576: true; the input reads as it did. -/
def fnExactSeriesDiffUptoRow : OpenClaim := { program := "ytmgggdibbhameaadoor", sum := "3d8ca462dcc6317c0befa7293d43c5bb893c1a65dd2e75987caf6f40255ece3b", func := "loop.example/g00710/laws.FnExactSeriesDiff", spec := "fnExactSeriesDiff", named := ["loop.example/g00710/impl.fieldTable"], apart := false, laid := [("loop.example/g00710/impl.fieldTable", laid_loop_example_g00710_impl_fieldTable)], narrowed := true }
def FnExactSeriesDiffUptoSaid : Prop := fnExactSeriesDiffUptoRow.holds Tryd.pinned (OpenSpec.upto fnExactSeriesDiffSpec)

/-- 'laws.FnExactSeriesSum', WHERE WHAT IT READS IS OF BULK AT MOST 1048576: true; the input reads as it did. -/
def fnExactSeriesSumUptoRow : OpenClaim := { program := "ytmgggdibbhameaadoor", sum := "3d8ca462dcc6317c0befa7293d43c5bb893c1a65dd2e75987caf6f40255ece3b", func := "loop.example/g00710/laws.FnExactSeriesSum", spec := "fnExactSeriesSum", named := ["loop.example/g00710/impl.fieldTable"], apart := false, laid := [("loop.example/g00710/impl.fieldTable", laid_loop_example_g00710_impl_fieldTable)], narrowed := true }
def FnExactSeriesSumUptoSaid : Prop := fnExactSeriesSumUptoRow.holds Tryd.pinned (OpenSpec.upto fnExactSeriesSumSpec)

/-- 'laws.FnExactSeriesLog', WHERE WHAT IT READS IS OF BULK AT MOST 1048576: true; the input reads as it did. -/
def fnExactSeriesLogUptoRow : OpenClaim := { program := "ytmgggdibbhameaadoor", sum := "3d8ca462dcc6317c0befa7293d43c5bb893c1a65dd2e75987caf6f40255ece3b", func := "loop.example/g00710/laws.FnExactSeriesLog", spec := "fnExactSeriesLog", unfollowed := true, recurses := true, named := ["loop.example/g00710/impl.fieldTable"], apart := false, laid := [("loop.example/g00710/impl.fieldTable", laid_loop_example_g00710_impl_fieldTable)], narrowed := true }
def FnExactSeriesLogUptoSaid : Prop := fnExactSeriesLogUptoRow.holds Tryd.pinned (OpenSpec.upto fnExactSeriesLogSpec)

/-- 'laws.FnExactSeriesExp', WHERE WHAT IT READS IS OF BULK AT MOST 1048576: true; the input reads as it did. -/
def fnExactSeriesExpUptoRow : OpenClaim := { program := "ytmgggdibbhameaadoor", sum := "3d8ca462dcc6317c0befa7293d43c5bb893c1a65dd2e75987caf6f40255ece3b", func := "loop.example/g00710/laws.FnExactSeriesExp", spec := "fnExactSeriesExp", unfollowed := true, recurses := true, named := ["loop.example/g00710/impl.fieldTable"], apart := false, laid := [("loop.example/g00710/impl.fieldTable", laid_loop_example_g00710_impl_fieldTable)], narrowed := true }
def FnExactSeriesExpUptoSaid : Prop := fnExactSeriesExpUptoRow.holds Tryd.pinned (OpenSpec.upto fnExactSeriesExpSpec)

/-- 'laws.FnExactSeriesPow', WHERE WHAT IT READS IS OF BULK AT MOST 1048576: true; the input reads as it did. -/
def fnExactSeriesPowUptoRow : OpenClaim := { program := "ytmgggdibbhameaadoor", sum := "3d8ca462dcc6317c0befa7293d43c5bb893c1a65dd2e75987caf6f40255ece3b", func := "loop.example/g00710/laws.FnExactSeriesPow", spec := "fnExactSeriesPow", unfollowed := true, recurses := true, named := ["loop.example/g00710/impl.fieldTable"], apart := false, laid := [("loop.example/g00710/impl.fieldTable", laid_loop_example_g00710_impl_fieldTable)], narrowed := true }
def FnExactSeriesPowUptoSaid : Prop := fnExactSeriesPowUptoRow.holds Tryd.pinned (OpenSpec.upto fnExactSeriesPowSpec)

end Rows
end Go.Proofs.YtmgggdibbhameaaDoor
