/-
  NARROWER THAN 'FOR EVERY INPUT', by the rows' own cells (each row's printed sentence says how): FnExactPointsOk: laid · FnExactVanish: laid · FnExactEvalMany: laid · FnExactInterpolate: laid · FnExactExtend: laid · FnExactWeights: laid · FnExactEncodeWord: laid.
  DERIVED. THE GIVEN ROWS OF THIS SEAT. 7 by the template 'for every input the law returns true; each argument reads behind the call as it read before'; 0 by the template 'total and deterministic' (their statements: YtangofjpnhhfeaaDoorTotals.lean).
  GIVEN WITH THE SEED: the statements are not yours to turn. If you find one false, say at which input.
  Laid BY PROGRAM, IN A SANDBOX (cutbox-rows.mjs): the forced cells as the released guide's own fill.sh prints them over the translation cf67ca7d03798c3c… (all of the seat's roots in one cut). By AI agents, Wed Nov 11 2026. No macro, syntax, notation, axiom, sorry.
-/
import Derived.Test.YtangofjpnhhfeaaDoorChecked
import GoSem.Claim
import GoSem.ClaimJoined
import GoSem.ClaimMapViews
import Derived.JoinedTies
import Derived.KernelRfl
namespace Go.Proofs.YtangofjpnhhfeaaDoor
/- THE CELL 'sum', in the pinned program and in every row, IS THE sha256 OF THE DUMP (.gsa) THAT YtangofjpnhhfeaaDoorProg.lean LOADS. Nothing in Lean hashes anything: it is a label: what it is worth is what the hold of that sum in a sandbox is worth. -/
noncomputable def Tryd.pinned : Pinned := { name := "ytangofjpnhhfeaadoor", sum := "cf67ca7d03798c3c04de03a9fdd7824c010aa360cb806ceccd2dfacd8b66579a", checked := Tryd.checked }
namespace Rows
def none {H : Type} : Left H := { results := [], args := [] }

/- WHAT THE LISTED PACKAGE-LEVEL VARIABLES READ AS WHEN THE CALL BEGINS. Each datum BY PROGRAM (the guide's laid-datum.mjs) off the statement by which the dump's own 'gosem.cut.vars' lays the variable. In a bare row this is a premise. The card (YtangofjpnhhfeaaDoorCards.lean) ties it to the program's text. -/
def laid_loop_example_g00710_impl_fieldTable {H : Type} : DataW H := .agg [.agg [.lit (.int .i64 17), .lit (.int .i64 3), .lit (.int .i64 4)], .agg [.lit (.int .i64 97), .lit (.int .i64 5), .lit (.int .i64 5)], .agg [.lit (.int .i64 193), .lit (.int .i64 5), .lit (.int .i64 6)], .agg [.lit (.int .i64 257), .lit (.int .i64 3), .lit (.int .i64 8)], .agg [.lit (.int .i64 7681), .lit (.int .i64 17), .lit (.int .i64 9)], .agg [.lit (.int .i64 12289), .lit (.int .i64 11), .lit (.int .i64 12)], .agg [.lit (.int .i64 998244353), .lit (.int .i64 3), .lit (.int .i64 23)], .agg [.lit (.int .i64 469762049), .lit (.int .i64 3), .lit (.int .i64 26)], .agg [.lit (.int .i64 1004535809), .lit (.int .i64 3), .lit (.int .i64 21)]]

/-- 'laws.FnExactPointsOk': WHATEVER THE INPUT: true; the input reads as it did. -/
def fnExactPointsOkSpec : ChangeSpec := { name := "fnExactPointsOk", vars := ["loop.example/g00710/impl.fieldTable"], fn := fun _ => fun
  | [d1, d2, g1] => { results := [.lit (.bool true)], args := [d1, d2], vars := [g1] }
  | _ => none }
def fnExactPointsOkRow : OpenClaim := { program := "ytangofjpnhhfeaadoor", sum := "cf67ca7d03798c3c04de03a9fdd7824c010aa360cb806ceccd2dfacd8b66579a", func := "loop.example/g00710/laws.FnExactPointsOk", spec := "fnExactPointsOk", named := ["loop.example/g00710/impl.fieldTable"], apart := false, laid := [("loop.example/g00710/impl.fieldTable", laid_loop_example_g00710_impl_fieldTable)] }
def FnExactPointsOkSaid : Prop := fnExactPointsOkRow.holds Tryd.pinned (OpenSpec.ofChange fnExactPointsOkSpec)

/-- ITS FALSE NEIGHBOUR: 'it returns false'. Refute it at one input. -/
def fnExactPointsOkWrong : ChangeSpec := { name := "fnExactPointsOk", vars := ["loop.example/g00710/impl.fieldTable"], fn := fun _ => fun
  | [d1, d2, g1] => { results := [.lit (.bool false)], args := [d1, d2], vars := [g1] }
  | _ => none }
def FnExactPointsOkWrongFalsely : Prop := fnExactPointsOkRow.holds Tryd.pinned (OpenSpec.ofChange fnExactPointsOkWrong)

/-- 'laws.FnExactVanish': WHATEVER THE INPUT: true; the input reads as it did. -/
def fnExactVanishSpec : ChangeSpec := { name := "fnExactVanish", vars := ["loop.example/g00710/impl.fieldTable"], fn := fun _ => fun
  | [d1, d2, g1] => { results := [.lit (.bool true)], args := [d1, d2], vars := [g1] }
  | _ => none }
def fnExactVanishRow : OpenClaim := { program := "ytangofjpnhhfeaadoor", sum := "cf67ca7d03798c3c04de03a9fdd7824c010aa360cb806ceccd2dfacd8b66579a", func := "loop.example/g00710/laws.FnExactVanish", spec := "fnExactVanish", recurses := true, named := ["loop.example/g00710/impl.fieldTable"], apart := false, laid := [("loop.example/g00710/impl.fieldTable", laid_loop_example_g00710_impl_fieldTable)] }
def FnExactVanishSaid : Prop := fnExactVanishRow.holds Tryd.pinned (OpenSpec.ofChange fnExactVanishSpec)

/-- ITS FALSE NEIGHBOUR: 'it returns false'. Refute it at one input. -/
def fnExactVanishWrong : ChangeSpec := { name := "fnExactVanish", vars := ["loop.example/g00710/impl.fieldTable"], fn := fun _ => fun
  | [d1, d2, g1] => { results := [.lit (.bool false)], args := [d1, d2], vars := [g1] }
  | _ => none }
def FnExactVanishWrongFalsely : Prop := fnExactVanishRow.holds Tryd.pinned (OpenSpec.ofChange fnExactVanishWrong)

/-- 'laws.FnExactEvalMany': WHATEVER THE INPUT: true; the input reads as it did. -/
def fnExactEvalManySpec : ChangeSpec := { name := "fnExactEvalMany", vars := ["loop.example/g00710/impl.fieldTable"], fn := fun _ => fun
  | [d1, d2, d3, g1] => { results := [.lit (.bool true)], args := [d1, d2, d3], vars := [g1] }
  | _ => none }
def fnExactEvalManyRow : OpenClaim := { program := "ytangofjpnhhfeaadoor", sum := "cf67ca7d03798c3c04de03a9fdd7824c010aa360cb806ceccd2dfacd8b66579a", func := "loop.example/g00710/laws.FnExactEvalMany", spec := "fnExactEvalMany", recurses := true, named := ["loop.example/g00710/impl.fieldTable"], apart := false, laid := [("loop.example/g00710/impl.fieldTable", laid_loop_example_g00710_impl_fieldTable)] }
def FnExactEvalManySaid : Prop := fnExactEvalManyRow.holds Tryd.pinned (OpenSpec.ofChange fnExactEvalManySpec)

/-- ITS FALSE NEIGHBOUR: 'it returns false'. Refute it at one input. -/
def fnExactEvalManyWrong : ChangeSpec := { name := "fnExactEvalMany", vars := ["loop.example/g00710/impl.fieldTable"], fn := fun _ => fun
  | [d1, d2, d3, g1] => { results := [.lit (.bool false)], args := [d1, d2, d3], vars := [g1] }
  | _ => none }
def FnExactEvalManyWrongFalsely : Prop := fnExactEvalManyRow.holds Tryd.pinned (OpenSpec.ofChange fnExactEvalManyWrong)

/-- 'laws.FnExactInterpolate': WHATEVER THE INPUT: true; the input reads as it did. -/
def fnExactInterpolateSpec : ChangeSpec := { name := "fnExactInterpolate", vars := ["loop.example/g00710/impl.fieldTable"], fn := fun _ => fun
  | [d1, d2, d3, g1] => { results := [.lit (.bool true)], args := [d1, d2, d3], vars := [g1] }
  | _ => none }
def fnExactInterpolateRow : OpenClaim := { program := "ytangofjpnhhfeaadoor", sum := "cf67ca7d03798c3c04de03a9fdd7824c010aa360cb806ceccd2dfacd8b66579a", func := "loop.example/g00710/laws.FnExactInterpolate", spec := "fnExactInterpolate", recurses := true, named := ["loop.example/g00710/impl.fieldTable"], apart := false, laid := [("loop.example/g00710/impl.fieldTable", laid_loop_example_g00710_impl_fieldTable)] }
def FnExactInterpolateSaid : Prop := fnExactInterpolateRow.holds Tryd.pinned (OpenSpec.ofChange fnExactInterpolateSpec)

/-- ITS FALSE NEIGHBOUR: 'it returns false'. Refute it at one input. -/
def fnExactInterpolateWrong : ChangeSpec := { name := "fnExactInterpolate", vars := ["loop.example/g00710/impl.fieldTable"], fn := fun _ => fun
  | [d1, d2, d3, g1] => { results := [.lit (.bool false)], args := [d1, d2, d3], vars := [g1] }
  | _ => none }
def FnExactInterpolateWrongFalsely : Prop := fnExactInterpolateRow.holds Tryd.pinned (OpenSpec.ofChange fnExactInterpolateWrong)

/-- 'laws.FnExactExtend': WHATEVER THE INPUT: true; the input reads as it did. -/
def fnExactExtendSpec : ChangeSpec := { name := "fnExactExtend", vars := ["loop.example/g00710/impl.fieldTable"], fn := fun _ => fun
  | [d1, d2, d3, d4, g1] => { results := [.lit (.bool true)], args := [d1, d2, d3, d4], vars := [g1] }
  | _ => none }
def fnExactExtendRow : OpenClaim := { program := "ytangofjpnhhfeaadoor", sum := "cf67ca7d03798c3c04de03a9fdd7824c010aa360cb806ceccd2dfacd8b66579a", func := "loop.example/g00710/laws.FnExactExtend", spec := "fnExactExtend", recurses := true, named := ["loop.example/g00710/impl.fieldTable"], apart := false, laid := [("loop.example/g00710/impl.fieldTable", laid_loop_example_g00710_impl_fieldTable)] }
def FnExactExtendSaid : Prop := fnExactExtendRow.holds Tryd.pinned (OpenSpec.ofChange fnExactExtendSpec)

/-- ITS FALSE NEIGHBOUR: 'it returns false'. Refute it at one input. -/
def fnExactExtendWrong : ChangeSpec := { name := "fnExactExtend", vars := ["loop.example/g00710/impl.fieldTable"], fn := fun _ => fun
  | [d1, d2, d3, d4, g1] => { results := [.lit (.bool false)], args := [d1, d2, d3, d4], vars := [g1] }
  | _ => none }
def FnExactExtendWrongFalsely : Prop := fnExactExtendRow.holds Tryd.pinned (OpenSpec.ofChange fnExactExtendWrong)

/-- 'laws.FnExactWeights': WHATEVER THE INPUT: true; the input reads as it did. -/
def fnExactWeightsSpec : ChangeSpec := { name := "fnExactWeights", vars := ["loop.example/g00710/impl.fieldTable"], fn := fun _ => fun
  | [d1, d2, g1] => { results := [.lit (.bool true)], args := [d1, d2], vars := [g1] }
  | _ => none }
def fnExactWeightsRow : OpenClaim := { program := "ytangofjpnhhfeaadoor", sum := "cf67ca7d03798c3c04de03a9fdd7824c010aa360cb806ceccd2dfacd8b66579a", func := "loop.example/g00710/laws.FnExactWeights", spec := "fnExactWeights", recurses := true, named := ["loop.example/g00710/impl.fieldTable"], apart := false, laid := [("loop.example/g00710/impl.fieldTable", laid_loop_example_g00710_impl_fieldTable)] }
def FnExactWeightsSaid : Prop := fnExactWeightsRow.holds Tryd.pinned (OpenSpec.ofChange fnExactWeightsSpec)

/-- ITS FALSE NEIGHBOUR: 'it returns false'. Refute it at one input. -/
def fnExactWeightsWrong : ChangeSpec := { name := "fnExactWeights", vars := ["loop.example/g00710/impl.fieldTable"], fn := fun _ => fun
  | [d1, d2, g1] => { results := [.lit (.bool false)], args := [d1, d2], vars := [g1] }
  | _ => none }
def FnExactWeightsWrongFalsely : Prop := fnExactWeightsRow.holds Tryd.pinned (OpenSpec.ofChange fnExactWeightsWrong)

/-- 'laws.FnExactEncodeWord': WHATEVER THE INPUT: true; the input reads as it did. -/
def fnExactEncodeWordSpec : ChangeSpec := { name := "fnExactEncodeWord", vars := ["loop.example/g00710/impl.fieldTable"], fn := fun _ => fun
  | [d1, d2, d3, g1] => { results := [.lit (.bool true)], args := [d1, d2, d3], vars := [g1] }
  | _ => none }
def fnExactEncodeWordRow : OpenClaim := { program := "ytangofjpnhhfeaadoor", sum := "cf67ca7d03798c3c04de03a9fdd7824c010aa360cb806ceccd2dfacd8b66579a", func := "loop.example/g00710/laws.FnExactEncodeWord", spec := "fnExactEncodeWord", recurses := true, named := ["loop.example/g00710/impl.fieldTable"], apart := false, laid := [("loop.example/g00710/impl.fieldTable", laid_loop_example_g00710_impl_fieldTable)] }
def FnExactEncodeWordSaid : Prop := fnExactEncodeWordRow.holds Tryd.pinned (OpenSpec.ofChange fnExactEncodeWordSpec)

/-- ITS FALSE NEIGHBOUR: 'it returns false'. Refute it at one input. -/
def fnExactEncodeWordWrong : ChangeSpec := { name := "fnExactEncodeWord", vars := ["loop.example/g00710/impl.fieldTable"], fn := fun _ => fun
  | [d1, d2, d3, g1] => { results := [.lit (.bool false)], args := [d1, d2, d3], vars := [g1] }
  | _ => none }
def FnExactEncodeWordWrongFalsely : Prop := fnExactEncodeWordRow.holds Tryd.pinned (OpenSpec.ofChange fnExactEncodeWordWrong)

/- THE SECOND FORM. 'bulk': how many values and letters a reading holds, each counted each time it is reached (what is shared counts as often as it is met; a slice's spare places count too). A statement '..UptoSaid' is the law's where the arguments, and the package variables that the reading takes, are together of bulk at most 1048576: NARROWER than '..Said'. Prove '..Said' where nothing that the law and all that it calls make is longer than what came in: it says more and counts as full. Else prove '..UptoSaid'. A law counts once. -/
mutual
def uptoBulk {H : Type} : DataW H → Nat
  | .lit (.string bytes) => bytes.length + 1
  | .lit _ => 1
  | .nil => 1
  | .ptr d => uptoBulk d + 1
  | .slice elems spare => uptoBulkAll elems + uptoBulkAll spare + 1
  | .agg parts => uptoBulkAll parts + 1
  | .iface _ d => uptoBulk d + 1
  | .map entries => uptoBulkEntries entries + 1
  | .held _ => 1
def uptoBulkAll {H : Type} : List (DataW H) → Nat
  | [] => 0
  | d :: r => uptoBulk d + uptoBulkAll r
def uptoBulkEntries {H : Type} : List (Lit × DataW H) → Nat
  | [] => 0
  | x :: r => uptoBulkEntry x + uptoBulkEntries r
def uptoBulkEntry {H : Type} : Lit × DataW H → Nat
  | (.string bytes, d) => bytes.length + uptoBulk d + 1
  | (_, d) => uptoBulk d + 1
 end
def uptoSmall : (H : Type) → List (DataW H) → Bool := fun _ ds => decide (uptoBulkAll ds ≤ 1048576)
def OpenSpec.upto (s : _root_.Go.ChangeSpec) : _root_.Go.OpenSpec := { _root_.Go.OpenSpec.ofChange s with cond := some uptoSmall }

/-- 'laws.FnExactPointsOk', WHERE WHAT IT READS IS OF BULK AT MOST 1048576: true; the input reads as it did. -/
def fnExactPointsOkUptoRow : OpenClaim := { program := "ytangofjpnhhfeaadoor", sum := "cf67ca7d03798c3c04de03a9fdd7824c010aa360cb806ceccd2dfacd8b66579a", func := "loop.example/g00710/laws.FnExactPointsOk", spec := "fnExactPointsOk", named := ["loop.example/g00710/impl.fieldTable"], apart := false, laid := [("loop.example/g00710/impl.fieldTable", laid_loop_example_g00710_impl_fieldTable)], narrowed := true }
def FnExactPointsOkUptoSaid : Prop := fnExactPointsOkUptoRow.holds Tryd.pinned (OpenSpec.upto fnExactPointsOkSpec)

/-- 'laws.FnExactVanish', WHERE WHAT IT READS IS OF BULK AT MOST 1048576: true; the input reads as it did. -/
def fnExactVanishUptoRow : OpenClaim := { program := "ytangofjpnhhfeaadoor", sum := "cf67ca7d03798c3c04de03a9fdd7824c010aa360cb806ceccd2dfacd8b66579a", func := "loop.example/g00710/laws.FnExactVanish", spec := "fnExactVanish", recurses := true, named := ["loop.example/g00710/impl.fieldTable"], apart := false, laid := [("loop.example/g00710/impl.fieldTable", laid_loop_example_g00710_impl_fieldTable)], narrowed := true }
def FnExactVanishUptoSaid : Prop := fnExactVanishUptoRow.holds Tryd.pinned (OpenSpec.upto fnExactVanishSpec)

/-- 'laws.FnExactEvalMany', WHERE WHAT IT READS IS OF BULK AT MOST 1048576: true; the input reads as it did. -/
def fnExactEvalManyUptoRow : OpenClaim := { program := "ytangofjpnhhfeaadoor", sum := "cf67ca7d03798c3c04de03a9fdd7824c010aa360cb806ceccd2dfacd8b66579a", func := "loop.example/g00710/laws.FnExactEvalMany", spec := "fnExactEvalMany", recurses := true, named := ["loop.example/g00710/impl.fieldTable"], apart := false, laid := [("loop.example/g00710/impl.fieldTable", laid_loop_example_g00710_impl_fieldTable)], narrowed := true }
def FnExactEvalManyUptoSaid : Prop := fnExactEvalManyUptoRow.holds Tryd.pinned (OpenSpec.upto fnExactEvalManySpec)

/-- 'laws.FnExactInterpolate', WHERE WHAT IT READS IS OF BULK AT MOST 1048576: true; the input reads as it did. -/
def fnExactInterpolateUptoRow : OpenClaim := { program := "ytangofjpnhhfeaadoor", sum := "cf67ca7d03798c3c04de03a9fdd7824c010aa360cb806ceccd2dfacd8b66579a", func := "loop.example/g00710/laws.FnExactInterpolate", spec := "fnExactInterpolate", recurses := true, named := ["loop.example/g00710/impl.fieldTable"], apart := false, laid := [("loop.example/g00710/impl.fieldTable", laid_loop_example_g00710_impl_fieldTable)], narrowed := true }
def FnExactInterpolateUptoSaid : Prop := fnExactInterpolateUptoRow.holds Tryd.pinned (OpenSpec.upto fnExactInterpolateSpec)

/-- 'laws.FnExactExtend', WHERE WHAT IT READS IS OF BULK AT MOST 1048576: true; the input reads as it did. -/
def fnExactExtendUptoRow : OpenClaim := { program := "ytangofjpnhhfeaadoor", sum := "cf67ca7d03798c3c04de03a9fdd7824c010aa360cb806ceccd2dfacd8b66579a", func := "loop.example/g00710/laws.FnExactExtend", spec := "fnExactExtend", recurses := true, named := ["loop.example/g00710/impl.fieldTable"], apart := false, laid := [("loop.example/g00710/impl.fieldTable", laid_loop_example_g00710_impl_fieldTable)], narrowed := true }
def FnExactExtendUptoSaid : Prop := fnExactExtendUptoRow.holds Tryd.pinned (OpenSpec.upto fnExactExtendSpec)

/-- 'laws.FnExactWeights', WHERE WHAT IT READS IS OF BULK AT MOST 1048576: true; the input reads as it did. -/
def fnExactWeightsUptoRow : OpenClaim := { program := "ytangofjpnhhfeaadoor", sum := "cf67ca7d03798c3c04de03a9fdd7824c010aa360cb806ceccd2dfacd8b66579a", func := "loop.example/g00710/laws.FnExactWeights", spec := "fnExactWeights", recurses := true, named := ["loop.example/g00710/impl.fieldTable"], apart := false, laid := [("loop.example/g00710/impl.fieldTable", laid_loop_example_g00710_impl_fieldTable)], narrowed := true }
def FnExactWeightsUptoSaid : Prop := fnExactWeightsUptoRow.holds Tryd.pinned (OpenSpec.upto fnExactWeightsSpec)

/-- 'laws.FnExactEncodeWord', WHERE WHAT IT READS IS OF BULK AT MOST 1048576: true; the input reads as it did. -/
def fnExactEncodeWordUptoRow : OpenClaim := { program := "ytangofjpnhhfeaadoor", sum := "cf67ca7d03798c3c04de03a9fdd7824c010aa360cb806ceccd2dfacd8b66579a", func := "loop.example/g00710/laws.FnExactEncodeWord", spec := "fnExactEncodeWord", recurses := true, named := ["loop.example/g00710/impl.fieldTable"], apart := false, laid := [("loop.example/g00710/impl.fieldTable", laid_loop_example_g00710_impl_fieldTable)], narrowed := true }
def FnExactEncodeWordUptoSaid : Prop := fnExactEncodeWordUptoRow.holds Tryd.pinned (OpenSpec.upto fnExactEncodeWordSpec)

end Rows
end Go.Proofs.YtangofjpnhhfeaaDoor
