/-
  NARROWER THAN 'FOR EVERY INPUT', by the rows' own cells (each row's printed sentence says how): FnAutomorph: laid · FnTrace: laid · FnOddProduct: laid · FnRingInverse: laid · FnParts: laid · FnRescaled: laid · FnExactRingOne: laid · FnExactRingPower: laid · FnExactAutomorph: laid.
  DERIVED. THE GIVEN ROWS OF THIS SEAT. 9 by the template 'for every input the law returns true; each argument reads behind the call as it read before'; 0 by the template 'total and deterministic' (their statements: YtoonpnfhcmghmaaDoorTotals.lean).
  GIVEN WITH THE SEED: the statements are not yours to turn. If you find one false, say at which input.
  Laid BY PROGRAM, IN A SANDBOX (cutbox-rows.mjs): the forced cells as the released guide's own fill.sh prints them over the translation 897b83504b4af642… (all of the seat's roots in one cut). By AI agents, Wed Nov 11 2026. No macro, syntax, notation, axiom, sorry.
-/
import Derived.Test.YtoonpnfhcmghmaaDoorChecked
import GoSem.Claim
import GoSem.ClaimJoined
import GoSem.ClaimMapViews
import Derived.JoinedTies
import Derived.KernelRfl
namespace Go.Proofs.YtoonpnfhcmghmaaDoor
/- THE CELL 'sum', in the pinned program and in every row, IS THE sha256 OF THE DUMP (.gsa) THAT YtoonpnfhcmghmaaDoorProg.lean LOADS. Nothing in Lean hashes anything: it is a label: what it is worth is what the hold of that sum in a sandbox is worth. -/
noncomputable def Tryd.pinned : Pinned := { name := "ytoonpnfhcmghmaadoor", sum := "897b83504b4af642b78656480f3e4a9ae04b744b610fa52d147a576669ca155e", checked := Tryd.checked }
namespace Rows
def none {H : Type} : Left H := { results := [], args := [] }

/- WHAT THE LISTED PACKAGE-LEVEL VARIABLES READ AS WHEN THE CALL BEGINS. Each datum BY PROGRAM (the guide's laid-datum.mjs) off the statement by which the dump's own 'gosem.cut.vars' lays the variable. In a bare row this is a premise. The card (YtoonpnfhcmghmaaDoorCards.lean) ties it to the program's text. -/
def laid_loop_example_g00710_impl_fieldTable {H : Type} : DataW H := .agg [.agg [.lit (.int .i64 17), .lit (.int .i64 3), .lit (.int .i64 4)], .agg [.lit (.int .i64 97), .lit (.int .i64 5), .lit (.int .i64 5)], .agg [.lit (.int .i64 193), .lit (.int .i64 5), .lit (.int .i64 6)], .agg [.lit (.int .i64 257), .lit (.int .i64 3), .lit (.int .i64 8)], .agg [.lit (.int .i64 7681), .lit (.int .i64 17), .lit (.int .i64 9)], .agg [.lit (.int .i64 12289), .lit (.int .i64 11), .lit (.int .i64 12)], .agg [.lit (.int .i64 998244353), .lit (.int .i64 3), .lit (.int .i64 23)], .agg [.lit (.int .i64 469762049), .lit (.int .i64 3), .lit (.int .i64 26)], .agg [.lit (.int .i64 1004535809), .lit (.int .i64 3), .lit (.int .i64 21)]]

/-- 'laws.FnAutomorph': WHATEVER THE INPUT: true; the input reads as it did. -/
def fnAutomorphSpec : ChangeSpec := { name := "fnAutomorph", vars := ["loop.example/g00710/impl.fieldTable"], fn := fun _ => fun
  | [d, g1] => { results := [.lit (.bool true)], args := [d], vars := [g1] }
  | _ => none }
def fnAutomorphRow : OpenClaim := { program := "ytoonpnfhcmghmaadoor", sum := "897b83504b4af642b78656480f3e4a9ae04b744b610fa52d147a576669ca155e", func := "loop.example/g00710/laws.FnAutomorph", spec := "fnAutomorph", named := ["loop.example/g00710/impl.fieldTable"], apart := false, laid := [("loop.example/g00710/impl.fieldTable", laid_loop_example_g00710_impl_fieldTable)] }
def FnAutomorphSaid : Prop := fnAutomorphRow.holds Tryd.pinned (OpenSpec.ofChange fnAutomorphSpec)

/-- ITS FALSE NEIGHBOUR: 'it returns false'. Refute it at one input. -/
def fnAutomorphWrong : ChangeSpec := { name := "fnAutomorph", vars := ["loop.example/g00710/impl.fieldTable"], fn := fun _ => fun
  | [d, g1] => { results := [.lit (.bool false)], args := [d], vars := [g1] }
  | _ => none }
def FnAutomorphWrongFalsely : Prop := fnAutomorphRow.holds Tryd.pinned (OpenSpec.ofChange fnAutomorphWrong)

/-- 'laws.FnTrace': WHATEVER THE INPUT: true; the input reads as it did. -/
def fnTraceSpec : ChangeSpec := { name := "fnTrace", vars := ["loop.example/g00710/impl.fieldTable"], fn := fun _ => fun
  | [d, g1] => { results := [.lit (.bool true)], args := [d], vars := [g1] }
  | _ => none }
def fnTraceRow : OpenClaim := { program := "ytoonpnfhcmghmaadoor", sum := "897b83504b4af642b78656480f3e4a9ae04b744b610fa52d147a576669ca155e", func := "loop.example/g00710/laws.FnTrace", spec := "fnTrace", unfollowed := true, recurses := true, named := ["loop.example/g00710/impl.fieldTable"], apart := false, laid := [("loop.example/g00710/impl.fieldTable", laid_loop_example_g00710_impl_fieldTable)] }
def FnTraceSaid : Prop := fnTraceRow.holds Tryd.pinned (OpenSpec.ofChange fnTraceSpec)

/-- ITS FALSE NEIGHBOUR: 'it returns false'. Refute it at one input. -/
def fnTraceWrong : ChangeSpec := { name := "fnTrace", vars := ["loop.example/g00710/impl.fieldTable"], fn := fun _ => fun
  | [d, g1] => { results := [.lit (.bool false)], args := [d], vars := [g1] }
  | _ => none }
def FnTraceWrongFalsely : Prop := fnTraceRow.holds Tryd.pinned (OpenSpec.ofChange fnTraceWrong)

/-- 'laws.FnOddProduct': WHATEVER THE INPUT: true; the input reads as it did. -/
def fnOddProductSpec : ChangeSpec := { name := "fnOddProduct", vars := ["loop.example/g00710/impl.fieldTable"], fn := fun _ => fun
  | [d, g1] => { results := [.lit (.bool true)], args := [d], vars := [g1] }
  | _ => none }
def fnOddProductRow : OpenClaim := { program := "ytoonpnfhcmghmaadoor", sum := "897b83504b4af642b78656480f3e4a9ae04b744b610fa52d147a576669ca155e", func := "loop.example/g00710/laws.FnOddProduct", spec := "fnOddProduct", unfollowed := true, recurses := true, named := ["loop.example/g00710/impl.fieldTable"], apart := false, laid := [("loop.example/g00710/impl.fieldTable", laid_loop_example_g00710_impl_fieldTable)] }
def FnOddProductSaid : Prop := fnOddProductRow.holds Tryd.pinned (OpenSpec.ofChange fnOddProductSpec)

/-- ITS FALSE NEIGHBOUR: 'it returns false'. Refute it at one input. -/
def fnOddProductWrong : ChangeSpec := { name := "fnOddProduct", vars := ["loop.example/g00710/impl.fieldTable"], fn := fun _ => fun
  | [d, g1] => { results := [.lit (.bool false)], args := [d], vars := [g1] }
  | _ => none }
def FnOddProductWrongFalsely : Prop := fnOddProductRow.holds Tryd.pinned (OpenSpec.ofChange fnOddProductWrong)

/-- 'laws.FnRingInverse': WHATEVER THE INPUT: true; the input reads as it did. -/
def fnRingInverseSpec : ChangeSpec := { name := "fnRingInverse", vars := ["loop.example/g00710/impl.fieldTable"], fn := fun _ => fun
  | [d, g1] => { results := [.lit (.bool true)], args := [d], vars := [g1] }
  | _ => none }
def fnRingInverseRow : OpenClaim := { program := "ytoonpnfhcmghmaadoor", sum := "897b83504b4af642b78656480f3e4a9ae04b744b610fa52d147a576669ca155e", func := "loop.example/g00710/laws.FnRingInverse", spec := "fnRingInverse", unfollowed := true, recurses := true, named := ["loop.example/g00710/impl.fieldTable"], apart := false, laid := [("loop.example/g00710/impl.fieldTable", laid_loop_example_g00710_impl_fieldTable)] }
def FnRingInverseSaid : Prop := fnRingInverseRow.holds Tryd.pinned (OpenSpec.ofChange fnRingInverseSpec)

/-- ITS FALSE NEIGHBOUR: 'it returns false'. Refute it at one input. -/
def fnRingInverseWrong : ChangeSpec := { name := "fnRingInverse", vars := ["loop.example/g00710/impl.fieldTable"], fn := fun _ => fun
  | [d, g1] => { results := [.lit (.bool false)], args := [d], vars := [g1] }
  | _ => none }
def FnRingInverseWrongFalsely : Prop := fnRingInverseRow.holds Tryd.pinned (OpenSpec.ofChange fnRingInverseWrong)

/-- 'laws.FnParts': WHATEVER THE INPUT: true; the input reads as it did. -/
def fnPartsSpec : ChangeSpec := { name := "fnParts", vars := ["loop.example/g00710/impl.fieldTable"], fn := fun _ => fun
  | [d, g1] => { results := [.lit (.bool true)], args := [d], vars := [g1] }
  | _ => none }
def fnPartsRow : OpenClaim := { program := "ytoonpnfhcmghmaadoor", sum := "897b83504b4af642b78656480f3e4a9ae04b744b610fa52d147a576669ca155e", func := "loop.example/g00710/laws.FnParts", spec := "fnParts", unfollowed := true, recurses := true, named := ["loop.example/g00710/impl.fieldTable"], apart := false, laid := [("loop.example/g00710/impl.fieldTable", laid_loop_example_g00710_impl_fieldTable)] }
def FnPartsSaid : Prop := fnPartsRow.holds Tryd.pinned (OpenSpec.ofChange fnPartsSpec)

/-- ITS FALSE NEIGHBOUR: 'it returns false'. Refute it at one input. -/
def fnPartsWrong : ChangeSpec := { name := "fnParts", vars := ["loop.example/g00710/impl.fieldTable"], fn := fun _ => fun
  | [d, g1] => { results := [.lit (.bool false)], args := [d], vars := [g1] }
  | _ => none }
def FnPartsWrongFalsely : Prop := fnPartsRow.holds Tryd.pinned (OpenSpec.ofChange fnPartsWrong)

/-- 'laws.FnRescaled': WHATEVER THE INPUT: true; the input reads as it did. -/
def fnRescaledSpec : ChangeSpec := { name := "fnRescaled", vars := ["loop.example/g00710/impl.fieldTable"], fn := fun _ => fun
  | [d, g1] => { results := [.lit (.bool true)], args := [d], vars := [g1] }
  | _ => none }
def fnRescaledRow : OpenClaim := { program := "ytoonpnfhcmghmaadoor", sum := "897b83504b4af642b78656480f3e4a9ae04b744b610fa52d147a576669ca155e", func := "loop.example/g00710/laws.FnRescaled", spec := "fnRescaled", named := ["loop.example/g00710/impl.fieldTable"], apart := false, laid := [("loop.example/g00710/impl.fieldTable", laid_loop_example_g00710_impl_fieldTable)] }
def FnRescaledSaid : Prop := fnRescaledRow.holds Tryd.pinned (OpenSpec.ofChange fnRescaledSpec)

/-- ITS FALSE NEIGHBOUR: 'it returns false'. Refute it at one input. -/
def fnRescaledWrong : ChangeSpec := { name := "fnRescaled", vars := ["loop.example/g00710/impl.fieldTable"], fn := fun _ => fun
  | [d, g1] => { results := [.lit (.bool false)], args := [d], vars := [g1] }
  | _ => none }
def FnRescaledWrongFalsely : Prop := fnRescaledRow.holds Tryd.pinned (OpenSpec.ofChange fnRescaledWrong)

/-- 'laws.FnExactRingOne': WHATEVER THE INPUT: true; the input reads as it did. -/
def fnExactRingOneSpec : ChangeSpec := { name := "fnExactRingOne", vars := ["loop.example/g00710/impl.fieldTable"], fn := fun _ => fun
  | [d1, d2, g1] => { results := [.lit (.bool true)], args := [d1, d2], vars := [g1] }
  | _ => none }
def fnExactRingOneRow : OpenClaim := { program := "ytoonpnfhcmghmaadoor", sum := "897b83504b4af642b78656480f3e4a9ae04b744b610fa52d147a576669ca155e", func := "loop.example/g00710/laws.FnExactRingOne", spec := "fnExactRingOne", named := ["loop.example/g00710/impl.fieldTable"], apart := false, laid := [("loop.example/g00710/impl.fieldTable", laid_loop_example_g00710_impl_fieldTable)] }
def FnExactRingOneSaid : Prop := fnExactRingOneRow.holds Tryd.pinned (OpenSpec.ofChange fnExactRingOneSpec)

/-- ITS FALSE NEIGHBOUR: 'it returns false'. Refute it at one input. -/
def fnExactRingOneWrong : ChangeSpec := { name := "fnExactRingOne", vars := ["loop.example/g00710/impl.fieldTable"], fn := fun _ => fun
  | [d1, d2, g1] => { results := [.lit (.bool false)], args := [d1, d2], vars := [g1] }
  | _ => none }
def FnExactRingOneWrongFalsely : Prop := fnExactRingOneRow.holds Tryd.pinned (OpenSpec.ofChange fnExactRingOneWrong)

/-- 'laws.FnExactRingPower': WHATEVER THE INPUT: true; the input reads as it did. -/
def fnExactRingPowerSpec : ChangeSpec := { name := "fnExactRingPower", vars := ["loop.example/g00710/impl.fieldTable"], fn := fun _ => fun
  | [d1, d2, d3, g1] => { results := [.lit (.bool true)], args := [d1, d2, d3], vars := [g1] }
  | _ => none }
def fnExactRingPowerRow : OpenClaim := { program := "ytoonpnfhcmghmaadoor", sum := "897b83504b4af642b78656480f3e4a9ae04b744b610fa52d147a576669ca155e", func := "loop.example/g00710/laws.FnExactRingPower", spec := "fnExactRingPower", unfollowed := true, recurses := true, named := ["loop.example/g00710/impl.fieldTable"], apart := false, laid := [("loop.example/g00710/impl.fieldTable", laid_loop_example_g00710_impl_fieldTable)] }
def FnExactRingPowerSaid : Prop := fnExactRingPowerRow.holds Tryd.pinned (OpenSpec.ofChange fnExactRingPowerSpec)

/-- ITS FALSE NEIGHBOUR: 'it returns false'. Refute it at one input. -/
def fnExactRingPowerWrong : ChangeSpec := { name := "fnExactRingPower", vars := ["loop.example/g00710/impl.fieldTable"], fn := fun _ => fun
  | [d1, d2, d3, g1] => { results := [.lit (.bool false)], args := [d1, d2, d3], vars := [g1] }
  | _ => none }
def FnExactRingPowerWrongFalsely : Prop := fnExactRingPowerRow.holds Tryd.pinned (OpenSpec.ofChange fnExactRingPowerWrong)

/-- 'laws.FnExactAutomorph': WHATEVER THE INPUT: true; the input reads as it did. -/
def fnExactAutomorphSpec : ChangeSpec := { name := "fnExactAutomorph", vars := ["loop.example/g00710/impl.fieldTable"], fn := fun _ => fun
  | [d1, d2, d3, g1] => { results := [.lit (.bool true)], args := [d1, d2, d3], vars := [g1] }
  | _ => none }
def fnExactAutomorphRow : OpenClaim := { program := "ytoonpnfhcmghmaadoor", sum := "897b83504b4af642b78656480f3e4a9ae04b744b610fa52d147a576669ca155e", func := "loop.example/g00710/laws.FnExactAutomorph", spec := "fnExactAutomorph", named := ["loop.example/g00710/impl.fieldTable"], apart := false, laid := [("loop.example/g00710/impl.fieldTable", laid_loop_example_g00710_impl_fieldTable)] }
def FnExactAutomorphSaid : Prop := fnExactAutomorphRow.holds Tryd.pinned (OpenSpec.ofChange fnExactAutomorphSpec)

/-- ITS FALSE NEIGHBOUR: 'it returns false'. Refute it at one input. -/
def fnExactAutomorphWrong : ChangeSpec := { name := "fnExactAutomorph", vars := ["loop.example/g00710/impl.fieldTable"], fn := fun _ => fun
  | [d1, d2, d3, g1] => { results := [.lit (.bool false)], args := [d1, d2, d3], vars := [g1] }
  | _ => none }
def FnExactAutomorphWrongFalsely : Prop := fnExactAutomorphRow.holds Tryd.pinned (OpenSpec.ofChange fnExactAutomorphWrong)

/- THE SECOND FORM. 'bulk': how many values and letters a reading holds, each counted each time it is reached (what is shared counts as often as it is met; a slice's spare places count too). A statement '..UptoSaid' is the law's where the arguments, and the package variables that the reading takes, are together of bulk at most 1048576: NARROWER than '..Said'. Prove '..Said' where nothing that the law and all that it calls make is longer than what came in: it says more and counts as full. Else prove '..UptoSaid'. A law counts once. -/
mutual
def uptoBulk {H : Type} : DataW H → Nat
  | .lit (.string bytes) => bytes.length + 1
  | .lit _ => 1
  | .nil => 1
  | .ptr d => uptoBulk d + 1
  | .slice elems spare => uptoBulkAll elems + uptoBulkAll spare + 1
  | .agg parts => uptoBulkAll parts + 1
  | .iface _ d => uptoBulk d + 1
  | .map entries => uptoBulkEntries entries + 1
  | .held _ => 1
def uptoBulkAll {H : Type} : List (DataW H) → Nat
  | [] => 0
  | d :: r => uptoBulk d + uptoBulkAll r
def uptoBulkEntries {H : Type} : List (Lit × DataW H) → Nat
  | [] => 0
  | x :: r => uptoBulkEntry x + uptoBulkEntries r
def uptoBulkEntry {H : Type} : Lit × DataW H → Nat
  | (.string bytes, d) => bytes.length + uptoBulk d + 1
  | (_, d) => uptoBulk d + 1
 end
def uptoSmall : (H : Type) → List (DataW H) → Bool := fun _ ds => decide (uptoBulkAll ds ≤ 1048576)
def OpenSpec.upto (s : _root_.Go.ChangeSpec) : _root_.Go.OpenSpec := { _root_.Go.OpenSpec.ofChange s with cond := some uptoSmall }

/-- 'laws.FnAutomorph', WHERE WHAT IT READS IS OF BULK AT MOST 1048576: true; the input reads as it did. -/
def fnAutomorphUptoRow : OpenClaim := { program := "ytoonpnfhcmghmaadoor", sum := "897b83504b4af642b78656480f3e4a9ae04b744b610fa52d147a576669ca155e", func := "loop.example/g00710/laws.FnAutomorph", spec := "fnAutomorph", named := ["loop.example/g00710/impl.fieldTable"], apart := false, laid := [("loop.example/g00710/impl.fieldTable", laid_loop_example_g00710_impl_fieldTable)], narrowed := true }
def FnAutomorphUptoSaid : Prop := fnAutomorphUptoRow.holds Tryd.pinned (OpenSpec.upto fnAutomorphSpec)

/-- 'laws.FnTrace', WHERE WHAT IT READS IS OF BULK AT MOST 1048576: true; the input reads as it did. -/
def fnTraceUptoRow : OpenClaim := { program := "ytoonpnfhcmghmaadoor", sum := "897b83504b4af642b78656480f3e4a9ae04b744b610fa52d147a576669ca155e", func := "loop.example/g00710/laws.FnTrace", spec := "fnTrace", unfollowed := true, recurses := true, named := ["loop.example/g00710/impl.fieldTable"], apart := false, laid := [("loop.example/g00710/impl.fieldTable", laid_loop_example_g00710_impl_fieldTable)], narrowed := true }
def FnTraceUptoSaid : Prop := fnTraceUptoRow.holds Tryd.pinned (OpenSpec.upto fnTraceSpec)

/-- 'laws.FnOddProduct', WHERE WHAT IT READS IS OF BULK AT MOST 1048576: true; the input reads as it did. -/
def fnOddProductUptoRow : OpenClaim := { program := "ytoonpnfhcmghmaadoor", sum := "897b83504b4af642b78656480f3e4a9ae04b744b610fa52d147a576669ca155e", func := "loop.example/g00710/laws.FnOddProduct", spec := "fnOddProduct", unfollowed := true, recurses := true, named := ["loop.example/g00710/impl.fieldTable"], apart := false, laid := [("loop.example/g00710/impl.fieldTable", laid_loop_example_g00710_impl_fieldTable)], narrowed := true }
def FnOddProductUptoSaid : Prop := fnOddProductUptoRow.holds Tryd.pinned (OpenSpec.upto fnOddProductSpec)

/-- 'laws.FnRingInverse', WHERE WHAT IT READS IS OF BULK AT MOST 1048576: true; the input reads as it did. -/
def fnRingInverseUptoRow : OpenClaim := { program := "ytoonpnfhcmghmaadoor", sum := "897b83504b4af642b78656480f3e4a9ae04b744b610fa52d147a576669ca155e", func := "loop.example/g00710/laws.FnRingInverse", spec := "fnRingInverse", unfollowed := true, recurses := true, named := ["loop.example/g00710/impl.fieldTable"], apart := false, laid := [("loop.example/g00710/impl.fieldTable", laid_loop_example_g00710_impl_fieldTable)], narrowed := true }
def FnRingInverseUptoSaid : Prop := fnRingInverseUptoRow.holds Tryd.pinned (OpenSpec.upto fnRingInverseSpec)

/-- 'laws.FnParts', WHERE WHAT IT READS IS OF BULK AT MOST 1048576: true; the input reads as it did. -/
def fnPartsUptoRow : OpenClaim := { program := "ytoonpnfhcmghmaadoor", sum := "897b83504b4af642b78656480f3e4a9ae04b744b610fa52d147a576669ca155e", func := "loop.example/g00710/laws.FnParts", spec := "fnParts", unfollowed := true, recurses := true, named := ["loop.example/g00710/impl.fieldTable"], apart := false, laid := [("loop.example/g00710/impl.fieldTable", laid_loop_example_g00710_impl_fieldTable)], narrowed := true }
def FnPartsUptoSaid : Prop := fnPartsUptoRow.holds Tryd.pinned (OpenSpec.upto fnPartsSpec)

/-- 'laws.FnRescaled', WHERE WHAT IT READS IS OF BULK AT MOST 1048576: true; the input reads as it did. -/
def fnRescaledUptoRow : OpenClaim := { program := "ytoonpnfhcmghmaadoor", sum := "897b83504b4af642b78656480f3e4a9ae04b744b610fa52d147a576669ca155e", func := "loop.example/g00710/laws.FnRescaled", spec := "fnRescaled", named := ["loop.example/g00710/impl.fieldTable"], apart := false, laid := [("loop.example/g00710/impl.fieldTable", laid_loop_example_g00710_impl_fieldTable)], narrowed := true }
def FnRescaledUptoSaid : Prop := fnRescaledUptoRow.holds Tryd.pinned (OpenSpec.upto fnRescaledSpec)

/-- 'laws.FnExactRingOne', WHERE WHAT IT READS IS OF BULK AT MOST 1048576: true; the input reads as it did. -/
def fnExactRingOneUptoRow : OpenClaim := { program := "ytoonpnfhcmghmaadoor", sum := "897b83504b4af642b78656480f3e4a9ae04b744b610fa52d147a576669ca155e", func := "loop.example/g00710/laws.FnExactRingOne", spec := "fnExactRingOne", named := ["loop.example/g00710/impl.fieldTable"], apart := false, laid := [("loop.example/g00710/impl.fieldTable", laid_loop_example_g00710_impl_fieldTable)], narrowed := true }
def FnExactRingOneUptoSaid : Prop := fnExactRingOneUptoRow.holds Tryd.pinned (OpenSpec.upto fnExactRingOneSpec)

/-- 'laws.FnExactRingPower', WHERE WHAT IT READS IS OF BULK AT MOST 1048576: true; the input reads as it did. -/
def fnExactRingPowerUptoRow : OpenClaim := { program := "ytoonpnfhcmghmaadoor", sum := "897b83504b4af642b78656480f3e4a9ae04b744b610fa52d147a576669ca155e", func := "loop.example/g00710/laws.FnExactRingPower", spec := "fnExactRingPower", unfollowed := true, recurses := true, named := ["loop.example/g00710/impl.fieldTable"], apart := false, laid := [("loop.example/g00710/impl.fieldTable", laid_loop_example_g00710_impl_fieldTable)], narrowed := true }
def FnExactRingPowerUptoSaid : Prop := fnExactRingPowerUptoRow.holds Tryd.pinned (OpenSpec.upto fnExactRingPowerSpec)

/-- 'laws.FnExactAutomorph', WHERE WHAT IT READS IS OF BULK AT MOST 1048576: true; the input reads as it did. -/
def fnExactAutomorphUptoRow : OpenClaim := { program := "ytoonpnfhcmghmaadoor", sum := "897b83504b4af642b78656480f3e4a9ae04b744b610fa52d147a576669ca155e", func := "loop.example/g00710/laws.FnExactAutomorph", spec := "fnExactAutomorph", named := ["loop.example/g00710/impl.fieldTable"], apart := false, laid := [("loop.example/g00710/impl.fieldTable", laid_loop_example_g00710_impl_fieldTable)], narrowed := true }
def FnExactAutomorphUptoSaid : Prop := fnExactAutomorphUptoRow.holds Tryd.pinned (OpenSpec.upto fnExactAutomorphSpec)

end Rows
end Go.Proofs.YtoonpnfhcmghmaaDoor
