/-
  NARROWER THAN 'FOR EVERY INPUT', by the rows' own cells (each row's printed sentence says how): FnParts: laid · FnExactRejoin: laid.
  DERIVED. THE GIVEN ROWS OF THIS SEAT. 2 by the template 'for every input the law returns true; each argument reads behind the call as it read before'; 0 by the template 'total and deterministic' (their statements: YtfocdlkophdfoaaDoorTotals.lean).
  GIVEN WITH THE SEED: the statements are not yours to turn. If you find one false, say at which input.
  Laid BY PROGRAM, IN A SANDBOX (cutbox-rows.mjs): the forced cells as the released guide's own fill.sh prints them over the translation 4257c99151639614… (all of the seat's roots in one cut). By AI agents, Wed Nov 11 2026. No macro, syntax, notation, axiom, sorry.
-/
import Derived.Test.YtfocdlkophdfoaaDoorChecked
import GoSem.Claim
import GoSem.ClaimJoined
import GoSem.ClaimMapViews
import Derived.JoinedTies
import Derived.KernelRfl
namespace Go.Proofs.YtfocdlkophdfoaaDoor
/- THE CELL 'sum', in the pinned program and in every row, IS THE sha256 OF THE DUMP (.gsa) THAT YtfocdlkophdfoaaDoorProg.lean LOADS. Nothing in Lean hashes anything: it is a label: what it is worth is what the hold of that sum in a sandbox is worth. -/
noncomputable def Tryd.pinned : Pinned := { name := "ytfocdlkophdfoaadoor", sum := "4257c9915163961467419334eb4b01614ddb92cf0bdf76dec3545ea01679d1c9", checked := Tryd.checked }
namespace Rows
def none {H : Type} : Left H := { results := [], args := [] }

/- WHAT THE LISTED PACKAGE-LEVEL VARIABLES READ AS WHEN THE CALL BEGINS. Each datum BY PROGRAM (the guide's laid-datum.mjs) off the statement by which the dump's own 'gosem.cut.vars' lays the variable. In a bare row this is a premise. The card (YtfocdlkophdfoaaDoorCards.lean) ties it to the program's text. -/
def laid_loop_example_g00710_impl_fieldTable {H : Type} : DataW H := .agg [.agg [.lit (.int .i64 17), .lit (.int .i64 3), .lit (.int .i64 4)], .agg [.lit (.int .i64 97), .lit (.int .i64 5), .lit (.int .i64 5)], .agg [.lit (.int .i64 193), .lit (.int .i64 5), .lit (.int .i64 6)], .agg [.lit (.int .i64 257), .lit (.int .i64 3), .lit (.int .i64 8)], .agg [.lit (.int .i64 7681), .lit (.int .i64 17), .lit (.int .i64 9)], .agg [.lit (.int .i64 12289), .lit (.int .i64 11), .lit (.int .i64 12)], .agg [.lit (.int .i64 998244353), .lit (.int .i64 3), .lit (.int .i64 23)], .agg [.lit (.int .i64 469762049), .lit (.int .i64 3), .lit (.int .i64 26)], .agg [.lit (.int .i64 1004535809), .lit (.int .i64 3), .lit (.int .i64 21)]]

/-- 'laws.FnParts': WHATEVER THE INPUT: true; the input reads as it did. -/
def fnPartsSpec : ChangeSpec := { name := "fnParts", vars := ["loop.example/g00710/impl.fieldTable"], fn := fun _ => fun
  | [d, g1] => { results := [.lit (.bool true)], args := [d], vars := [g1] }
  | _ => none }
def fnPartsRow : OpenClaim := { program := "ytfocdlkophdfoaadoor", sum := "4257c9915163961467419334eb4b01614ddb92cf0bdf76dec3545ea01679d1c9", func := "loop.example/g00710/laws.FnParts", spec := "fnParts", unfollowed := true, recurses := true, named := ["loop.example/g00710/impl.fieldTable"], apart := false, laid := [("loop.example/g00710/impl.fieldTable", laid_loop_example_g00710_impl_fieldTable)] }
def FnPartsSaid : Prop := fnPartsRow.holds Tryd.pinned (OpenSpec.ofChange fnPartsSpec)

/-- ITS FALSE NEIGHBOUR: 'it returns false'. Refute it at one input. -/
def fnPartsWrong : ChangeSpec := { name := "fnParts", vars := ["loop.example/g00710/impl.fieldTable"], fn := fun _ => fun
  | [d, g1] => { results := [.lit (.bool false)], args := [d], vars := [g1] }
  | _ => none }
def FnPartsWrongFalsely : Prop := fnPartsRow.holds Tryd.pinned (OpenSpec.ofChange fnPartsWrong)

/-- 'laws.FnExactRejoin': WHATEVER THE INPUT: true; the input reads as it did. -/
def fnExactRejoinSpec : ChangeSpec := { name := "fnExactRejoin", vars := ["loop.example/g00710/impl.fieldTable"], fn := fun _ => fun
  | [d1, d2, d3, g1] => { results := [.lit (.bool true)], args := [d1, d2, d3], vars := [g1] }
  | _ => none }
def fnExactRejoinRow : OpenClaim := { program := "ytfocdlkophdfoaadoor", sum := "4257c9915163961467419334eb4b01614ddb92cf0bdf76dec3545ea01679d1c9", func := "loop.example/g00710/laws.FnExactRejoin", spec := "fnExactRejoin", unfollowed := true, recurses := true, named := ["loop.example/g00710/impl.fieldTable"], apart := false, laid := [("loop.example/g00710/impl.fieldTable", laid_loop_example_g00710_impl_fieldTable)] }
def FnExactRejoinSaid : Prop := fnExactRejoinRow.holds Tryd.pinned (OpenSpec.ofChange fnExactRejoinSpec)

/-- ITS FALSE NEIGHBOUR: 'it returns false'. Refute it at one input. -/
def fnExactRejoinWrong : ChangeSpec := { name := "fnExactRejoin", vars := ["loop.example/g00710/impl.fieldTable"], fn := fun _ => fun
  | [d1, d2, d3, g1] => { results := [.lit (.bool false)], args := [d1, d2, d3], vars := [g1] }
  | _ => none }
def FnExactRejoinWrongFalsely : Prop := fnExactRejoinRow.holds Tryd.pinned (OpenSpec.ofChange fnExactRejoinWrong)

/- THE SECOND FORM. 'bulk': how many values and letters a reading holds, each counted each time it is reached (what is shared counts as often as it is met; a slice's spare places count too). A statement '..UptoSaid' is the law's where the arguments, and the package variables that the reading takes, are together of bulk at most 1048576: NARROWER than '..Said'. Prove '..Said' where nothing that the law and all that it calls make is longer than what came in: it says more and counts as full. Else prove '..UptoSaid'. A law counts once. -/
mutual
def uptoBulk {H : Type} : DataW H → Nat
  | .lit (.string bytes) => bytes.length + 1
  | .lit _ => 1
  | .nil => 1
  | .ptr d => uptoBulk d + 1
  | .slice elems spare => uptoBulkAll elems + uptoBulkAll spare + 1
  | .agg parts => uptoBulkAll parts + 1
  | .iface _ d => uptoBulk d + 1
  | .map entries => uptoBulkEntries entries + 1
  | .held _ => 1
def uptoBulkAll {H : Type} : List (DataW H) → Nat
  | [] => 0
  | d :: r => uptoBulk d + uptoBulkAll r
def uptoBulkEntries {H : Type} : List (Lit × DataW H) → Nat
  | [] => 0
  | x :: r => uptoBulkEntry x + uptoBulkEntries r
def uptoBulkEntry {H : Type} : Lit × DataW H → Nat
  | (.string bytes, d) => bytes.length + uptoBulk d + 1
  | (_, d) => uptoBulk d + 1
 end
def uptoSmall : (H : Type) → List (DataW H) → Bool := fun _ ds => decide (uptoBulkAll ds ≤ 1048576)
def OpenSpec.upto (s : _root_.Go.ChangeSpec) : _root_.Go.OpenSpec := { _root_.Go.OpenSpec.ofChange s with cond := some uptoSmall }

/-- 'laws.FnParts', WHERE WHAT IT READS IS OF BULK AT MOST 1048576: true; the input reads as it did. -/
def fnPartsUptoRow : OpenClaim := { program := "ytfocdlkophdfoaadoor", sum := "4257c9915163961467419334eb4b01614ddb92cf0bdf76dec3545ea01679d1c9", func := "loop.example/g00710/laws.FnParts", spec := "fnParts", unfollowed := true, recurses := true, named := ["loop.example/g00710/impl.fieldTable"], apart := false, laid := [("loop.example/g00710/impl.fieldTable", laid_loop_example_g00710_impl_fieldTable)], narrowed := true }
def FnPartsUptoSaid : Prop := fnPartsUptoRow.holds Tryd.pinned (OpenSpec.upto fnPartsSpec)

/-- 'laws.FnExactRejoin', WHERE WHAT IT READS IS OF BULK AT MOST 1048576: true; the input reads as it did. -/
def fnExactRejoinUptoRow : OpenClaim := { program := "ytfocdlkophdfoaadoor", sum := "4257c9915163961467419334eb4b01614ddb92cf0bdf76dec3545ea01679d1c9", func := "loop.example/g00710/laws.FnExactRejoin", spec := "fnExactRejoin", unfollowed := true, recurses := true, named := ["loop.example/g00710/impl.fieldTable"], apart := false, laid := [("loop.example/g00710/impl.fieldTable", laid_loop_example_g00710_impl_fieldTable)], narrowed := true }
def FnExactRejoinUptoSaid : Prop := fnExactRejoinUptoRow.holds Tryd.pinned (OpenSpec.upto fnExactRejoinSpec)

end Rows
end Go.Proofs.YtfocdlkophdfoaaDoor
