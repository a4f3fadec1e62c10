/-
  DERIVED. GIVEN WITH THE SEED: THE CARDS: each row of YtajlhgiihneeiaaDoorRows.lean that lists a variable, with what it lists TIED to the program's text (the seventh form; the later family's looks); each row that meets fmt, with fmt's text TOLD by the authors' own Lean function (tested against real Go, not proved from fmt's source: count such statements apart). THE CARD IS WHAT COUNTS. Prove the row's statement (the work); the ties are given (YtajlhgiihneeiaaDoorTie.lean); close each card by the builder's one call (the guide's Derived/Test/ToyasCard.lean, 'card_holds'). Laid BY PROGRAM, IN A SANDBOX (cutbox-door.mjs). By AI agents, Wed Nov 11 2026. No macro, syntax, notation, axiom, sorry.
-/
import Derived.Test.YtajlhgiihneeiaaDoorRows
import GoSem.ClaimSeven
namespace Go.Proofs.YtajlhgiihneeiaaDoor
namespace Rows

/-- THE TIED CARD OF 'laws.FnBatch'. -/
def fnBatchCard : Claim7 := { stood := { row := fnBatchRow, standIns := [], harness := (true, "72463a93db5ec6bb7ba548ca8755bcdb60427b6dc410d91a931cca5fce43daa3"), looks := false }, kinds := [], alts := [], laidByText := true, laidKinds := [.data], laidTests := true, laidLooks := .later }
def FnBatchCardSaid : Prop := Claim7.holds Tryd.pinned (.plain (OpenSpec.ofChange fnBatchSpec)) fnBatchCard

/-- THE TIED CARD OF 'laws.FnExactBatchInverse'. -/
def fnExactBatchInverseCard : Claim7 := { stood := { row := fnExactBatchInverseRow, standIns := [], harness := (true, "72463a93db5ec6bb7ba548ca8755bcdb60427b6dc410d91a931cca5fce43daa3"), looks := false }, kinds := [], alts := [], laidByText := true, laidKinds := [.data], laidTests := true, laidLooks := .later }
def FnExactBatchInverseCardSaid : Prop := Claim7.holds Tryd.pinned (.plain (OpenSpec.ofChange fnExactBatchInverseSpec)) fnExactBatchInverseCard

/-- THE SECOND FORM's CARD OF 'laws.FnBatch'. -/
def fnBatchUptoCard : Claim7 := { stood := { row := fnBatchUptoRow, standIns := [], harness := (true, "72463a93db5ec6bb7ba548ca8755bcdb60427b6dc410d91a931cca5fce43daa3"), looks := false }, kinds := [], alts := [], laidByText := true, laidKinds := [.data], laidTests := true, laidLooks := .later }
def FnBatchUptoCardSaid : Prop := Claim7.holds Tryd.pinned (.plain (OpenSpec.upto fnBatchSpec)) fnBatchUptoCard

/-- THE SECOND FORM's CARD OF 'laws.FnExactBatchInverse'. -/
def fnExactBatchInverseUptoCard : Claim7 := { stood := { row := fnExactBatchInverseUptoRow, standIns := [], harness := (true, "72463a93db5ec6bb7ba548ca8755bcdb60427b6dc410d91a931cca5fce43daa3"), looks := false }, kinds := [], alts := [], laidByText := true, laidKinds := [.data], laidTests := true, laidLooks := .later }
def FnExactBatchInverseUptoCardSaid : Prop := Claim7.holds Tryd.pinned (.plain (OpenSpec.upto fnExactBatchInverseSpec)) fnExactBatchInverseUptoCard
end Rows
end Go.Proofs.YtajlhgiihneeiaaDoor
