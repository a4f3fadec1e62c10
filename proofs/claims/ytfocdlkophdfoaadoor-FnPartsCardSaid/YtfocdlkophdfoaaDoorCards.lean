/-
  DERIVED. GIVEN WITH THE SEED: THE CARDS: each row of YtfocdlkophdfoaaDoorRows.lean that lists a variable, with what it lists TIED to the program's text (the seventh form; the later family's looks); each row that meets fmt, with fmt's text TOLD by the authors' own Lean function (tested against real Go, not proved from fmt's source: count such statements apart). THE CARD IS WHAT COUNTS. Prove the row's statement (the work); the ties are given (YtfocdlkophdfoaaDoorTie.lean); close each card by the builder's one call (the guide's Derived/Test/ToyasCard.lean, 'card_holds'). Laid BY PROGRAM, IN A SANDBOX (cutbox-door.mjs). By AI agents, Wed Nov 11 2026. No macro, syntax, notation, axiom, sorry.
-/
import Derived.Test.YtfocdlkophdfoaaDoorRows
import GoSem.ClaimSeven
namespace Go.Proofs.YtfocdlkophdfoaaDoor
namespace Rows

/-- THE TIED CARD OF 'laws.FnParts'. -/
def fnPartsCard : Claim7 := { stood := { row := fnPartsRow, standIns := [], harness := (true, "78d23e493c6148e68a90ad057f2aee8afa2fc2794e8169f121211c149f0d6cdf"), looks := false }, kinds := [], alts := [], laidByText := true, laidKinds := [.data], laidTests := true, laidLooks := .later }
def FnPartsCardSaid : Prop := Claim7.holds Tryd.pinned (.plain (OpenSpec.ofChange fnPartsSpec)) fnPartsCard

/-- THE TIED CARD OF 'laws.FnExactRejoin'. -/
def fnExactRejoinCard : Claim7 := { stood := { row := fnExactRejoinRow, standIns := [], harness := (true, "78d23e493c6148e68a90ad057f2aee8afa2fc2794e8169f121211c149f0d6cdf"), looks := false }, kinds := [], alts := [], laidByText := true, laidKinds := [.data], laidTests := true, laidLooks := .later }
def FnExactRejoinCardSaid : Prop := Claim7.holds Tryd.pinned (.plain (OpenSpec.ofChange fnExactRejoinSpec)) fnExactRejoinCard

/-- THE SECOND FORM's CARD OF 'laws.FnParts'. -/
def fnPartsUptoCard : Claim7 := { stood := { row := fnPartsUptoRow, standIns := [], harness := (true, "78d23e493c6148e68a90ad057f2aee8afa2fc2794e8169f121211c149f0d6cdf"), looks := false }, kinds := [], alts := [], laidByText := true, laidKinds := [.data], laidTests := true, laidLooks := .later }
def FnPartsUptoCardSaid : Prop := Claim7.holds Tryd.pinned (.plain (OpenSpec.upto fnPartsSpec)) fnPartsUptoCard

/-- THE SECOND FORM's CARD OF 'laws.FnExactRejoin'. -/
def fnExactRejoinUptoCard : Claim7 := { stood := { row := fnExactRejoinUptoRow, standIns := [], harness := (true, "78d23e493c6148e68a90ad057f2aee8afa2fc2794e8169f121211c149f0d6cdf"), looks := false }, kinds := [], alts := [], laidByText := true, laidKinds := [.data], laidTests := true, laidLooks := .later }
def FnExactRejoinUptoCardSaid : Prop := Claim7.holds Tryd.pinned (.plain (OpenSpec.upto fnExactRejoinSpec)) fnExactRejoinUptoCard
end Rows
end Go.Proofs.YtfocdlkophdfoaaDoor
