/-
  DERIVED. GIVEN WITH THE SEED: THE CARDS: each row of YthmbgiidfngmdabDoorRows.lean that lists a variable, with what it lists TIED to the program's text (the seventh form; the later family's looks); each row that meets fmt, with fmt's text TOLD by the authors' own Lean function (tested against real Go, not proved from fmt's source: count such statements apart). THE CARD IS WHAT COUNTS. Prove the row's statement (the work); the ties are given (YthmbgiidfngmdabDoorTie.lean); close each card by the builder's one call (the guide's Derived/Test/ToyasCard.lean, 'card_holds'). Laid BY PROGRAM, IN A SANDBOX (cutbox-door.mjs). By AI agents, Wed Nov 11 2026. No macro, syntax, notation, axiom, sorry.
-/
import Derived.Test.YthmbgiidfngmdabDoorRows
import GoSem.ClaimSeven
namespace Go.Proofs.YthmbgiidfngmdabDoor
namespace Rows

/-- THE TIED CARD OF 'laws.FnExactCompose'. -/
def fnExactComposeCard : Claim7 := { stood := { row := fnExactComposeRow, standIns := [], harness := (true, "691b1ccde172212f56b5af5d31b7945ed7809e7ee5b8ae38206e32869b06544c"), looks := false }, kinds := [], alts := [], laidByText := true, laidKinds := [.data], laidTests := true, laidLooks := .later }
def FnExactComposeCardSaid : Prop := Claim7.holds Tryd.pinned (.plain (OpenSpec.ofChange fnExactComposeSpec)) fnExactComposeCard

/-- THE TIED CARD OF 'laws.FnExactDivMod'. -/
def fnExactDivModCard : Claim7 := { stood := { row := fnExactDivModRow, standIns := [], harness := (true, "691b1ccde172212f56b5af5d31b7945ed7809e7ee5b8ae38206e32869b06544c"), looks := false }, kinds := [], alts := [], laidByText := true, laidKinds := [.data], laidTests := true, laidLooks := .later }
def FnExactDivModCardSaid : Prop := Claim7.holds Tryd.pinned (.plain (OpenSpec.ofChange fnExactDivModSpec)) fnExactDivModCard

/-- THE TIED CARD OF 'laws.FnExactEvalPoly'. -/
def fnExactEvalPolyCard : Claim7 := { stood := { row := fnExactEvalPolyRow, standIns := [], harness := (true, "691b1ccde172212f56b5af5d31b7945ed7809e7ee5b8ae38206e32869b06544c"), looks := false }, kinds := [], alts := [], laidByText := true, laidKinds := [.data], laidTests := true, laidLooks := .later }
def FnExactEvalPolyCardSaid : Prop := Claim7.holds Tryd.pinned (.plain (OpenSpec.ofChange fnExactEvalPolySpec)) fnExactEvalPolyCard

/-- THE TIED CARD OF 'laws.FnExactGcdPoly'. -/
def fnExactGcdPolyCard : Claim7 := { stood := { row := fnExactGcdPolyRow, standIns := [], harness := (true, "691b1ccde172212f56b5af5d31b7945ed7809e7ee5b8ae38206e32869b06544c"), looks := false }, kinds := [], alts := [], laidByText := true, laidKinds := [.data], laidTests := true, laidLooks := .later }
def FnExactGcdPolyCardSaid : Prop := Claim7.holds Tryd.pinned (.plain (OpenSpec.ofChange fnExactGcdPolySpec)) fnExactGcdPolyCard

/-- THE TIED CARD OF 'laws.FnExactMulPoly'. -/
def fnExactMulPolyCard : Claim7 := { stood := { row := fnExactMulPolyRow, standIns := [], harness := (true, "691b1ccde172212f56b5af5d31b7945ed7809e7ee5b8ae38206e32869b06544c"), looks := false }, kinds := [], alts := [], laidByText := true, laidKinds := [.data], laidTests := true, laidLooks := .later }
def FnExactMulPolyCardSaid : Prop := Claim7.holds Tryd.pinned (.plain (OpenSpec.ofChange fnExactMulPolySpec)) fnExactMulPolyCard

/-- THE TIED CARD OF 'laws.FnExactPowMod'. -/
def fnExactPowModCard : Claim7 := { stood := { row := fnExactPowModRow, standIns := [], harness := (true, "691b1ccde172212f56b5af5d31b7945ed7809e7ee5b8ae38206e32869b06544c"), looks := false }, kinds := [], alts := [], laidByText := true, laidKinds := [.data], laidTests := true, laidLooks := .later }
def FnExactPowModCardSaid : Prop := Claim7.holds Tryd.pinned (.plain (OpenSpec.ofChange fnExactPowModSpec)) fnExactPowModCard

/-- THE TIED CARD OF 'laws.FnExactSquareFree'. -/
def fnExactSquareFreeCard : Claim7 := { stood := { row := fnExactSquareFreeRow, standIns := [], harness := (true, "691b1ccde172212f56b5af5d31b7945ed7809e7ee5b8ae38206e32869b06544c"), looks := false }, kinds := [], alts := [], laidByText := true, laidKinds := [.data], laidTests := true, laidLooks := .later }
def FnExactSquareFreeCardSaid : Prop := Claim7.holds Tryd.pinned (.plain (OpenSpec.ofChange fnExactSquareFreeSpec)) fnExactSquareFreeCard

/-- THE SECOND FORM's CARD OF 'laws.FnExactCompose'. -/
def fnExactComposeUptoCard : Claim7 := { stood := { row := fnExactComposeUptoRow, standIns := [], harness := (true, "691b1ccde172212f56b5af5d31b7945ed7809e7ee5b8ae38206e32869b06544c"), looks := false }, kinds := [], alts := [], laidByText := true, laidKinds := [.data], laidTests := true, laidLooks := .later }
def FnExactComposeUptoCardSaid : Prop := Claim7.holds Tryd.pinned (.plain (OpenSpec.upto fnExactComposeSpec)) fnExactComposeUptoCard

/-- THE SECOND FORM's CARD OF 'laws.FnExactDivMod'. -/
def fnExactDivModUptoCard : Claim7 := { stood := { row := fnExactDivModUptoRow, standIns := [], harness := (true, "691b1ccde172212f56b5af5d31b7945ed7809e7ee5b8ae38206e32869b06544c"), looks := false }, kinds := [], alts := [], laidByText := true, laidKinds := [.data], laidTests := true, laidLooks := .later }
def FnExactDivModUptoCardSaid : Prop := Claim7.holds Tryd.pinned (.plain (OpenSpec.upto fnExactDivModSpec)) fnExactDivModUptoCard

/-- THE SECOND FORM's CARD OF 'laws.FnExactEvalPoly'. -/
def fnExactEvalPolyUptoCard : Claim7 := { stood := { row := fnExactEvalPolyUptoRow, standIns := [], harness := (true, "691b1ccde172212f56b5af5d31b7945ed7809e7ee5b8ae38206e32869b06544c"), looks := false }, kinds := [], alts := [], laidByText := true, laidKinds := [.data], laidTests := true, laidLooks := .later }
def FnExactEvalPolyUptoCardSaid : Prop := Claim7.holds Tryd.pinned (.plain (OpenSpec.upto fnExactEvalPolySpec)) fnExactEvalPolyUptoCard

/-- THE SECOND FORM's CARD OF 'laws.FnExactGcdPoly'. -/
def fnExactGcdPolyUptoCard : Claim7 := { stood := { row := fnExactGcdPolyUptoRow, standIns := [], harness := (true, "691b1ccde172212f56b5af5d31b7945ed7809e7ee5b8ae38206e32869b06544c"), looks := false }, kinds := [], alts := [], laidByText := true, laidKinds := [.data], laidTests := true, laidLooks := .later }
def FnExactGcdPolyUptoCardSaid : Prop := Claim7.holds Tryd.pinned (.plain (OpenSpec.upto fnExactGcdPolySpec)) fnExactGcdPolyUptoCard

/-- THE SECOND FORM's CARD OF 'laws.FnExactMulPoly'. -/
def fnExactMulPolyUptoCard : Claim7 := { stood := { row := fnExactMulPolyUptoRow, standIns := [], harness := (true, "691b1ccde172212f56b5af5d31b7945ed7809e7ee5b8ae38206e32869b06544c"), looks := false }, kinds := [], alts := [], laidByText := true, laidKinds := [.data], laidTests := true, laidLooks := .later }
def FnExactMulPolyUptoCardSaid : Prop := Claim7.holds Tryd.pinned (.plain (OpenSpec.upto fnExactMulPolySpec)) fnExactMulPolyUptoCard

/-- THE SECOND FORM's CARD OF 'laws.FnExactPowMod'. -/
def fnExactPowModUptoCard : Claim7 := { stood := { row := fnExactPowModUptoRow, standIns := [], harness := (true, "691b1ccde172212f56b5af5d31b7945ed7809e7ee5b8ae38206e32869b06544c"), looks := false }, kinds := [], alts := [], laidByText := true, laidKinds := [.data], laidTests := true, laidLooks := .later }
def FnExactPowModUptoCardSaid : Prop := Claim7.holds Tryd.pinned (.plain (OpenSpec.upto fnExactPowModSpec)) fnExactPowModUptoCard

/-- THE SECOND FORM's CARD OF 'laws.FnExactSquareFree'. -/
def fnExactSquareFreeUptoCard : Claim7 := { stood := { row := fnExactSquareFreeUptoRow, standIns := [], harness := (true, "691b1ccde172212f56b5af5d31b7945ed7809e7ee5b8ae38206e32869b06544c"), looks := false }, kinds := [], alts := [], laidByText := true, laidKinds := [.data], laidTests := true, laidLooks := .later }
def FnExactSquareFreeUptoCardSaid : Prop := Claim7.holds Tryd.pinned (.plain (OpenSpec.upto fnExactSquareFreeSpec)) fnExactSquareFreeUptoCard
end Rows
end Go.Proofs.YthmbgiidfngmdabDoor
