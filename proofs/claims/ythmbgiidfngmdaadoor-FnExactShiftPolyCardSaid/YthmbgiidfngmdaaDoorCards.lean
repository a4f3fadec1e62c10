/-
  DERIVED. GIVEN WITH THE SEED: THE CARDS: each row of YthmbgiidfngmdaaDoorRows.lean that lists a variable, with what it lists TIED to the program's text (the seventh form; the later family's looks); each row that meets fmt, with fmt's text TOLD by the authors' own Lean function (tested against real Go, not proved from fmt's source: count such statements apart). THE CARD IS WHAT COUNTS. Prove the row's statement (the work); the ties are given (YthmbgiidfngmdaaDoorTie.lean); close each card by the builder's one call (the guide's Derived/Test/ToyasCard.lean, 'card_holds'). Laid BY PROGRAM, IN A SANDBOX (cutbox-door.mjs). By AI agents, Wed Nov 11 2026. No macro, syntax, notation, axiom, sorry.
-/
import Derived.Test.YthmbgiidfngmdaaDoorRows
import GoSem.ClaimSeven
namespace Go.Proofs.YthmbgiidfngmdaaDoor
namespace Rows

/-- THE TIED CARD OF 'laws.FnExactAddPoly'. -/
def fnExactAddPolyCard : Claim7 := { stood := { row := fnExactAddPolyRow, standIns := [], harness := (true, "f7390b501faa8eababcebd3e39406d97929dda4b6468d41b62b2bdbe6f7021ed"), looks := false }, kinds := [], alts := [], laidByText := true, laidKinds := [.data], laidTests := true, laidLooks := .later }
def FnExactAddPolyCardSaid : Prop := Claim7.holds Tryd.pinned (.plain (OpenSpec.ofChange fnExactAddPolySpec)) fnExactAddPolyCard

/-- THE TIED CARD OF 'laws.FnExactDegree'. -/
def fnExactDegreeCard : Claim7 := { stood := { row := fnExactDegreeRow, standIns := [], harness := (true, "f7390b501faa8eababcebd3e39406d97929dda4b6468d41b62b2bdbe6f7021ed"), looks := false }, kinds := [], alts := [], laidByText := true, laidKinds := [.data], laidTests := true, laidLooks := .later }
def FnExactDegreeCardSaid : Prop := Claim7.holds Tryd.pinned (.plain (OpenSpec.ofChange fnExactDegreeSpec)) fnExactDegreeCard

/-- THE TIED CARD OF 'laws.FnExactDerivative'. -/
def fnExactDerivativeCard : Claim7 := { stood := { row := fnExactDerivativeRow, standIns := [], harness := (true, "f7390b501faa8eababcebd3e39406d97929dda4b6468d41b62b2bdbe6f7021ed"), looks := false }, kinds := [], alts := [], laidByText := true, laidKinds := [.data], laidTests := true, laidLooks := .later }
def FnExactDerivativeCardSaid : Prop := Claim7.holds Tryd.pinned (.plain (OpenSpec.ofChange fnExactDerivativeSpec)) fnExactDerivativeCard

/-- THE TIED CARD OF 'laws.FnExactPolyOk'. -/
def fnExactPolyOkCard : Claim7 := { stood := { row := fnExactPolyOkRow, standIns := [], harness := (true, "f7390b501faa8eababcebd3e39406d97929dda4b6468d41b62b2bdbe6f7021ed"), looks := false }, kinds := [], alts := [], laidByText := true, laidKinds := [.data], laidTests := true, laidLooks := .later }
def FnExactPolyOkCardSaid : Prop := Claim7.holds Tryd.pinned (.plain (OpenSpec.ofChange fnExactPolyOkSpec)) fnExactPolyOkCard

/-- THE TIED CARD OF 'laws.FnExactScalePoly'. -/
def fnExactScalePolyCard : Claim7 := { stood := { row := fnExactScalePolyRow, standIns := [], harness := (true, "f7390b501faa8eababcebd3e39406d97929dda4b6468d41b62b2bdbe6f7021ed"), looks := false }, kinds := [], alts := [], laidByText := true, laidKinds := [.data], laidTests := true, laidLooks := .later }
def FnExactScalePolyCardSaid : Prop := Claim7.holds Tryd.pinned (.plain (OpenSpec.ofChange fnExactScalePolySpec)) fnExactScalePolyCard

/-- THE TIED CARD OF 'laws.FnExactShiftPoly'. -/
def fnExactShiftPolyCard : Claim7 := { stood := { row := fnExactShiftPolyRow, standIns := [], harness := (true, "f7390b501faa8eababcebd3e39406d97929dda4b6468d41b62b2bdbe6f7021ed"), looks := false }, kinds := [], alts := [], laidByText := true, laidKinds := [.data], laidTests := true, laidLooks := .later }
def FnExactShiftPolyCardSaid : Prop := Claim7.holds Tryd.pinned (.plain (OpenSpec.ofChange fnExactShiftPolySpec)) fnExactShiftPolyCard

/-- THE TIED CARD OF 'laws.FnExactSubPoly'. -/
def fnExactSubPolyCard : Claim7 := { stood := { row := fnExactSubPolyRow, standIns := [], harness := (true, "f7390b501faa8eababcebd3e39406d97929dda4b6468d41b62b2bdbe6f7021ed"), looks := false }, kinds := [], alts := [], laidByText := true, laidKinds := [.data], laidTests := true, laidLooks := .later }
def FnExactSubPolyCardSaid : Prop := Claim7.holds Tryd.pinned (.plain (OpenSpec.ofChange fnExactSubPolySpec)) fnExactSubPolyCard

/-- THE TIED CARD OF 'laws.FnExactTrim'. -/
def fnExactTrimCard : Claim7 := { stood := { row := fnExactTrimRow, standIns := [], harness := (true, "f7390b501faa8eababcebd3e39406d97929dda4b6468d41b62b2bdbe6f7021ed"), looks := false }, kinds := [], alts := [], laidByText := true, laidKinds := [.data], laidTests := true, laidLooks := .later }
def FnExactTrimCardSaid : Prop := Claim7.holds Tryd.pinned (.plain (OpenSpec.ofChange fnExactTrimSpec)) fnExactTrimCard

/-- THE SECOND FORM's CARD OF 'laws.FnExactAddPoly'. -/
def fnExactAddPolyUptoCard : Claim7 := { stood := { row := fnExactAddPolyUptoRow, standIns := [], harness := (true, "f7390b501faa8eababcebd3e39406d97929dda4b6468d41b62b2bdbe6f7021ed"), looks := false }, kinds := [], alts := [], laidByText := true, laidKinds := [.data], laidTests := true, laidLooks := .later }
def FnExactAddPolyUptoCardSaid : Prop := Claim7.holds Tryd.pinned (.plain (OpenSpec.upto fnExactAddPolySpec)) fnExactAddPolyUptoCard

/-- THE SECOND FORM's CARD OF 'laws.FnExactDegree'. -/
def fnExactDegreeUptoCard : Claim7 := { stood := { row := fnExactDegreeUptoRow, standIns := [], harness := (true, "f7390b501faa8eababcebd3e39406d97929dda4b6468d41b62b2bdbe6f7021ed"), looks := false }, kinds := [], alts := [], laidByText := true, laidKinds := [.data], laidTests := true, laidLooks := .later }
def FnExactDegreeUptoCardSaid : Prop := Claim7.holds Tryd.pinned (.plain (OpenSpec.upto fnExactDegreeSpec)) fnExactDegreeUptoCard

/-- THE SECOND FORM's CARD OF 'laws.FnExactDerivative'. -/
def fnExactDerivativeUptoCard : Claim7 := { stood := { row := fnExactDerivativeUptoRow, standIns := [], harness := (true, "f7390b501faa8eababcebd3e39406d97929dda4b6468d41b62b2bdbe6f7021ed"), looks := false }, kinds := [], alts := [], laidByText := true, laidKinds := [.data], laidTests := true, laidLooks := .later }
def FnExactDerivativeUptoCardSaid : Prop := Claim7.holds Tryd.pinned (.plain (OpenSpec.upto fnExactDerivativeSpec)) fnExactDerivativeUptoCard

/-- THE SECOND FORM's CARD OF 'laws.FnExactPolyOk'. -/
def fnExactPolyOkUptoCard : Claim7 := { stood := { row := fnExactPolyOkUptoRow, standIns := [], harness := (true, "f7390b501faa8eababcebd3e39406d97929dda4b6468d41b62b2bdbe6f7021ed"), looks := false }, kinds := [], alts := [], laidByText := true, laidKinds := [.data], laidTests := true, laidLooks := .later }
def FnExactPolyOkUptoCardSaid : Prop := Claim7.holds Tryd.pinned (.plain (OpenSpec.upto fnExactPolyOkSpec)) fnExactPolyOkUptoCard

/-- THE SECOND FORM's CARD OF 'laws.FnExactScalePoly'. -/
def fnExactScalePolyUptoCard : Claim7 := { stood := { row := fnExactScalePolyUptoRow, standIns := [], harness := (true, "f7390b501faa8eababcebd3e39406d97929dda4b6468d41b62b2bdbe6f7021ed"), looks := false }, kinds := [], alts := [], laidByText := true, laidKinds := [.data], laidTests := true, laidLooks := .later }
def FnExactScalePolyUptoCardSaid : Prop := Claim7.holds Tryd.pinned (.plain (OpenSpec.upto fnExactScalePolySpec)) fnExactScalePolyUptoCard

/-- THE SECOND FORM's CARD OF 'laws.FnExactShiftPoly'. -/
def fnExactShiftPolyUptoCard : Claim7 := { stood := { row := fnExactShiftPolyUptoRow, standIns := [], harness := (true, "f7390b501faa8eababcebd3e39406d97929dda4b6468d41b62b2bdbe6f7021ed"), looks := false }, kinds := [], alts := [], laidByText := true, laidKinds := [.data], laidTests := true, laidLooks := .later }
def FnExactShiftPolyUptoCardSaid : Prop := Claim7.holds Tryd.pinned (.plain (OpenSpec.upto fnExactShiftPolySpec)) fnExactShiftPolyUptoCard

/-- THE SECOND FORM's CARD OF 'laws.FnExactSubPoly'. -/
def fnExactSubPolyUptoCard : Claim7 := { stood := { row := fnExactSubPolyUptoRow, standIns := [], harness := (true, "f7390b501faa8eababcebd3e39406d97929dda4b6468d41b62b2bdbe6f7021ed"), looks := false }, kinds := [], alts := [], laidByText := true, laidKinds := [.data], laidTests := true, laidLooks := .later }
def FnExactSubPolyUptoCardSaid : Prop := Claim7.holds Tryd.pinned (.plain (OpenSpec.upto fnExactSubPolySpec)) fnExactSubPolyUptoCard

/-- THE SECOND FORM's CARD OF 'laws.FnExactTrim'. -/
def fnExactTrimUptoCard : Claim7 := { stood := { row := fnExactTrimUptoRow, standIns := [], harness := (true, "f7390b501faa8eababcebd3e39406d97929dda4b6468d41b62b2bdbe6f7021ed"), looks := false }, kinds := [], alts := [], laidByText := true, laidKinds := [.data], laidTests := true, laidLooks := .later }
def FnExactTrimUptoCardSaid : Prop := Claim7.holds Tryd.pinned (.plain (OpenSpec.upto fnExactTrimSpec)) fnExactTrimUptoCard
end Rows
end Go.Proofs.YthmbgiidfngmdaaDoor
