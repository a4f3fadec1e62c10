/-
  DERIVED. GIVEN WITH THE SEED: THE CARDS: each row of YtoonpnfhcmghmabDoorRows.lean that lists a variable, with what it lists TIED to the program's text (the seventh form; the later family's looks); each row that meets fmt, with fmt's text TOLD by the authors' own Lean function (tested against real Go, not proved from fmt's source: count such statements apart). THE CARD IS WHAT COUNTS. Prove the row's statement (the work); the ties are given (YtoonpnfhcmghmabDoorTie.lean); close each card by the builder's one call (the guide's Derived/Test/ToyasCard.lean, 'card_holds'). Laid BY PROGRAM, IN A SANDBOX (cutbox-door.mjs). By AI agents, Wed Nov 11 2026. No macro, syntax, notation, axiom, sorry.
-/
import Derived.Test.YtoonpnfhcmghmabDoorRows
import GoSem.ClaimSeven
namespace Go.Proofs.YtoonpnfhcmghmabDoor
namespace Rows

/-- THE TIED CARD OF 'laws.FnExactOddValues'. -/
def fnExactOddValuesCard : Claim7 := { stood := { row := fnExactOddValuesRow, standIns := [], harness := (true, "0a50f809e07a5bff6dd59c31cd2c1ac77e73394f6fafca691c584aae2a8ea072"), looks := false }, kinds := [], alts := [], laidByText := true, laidKinds := [.data], laidTests := true, laidLooks := .later }
def FnExactOddValuesCardSaid : Prop := Claim7.holds Tryd.pinned (.plain (OpenSpec.ofChange fnExactOddValuesSpec)) fnExactOddValuesCard

/-- THE TIED CARD OF 'laws.FnExactOddBack'. -/
def fnExactOddBackCard : Claim7 := { stood := { row := fnExactOddBackRow, standIns := [], harness := (true, "0a50f809e07a5bff6dd59c31cd2c1ac77e73394f6fafca691c584aae2a8ea072"), looks := false }, kinds := [], alts := [], laidByText := true, laidKinds := [.data], laidTests := true, laidLooks := .later }
def FnExactOddBackCardSaid : Prop := Claim7.holds Tryd.pinned (.plain (OpenSpec.ofChange fnExactOddBackSpec)) fnExactOddBackCard

/-- THE TIED CARD OF 'laws.FnExactRingInverse'. -/
def fnExactRingInverseCard : Claim7 := { stood := { row := fnExactRingInverseRow, standIns := [], harness := (true, "0a50f809e07a5bff6dd59c31cd2c1ac77e73394f6fafca691c584aae2a8ea072"), looks := false }, kinds := [], alts := [], laidByText := true, laidKinds := [.data], laidTests := true, laidLooks := .later }
def FnExactRingInverseCardSaid : Prop := Claim7.holds Tryd.pinned (.plain (OpenSpec.ofChange fnExactRingInverseSpec)) fnExactRingInverseCard

/-- THE TIED CARD OF 'laws.FnExactNorm'. -/
def fnExactNormCard : Claim7 := { stood := { row := fnExactNormRow, standIns := [], harness := (true, "0a50f809e07a5bff6dd59c31cd2c1ac77e73394f6fafca691c584aae2a8ea072"), looks := false }, kinds := [], alts := [], laidByText := true, laidKinds := [.data], laidTests := true, laidLooks := .later }
def FnExactNormCardSaid : Prop := Claim7.holds Tryd.pinned (.plain (OpenSpec.ofChange fnExactNormSpec)) fnExactNormCard

/-- THE TIED CARD OF 'laws.FnExactTrace'. -/
def fnExactTraceCard : Claim7 := { stood := { row := fnExactTraceRow, standIns := [], harness := (true, "0a50f809e07a5bff6dd59c31cd2c1ac77e73394f6fafca691c584aae2a8ea072"), looks := false }, kinds := [], alts := [], laidByText := true, laidKinds := [.data], laidTests := true, laidLooks := .later }
def FnExactTraceCardSaid : Prop := Claim7.holds Tryd.pinned (.plain (OpenSpec.ofChange fnExactTraceSpec)) fnExactTraceCard

/-- THE TIED CARD OF 'laws.FnExactDigitParts'. -/
def fnExactDigitPartsCard : Claim7 := { stood := { row := fnExactDigitPartsRow, standIns := [], harness := (true, "0a50f809e07a5bff6dd59c31cd2c1ac77e73394f6fafca691c584aae2a8ea072"), looks := false }, kinds := [], alts := [], laidByText := true, laidKinds := [.data], laidTests := true, laidLooks := .later }
def FnExactDigitPartsCardSaid : Prop := Claim7.holds Tryd.pinned (.plain (OpenSpec.ofChange fnExactDigitPartsSpec)) fnExactDigitPartsCard

/-- THE TIED CARD OF 'laws.FnExactRejoin'. -/
def fnExactRejoinCard : Claim7 := { stood := { row := fnExactRejoinRow, standIns := [], harness := (true, "0a50f809e07a5bff6dd59c31cd2c1ac77e73394f6fafca691c584aae2a8ea072"), looks := false }, kinds := [], alts := [], laidByText := true, laidKinds := [.data], laidTests := true, laidLooks := .later }
def FnExactRejoinCardSaid : Prop := Claim7.holds Tryd.pinned (.plain (OpenSpec.ofChange fnExactRejoinSpec)) fnExactRejoinCard

/-- THE TIED CARD OF 'laws.FnExactRescale'. -/
def fnExactRescaleCard : Claim7 := { stood := { row := fnExactRescaleRow, standIns := [], harness := (true, "0a50f809e07a5bff6dd59c31cd2c1ac77e73394f6fafca691c584aae2a8ea072"), looks := false }, kinds := [], alts := [], laidByText := true, laidKinds := [.data], laidTests := true, laidLooks := .later }
def FnExactRescaleCardSaid : Prop := Claim7.holds Tryd.pinned (.plain (OpenSpec.ofChange fnExactRescaleSpec)) fnExactRescaleCard

/-- THE SECOND FORM's CARD OF 'laws.FnExactOddValues'. -/
def fnExactOddValuesUptoCard : Claim7 := { stood := { row := fnExactOddValuesUptoRow, standIns := [], harness := (true, "0a50f809e07a5bff6dd59c31cd2c1ac77e73394f6fafca691c584aae2a8ea072"), looks := false }, kinds := [], alts := [], laidByText := true, laidKinds := [.data], laidTests := true, laidLooks := .later }
def FnExactOddValuesUptoCardSaid : Prop := Claim7.holds Tryd.pinned (.plain (OpenSpec.upto fnExactOddValuesSpec)) fnExactOddValuesUptoCard

/-- THE SECOND FORM's CARD OF 'laws.FnExactOddBack'. -/
def fnExactOddBackUptoCard : Claim7 := { stood := { row := fnExactOddBackUptoRow, standIns := [], harness := (true, "0a50f809e07a5bff6dd59c31cd2c1ac77e73394f6fafca691c584aae2a8ea072"), looks := false }, kinds := [], alts := [], laidByText := true, laidKinds := [.data], laidTests := true, laidLooks := .later }
def FnExactOddBackUptoCardSaid : Prop := Claim7.holds Tryd.pinned (.plain (OpenSpec.upto fnExactOddBackSpec)) fnExactOddBackUptoCard

/-- THE SECOND FORM's CARD OF 'laws.FnExactRingInverse'. -/
def fnExactRingInverseUptoCard : Claim7 := { stood := { row := fnExactRingInverseUptoRow, standIns := [], harness := (true, "0a50f809e07a5bff6dd59c31cd2c1ac77e73394f6fafca691c584aae2a8ea072"), looks := false }, kinds := [], alts := [], laidByText := true, laidKinds := [.data], laidTests := true, laidLooks := .later }
def FnExactRingInverseUptoCardSaid : Prop := Claim7.holds Tryd.pinned (.plain (OpenSpec.upto fnExactRingInverseSpec)) fnExactRingInverseUptoCard

/-- THE SECOND FORM's CARD OF 'laws.FnExactNorm'. -/
def fnExactNormUptoCard : Claim7 := { stood := { row := fnExactNormUptoRow, standIns := [], harness := (true, "0a50f809e07a5bff6dd59c31cd2c1ac77e73394f6fafca691c584aae2a8ea072"), looks := false }, kinds := [], alts := [], laidByText := true, laidKinds := [.data], laidTests := true, laidLooks := .later }
def FnExactNormUptoCardSaid : Prop := Claim7.holds Tryd.pinned (.plain (OpenSpec.upto fnExactNormSpec)) fnExactNormUptoCard

/-- THE SECOND FORM's CARD OF 'laws.FnExactTrace'. -/
def fnExactTraceUptoCard : Claim7 := { stood := { row := fnExactTraceUptoRow, standIns := [], harness := (true, "0a50f809e07a5bff6dd59c31cd2c1ac77e73394f6fafca691c584aae2a8ea072"), looks := false }, kinds := [], alts := [], laidByText := true, laidKinds := [.data], laidTests := true, laidLooks := .later }
def FnExactTraceUptoCardSaid : Prop := Claim7.holds Tryd.pinned (.plain (OpenSpec.upto fnExactTraceSpec)) fnExactTraceUptoCard

/-- THE SECOND FORM's CARD OF 'laws.FnExactDigitParts'. -/
def fnExactDigitPartsUptoCard : Claim7 := { stood := { row := fnExactDigitPartsUptoRow, standIns := [], harness := (true, "0a50f809e07a5bff6dd59c31cd2c1ac77e73394f6fafca691c584aae2a8ea072"), looks := false }, kinds := [], alts := [], laidByText := true, laidKinds := [.data], laidTests := true, laidLooks := .later }
def FnExactDigitPartsUptoCardSaid : Prop := Claim7.holds Tryd.pinned (.plain (OpenSpec.upto fnExactDigitPartsSpec)) fnExactDigitPartsUptoCard

/-- THE SECOND FORM's CARD OF 'laws.FnExactRejoin'. -/
def fnExactRejoinUptoCard : Claim7 := { stood := { row := fnExactRejoinUptoRow, standIns := [], harness := (true, "0a50f809e07a5bff6dd59c31cd2c1ac77e73394f6fafca691c584aae2a8ea072"), looks := false }, kinds := [], alts := [], laidByText := true, laidKinds := [.data], laidTests := true, laidLooks := .later }
def FnExactRejoinUptoCardSaid : Prop := Claim7.holds Tryd.pinned (.plain (OpenSpec.upto fnExactRejoinSpec)) fnExactRejoinUptoCard

/-- THE SECOND FORM's CARD OF 'laws.FnExactRescale'. -/
def fnExactRescaleUptoCard : Claim7 := { stood := { row := fnExactRescaleUptoRow, standIns := [], harness := (true, "0a50f809e07a5bff6dd59c31cd2c1ac77e73394f6fafca691c584aae2a8ea072"), looks := false }, kinds := [], alts := [], laidByText := true, laidKinds := [.data], laidTests := true, laidLooks := .later }
def FnExactRescaleUptoCardSaid : Prop := Claim7.holds Tryd.pinned (.plain (OpenSpec.upto fnExactRescaleSpec)) fnExactRescaleUptoCard
end Rows
end Go.Proofs.YtoonpnfhcmghmabDoor
