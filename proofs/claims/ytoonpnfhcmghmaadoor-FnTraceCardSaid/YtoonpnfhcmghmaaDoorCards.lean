/-
  DERIVED. GIVEN WITH THE SEED: THE CARDS: each row of YtoonpnfhcmghmaaDoorRows.lean that lists a variable, with what it lists TIED to the program's text (the seventh form; the later family's looks); each row that meets fmt, with fmt's text TOLD by the authors' own Lean function (tested against real Go, not proved from fmt's source: count such statements apart). THE CARD IS WHAT COUNTS. Prove the row's statement (the work); the ties are given (YtoonpnfhcmghmaaDoorTie.lean); close each card by the builder's one call (the guide's Derived/Test/ToyasCard.lean, 'card_holds'). Laid BY PROGRAM, IN A SANDBOX (cutbox-door.mjs). By AI agents, Wed Nov 11 2026. No macro, syntax, notation, axiom, sorry.
-/
import Derived.Test.YtoonpnfhcmghmaaDoorRows
import GoSem.ClaimSeven
namespace Go.Proofs.YtoonpnfhcmghmaaDoor
namespace Rows

/-- THE TIED CARD OF 'laws.FnAutomorph'. -/
def fnAutomorphCard : Claim7 := { stood := { row := fnAutomorphRow, standIns := [], harness := (true, "1dd890ecc909c3cb4451aaa60ea00491f431aeb4c550a608bc02547a9e4c7967"), looks := false }, kinds := [], alts := [], laidByText := true, laidKinds := [.data], laidTests := true, laidLooks := .later }
def FnAutomorphCardSaid : Prop := Claim7.holds Tryd.pinned (.plain (OpenSpec.ofChange fnAutomorphSpec)) fnAutomorphCard

/-- THE TIED CARD OF 'laws.FnTrace'. -/
def fnTraceCard : Claim7 := { stood := { row := fnTraceRow, standIns := [], harness := (true, "1dd890ecc909c3cb4451aaa60ea00491f431aeb4c550a608bc02547a9e4c7967"), looks := false }, kinds := [], alts := [], laidByText := true, laidKinds := [.data], laidTests := true, laidLooks := .later }
def FnTraceCardSaid : Prop := Claim7.holds Tryd.pinned (.plain (OpenSpec.ofChange fnTraceSpec)) fnTraceCard

/-- THE TIED CARD OF 'laws.FnOddProduct'. -/
def fnOddProductCard : Claim7 := { stood := { row := fnOddProductRow, standIns := [], harness := (true, "1dd890ecc909c3cb4451aaa60ea00491f431aeb4c550a608bc02547a9e4c7967"), looks := false }, kinds := [], alts := [], laidByText := true, laidKinds := [.data], laidTests := true, laidLooks := .later }
def FnOddProductCardSaid : Prop := Claim7.holds Tryd.pinned (.plain (OpenSpec.ofChange fnOddProductSpec)) fnOddProductCard

/-- THE TIED CARD OF 'laws.FnRingInverse'. -/
def fnRingInverseCard : Claim7 := { stood := { row := fnRingInverseRow, standIns := [], harness := (true, "1dd890ecc909c3cb4451aaa60ea00491f431aeb4c550a608bc02547a9e4c7967"), looks := false }, kinds := [], alts := [], laidByText := true, laidKinds := [.data], laidTests := true, laidLooks := .later }
def FnRingInverseCardSaid : Prop := Claim7.holds Tryd.pinned (.plain (OpenSpec.ofChange fnRingInverseSpec)) fnRingInverseCard

/-- THE TIED CARD OF 'laws.FnParts'. -/
def fnPartsCard : Claim7 := { stood := { row := fnPartsRow, standIns := [], harness := (true, "1dd890ecc909c3cb4451aaa60ea00491f431aeb4c550a608bc02547a9e4c7967"), looks := false }, kinds := [], alts := [], laidByText := true, laidKinds := [.data], laidTests := true, laidLooks := .later }
def FnPartsCardSaid : Prop := Claim7.holds Tryd.pinned (.plain (OpenSpec.ofChange fnPartsSpec)) fnPartsCard

/-- THE TIED CARD OF 'laws.FnRescaled'. -/
def fnRescaledCard : Claim7 := { stood := { row := fnRescaledRow, standIns := [], harness := (true, "1dd890ecc909c3cb4451aaa60ea00491f431aeb4c550a608bc02547a9e4c7967"), looks := false }, kinds := [], alts := [], laidByText := true, laidKinds := [.data], laidTests := true, laidLooks := .later }
def FnRescaledCardSaid : Prop := Claim7.holds Tryd.pinned (.plain (OpenSpec.ofChange fnRescaledSpec)) fnRescaledCard

/-- THE TIED CARD OF 'laws.FnExactRingOne'. -/
def fnExactRingOneCard : Claim7 := { stood := { row := fnExactRingOneRow, standIns := [], harness := (true, "1dd890ecc909c3cb4451aaa60ea00491f431aeb4c550a608bc02547a9e4c7967"), looks := false }, kinds := [], alts := [], laidByText := true, laidKinds := [.data], laidTests := true, laidLooks := .later }
def FnExactRingOneCardSaid : Prop := Claim7.holds Tryd.pinned (.plain (OpenSpec.ofChange fnExactRingOneSpec)) fnExactRingOneCard

/-- THE TIED CARD OF 'laws.FnExactRingPower'. -/
def fnExactRingPowerCard : Claim7 := { stood := { row := fnExactRingPowerRow, standIns := [], harness := (true, "1dd890ecc909c3cb4451aaa60ea00491f431aeb4c550a608bc02547a9e4c7967"), looks := false }, kinds := [], alts := [], laidByText := true, laidKinds := [.data], laidTests := true, laidLooks := .later }
def FnExactRingPowerCardSaid : Prop := Claim7.holds Tryd.pinned (.plain (OpenSpec.ofChange fnExactRingPowerSpec)) fnExactRingPowerCard

/-- THE TIED CARD OF 'laws.FnExactAutomorph'. -/
def fnExactAutomorphCard : Claim7 := { stood := { row := fnExactAutomorphRow, standIns := [], harness := (true, "1dd890ecc909c3cb4451aaa60ea00491f431aeb4c550a608bc02547a9e4c7967"), looks := false }, kinds := [], alts := [], laidByText := true, laidKinds := [.data], laidTests := true, laidLooks := .later }
def FnExactAutomorphCardSaid : Prop := Claim7.holds Tryd.pinned (.plain (OpenSpec.ofChange fnExactAutomorphSpec)) fnExactAutomorphCard

/-- THE SECOND FORM's CARD OF 'laws.FnAutomorph'. -/
def fnAutomorphUptoCard : Claim7 := { stood := { row := fnAutomorphUptoRow, standIns := [], harness := (true, "1dd890ecc909c3cb4451aaa60ea00491f431aeb4c550a608bc02547a9e4c7967"), looks := false }, kinds := [], alts := [], laidByText := true, laidKinds := [.data], laidTests := true, laidLooks := .later }
def FnAutomorphUptoCardSaid : Prop := Claim7.holds Tryd.pinned (.plain (OpenSpec.upto fnAutomorphSpec)) fnAutomorphUptoCard

/-- THE SECOND FORM's CARD OF 'laws.FnTrace'. -/
def fnTraceUptoCard : Claim7 := { stood := { row := fnTraceUptoRow, standIns := [], harness := (true, "1dd890ecc909c3cb4451aaa60ea00491f431aeb4c550a608bc02547a9e4c7967"), looks := false }, kinds := [], alts := [], laidByText := true, laidKinds := [.data], laidTests := true, laidLooks := .later }
def FnTraceUptoCardSaid : Prop := Claim7.holds Tryd.pinned (.plain (OpenSpec.upto fnTraceSpec)) fnTraceUptoCard

/-- THE SECOND FORM's CARD OF 'laws.FnOddProduct'. -/
def fnOddProductUptoCard : Claim7 := { stood := { row := fnOddProductUptoRow, standIns := [], harness := (true, "1dd890ecc909c3cb4451aaa60ea00491f431aeb4c550a608bc02547a9e4c7967"), looks := false }, kinds := [], alts := [], laidByText := true, laidKinds := [.data], laidTests := true, laidLooks := .later }
def FnOddProductUptoCardSaid : Prop := Claim7.holds Tryd.pinned (.plain (OpenSpec.upto fnOddProductSpec)) fnOddProductUptoCard

/-- THE SECOND FORM's CARD OF 'laws.FnRingInverse'. -/
def fnRingInverseUptoCard : Claim7 := { stood := { row := fnRingInverseUptoRow, standIns := [], harness := (true, "1dd890ecc909c3cb4451aaa60ea00491f431aeb4c550a608bc02547a9e4c7967"), looks := false }, kinds := [], alts := [], laidByText := true, laidKinds := [.data], laidTests := true, laidLooks := .later }
def FnRingInverseUptoCardSaid : Prop := Claim7.holds Tryd.pinned (.plain (OpenSpec.upto fnRingInverseSpec)) fnRingInverseUptoCard

/-- THE SECOND FORM's CARD OF 'laws.FnParts'. -/
def fnPartsUptoCard : Claim7 := { stood := { row := fnPartsUptoRow, standIns := [], harness := (true, "1dd890ecc909c3cb4451aaa60ea00491f431aeb4c550a608bc02547a9e4c7967"), looks := false }, kinds := [], alts := [], laidByText := true, laidKinds := [.data], laidTests := true, laidLooks := .later }
def FnPartsUptoCardSaid : Prop := Claim7.holds Tryd.pinned (.plain (OpenSpec.upto fnPartsSpec)) fnPartsUptoCard

/-- THE SECOND FORM's CARD OF 'laws.FnRescaled'. -/
def fnRescaledUptoCard : Claim7 := { stood := { row := fnRescaledUptoRow, standIns := [], harness := (true, "1dd890ecc909c3cb4451aaa60ea00491f431aeb4c550a608bc02547a9e4c7967"), looks := false }, kinds := [], alts := [], laidByText := true, laidKinds := [.data], laidTests := true, laidLooks := .later }
def FnRescaledUptoCardSaid : Prop := Claim7.holds Tryd.pinned (.plain (OpenSpec.upto fnRescaledSpec)) fnRescaledUptoCard

/-- THE SECOND FORM's CARD OF 'laws.FnExactRingOne'. -/
def fnExactRingOneUptoCard : Claim7 := { stood := { row := fnExactRingOneUptoRow, standIns := [], harness := (true, "1dd890ecc909c3cb4451aaa60ea00491f431aeb4c550a608bc02547a9e4c7967"), looks := false }, kinds := [], alts := [], laidByText := true, laidKinds := [.data], laidTests := true, laidLooks := .later }
def FnExactRingOneUptoCardSaid : Prop := Claim7.holds Tryd.pinned (.plain (OpenSpec.upto fnExactRingOneSpec)) fnExactRingOneUptoCard

/-- THE SECOND FORM's CARD OF 'laws.FnExactRingPower'. -/
def fnExactRingPowerUptoCard : Claim7 := { stood := { row := fnExactRingPowerUptoRow, standIns := [], harness := (true, "1dd890ecc909c3cb4451aaa60ea00491f431aeb4c550a608bc02547a9e4c7967"), looks := false }, kinds := [], alts := [], laidByText := true, laidKinds := [.data], laidTests := true, laidLooks := .later }
def FnExactRingPowerUptoCardSaid : Prop := Claim7.holds Tryd.pinned (.plain (OpenSpec.upto fnExactRingPowerSpec)) fnExactRingPowerUptoCard

/-- THE SECOND FORM's CARD OF 'laws.FnExactAutomorph'. -/
def fnExactAutomorphUptoCard : Claim7 := { stood := { row := fnExactAutomorphUptoRow, standIns := [], harness := (true, "1dd890ecc909c3cb4451aaa60ea00491f431aeb4c550a608bc02547a9e4c7967"), looks := false }, kinds := [], alts := [], laidByText := true, laidKinds := [.data], laidTests := true, laidLooks := .later }
def FnExactAutomorphUptoCardSaid : Prop := Claim7.holds Tryd.pinned (.plain (OpenSpec.upto fnExactAutomorphSpec)) fnExactAutomorphUptoCard
end Rows
end Go.Proofs.YtoonpnfhcmghmaaDoor
