/-
  DERIVED. GIVEN WITH THE SEED: THE CARDS: each row of YtnipffmookkkdabDoorRows.lean that lists a variable, with what it lists TIED to the program's text (the seventh form; the later family's looks); each row that meets fmt, with fmt's text TOLD by the authors' own Lean function (tested against real Go, not proved from fmt's source: count such statements apart). THE CARD IS WHAT COUNTS. Prove the row's statement (the work); the ties are given (YtnipffmookkkdabDoorTie.lean); close each card by the builder's one call (the guide's Derived/Test/ToyasCard.lean, 'card_holds'). Laid BY PROGRAM, IN A SANDBOX (cutbox-door.mjs). By AI agents, Wed Nov 11 2026. No macro, syntax, notation, axiom, sorry.
-/
import Derived.Test.YtnipffmookkkdabDoorRows
import GoSem.ClaimSeven
namespace Go.Proofs.YtnipffmookkkdabDoor
namespace Rows

/-- THE TIED CARD OF 'laws.FnExactConvPoly'. -/
def fnExactConvPolyCard : Claim7 := { stood := { row := fnExactConvPolyRow, standIns := [], harness := (true, "3718c1758ddd03bc95103d0b088174d1d8453f297485c513879b15142e2e9245"), looks := false }, kinds := [], alts := [], laidByText := true, laidKinds := [.data], laidTests := true, laidLooks := .later }
def FnExactConvPolyCardSaid : Prop := Claim7.holds Tryd.pinned (.plain (OpenSpec.ofChange fnExactConvPolySpec)) fnExactConvPolyCard

/-- THE TIED CARD OF 'laws.FnForwardBack'. -/
def fnForwardBackCard : Claim7 := { stood := { row := fnForwardBackRow, standIns := [], harness := (true, "3718c1758ddd03bc95103d0b088174d1d8453f297485c513879b15142e2e9245"), looks := false }, kinds := [], alts := [], laidByText := true, laidKinds := [.data], laidTests := true, laidLooks := .later }
def FnForwardBackCardSaid : Prop := Claim7.holds Tryd.pinned (.plain (OpenSpec.ofChange fnForwardBackSpec)) fnForwardBackCard

/-- THE TIED CARD OF 'laws.FnConvolution'. -/
def fnConvolutionCard : Claim7 := { stood := { row := fnConvolutionRow, standIns := [], harness := (true, "3718c1758ddd03bc95103d0b088174d1d8453f297485c513879b15142e2e9245"), looks := false }, kinds := [], alts := [], laidByText := true, laidKinds := [.data], laidTests := true, laidLooks := .later }
def FnConvolutionCardSaid : Prop := Claim7.holds Tryd.pinned (.plain (OpenSpec.ofChange fnConvolutionSpec)) fnConvolutionCard

/-- THE TIED CARD OF 'laws.FnStages'. -/
def fnStagesCard : Claim7 := { stood := { row := fnStagesRow, standIns := [], harness := (true, "3718c1758ddd03bc95103d0b088174d1d8453f297485c513879b15142e2e9245"), looks := false }, kinds := [], alts := [], laidByText := true, laidKinds := [.data], laidTests := true, laidLooks := .later }
def FnStagesCardSaid : Prop := Claim7.holds Tryd.pinned (.plain (OpenSpec.ofChange fnStagesSpec)) fnStagesCard

/-- THE TIED CARD OF 'laws.FnEnergy'. -/
def fnEnergyCard : Claim7 := { stood := { row := fnEnergyRow, standIns := [], harness := (true, "3718c1758ddd03bc95103d0b088174d1d8453f297485c513879b15142e2e9245"), looks := false }, kinds := [], alts := [], laidByText := true, laidKinds := [.data], laidTests := true, laidLooks := .later }
def FnEnergyCardSaid : Prop := Claim7.holds Tryd.pinned (.plain (OpenSpec.ofChange fnEnergySpec)) fnEnergyCard

/-- THE TIED CARD OF 'laws.FnRotate'. -/
def fnRotateCard : Claim7 := { stood := { row := fnRotateRow, standIns := [], harness := (true, "3718c1758ddd03bc95103d0b088174d1d8453f297485c513879b15142e2e9245"), looks := false }, kinds := [], alts := [], laidByText := true, laidKinds := [.data], laidTests := true, laidLooks := .later }
def FnRotateCardSaid : Prop := Claim7.holds Tryd.pinned (.plain (OpenSpec.ofChange fnRotateSpec)) fnRotateCard

/-- THE TIED CARD OF 'laws.FnTwistedFold'. -/
def fnTwistedFoldCard : Claim7 := { stood := { row := fnTwistedFoldRow, standIns := [], harness := (true, "3718c1758ddd03bc95103d0b088174d1d8453f297485c513879b15142e2e9245"), looks := false }, kinds := [], alts := [], laidByText := true, laidKinds := [.data], laidTests := true, laidLooks := .later }
def FnTwistedFoldCardSaid : Prop := Claim7.holds Tryd.pinned (.plain (OpenSpec.ofChange fnTwistedFoldSpec)) fnTwistedFoldCard

/-- THE SECOND FORM's CARD OF 'laws.FnExactConvPoly'. -/
def fnExactConvPolyUptoCard : Claim7 := { stood := { row := fnExactConvPolyUptoRow, standIns := [], harness := (true, "3718c1758ddd03bc95103d0b088174d1d8453f297485c513879b15142e2e9245"), looks := false }, kinds := [], alts := [], laidByText := true, laidKinds := [.data], laidTests := true, laidLooks := .later }
def FnExactConvPolyUptoCardSaid : Prop := Claim7.holds Tryd.pinned (.plain (OpenSpec.upto fnExactConvPolySpec)) fnExactConvPolyUptoCard

/-- THE SECOND FORM's CARD OF 'laws.FnForwardBack'. -/
def fnForwardBackUptoCard : Claim7 := { stood := { row := fnForwardBackUptoRow, standIns := [], harness := (true, "3718c1758ddd03bc95103d0b088174d1d8453f297485c513879b15142e2e9245"), looks := false }, kinds := [], alts := [], laidByText := true, laidKinds := [.data], laidTests := true, laidLooks := .later }
def FnForwardBackUptoCardSaid : Prop := Claim7.holds Tryd.pinned (.plain (OpenSpec.upto fnForwardBackSpec)) fnForwardBackUptoCard

/-- THE SECOND FORM's CARD OF 'laws.FnConvolution'. -/
def fnConvolutionUptoCard : Claim7 := { stood := { row := fnConvolutionUptoRow, standIns := [], harness := (true, "3718c1758ddd03bc95103d0b088174d1d8453f297485c513879b15142e2e9245"), looks := false }, kinds := [], alts := [], laidByText := true, laidKinds := [.data], laidTests := true, laidLooks := .later }
def FnConvolutionUptoCardSaid : Prop := Claim7.holds Tryd.pinned (.plain (OpenSpec.upto fnConvolutionSpec)) fnConvolutionUptoCard

/-- THE SECOND FORM's CARD OF 'laws.FnStages'. -/
def fnStagesUptoCard : Claim7 := { stood := { row := fnStagesUptoRow, standIns := [], harness := (true, "3718c1758ddd03bc95103d0b088174d1d8453f297485c513879b15142e2e9245"), looks := false }, kinds := [], alts := [], laidByText := true, laidKinds := [.data], laidTests := true, laidLooks := .later }
def FnStagesUptoCardSaid : Prop := Claim7.holds Tryd.pinned (.plain (OpenSpec.upto fnStagesSpec)) fnStagesUptoCard

/-- THE SECOND FORM's CARD OF 'laws.FnEnergy'. -/
def fnEnergyUptoCard : Claim7 := { stood := { row := fnEnergyUptoRow, standIns := [], harness := (true, "3718c1758ddd03bc95103d0b088174d1d8453f297485c513879b15142e2e9245"), looks := false }, kinds := [], alts := [], laidByText := true, laidKinds := [.data], laidTests := true, laidLooks := .later }
def FnEnergyUptoCardSaid : Prop := Claim7.holds Tryd.pinned (.plain (OpenSpec.upto fnEnergySpec)) fnEnergyUptoCard

/-- THE SECOND FORM's CARD OF 'laws.FnRotate'. -/
def fnRotateUptoCard : Claim7 := { stood := { row := fnRotateUptoRow, standIns := [], harness := (true, "3718c1758ddd03bc95103d0b088174d1d8453f297485c513879b15142e2e9245"), looks := false }, kinds := [], alts := [], laidByText := true, laidKinds := [.data], laidTests := true, laidLooks := .later }
def FnRotateUptoCardSaid : Prop := Claim7.holds Tryd.pinned (.plain (OpenSpec.upto fnRotateSpec)) fnRotateUptoCard

/-- THE SECOND FORM's CARD OF 'laws.FnTwistedFold'. -/
def fnTwistedFoldUptoCard : Claim7 := { stood := { row := fnTwistedFoldUptoRow, standIns := [], harness := (true, "3718c1758ddd03bc95103d0b088174d1d8453f297485c513879b15142e2e9245"), looks := false }, kinds := [], alts := [], laidByText := true, laidKinds := [.data], laidTests := true, laidLooks := .later }
def FnTwistedFoldUptoCardSaid : Prop := Claim7.holds Tryd.pinned (.plain (OpenSpec.upto fnTwistedFoldSpec)) fnTwistedFoldUptoCard
end Rows
end Go.Proofs.YtnipffmookkkdabDoor
