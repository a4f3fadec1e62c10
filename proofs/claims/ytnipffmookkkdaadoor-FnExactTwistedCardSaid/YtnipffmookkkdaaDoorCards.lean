/-
  DERIVED. GIVEN WITH THE SEED: THE CARDS: each row of YtnipffmookkkdaaDoorRows.lean that lists a variable, with what it lists TIED to the program's text (the seventh form; the later family's looks); each row that meets fmt, with fmt's text TOLD by the authors' own Lean function (tested against real Go, not proved from fmt's source: count such statements apart). THE CARD IS WHAT COUNTS. Prove the row's statement (the work); the ties are given (YtnipffmookkkdaaDoorTie.lean); close each card by the builder's one call (the guide's Derived/Test/ToyasCard.lean, 'card_holds'). Laid BY PROGRAM, IN A SANDBOX (cutbox-door.mjs). By AI agents, Wed Nov 11 2026. No macro, syntax, notation, axiom, sorry.
-/
import Derived.Test.YtnipffmookkkdaaDoorRows
import GoSem.ClaimSeven
namespace Go.Proofs.YtnipffmookkkdaaDoor
namespace Rows

/-- THE TIED CARD OF 'laws.FnExactVectorOk'. -/
def fnExactVectorOkCard : Claim7 := { stood := { row := fnExactVectorOkRow, standIns := [], harness := (true, "12c2812ad5c96b6ddddb5c262fdff8a0b14448d0c21c99f3874ee3bb761f3c16"), looks := false }, kinds := [], alts := [], laidByText := true, laidKinds := [.data], laidTests := true, laidLooks := .later }
def FnExactVectorOkCardSaid : Prop := Claim7.holds Tryd.pinned (.plain (OpenSpec.ofChange fnExactVectorOkSpec)) fnExactVectorOkCard

/-- THE TIED CARD OF 'laws.FnExactForward'. -/
def fnExactForwardCard : Claim7 := { stood := { row := fnExactForwardRow, standIns := [], harness := (true, "12c2812ad5c96b6ddddb5c262fdff8a0b14448d0c21c99f3874ee3bb761f3c16"), looks := false }, kinds := [], alts := [], laidByText := true, laidKinds := [.data], laidTests := true, laidLooks := .later }
def FnExactForwardCardSaid : Prop := Claim7.holds Tryd.pinned (.plain (OpenSpec.ofChange fnExactForwardSpec)) fnExactForwardCard

/-- THE TIED CARD OF 'laws.FnExactBackward'. -/
def fnExactBackwardCard : Claim7 := { stood := { row := fnExactBackwardRow, standIns := [], harness := (true, "12c2812ad5c96b6ddddb5c262fdff8a0b14448d0c21c99f3874ee3bb761f3c16"), looks := false }, kinds := [], alts := [], laidByText := true, laidKinds := [.data], laidTests := true, laidLooks := .later }
def FnExactBackwardCardSaid : Prop := Claim7.holds Tryd.pinned (.plain (OpenSpec.ofChange fnExactBackwardSpec)) fnExactBackwardCard

/-- THE TIED CARD OF 'laws.FnExactPointwise'. -/
def fnExactPointwiseCard : Claim7 := { stood := { row := fnExactPointwiseRow, standIns := [], harness := (true, "12c2812ad5c96b6ddddb5c262fdff8a0b14448d0c21c99f3874ee3bb761f3c16"), looks := false }, kinds := [], alts := [], laidByText := true, laidKinds := [.data], laidTests := true, laidLooks := .later }
def FnExactPointwiseCardSaid : Prop := Claim7.holds Tryd.pinned (.plain (OpenSpec.ofChange fnExactPointwiseSpec)) fnExactPointwiseCard

/-- THE TIED CARD OF 'laws.FnExactCyclic'. -/
def fnExactCyclicCard : Claim7 := { stood := { row := fnExactCyclicRow, standIns := [], harness := (true, "12c2812ad5c96b6ddddb5c262fdff8a0b14448d0c21c99f3874ee3bb761f3c16"), looks := false }, kinds := [], alts := [], laidByText := true, laidKinds := [.data], laidTests := true, laidLooks := .later }
def FnExactCyclicCardSaid : Prop := Claim7.holds Tryd.pinned (.plain (OpenSpec.ofChange fnExactCyclicSpec)) fnExactCyclicCard

/-- THE TIED CARD OF 'laws.FnExactTwisted'. -/
def fnExactTwistedCard : Claim7 := { stood := { row := fnExactTwistedRow, standIns := [], harness := (true, "12c2812ad5c96b6ddddb5c262fdff8a0b14448d0c21c99f3874ee3bb761f3c16"), looks := false }, kinds := [], alts := [], laidByText := true, laidKinds := [.data], laidTests := true, laidLooks := .later }
def FnExactTwistedCardSaid : Prop := Claim7.holds Tryd.pinned (.plain (OpenSpec.ofChange fnExactTwistedSpec)) fnExactTwistedCard

/-- THE TIED CARD OF 'laws.FnExactStage'. -/
def fnExactStageCard : Claim7 := { stood := { row := fnExactStageRow, standIns := [], harness := (true, "12c2812ad5c96b6ddddb5c262fdff8a0b14448d0c21c99f3874ee3bb761f3c16"), looks := false }, kinds := [], alts := [], laidByText := true, laidKinds := [.data], laidTests := true, laidLooks := .later }
def FnExactStageCardSaid : Prop := Claim7.holds Tryd.pinned (.plain (OpenSpec.ofChange fnExactStageSpec)) fnExactStageCard

/-- THE TIED CARD OF 'laws.FnExactEnergy'. -/
def fnExactEnergyCard : Claim7 := { stood := { row := fnExactEnergyRow, standIns := [], harness := (true, "12c2812ad5c96b6ddddb5c262fdff8a0b14448d0c21c99f3874ee3bb761f3c16"), looks := false }, kinds := [], alts := [], laidByText := true, laidKinds := [.data], laidTests := true, laidLooks := .later }
def FnExactEnergyCardSaid : Prop := Claim7.holds Tryd.pinned (.plain (OpenSpec.ofChange fnExactEnergySpec)) fnExactEnergyCard

/-- THE TIED CARD OF 'laws.FnExactRotate'. -/
def fnExactRotateCard : Claim7 := { stood := { row := fnExactRotateRow, standIns := [], harness := (true, "12c2812ad5c96b6ddddb5c262fdff8a0b14448d0c21c99f3874ee3bb761f3c16"), looks := false }, kinds := [], alts := [], laidByText := true, laidKinds := [.data], laidTests := true, laidLooks := .later }
def FnExactRotateCardSaid : Prop := Claim7.holds Tryd.pinned (.plain (OpenSpec.ofChange fnExactRotateSpec)) fnExactRotateCard

/-- THE TIED CARD OF 'laws.FnExactCorrelate'. -/
def fnExactCorrelateCard : Claim7 := { stood := { row := fnExactCorrelateRow, standIns := [], harness := (true, "12c2812ad5c96b6ddddb5c262fdff8a0b14448d0c21c99f3874ee3bb761f3c16"), looks := false }, kinds := [], alts := [], laidByText := true, laidKinds := [.data], laidTests := true, laidLooks := .later }
def FnExactCorrelateCardSaid : Prop := Claim7.holds Tryd.pinned (.plain (OpenSpec.ofChange fnExactCorrelateSpec)) fnExactCorrelateCard

/-- THE SECOND FORM's CARD OF 'laws.FnExactVectorOk'. -/
def fnExactVectorOkUptoCard : Claim7 := { stood := { row := fnExactVectorOkUptoRow, standIns := [], harness := (true, "12c2812ad5c96b6ddddb5c262fdff8a0b14448d0c21c99f3874ee3bb761f3c16"), looks := false }, kinds := [], alts := [], laidByText := true, laidKinds := [.data], laidTests := true, laidLooks := .later }
def FnExactVectorOkUptoCardSaid : Prop := Claim7.holds Tryd.pinned (.plain (OpenSpec.upto fnExactVectorOkSpec)) fnExactVectorOkUptoCard

/-- THE SECOND FORM's CARD OF 'laws.FnExactForward'. -/
def fnExactForwardUptoCard : Claim7 := { stood := { row := fnExactForwardUptoRow, standIns := [], harness := (true, "12c2812ad5c96b6ddddb5c262fdff8a0b14448d0c21c99f3874ee3bb761f3c16"), looks := false }, kinds := [], alts := [], laidByText := true, laidKinds := [.data], laidTests := true, laidLooks := .later }
def FnExactForwardUptoCardSaid : Prop := Claim7.holds Tryd.pinned (.plain (OpenSpec.upto fnExactForwardSpec)) fnExactForwardUptoCard

/-- THE SECOND FORM's CARD OF 'laws.FnExactBackward'. -/
def fnExactBackwardUptoCard : Claim7 := { stood := { row := fnExactBackwardUptoRow, standIns := [], harness := (true, "12c2812ad5c96b6ddddb5c262fdff8a0b14448d0c21c99f3874ee3bb761f3c16"), looks := false }, kinds := [], alts := [], laidByText := true, laidKinds := [.data], laidTests := true, laidLooks := .later }
def FnExactBackwardUptoCardSaid : Prop := Claim7.holds Tryd.pinned (.plain (OpenSpec.upto fnExactBackwardSpec)) fnExactBackwardUptoCard

/-- THE SECOND FORM's CARD OF 'laws.FnExactPointwise'. -/
def fnExactPointwiseUptoCard : Claim7 := { stood := { row := fnExactPointwiseUptoRow, standIns := [], harness := (true, "12c2812ad5c96b6ddddb5c262fdff8a0b14448d0c21c99f3874ee3bb761f3c16"), looks := false }, kinds := [], alts := [], laidByText := true, laidKinds := [.data], laidTests := true, laidLooks := .later }
def FnExactPointwiseUptoCardSaid : Prop := Claim7.holds Tryd.pinned (.plain (OpenSpec.upto fnExactPointwiseSpec)) fnExactPointwiseUptoCard

/-- THE SECOND FORM's CARD OF 'laws.FnExactCyclic'. -/
def fnExactCyclicUptoCard : Claim7 := { stood := { row := fnExactCyclicUptoRow, standIns := [], harness := (true, "12c2812ad5c96b6ddddb5c262fdff8a0b14448d0c21c99f3874ee3bb761f3c16"), looks := false }, kinds := [], alts := [], laidByText := true, laidKinds := [.data], laidTests := true, laidLooks := .later }
def FnExactCyclicUptoCardSaid : Prop := Claim7.holds Tryd.pinned (.plain (OpenSpec.upto fnExactCyclicSpec)) fnExactCyclicUptoCard

/-- THE SECOND FORM's CARD OF 'laws.FnExactTwisted'. -/
def fnExactTwistedUptoCard : Claim7 := { stood := { row := fnExactTwistedUptoRow, standIns := [], harness := (true, "12c2812ad5c96b6ddddb5c262fdff8a0b14448d0c21c99f3874ee3bb761f3c16"), looks := false }, kinds := [], alts := [], laidByText := true, laidKinds := [.data], laidTests := true, laidLooks := .later }
def FnExactTwistedUptoCardSaid : Prop := Claim7.holds Tryd.pinned (.plain (OpenSpec.upto fnExactTwistedSpec)) fnExactTwistedUptoCard

/-- THE SECOND FORM's CARD OF 'laws.FnExactStage'. -/
def fnExactStageUptoCard : Claim7 := { stood := { row := fnExactStageUptoRow, standIns := [], harness := (true, "12c2812ad5c96b6ddddb5c262fdff8a0b14448d0c21c99f3874ee3bb761f3c16"), looks := false }, kinds := [], alts := [], laidByText := true, laidKinds := [.data], laidTests := true, laidLooks := .later }
def FnExactStageUptoCardSaid : Prop := Claim7.holds Tryd.pinned (.plain (OpenSpec.upto fnExactStageSpec)) fnExactStageUptoCard

/-- THE SECOND FORM's CARD OF 'laws.FnExactEnergy'. -/
def fnExactEnergyUptoCard : Claim7 := { stood := { row := fnExactEnergyUptoRow, standIns := [], harness := (true, "12c2812ad5c96b6ddddb5c262fdff8a0b14448d0c21c99f3874ee3bb761f3c16"), looks := false }, kinds := [], alts := [], laidByText := true, laidKinds := [.data], laidTests := true, laidLooks := .later }
def FnExactEnergyUptoCardSaid : Prop := Claim7.holds Tryd.pinned (.plain (OpenSpec.upto fnExactEnergySpec)) fnExactEnergyUptoCard

/-- THE SECOND FORM's CARD OF 'laws.FnExactRotate'. -/
def fnExactRotateUptoCard : Claim7 := { stood := { row := fnExactRotateUptoRow, standIns := [], harness := (true, "12c2812ad5c96b6ddddb5c262fdff8a0b14448d0c21c99f3874ee3bb761f3c16"), looks := false }, kinds := [], alts := [], laidByText := true, laidKinds := [.data], laidTests := true, laidLooks := .later }
def FnExactRotateUptoCardSaid : Prop := Claim7.holds Tryd.pinned (.plain (OpenSpec.upto fnExactRotateSpec)) fnExactRotateUptoCard

/-- THE SECOND FORM's CARD OF 'laws.FnExactCorrelate'. -/
def fnExactCorrelateUptoCard : Claim7 := { stood := { row := fnExactCorrelateUptoRow, standIns := [], harness := (true, "12c2812ad5c96b6ddddb5c262fdff8a0b14448d0c21c99f3874ee3bb761f3c16"), looks := false }, kinds := [], alts := [], laidByText := true, laidKinds := [.data], laidTests := true, laidLooks := .later }
def FnExactCorrelateUptoCardSaid : Prop := Claim7.holds Tryd.pinned (.plain (OpenSpec.upto fnExactCorrelateSpec)) fnExactCorrelateUptoCard
end Rows
end Go.Proofs.YtnipffmookkkdaaDoor
