/-
  DERIVED. GIVEN WITH THE SEED: THE CARDS: each row of YtaapmpjkcddababDoorRows.lean that lists a variable, with what it lists TIED to the program's text (the seventh form; the later family's looks); each row that meets fmt, with fmt's text TOLD by the authors' own Lean function (tested against real Go, not proved from fmt's source: count such statements apart). THE CARD IS WHAT COUNTS. Prove the row's statement (the work); the ties are given (YtaapmpjkcddababDoorTie.lean); close each card by the builder's one call (the guide's Derived/Test/ToyasCard.lean, 'card_holds'). Laid BY PROGRAM, IN A SANDBOX (cutbox-door.mjs). By AI agents, Wed Nov 11 2026. No macro, syntax, notation, axiom, sorry.
-/
import Derived.Test.YtaapmpjkcddababDoorRows
import GoSem.ClaimSeven
namespace Go.Proofs.YtaapmpjkcddababDoor
namespace Rows

/-- THE TIED CARD OF 'laws.FnExactMulText'. -/
def fnExactMulTextCard : Claim7 := { stood := { row := fnExactMulTextRow, standIns := [], harness := (true, "5df0beb78198f7f800ad9dfaad4aff1d55b8fa264df780e1227a1f9bc418dd1b"), looks := false }, kinds := [], alts := [], laidByText := true, laidKinds := [.data], laidTests := true, laidLooks := .later }
def FnExactMulTextCardSaid : Prop := Claim7.holds Tryd.pinned (.plain (OpenSpec.ofChange fnExactMulTextSpec)) fnExactMulTextCard

/-- THE TIED CARD OF 'laws.FnExactPowText'. -/
def fnExactPowTextCard : Claim7 := { stood := { row := fnExactPowTextRow, standIns := [], harness := (true, "5df0beb78198f7f800ad9dfaad4aff1d55b8fa264df780e1227a1f9bc418dd1b"), looks := false }, kinds := [], alts := [], laidByText := true, laidKinds := [.data], laidTests := true, laidLooks := .later }
def FnExactPowTextCardSaid : Prop := Claim7.holds Tryd.pinned (.plain (OpenSpec.ofChange fnExactPowTextSpec)) fnExactPowTextCard

/-- THE TIED CARD OF 'laws.FnCentered'. -/
def fnCenteredCard : Claim7 := { stood := { row := fnCenteredRow, standIns := [], harness := (true, "5df0beb78198f7f800ad9dfaad4aff1d55b8fa264df780e1227a1f9bc418dd1b"), looks := false }, kinds := [], alts := [], laidByText := true, laidKinds := [.data], laidTests := true, laidLooks := .later }
def FnCenteredCardSaid : Prop := Claim7.holds Tryd.pinned (.plain (OpenSpec.ofChange fnCenteredSpec)) fnCenteredCard

/-- THE TIED CARD OF 'laws.FnConvByFields'. -/
def fnConvByFieldsCard : Claim7 := { stood := { row := fnConvByFieldsRow, standIns := [], harness := (true, "5df0beb78198f7f800ad9dfaad4aff1d55b8fa264df780e1227a1f9bc418dd1b"), looks := false }, kinds := [], alts := [], laidByText := true, laidKinds := [.data], laidTests := true, laidLooks := .later }
def FnConvByFieldsCardSaid : Prop := Claim7.holds Tryd.pinned (.plain (OpenSpec.ofChange fnConvByFieldsSpec)) fnConvByFieldsCard

/-- THE TIED CARD OF 'laws.FnTexts'. -/
def fnTextsCard : Claim7 := { stood := { row := fnTextsRow, standIns := [], harness := (true, "5df0beb78198f7f800ad9dfaad4aff1d55b8fa264df780e1227a1f9bc418dd1b"), looks := false }, kinds := [], alts := [], laidByText := true, laidKinds := [.data], laidTests := true, laidLooks := .later }
def FnTextsCardSaid : Prop := Claim7.holds Tryd.pinned (.plain (OpenSpec.ofChange fnTextsSpec)) fnTextsCard

/-- THE TIED CARD OF 'laws.FnPowText'. -/
def fnPowTextCard : Claim7 := { stood := { row := fnPowTextRow, standIns := [], harness := (true, "5df0beb78198f7f800ad9dfaad4aff1d55b8fa264df780e1227a1f9bc418dd1b"), looks := false }, kinds := [], alts := [], laidByText := true, laidKinds := [.data], laidTests := true, laidLooks := .later }
def FnPowTextCardSaid : Prop := Claim7.holds Tryd.pinned (.plain (OpenSpec.ofChange fnPowTextSpec)) fnPowTextCard

/-- THE SECOND FORM's CARD OF 'laws.FnExactMulText'. -/
def fnExactMulTextUptoCard : Claim7 := { stood := { row := fnExactMulTextUptoRow, standIns := [], harness := (true, "5df0beb78198f7f800ad9dfaad4aff1d55b8fa264df780e1227a1f9bc418dd1b"), looks := false }, kinds := [], alts := [], laidByText := true, laidKinds := [.data], laidTests := true, laidLooks := .later }
def FnExactMulTextUptoCardSaid : Prop := Claim7.holds Tryd.pinned (.plain (OpenSpec.upto fnExactMulTextSpec)) fnExactMulTextUptoCard

/-- THE SECOND FORM's CARD OF 'laws.FnExactPowText'. -/
def fnExactPowTextUptoCard : Claim7 := { stood := { row := fnExactPowTextUptoRow, standIns := [], harness := (true, "5df0beb78198f7f800ad9dfaad4aff1d55b8fa264df780e1227a1f9bc418dd1b"), looks := false }, kinds := [], alts := [], laidByText := true, laidKinds := [.data], laidTests := true, laidLooks := .later }
def FnExactPowTextUptoCardSaid : Prop := Claim7.holds Tryd.pinned (.plain (OpenSpec.upto fnExactPowTextSpec)) fnExactPowTextUptoCard

/-- THE SECOND FORM's CARD OF 'laws.FnCentered'. -/
def fnCenteredUptoCard : Claim7 := { stood := { row := fnCenteredUptoRow, standIns := [], harness := (true, "5df0beb78198f7f800ad9dfaad4aff1d55b8fa264df780e1227a1f9bc418dd1b"), looks := false }, kinds := [], alts := [], laidByText := true, laidKinds := [.data], laidTests := true, laidLooks := .later }
def FnCenteredUptoCardSaid : Prop := Claim7.holds Tryd.pinned (.plain (OpenSpec.upto fnCenteredSpec)) fnCenteredUptoCard

/-- THE SECOND FORM's CARD OF 'laws.FnConvByFields'. -/
def fnConvByFieldsUptoCard : Claim7 := { stood := { row := fnConvByFieldsUptoRow, standIns := [], harness := (true, "5df0beb78198f7f800ad9dfaad4aff1d55b8fa264df780e1227a1f9bc418dd1b"), looks := false }, kinds := [], alts := [], laidByText := true, laidKinds := [.data], laidTests := true, laidLooks := .later }
def FnConvByFieldsUptoCardSaid : Prop := Claim7.holds Tryd.pinned (.plain (OpenSpec.upto fnConvByFieldsSpec)) fnConvByFieldsUptoCard

/-- THE SECOND FORM's CARD OF 'laws.FnTexts'. -/
def fnTextsUptoCard : Claim7 := { stood := { row := fnTextsUptoRow, standIns := [], harness := (true, "5df0beb78198f7f800ad9dfaad4aff1d55b8fa264df780e1227a1f9bc418dd1b"), looks := false }, kinds := [], alts := [], laidByText := true, laidKinds := [.data], laidTests := true, laidLooks := .later }
def FnTextsUptoCardSaid : Prop := Claim7.holds Tryd.pinned (.plain (OpenSpec.upto fnTextsSpec)) fnTextsUptoCard

/-- THE SECOND FORM's CARD OF 'laws.FnPowText'. -/
def fnPowTextUptoCard : Claim7 := { stood := { row := fnPowTextUptoRow, standIns := [], harness := (true, "5df0beb78198f7f800ad9dfaad4aff1d55b8fa264df780e1227a1f9bc418dd1b"), looks := false }, kinds := [], alts := [], laidByText := true, laidKinds := [.data], laidTests := true, laidLooks := .later }
def FnPowTextUptoCardSaid : Prop := Claim7.holds Tryd.pinned (.plain (OpenSpec.upto fnPowTextSpec)) fnPowTextUptoCard
end Rows
end Go.Proofs.YtaapmpjkcddababDoor
