/-
  DERIVED. GIVEN WITH THE SEED: THE CARDS: each row of YtangofjpnhhfeabDoorRows.lean that lists a variable, with what it lists TIED to the program's text (the seventh form; the later family's looks); each row that meets fmt, with fmt's text TOLD by the authors' own Lean function (tested against real Go, not proved from fmt's source: count such statements apart). THE CARD IS WHAT COUNTS. Prove the row's statement (the work); the ties are given (YtangofjpnhhfeabDoorTie.lean); close each card by the builder's one call (the guide's Derived/Test/ToyasCard.lean, 'card_holds'). Laid BY PROGRAM, IN A SANDBOX (cutbox-door.mjs). By AI agents, Wed Nov 11 2026. No macro, syntax, notation, axiom, sorry.
-/
import Derived.Test.YtangofjpnhhfeabDoorRows
import GoSem.ClaimSeven
namespace Go.Proofs.YtangofjpnhhfeabDoor
namespace Rows

/-- THE TIED CARD OF 'laws.FnExactDecodeWord'. -/
def fnExactDecodeWordCard : Claim7 := { stood := { row := fnExactDecodeWordRow, standIns := [], harness := (true, "a3976959fe56321469b0379b618ee9b05021c71054e23999083b94e9dc08cfc5"), looks := true }, kinds := [], alts := [], laidByText := true, laidKinds := [.handle, .data], laidTests := true, laidLooks := .later }
def FnExactDecodeWordCardSaid : Prop := Claim7.holds Tryd.pinned (.plain (OpenSpec.ofChange fnExactDecodeWordSpec)) fnExactDecodeWordCard

/-- THE TIED CARD OF 'laws.FnExactBlame'. -/
def fnExactBlameCard : Claim7 := { stood := { row := fnExactBlameRow, standIns := [], harness := (true, "a3976959fe56321469b0379b618ee9b05021c71054e23999083b94e9dc08cfc5"), looks := true }, kinds := [], alts := [], laidByText := true, laidKinds := [.handle, .data], laidTests := true, laidLooks := .later }
def FnExactBlameCardSaid : Prop := Claim7.holds Tryd.pinned (.plain (OpenSpec.ofChange fnExactBlameSpec)) fnExactBlameCard

/-- THE TIED CARD OF 'laws.FnExactDecodeGaps'. -/
def fnExactDecodeGapsCard : Claim7 := { stood := { row := fnExactDecodeGapsRow, standIns := [], harness := (true, "a3976959fe56321469b0379b618ee9b05021c71054e23999083b94e9dc08cfc5"), looks := true }, kinds := [], alts := [], laidByText := true, laidKinds := [.handle, .data], laidTests := true, laidLooks := .later }
def FnExactDecodeGapsCardSaid : Prop := Claim7.holds Tryd.pinned (.plain (OpenSpec.ofChange fnExactDecodeGapsSpec)) fnExactDecodeGapsCard

/-- THE TIED CARD OF 'laws.FnInterpolateBack'. -/
def fnInterpolateBackCard : Claim7 := { stood := { row := fnInterpolateBackRow, standIns := [], harness := (true, "a3976959fe56321469b0379b618ee9b05021c71054e23999083b94e9dc08cfc5"), looks := true }, kinds := [], alts := [], laidByText := true, laidKinds := [.data], laidTests := true, laidLooks := .later }
def FnInterpolateBackCardSaid : Prop := Claim7.holds Tryd.pinned (.plain (OpenSpec.ofChange fnInterpolateBackSpec)) fnInterpolateBackCard

/-- THE TIED CARD OF 'laws.FnWeights'. -/
def fnWeightsCard : Claim7 := { stood := { row := fnWeightsRow, standIns := [], harness := (true, "a3976959fe56321469b0379b618ee9b05021c71054e23999083b94e9dc08cfc5"), looks := true }, kinds := [], alts := [], laidByText := true, laidKinds := [.data], laidTests := true, laidLooks := .later }
def FnWeightsCardSaid : Prop := Claim7.holds Tryd.pinned (.plain (OpenSpec.ofChange fnWeightsSpec)) fnWeightsCard

/-- THE TIED CARD OF 'laws.FnDecodeBent'. -/
def fnDecodeBentCard : Claim7 := { stood := { row := fnDecodeBentRow, standIns := [], harness := (true, "a3976959fe56321469b0379b618ee9b05021c71054e23999083b94e9dc08cfc5"), looks := true }, kinds := [], alts := [], laidByText := true, laidKinds := [.handle, .data], laidTests := true, laidLooks := .later }
def FnDecodeBentCardSaid : Prop := Claim7.holds Tryd.pinned (.plain (OpenSpec.ofChange fnDecodeBentSpec)) fnDecodeBentCard

/-- THE TIED CARD OF 'laws.FnGaps'. -/
def fnGapsCard : Claim7 := { stood := { row := fnGapsRow, standIns := [], harness := (true, "a3976959fe56321469b0379b618ee9b05021c71054e23999083b94e9dc08cfc5"), looks := true }, kinds := [], alts := [], laidByText := true, laidKinds := [.handle, .data], laidTests := true, laidLooks := .later }
def FnGapsCardSaid : Prop := Claim7.holds Tryd.pinned (.plain (OpenSpec.ofChange fnGapsSpec)) fnGapsCard

/-- THE SECOND FORM's CARD OF 'laws.FnExactDecodeWord'. -/
def fnExactDecodeWordUptoCard : Claim7 := { stood := { row := fnExactDecodeWordUptoRow, standIns := [], harness := (true, "a3976959fe56321469b0379b618ee9b05021c71054e23999083b94e9dc08cfc5"), looks := true }, kinds := [], alts := [], laidByText := true, laidKinds := [.handle, .data], laidTests := true, laidLooks := .later }
def FnExactDecodeWordUptoCardSaid : Prop := Claim7.holds Tryd.pinned (.plain (OpenSpec.upto fnExactDecodeWordSpec)) fnExactDecodeWordUptoCard

/-- THE SECOND FORM's CARD OF 'laws.FnExactBlame'. -/
def fnExactBlameUptoCard : Claim7 := { stood := { row := fnExactBlameUptoRow, standIns := [], harness := (true, "a3976959fe56321469b0379b618ee9b05021c71054e23999083b94e9dc08cfc5"), looks := true }, kinds := [], alts := [], laidByText := true, laidKinds := [.handle, .data], laidTests := true, laidLooks := .later }
def FnExactBlameUptoCardSaid : Prop := Claim7.holds Tryd.pinned (.plain (OpenSpec.upto fnExactBlameSpec)) fnExactBlameUptoCard

/-- THE SECOND FORM's CARD OF 'laws.FnExactDecodeGaps'. -/
def fnExactDecodeGapsUptoCard : Claim7 := { stood := { row := fnExactDecodeGapsUptoRow, standIns := [], harness := (true, "a3976959fe56321469b0379b618ee9b05021c71054e23999083b94e9dc08cfc5"), looks := true }, kinds := [], alts := [], laidByText := true, laidKinds := [.handle, .data], laidTests := true, laidLooks := .later }
def FnExactDecodeGapsUptoCardSaid : Prop := Claim7.holds Tryd.pinned (.plain (OpenSpec.upto fnExactDecodeGapsSpec)) fnExactDecodeGapsUptoCard

/-- THE SECOND FORM's CARD OF 'laws.FnInterpolateBack'. -/
def fnInterpolateBackUptoCard : Claim7 := { stood := { row := fnInterpolateBackUptoRow, standIns := [], harness := (true, "a3976959fe56321469b0379b618ee9b05021c71054e23999083b94e9dc08cfc5"), looks := true }, kinds := [], alts := [], laidByText := true, laidKinds := [.data], laidTests := true, laidLooks := .later }
def FnInterpolateBackUptoCardSaid : Prop := Claim7.holds Tryd.pinned (.plain (OpenSpec.upto fnInterpolateBackSpec)) fnInterpolateBackUptoCard

/-- THE SECOND FORM's CARD OF 'laws.FnWeights'. -/
def fnWeightsUptoCard : Claim7 := { stood := { row := fnWeightsUptoRow, standIns := [], harness := (true, "a3976959fe56321469b0379b618ee9b05021c71054e23999083b94e9dc08cfc5"), looks := true }, kinds := [], alts := [], laidByText := true, laidKinds := [.data], laidTests := true, laidLooks := .later }
def FnWeightsUptoCardSaid : Prop := Claim7.holds Tryd.pinned (.plain (OpenSpec.upto fnWeightsSpec)) fnWeightsUptoCard

/-- THE SECOND FORM's CARD OF 'laws.FnDecodeBent'. -/
def fnDecodeBentUptoCard : Claim7 := { stood := { row := fnDecodeBentUptoRow, standIns := [], harness := (true, "a3976959fe56321469b0379b618ee9b05021c71054e23999083b94e9dc08cfc5"), looks := true }, kinds := [], alts := [], laidByText := true, laidKinds := [.handle, .data], laidTests := true, laidLooks := .later }
def FnDecodeBentUptoCardSaid : Prop := Claim7.holds Tryd.pinned (.plain (OpenSpec.upto fnDecodeBentSpec)) fnDecodeBentUptoCard

/-- THE SECOND FORM's CARD OF 'laws.FnGaps'. -/
def fnGapsUptoCard : Claim7 := { stood := { row := fnGapsUptoRow, standIns := [], harness := (true, "a3976959fe56321469b0379b618ee9b05021c71054e23999083b94e9dc08cfc5"), looks := true }, kinds := [], alts := [], laidByText := true, laidKinds := [.handle, .data], laidTests := true, laidLooks := .later }
def FnGapsUptoCardSaid : Prop := Claim7.holds Tryd.pinned (.plain (OpenSpec.upto fnGapsSpec)) fnGapsUptoCard
end Rows
end Go.Proofs.YtangofjpnhhfeabDoor
