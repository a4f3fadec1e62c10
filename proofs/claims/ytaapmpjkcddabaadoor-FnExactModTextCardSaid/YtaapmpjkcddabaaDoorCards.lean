/-
  DERIVED. GIVEN WITH THE SEED: THE CARDS: each row of YtaapmpjkcddabaaDoorRows.lean that lists a variable, with what it lists TIED to the program's text (the seventh form; the later family's looks); each row that meets fmt, with fmt's text TOLD by the authors' own Lean function (tested against real Go, not proved from fmt's source: count such statements apart). THE CARD IS WHAT COUNTS. Prove the row's statement (the work); the ties are given (YtaapmpjkcddabaaDoorTie.lean); close each card by the builder's one call (the guide's Derived/Test/ToyasCard.lean, 'card_holds'). Laid BY PROGRAM, IN A SANDBOX (cutbox-door.mjs). By AI agents, Wed Nov 11 2026. No macro, syntax, notation, axiom, sorry.
-/
import Derived.Test.YtaapmpjkcddabaaDoorRows
import GoSem.ClaimSeven
namespace Go.Proofs.YtaapmpjkcddabaaDoor
namespace Rows

/-- THE TIED CARD OF 'laws.FnExactSplit'. -/
def fnExactSplitCard : Claim7 := { stood := { row := fnExactSplitRow, standIns := [], harness := (true, "b2f1f2eb7fec873eec5be32f18bb4bebb87a5f5b046004cedc6ace4fe47156f2"), looks := false }, kinds := [], alts := [], laidByText := true, laidKinds := [.data], laidTests := true, laidLooks := .later }
def FnExactSplitCardSaid : Prop := Claim7.holds Tryd.pinned (.plain (OpenSpec.ofChange fnExactSplitSpec)) fnExactSplitCard

/-- THE TIED CARD OF 'laws.FnExactJoined'. -/
def fnExactJoinedCard : Claim7 := { stood := { row := fnExactJoinedRow, standIns := [], harness := (true, "b2f1f2eb7fec873eec5be32f18bb4bebb87a5f5b046004cedc6ace4fe47156f2"), looks := false }, kinds := [], alts := [], laidByText := true, laidKinds := [.data], laidTests := true, laidLooks := .later }
def FnExactJoinedCardSaid : Prop := Claim7.holds Tryd.pinned (.plain (OpenSpec.ofChange fnExactJoinedSpec)) fnExactJoinedCard

/-- THE TIED CARD OF 'laws.FnExactCentered'. -/
def fnExactCenteredCard : Claim7 := { stood := { row := fnExactCenteredRow, standIns := [], harness := (true, "b2f1f2eb7fec873eec5be32f18bb4bebb87a5f5b046004cedc6ace4fe47156f2"), looks := false }, kinds := [], alts := [], laidByText := true, laidKinds := [.data], laidTests := true, laidLooks := .later }
def FnExactCenteredCardSaid : Prop := Claim7.holds Tryd.pinned (.plain (OpenSpec.ofChange fnExactCenteredSpec)) fnExactCenteredCard

/-- THE TIED CARD OF 'laws.FnExactConvExact'. -/
def fnExactConvExactCard : Claim7 := { stood := { row := fnExactConvExactRow, standIns := [], harness := (true, "b2f1f2eb7fec873eec5be32f18bb4bebb87a5f5b046004cedc6ace4fe47156f2"), looks := false }, kinds := [], alts := [], laidByText := true, laidKinds := [.data], laidTests := true, laidLooks := .later }
def FnExactConvExactCardSaid : Prop := Claim7.holds Tryd.pinned (.plain (OpenSpec.ofChange fnExactConvExactSpec)) fnExactConvExactCard

/-- THE TIED CARD OF 'laws.FnExactModText'. -/
def fnExactModTextCard : Claim7 := { stood := { row := fnExactModTextRow, standIns := [], harness := (true, "b2f1f2eb7fec873eec5be32f18bb4bebb87a5f5b046004cedc6ace4fe47156f2"), looks := false }, kinds := [], alts := [], laidByText := true, laidKinds := [.data], laidTests := true, laidLooks := .later }
def FnExactModTextCardSaid : Prop := Claim7.holds Tryd.pinned (.plain (OpenSpec.ofChange fnExactModTextSpec)) fnExactModTextCard

/-- THE SECOND FORM's CARD OF 'laws.FnExactSplit'. -/
def fnExactSplitUptoCard : Claim7 := { stood := { row := fnExactSplitUptoRow, standIns := [], harness := (true, "b2f1f2eb7fec873eec5be32f18bb4bebb87a5f5b046004cedc6ace4fe47156f2"), looks := false }, kinds := [], alts := [], laidByText := true, laidKinds := [.data], laidTests := true, laidLooks := .later }
def FnExactSplitUptoCardSaid : Prop := Claim7.holds Tryd.pinned (.plain (OpenSpec.upto fnExactSplitSpec)) fnExactSplitUptoCard

/-- THE SECOND FORM's CARD OF 'laws.FnExactJoined'. -/
def fnExactJoinedUptoCard : Claim7 := { stood := { row := fnExactJoinedUptoRow, standIns := [], harness := (true, "b2f1f2eb7fec873eec5be32f18bb4bebb87a5f5b046004cedc6ace4fe47156f2"), looks := false }, kinds := [], alts := [], laidByText := true, laidKinds := [.data], laidTests := true, laidLooks := .later }
def FnExactJoinedUptoCardSaid : Prop := Claim7.holds Tryd.pinned (.plain (OpenSpec.upto fnExactJoinedSpec)) fnExactJoinedUptoCard

/-- THE SECOND FORM's CARD OF 'laws.FnExactCentered'. -/
def fnExactCenteredUptoCard : Claim7 := { stood := { row := fnExactCenteredUptoRow, standIns := [], harness := (true, "b2f1f2eb7fec873eec5be32f18bb4bebb87a5f5b046004cedc6ace4fe47156f2"), looks := false }, kinds := [], alts := [], laidByText := true, laidKinds := [.data], laidTests := true, laidLooks := .later }
def FnExactCenteredUptoCardSaid : Prop := Claim7.holds Tryd.pinned (.plain (OpenSpec.upto fnExactCenteredSpec)) fnExactCenteredUptoCard

/-- THE SECOND FORM's CARD OF 'laws.FnExactConvExact'. -/
def fnExactConvExactUptoCard : Claim7 := { stood := { row := fnExactConvExactUptoRow, standIns := [], harness := (true, "b2f1f2eb7fec873eec5be32f18bb4bebb87a5f5b046004cedc6ace4fe47156f2"), looks := false }, kinds := [], alts := [], laidByText := true, laidKinds := [.data], laidTests := true, laidLooks := .later }
def FnExactConvExactUptoCardSaid : Prop := Claim7.holds Tryd.pinned (.plain (OpenSpec.upto fnExactConvExactSpec)) fnExactConvExactUptoCard

/-- THE SECOND FORM's CARD OF 'laws.FnExactModText'. -/
def fnExactModTextUptoCard : Claim7 := { stood := { row := fnExactModTextUptoRow, standIns := [], harness := (true, "b2f1f2eb7fec873eec5be32f18bb4bebb87a5f5b046004cedc6ace4fe47156f2"), looks := false }, kinds := [], alts := [], laidByText := true, laidKinds := [.data], laidTests := true, laidLooks := .later }
def FnExactModTextUptoCardSaid : Prop := Claim7.holds Tryd.pinned (.plain (OpenSpec.upto fnExactModTextSpec)) fnExactModTextUptoCard
end Rows
end Go.Proofs.YtaapmpjkcddabaaDoor
