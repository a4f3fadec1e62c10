/-
  DERIVED. GIVEN WITH THE SEED: THE CARDS: each row of YtmgggdibbhameaaDoorRows.lean that lists a variable, with what it lists TIED to the program's text (the seventh form; the later family's looks); each row that meets fmt, with fmt's text TOLD by the authors' own Lean function (tested against real Go, not proved from fmt's source: count such statements apart). THE CARD IS WHAT COUNTS. Prove the row's statement (the work); the ties are given (YtmgggdibbhameaaDoorTie.lean); close each card by the builder's one call (the guide's Derived/Test/ToyasCard.lean, 'card_holds'). Laid BY PROGRAM, IN A SANDBOX (cutbox-door.mjs). By AI agents, Wed Nov 11 2026. No macro, syntax, notation, axiom, sorry.
-/
import Derived.Test.YtmgggdibbhameaaDoorRows
import GoSem.ClaimSeven
namespace Go.Proofs.YtmgggdibbhameaaDoor
namespace Rows

/-- THE TIED CARD OF 'laws.FnExactSeriesOk'. -/
def fnExactSeriesOkCard : Claim7 := { stood := { row := fnExactSeriesOkRow, standIns := [], harness := (true, "d1f100d77c78553417267dc0c365d6793865ed18bb5f406b60fdc2eb6f3df141"), looks := false }, kinds := [], alts := [], laidByText := true, laidKinds := [.data], laidTests := true, laidLooks := .later }
def FnExactSeriesOkCardSaid : Prop := Claim7.holds Tryd.pinned (.plain (OpenSpec.ofChange fnExactSeriesOkSpec)) fnExactSeriesOkCard

/-- THE TIED CARD OF 'laws.FnExactSeriesMul'. -/
def fnExactSeriesMulCard : Claim7 := { stood := { row := fnExactSeriesMulRow, standIns := [], harness := (true, "d1f100d77c78553417267dc0c365d6793865ed18bb5f406b60fdc2eb6f3df141"), looks := false }, kinds := [], alts := [], laidByText := true, laidKinds := [.data], laidTests := true, laidLooks := .later }
def FnExactSeriesMulCardSaid : Prop := Claim7.holds Tryd.pinned (.plain (OpenSpec.ofChange fnExactSeriesMulSpec)) fnExactSeriesMulCard

/-- THE TIED CARD OF 'laws.FnExactSeriesInv'. -/
def fnExactSeriesInvCard : Claim7 := { stood := { row := fnExactSeriesInvRow, standIns := [], harness := (true, "d1f100d77c78553417267dc0c365d6793865ed18bb5f406b60fdc2eb6f3df141"), looks := false }, kinds := [], alts := [], laidByText := true, laidKinds := [.data], laidTests := true, laidLooks := .later }
def FnExactSeriesInvCardSaid : Prop := Claim7.holds Tryd.pinned (.plain (OpenSpec.ofChange fnExactSeriesInvSpec)) fnExactSeriesInvCard

/-- THE TIED CARD OF 'laws.FnExactSeriesDiff'. -/
def fnExactSeriesDiffCard : Claim7 := { stood := { row := fnExactSeriesDiffRow, standIns := [], harness := (true, "d1f100d77c78553417267dc0c365d6793865ed18bb5f406b60fdc2eb6f3df141"), looks := false }, kinds := [], alts := [], laidByText := true, laidKinds := [.data], laidTests := true, laidLooks := .later }
def FnExactSeriesDiffCardSaid : Prop := Claim7.holds Tryd.pinned (.plain (OpenSpec.ofChange fnExactSeriesDiffSpec)) fnExactSeriesDiffCard

/-- THE TIED CARD OF 'laws.FnExactSeriesSum'. -/
def fnExactSeriesSumCard : Claim7 := { stood := { row := fnExactSeriesSumRow, standIns := [], harness := (true, "d1f100d77c78553417267dc0c365d6793865ed18bb5f406b60fdc2eb6f3df141"), looks := false }, kinds := [], alts := [], laidByText := true, laidKinds := [.data], laidTests := true, laidLooks := .later }
def FnExactSeriesSumCardSaid : Prop := Claim7.holds Tryd.pinned (.plain (OpenSpec.ofChange fnExactSeriesSumSpec)) fnExactSeriesSumCard

/-- THE TIED CARD OF 'laws.FnExactSeriesLog'. -/
def fnExactSeriesLogCard : Claim7 := { stood := { row := fnExactSeriesLogRow, standIns := [], harness := (true, "d1f100d77c78553417267dc0c365d6793865ed18bb5f406b60fdc2eb6f3df141"), looks := false }, kinds := [], alts := [], laidByText := true, laidKinds := [.data], laidTests := true, laidLooks := .later }
def FnExactSeriesLogCardSaid : Prop := Claim7.holds Tryd.pinned (.plain (OpenSpec.ofChange fnExactSeriesLogSpec)) fnExactSeriesLogCard

/-- THE TIED CARD OF 'laws.FnExactSeriesExp'. -/
def fnExactSeriesExpCard : Claim7 := { stood := { row := fnExactSeriesExpRow, standIns := [], harness := (true, "d1f100d77c78553417267dc0c365d6793865ed18bb5f406b60fdc2eb6f3df141"), looks := false }, kinds := [], alts := [], laidByText := true, laidKinds := [.data], laidTests := true, laidLooks := .later }
def FnExactSeriesExpCardSaid : Prop := Claim7.holds Tryd.pinned (.plain (OpenSpec.ofChange fnExactSeriesExpSpec)) fnExactSeriesExpCard

/-- THE TIED CARD OF 'laws.FnExactSeriesPow'. -/
def fnExactSeriesPowCard : Claim7 := { stood := { row := fnExactSeriesPowRow, standIns := [], harness := (true, "d1f100d77c78553417267dc0c365d6793865ed18bb5f406b60fdc2eb6f3df141"), looks := false }, kinds := [], alts := [], laidByText := true, laidKinds := [.data], laidTests := true, laidLooks := .later }
def FnExactSeriesPowCardSaid : Prop := Claim7.holds Tryd.pinned (.plain (OpenSpec.ofChange fnExactSeriesPowSpec)) fnExactSeriesPowCard

/-- THE SECOND FORM's CARD OF 'laws.FnExactSeriesOk'. -/
def fnExactSeriesOkUptoCard : Claim7 := { stood := { row := fnExactSeriesOkUptoRow, standIns := [], harness := (true, "d1f100d77c78553417267dc0c365d6793865ed18bb5f406b60fdc2eb6f3df141"), looks := false }, kinds := [], alts := [], laidByText := true, laidKinds := [.data], laidTests := true, laidLooks := .later }
def FnExactSeriesOkUptoCardSaid : Prop := Claim7.holds Tryd.pinned (.plain (OpenSpec.upto fnExactSeriesOkSpec)) fnExactSeriesOkUptoCard

/-- THE SECOND FORM's CARD OF 'laws.FnExactSeriesMul'. -/
def fnExactSeriesMulUptoCard : Claim7 := { stood := { row := fnExactSeriesMulUptoRow, standIns := [], harness := (true, "d1f100d77c78553417267dc0c365d6793865ed18bb5f406b60fdc2eb6f3df141"), looks := false }, kinds := [], alts := [], laidByText := true, laidKinds := [.data], laidTests := true, laidLooks := .later }
def FnExactSeriesMulUptoCardSaid : Prop := Claim7.holds Tryd.pinned (.plain (OpenSpec.upto fnExactSeriesMulSpec)) fnExactSeriesMulUptoCard

/-- THE SECOND FORM's CARD OF 'laws.FnExactSeriesInv'. -/
def fnExactSeriesInvUptoCard : Claim7 := { stood := { row := fnExactSeriesInvUptoRow, standIns := [], harness := (true, "d1f100d77c78553417267dc0c365d6793865ed18bb5f406b60fdc2eb6f3df141"), looks := false }, kinds := [], alts := [], laidByText := true, laidKinds := [.data], laidTests := true, laidLooks := .later }
def FnExactSeriesInvUptoCardSaid : Prop := Claim7.holds Tryd.pinned (.plain (OpenSpec.upto fnExactSeriesInvSpec)) fnExactSeriesInvUptoCard

/-- THE SECOND FORM's CARD OF 'laws.FnExactSeriesDiff'. -/
def fnExactSeriesDiffUptoCard : Claim7 := { stood := { row := fnExactSeriesDiffUptoRow, standIns := [], harness := (true, "d1f100d77c78553417267dc0c365d6793865ed18bb5f406b60fdc2eb6f3df141"), looks := false }, kinds := [], alts := [], laidByText := true, laidKinds := [.data], laidTests := true, laidLooks := .later }
def FnExactSeriesDiffUptoCardSaid : Prop := Claim7.holds Tryd.pinned (.plain (OpenSpec.upto fnExactSeriesDiffSpec)) fnExactSeriesDiffUptoCard

/-- THE SECOND FORM's CARD OF 'laws.FnExactSeriesSum'. -/
def fnExactSeriesSumUptoCard : Claim7 := { stood := { row := fnExactSeriesSumUptoRow, standIns := [], harness := (true, "d1f100d77c78553417267dc0c365d6793865ed18bb5f406b60fdc2eb6f3df141"), looks := false }, kinds := [], alts := [], laidByText := true, laidKinds := [.data], laidTests := true, laidLooks := .later }
def FnExactSeriesSumUptoCardSaid : Prop := Claim7.holds Tryd.pinned (.plain (OpenSpec.upto fnExactSeriesSumSpec)) fnExactSeriesSumUptoCard

/-- THE SECOND FORM's CARD OF 'laws.FnExactSeriesLog'. -/
def fnExactSeriesLogUptoCard : Claim7 := { stood := { row := fnExactSeriesLogUptoRow, standIns := [], harness := (true, "d1f100d77c78553417267dc0c365d6793865ed18bb5f406b60fdc2eb6f3df141"), looks := false }, kinds := [], alts := [], laidByText := true, laidKinds := [.data], laidTests := true, laidLooks := .later }
def FnExactSeriesLogUptoCardSaid : Prop := Claim7.holds Tryd.pinned (.plain (OpenSpec.upto fnExactSeriesLogSpec)) fnExactSeriesLogUptoCard

/-- THE SECOND FORM's CARD OF 'laws.FnExactSeriesExp'. -/
def fnExactSeriesExpUptoCard : Claim7 := { stood := { row := fnExactSeriesExpUptoRow, standIns := [], harness := (true, "d1f100d77c78553417267dc0c365d6793865ed18bb5f406b60fdc2eb6f3df141"), looks := false }, kinds := [], alts := [], laidByText := true, laidKinds := [.data], laidTests := true, laidLooks := .later }
def FnExactSeriesExpUptoCardSaid : Prop := Claim7.holds Tryd.pinned (.plain (OpenSpec.upto fnExactSeriesExpSpec)) fnExactSeriesExpUptoCard

/-- THE SECOND FORM's CARD OF 'laws.FnExactSeriesPow'. -/
def fnExactSeriesPowUptoCard : Claim7 := { stood := { row := fnExactSeriesPowUptoRow, standIns := [], harness := (true, "d1f100d77c78553417267dc0c365d6793865ed18bb5f406b60fdc2eb6f3df141"), looks := false }, kinds := [], alts := [], laidByText := true, laidKinds := [.data], laidTests := true, laidLooks := .later }
def FnExactSeriesPowUptoCardSaid : Prop := Claim7.holds Tryd.pinned (.plain (OpenSpec.upto fnExactSeriesPowSpec)) fnExactSeriesPowUptoCard
end Rows
end Go.Proofs.YtmgggdibbhameaaDoor
