/-
  DERIVED. GIVEN WITH THE SEED: THE CARDS: each row of YtangofjpnhhfeaaDoorRows.lean that lists a variable, with what it lists TIED to the program's text (the seventh form; the later family's looks); each row that meets fmt, with fmt's text TOLD by the authors' own Lean function (tested against real Go, not proved from fmt's source: count such statements apart). THE CARD IS WHAT COUNTS. Prove the row's statement (the work); the ties are given (YtangofjpnhhfeaaDoorTie.lean); close each card by the builder's one call (the guide's Derived/Test/ToyasCard.lean, 'card_holds'). Laid BY PROGRAM, IN A SANDBOX (cutbox-door.mjs). By AI agents, Wed Nov 11 2026. No macro, syntax, notation, axiom, sorry.
-/
import Derived.Test.YtangofjpnhhfeaaDoorRows
import GoSem.ClaimSeven
namespace Go.Proofs.YtangofjpnhhfeaaDoor
namespace Rows

/-- THE TIED CARD OF 'laws.FnExactPointsOk'. -/
def fnExactPointsOkCard : Claim7 := { stood := { row := fnExactPointsOkRow, standIns := [], harness := (true, "49a5c05329e0d758ec659377f5680cf13724d67335c92686cd3876c476a47294"), looks := false }, kinds := [], alts := [], laidByText := true, laidKinds := [.data], laidTests := true, laidLooks := .later }
def FnExactPointsOkCardSaid : Prop := Claim7.holds Tryd.pinned (.plain (OpenSpec.ofChange fnExactPointsOkSpec)) fnExactPointsOkCard

/-- THE TIED CARD OF 'laws.FnExactVanish'. -/
def fnExactVanishCard : Claim7 := { stood := { row := fnExactVanishRow, standIns := [], harness := (true, "49a5c05329e0d758ec659377f5680cf13724d67335c92686cd3876c476a47294"), looks := false }, kinds := [], alts := [], laidByText := true, laidKinds := [.data], laidTests := true, laidLooks := .later }
def FnExactVanishCardSaid : Prop := Claim7.holds Tryd.pinned (.plain (OpenSpec.ofChange fnExactVanishSpec)) fnExactVanishCard

/-- THE TIED CARD OF 'laws.FnExactEvalMany'. -/
def fnExactEvalManyCard : Claim7 := { stood := { row := fnExactEvalManyRow, standIns := [], harness := (true, "49a5c05329e0d758ec659377f5680cf13724d67335c92686cd3876c476a47294"), looks := false }, kinds := [], alts := [], laidByText := true, laidKinds := [.data], laidTests := true, laidLooks := .later }
def FnExactEvalManyCardSaid : Prop := Claim7.holds Tryd.pinned (.plain (OpenSpec.ofChange fnExactEvalManySpec)) fnExactEvalManyCard

/-- THE TIED CARD OF 'laws.FnExactInterpolate'. -/
def fnExactInterpolateCard : Claim7 := { stood := { row := fnExactInterpolateRow, standIns := [], harness := (true, "49a5c05329e0d758ec659377f5680cf13724d67335c92686cd3876c476a47294"), looks := false }, kinds := [], alts := [], laidByText := true, laidKinds := [.data], laidTests := true, laidLooks := .later }
def FnExactInterpolateCardSaid : Prop := Claim7.holds Tryd.pinned (.plain (OpenSpec.ofChange fnExactInterpolateSpec)) fnExactInterpolateCard

/-- THE TIED CARD OF 'laws.FnExactExtend'. -/
def fnExactExtendCard : Claim7 := { stood := { row := fnExactExtendRow, standIns := [], harness := (true, "49a5c05329e0d758ec659377f5680cf13724d67335c92686cd3876c476a47294"), looks := false }, kinds := [], alts := [], laidByText := true, laidKinds := [.data], laidTests := true, laidLooks := .later }
def FnExactExtendCardSaid : Prop := Claim7.holds Tryd.pinned (.plain (OpenSpec.ofChange fnExactExtendSpec)) fnExactExtendCard

/-- THE TIED CARD OF 'laws.FnExactWeights'. -/
def fnExactWeightsCard : Claim7 := { stood := { row := fnExactWeightsRow, standIns := [], harness := (true, "49a5c05329e0d758ec659377f5680cf13724d67335c92686cd3876c476a47294"), looks := false }, kinds := [], alts := [], laidByText := true, laidKinds := [.data], laidTests := true, laidLooks := .later }
def FnExactWeightsCardSaid : Prop := Claim7.holds Tryd.pinned (.plain (OpenSpec.ofChange fnExactWeightsSpec)) fnExactWeightsCard

/-- THE TIED CARD OF 'laws.FnExactEncodeWord'. -/
def fnExactEncodeWordCard : Claim7 := { stood := { row := fnExactEncodeWordRow, standIns := [], harness := (true, "49a5c05329e0d758ec659377f5680cf13724d67335c92686cd3876c476a47294"), looks := false }, kinds := [], alts := [], laidByText := true, laidKinds := [.data], laidTests := true, laidLooks := .later }
def FnExactEncodeWordCardSaid : Prop := Claim7.holds Tryd.pinned (.plain (OpenSpec.ofChange fnExactEncodeWordSpec)) fnExactEncodeWordCard

/-- THE SECOND FORM's CARD OF 'laws.FnExactPointsOk'. -/
def fnExactPointsOkUptoCard : Claim7 := { stood := { row := fnExactPointsOkUptoRow, standIns := [], harness := (true, "49a5c05329e0d758ec659377f5680cf13724d67335c92686cd3876c476a47294"), looks := false }, kinds := [], alts := [], laidByText := true, laidKinds := [.data], laidTests := true, laidLooks := .later }
def FnExactPointsOkUptoCardSaid : Prop := Claim7.holds Tryd.pinned (.plain (OpenSpec.upto fnExactPointsOkSpec)) fnExactPointsOkUptoCard

/-- THE SECOND FORM's CARD OF 'laws.FnExactVanish'. -/
def fnExactVanishUptoCard : Claim7 := { stood := { row := fnExactVanishUptoRow, standIns := [], harness := (true, "49a5c05329e0d758ec659377f5680cf13724d67335c92686cd3876c476a47294"), looks := false }, kinds := [], alts := [], laidByText := true, laidKinds := [.data], laidTests := true, laidLooks := .later }
def FnExactVanishUptoCardSaid : Prop := Claim7.holds Tryd.pinned (.plain (OpenSpec.upto fnExactVanishSpec)) fnExactVanishUptoCard

/-- THE SECOND FORM's CARD OF 'laws.FnExactEvalMany'. -/
def fnExactEvalManyUptoCard : Claim7 := { stood := { row := fnExactEvalManyUptoRow, standIns := [], harness := (true, "49a5c05329e0d758ec659377f5680cf13724d67335c92686cd3876c476a47294"), looks := false }, kinds := [], alts := [], laidByText := true, laidKinds := [.data], laidTests := true, laidLooks := .later }
def FnExactEvalManyUptoCardSaid : Prop := Claim7.holds Tryd.pinned (.plain (OpenSpec.upto fnExactEvalManySpec)) fnExactEvalManyUptoCard

/-- THE SECOND FORM's CARD OF 'laws.FnExactInterpolate'. -/
def fnExactInterpolateUptoCard : Claim7 := { stood := { row := fnExactInterpolateUptoRow, standIns := [], harness := (true, "49a5c05329e0d758ec659377f5680cf13724d67335c92686cd3876c476a47294"), looks := false }, kinds := [], alts := [], laidByText := true, laidKinds := [.data], laidTests := true, laidLooks := .later }
def FnExactInterpolateUptoCardSaid : Prop := Claim7.holds Tryd.pinned (.plain (OpenSpec.upto fnExactInterpolateSpec)) fnExactInterpolateUptoCard

/-- THE SECOND FORM's CARD OF 'laws.FnExactExtend'. -/
def fnExactExtendUptoCard : Claim7 := { stood := { row := fnExactExtendUptoRow, standIns := [], harness := (true, "49a5c05329e0d758ec659377f5680cf13724d67335c92686cd3876c476a47294"), looks := false }, kinds := [], alts := [], laidByText := true, laidKinds := [.data], laidTests := true, laidLooks := .later }
def FnExactExtendUptoCardSaid : Prop := Claim7.holds Tryd.pinned (.plain (OpenSpec.upto fnExactExtendSpec)) fnExactExtendUptoCard

/-- THE SECOND FORM's CARD OF 'laws.FnExactWeights'. -/
def fnExactWeightsUptoCard : Claim7 := { stood := { row := fnExactWeightsUptoRow, standIns := [], harness := (true, "49a5c05329e0d758ec659377f5680cf13724d67335c92686cd3876c476a47294"), looks := false }, kinds := [], alts := [], laidByText := true, laidKinds := [.data], laidTests := true, laidLooks := .later }
def FnExactWeightsUptoCardSaid : Prop := Claim7.holds Tryd.pinned (.plain (OpenSpec.upto fnExactWeightsSpec)) fnExactWeightsUptoCard

/-- THE SECOND FORM's CARD OF 'laws.FnExactEncodeWord'. -/
def fnExactEncodeWordUptoCard : Claim7 := { stood := { row := fnExactEncodeWordUptoRow, standIns := [], harness := (true, "49a5c05329e0d758ec659377f5680cf13724d67335c92686cd3876c476a47294"), looks := false }, kinds := [], alts := [], laidByText := true, laidKinds := [.data], laidTests := true, laidLooks := .later }
def FnExactEncodeWordUptoCardSaid : Prop := Claim7.holds Tryd.pinned (.plain (OpenSpec.upto fnExactEncodeWordSpec)) fnExactEncodeWordUptoCard
end Rows
end Go.Proofs.YtangofjpnhhfeaaDoor
