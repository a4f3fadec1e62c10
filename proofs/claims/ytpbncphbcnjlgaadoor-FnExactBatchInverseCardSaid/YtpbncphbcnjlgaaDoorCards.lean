/-
  DERIVED. GIVEN WITH THE SEED: THE CARDS: each row of YtpbncphbcnjlgaaDoorRows.lean that lists a variable, with what it lists TIED to the program's text (the seventh form; the later family's looks); each row that meets fmt, with fmt's text TOLD by the authors' own Lean function (tested against real Go, not proved from fmt's source: count such statements apart). THE CARD IS WHAT COUNTS. Prove the row's statement (the work); the ties are given (YtpbncphbcnjlgaaDoorTie.lean); close each card by the builder's one call (the guide's Derived/Test/ToyasCard.lean, 'card_holds'). Laid BY PROGRAM, IN A SANDBOX (cutbox-door.mjs). By AI agents, Wed Nov 11 2026. No macro, syntax, notation, axiom, sorry.
-/
import Derived.Test.YtpbncphbcnjlgaaDoorRows
import GoSem.ClaimSeven
namespace Go.Proofs.YtpbncphbcnjlgaaDoor
namespace Rows

/-- THE TIED CARD OF 'laws.FnFieldRing'. -/
def fnFieldRingCard : Claim7 := { stood := { row := fnFieldRingRow, standIns := [], harness := (true, "2d1235b4a1a5739297a2877a855dcdaa5897e9078952281e5b674148044b9491"), looks := false }, kinds := [], alts := [], laidByText := true, laidKinds := [.data], laidTests := true, laidLooks := .later }
def FnFieldRingCardSaid : Prop := Claim7.holds Tryd.pinned (.plain (OpenSpec.ofChange fnFieldRingSpec)) fnFieldRingCard

/-- THE TIED CARD OF 'laws.FnInverseBack'. -/
def fnInverseBackCard : Claim7 := { stood := { row := fnInverseBackRow, standIns := [], harness := (true, "2d1235b4a1a5739297a2877a855dcdaa5897e9078952281e5b674148044b9491"), looks := false }, kinds := [], alts := [], laidByText := true, laidKinds := [.data], laidTests := true, laidLooks := .later }
def FnInverseBackCardSaid : Prop := Claim7.holds Tryd.pinned (.plain (OpenSpec.ofChange fnInverseBackSpec)) fnInverseBackCard

/-- THE TIED CARD OF 'laws.FnOrderLeast'. -/
def fnOrderLeastCard : Claim7 := { stood := { row := fnOrderLeastRow, standIns := [], harness := (true, "2d1235b4a1a5739297a2877a855dcdaa5897e9078952281e5b674148044b9491"), looks := false }, kinds := [], alts := [], laidByText := true, laidKinds := [.data], laidTests := true, laidLooks := .later }
def FnOrderLeastCardSaid : Prop := Claim7.holds Tryd.pinned (.plain (OpenSpec.ofChange fnOrderLeastSpec)) fnOrderLeastCard

/-- THE TIED CARD OF 'laws.FnSquares'. -/
def fnSquaresCard : Claim7 := { stood := { row := fnSquaresRow, standIns := [], harness := (true, "2d1235b4a1a5739297a2877a855dcdaa5897e9078952281e5b674148044b9491"), looks := false }, kinds := [], alts := [], laidByText := true, laidKinds := [.data], laidTests := true, laidLooks := .later }
def FnSquaresCardSaid : Prop := Claim7.holds Tryd.pinned (.plain (OpenSpec.ofChange fnSquaresSpec)) fnSquaresCard

/-- THE TIED CARD OF 'laws.FnBatch'. -/
def fnBatchCard : Claim7 := { stood := { row := fnBatchRow, standIns := [], harness := (true, "2d1235b4a1a5739297a2877a855dcdaa5897e9078952281e5b674148044b9491"), looks := false }, kinds := [], alts := [], laidByText := true, laidKinds := [.data], laidTests := true, laidLooks := .later }
def FnBatchCardSaid : Prop := Claim7.holds Tryd.pinned (.plain (OpenSpec.ofChange fnBatchSpec)) fnBatchCard

/-- THE TIED CARD OF 'laws.FnExactModulus'. -/
def fnExactModulusCard : Claim7 := { stood := { row := fnExactModulusRow, standIns := [], harness := (true, "2d1235b4a1a5739297a2877a855dcdaa5897e9078952281e5b674148044b9491"), looks := false }, kinds := [], alts := [], laidByText := true, laidKinds := [.data], laidTests := true, laidLooks := .later }
def FnExactModulusCardSaid : Prop := Claim7.holds Tryd.pinned (.plain (OpenSpec.ofChange fnExactModulusSpec)) fnExactModulusCard

/-- THE TIED CARD OF 'laws.FnExactGenerator'. -/
def fnExactGeneratorCard : Claim7 := { stood := { row := fnExactGeneratorRow, standIns := [], harness := (true, "2d1235b4a1a5739297a2877a855dcdaa5897e9078952281e5b674148044b9491"), looks := false }, kinds := [], alts := [], laidByText := true, laidKinds := [.data], laidTests := true, laidLooks := .later }
def FnExactGeneratorCardSaid : Prop := Claim7.holds Tryd.pinned (.plain (OpenSpec.ofChange fnExactGeneratorSpec)) fnExactGeneratorCard

/-- THE TIED CARD OF 'laws.FnExactTwoPower'. -/
def fnExactTwoPowerCard : Claim7 := { stood := { row := fnExactTwoPowerRow, standIns := [], harness := (true, "2d1235b4a1a5739297a2877a855dcdaa5897e9078952281e5b674148044b9491"), looks := false }, kinds := [], alts := [], laidByText := true, laidKinds := [.data], laidTests := true, laidLooks := .later }
def FnExactTwoPowerCardSaid : Prop := Claim7.holds Tryd.pinned (.plain (OpenSpec.ofChange fnExactTwoPowerSpec)) fnExactTwoPowerCard

/-- THE TIED CARD OF 'laws.FnExactReduce'. -/
def fnExactReduceCard : Claim7 := { stood := { row := fnExactReduceRow, standIns := [], harness := (true, "2d1235b4a1a5739297a2877a855dcdaa5897e9078952281e5b674148044b9491"), looks := false }, kinds := [], alts := [], laidByText := true, laidKinds := [.data], laidTests := true, laidLooks := .later }
def FnExactReduceCardSaid : Prop := Claim7.holds Tryd.pinned (.plain (OpenSpec.ofChange fnExactReduceSpec)) fnExactReduceCard

/-- THE TIED CARD OF 'laws.FnExactAdd'. -/
def fnExactAddCard : Claim7 := { stood := { row := fnExactAddRow, standIns := [], harness := (true, "2d1235b4a1a5739297a2877a855dcdaa5897e9078952281e5b674148044b9491"), looks := false }, kinds := [], alts := [], laidByText := true, laidKinds := [.data], laidTests := true, laidLooks := .later }
def FnExactAddCardSaid : Prop := Claim7.holds Tryd.pinned (.plain (OpenSpec.ofChange fnExactAddSpec)) fnExactAddCard

/-- THE TIED CARD OF 'laws.FnExactSub'. -/
def fnExactSubCard : Claim7 := { stood := { row := fnExactSubRow, standIns := [], harness := (true, "2d1235b4a1a5739297a2877a855dcdaa5897e9078952281e5b674148044b9491"), looks := false }, kinds := [], alts := [], laidByText := true, laidKinds := [.data], laidTests := true, laidLooks := .later }
def FnExactSubCardSaid : Prop := Claim7.holds Tryd.pinned (.plain (OpenSpec.ofChange fnExactSubSpec)) fnExactSubCard

/-- THE TIED CARD OF 'laws.FnExactMul'. -/
def fnExactMulCard : Claim7 := { stood := { row := fnExactMulRow, standIns := [], harness := (true, "2d1235b4a1a5739297a2877a855dcdaa5897e9078952281e5b674148044b9491"), looks := false }, kinds := [], alts := [], laidByText := true, laidKinds := [.data], laidTests := true, laidLooks := .later }
def FnExactMulCardSaid : Prop := Claim7.holds Tryd.pinned (.plain (OpenSpec.ofChange fnExactMulSpec)) fnExactMulCard

/-- THE TIED CARD OF 'laws.FnExactInverse'. -/
def fnExactInverseCard : Claim7 := { stood := { row := fnExactInverseRow, standIns := [], harness := (true, "2d1235b4a1a5739297a2877a855dcdaa5897e9078952281e5b674148044b9491"), looks := false }, kinds := [], alts := [], laidByText := true, laidKinds := [.data], laidTests := true, laidLooks := .later }
def FnExactInverseCardSaid : Prop := Claim7.holds Tryd.pinned (.plain (OpenSpec.ofChange fnExactInverseSpec)) fnExactInverseCard

/-- THE TIED CARD OF 'laws.FnExactPower'. -/
def fnExactPowerCard : Claim7 := { stood := { row := fnExactPowerRow, standIns := [], harness := (true, "2d1235b4a1a5739297a2877a855dcdaa5897e9078952281e5b674148044b9491"), looks := false }, kinds := [], alts := [], laidByText := true, laidKinds := [.data], laidTests := true, laidLooks := .later }
def FnExactPowerCardSaid : Prop := Claim7.holds Tryd.pinned (.plain (OpenSpec.ofChange fnExactPowerSpec)) fnExactPowerCard

/-- THE TIED CARD OF 'laws.FnExactOrder'. -/
def fnExactOrderCard : Claim7 := { stood := { row := fnExactOrderRow, standIns := [], harness := (true, "2d1235b4a1a5739297a2877a855dcdaa5897e9078952281e5b674148044b9491"), looks := false }, kinds := [], alts := [], laidByText := true, laidKinds := [.data], laidTests := true, laidLooks := .later }
def FnExactOrderCardSaid : Prop := Claim7.holds Tryd.pinned (.plain (OpenSpec.ofChange fnExactOrderSpec)) fnExactOrderCard

/-- THE TIED CARD OF 'laws.FnExactSquareRoot'. -/
def fnExactSquareRootCard : Claim7 := { stood := { row := fnExactSquareRootRow, standIns := [], harness := (true, "2d1235b4a1a5739297a2877a855dcdaa5897e9078952281e5b674148044b9491"), looks := false }, kinds := [], alts := [], laidByText := true, laidKinds := [.data], laidTests := true, laidLooks := .later }
def FnExactSquareRootCardSaid : Prop := Claim7.holds Tryd.pinned (.plain (OpenSpec.ofChange fnExactSquareRootSpec)) fnExactSquareRootCard

/-- THE TIED CARD OF 'laws.FnExactBatchInverse'. -/
def fnExactBatchInverseCard : Claim7 := { stood := { row := fnExactBatchInverseRow, standIns := [], harness := (true, "2d1235b4a1a5739297a2877a855dcdaa5897e9078952281e5b674148044b9491"), looks := false }, kinds := [], alts := [], laidByText := true, laidKinds := [.data], laidTests := true, laidLooks := .later }
def FnExactBatchInverseCardSaid : Prop := Claim7.holds Tryd.pinned (.plain (OpenSpec.ofChange fnExactBatchInverseSpec)) fnExactBatchInverseCard

/-- THE TIED CARD OF 'laws.FnExactDot'. -/
def fnExactDotCard : Claim7 := { stood := { row := fnExactDotRow, standIns := [], harness := (true, "2d1235b4a1a5739297a2877a855dcdaa5897e9078952281e5b674148044b9491"), looks := false }, kinds := [], alts := [], laidByText := true, laidKinds := [.data], laidTests := true, laidLooks := .later }
def FnExactDotCardSaid : Prop := Claim7.holds Tryd.pinned (.plain (OpenSpec.ofChange fnExactDotSpec)) fnExactDotCard

/-- THE SECOND FORM's CARD OF 'laws.FnFieldRing'. -/
def fnFieldRingUptoCard : Claim7 := { stood := { row := fnFieldRingUptoRow, standIns := [], harness := (true, "2d1235b4a1a5739297a2877a855dcdaa5897e9078952281e5b674148044b9491"), looks := false }, kinds := [], alts := [], laidByText := true, laidKinds := [.data], laidTests := true, laidLooks := .later }
def FnFieldRingUptoCardSaid : Prop := Claim7.holds Tryd.pinned (.plain (OpenSpec.upto fnFieldRingSpec)) fnFieldRingUptoCard

/-- THE SECOND FORM's CARD OF 'laws.FnInverseBack'. -/
def fnInverseBackUptoCard : Claim7 := { stood := { row := fnInverseBackUptoRow, standIns := [], harness := (true, "2d1235b4a1a5739297a2877a855dcdaa5897e9078952281e5b674148044b9491"), looks := false }, kinds := [], alts := [], laidByText := true, laidKinds := [.data], laidTests := true, laidLooks := .later }
def FnInverseBackUptoCardSaid : Prop := Claim7.holds Tryd.pinned (.plain (OpenSpec.upto fnInverseBackSpec)) fnInverseBackUptoCard

/-- THE SECOND FORM's CARD OF 'laws.FnOrderLeast'. -/
def fnOrderLeastUptoCard : Claim7 := { stood := { row := fnOrderLeastUptoRow, standIns := [], harness := (true, "2d1235b4a1a5739297a2877a855dcdaa5897e9078952281e5b674148044b9491"), looks := false }, kinds := [], alts := [], laidByText := true, laidKinds := [.data], laidTests := true, laidLooks := .later }
def FnOrderLeastUptoCardSaid : Prop := Claim7.holds Tryd.pinned (.plain (OpenSpec.upto fnOrderLeastSpec)) fnOrderLeastUptoCard

/-- THE SECOND FORM's CARD OF 'laws.FnSquares'. -/
def fnSquaresUptoCard : Claim7 := { stood := { row := fnSquaresUptoRow, standIns := [], harness := (true, "2d1235b4a1a5739297a2877a855dcdaa5897e9078952281e5b674148044b9491"), looks := false }, kinds := [], alts := [], laidByText := true, laidKinds := [.data], laidTests := true, laidLooks := .later }
def FnSquaresUptoCardSaid : Prop := Claim7.holds Tryd.pinned (.plain (OpenSpec.upto fnSquaresSpec)) fnSquaresUptoCard

/-- THE SECOND FORM's CARD OF 'laws.FnBatch'. -/
def fnBatchUptoCard : Claim7 := { stood := { row := fnBatchUptoRow, standIns := [], harness := (true, "2d1235b4a1a5739297a2877a855dcdaa5897e9078952281e5b674148044b9491"), looks := false }, kinds := [], alts := [], laidByText := true, laidKinds := [.data], laidTests := true, laidLooks := .later }
def FnBatchUptoCardSaid : Prop := Claim7.holds Tryd.pinned (.plain (OpenSpec.upto fnBatchSpec)) fnBatchUptoCard

/-- THE SECOND FORM's CARD OF 'laws.FnExactModulus'. -/
def fnExactModulusUptoCard : Claim7 := { stood := { row := fnExactModulusUptoRow, standIns := [], harness := (true, "2d1235b4a1a5739297a2877a855dcdaa5897e9078952281e5b674148044b9491"), looks := false }, kinds := [], alts := [], laidByText := true, laidKinds := [.data], laidTests := true, laidLooks := .later }
def FnExactModulusUptoCardSaid : Prop := Claim7.holds Tryd.pinned (.plain (OpenSpec.upto fnExactModulusSpec)) fnExactModulusUptoCard

/-- THE SECOND FORM's CARD OF 'laws.FnExactGenerator'. -/
def fnExactGeneratorUptoCard : Claim7 := { stood := { row := fnExactGeneratorUptoRow, standIns := [], harness := (true, "2d1235b4a1a5739297a2877a855dcdaa5897e9078952281e5b674148044b9491"), looks := false }, kinds := [], alts := [], laidByText := true, laidKinds := [.data], laidTests := true, laidLooks := .later }
def FnExactGeneratorUptoCardSaid : Prop := Claim7.holds Tryd.pinned (.plain (OpenSpec.upto fnExactGeneratorSpec)) fnExactGeneratorUptoCard

/-- THE SECOND FORM's CARD OF 'laws.FnExactTwoPower'. -/
def fnExactTwoPowerUptoCard : Claim7 := { stood := { row := fnExactTwoPowerUptoRow, standIns := [], harness := (true, "2d1235b4a1a5739297a2877a855dcdaa5897e9078952281e5b674148044b9491"), looks := false }, kinds := [], alts := [], laidByText := true, laidKinds := [.data], laidTests := true, laidLooks := .later }
def FnExactTwoPowerUptoCardSaid : Prop := Claim7.holds Tryd.pinned (.plain (OpenSpec.upto fnExactTwoPowerSpec)) fnExactTwoPowerUptoCard

/-- THE SECOND FORM's CARD OF 'laws.FnExactReduce'. -/
def fnExactReduceUptoCard : Claim7 := { stood := { row := fnExactReduceUptoRow, standIns := [], harness := (true, "2d1235b4a1a5739297a2877a855dcdaa5897e9078952281e5b674148044b9491"), looks := false }, kinds := [], alts := [], laidByText := true, laidKinds := [.data], laidTests := true, laidLooks := .later }
def FnExactReduceUptoCardSaid : Prop := Claim7.holds Tryd.pinned (.plain (OpenSpec.upto fnExactReduceSpec)) fnExactReduceUptoCard

/-- THE SECOND FORM's CARD OF 'laws.FnExactAdd'. -/
def fnExactAddUptoCard : Claim7 := { stood := { row := fnExactAddUptoRow, standIns := [], harness := (true, "2d1235b4a1a5739297a2877a855dcdaa5897e9078952281e5b674148044b9491"), looks := false }, kinds := [], alts := [], laidByText := true, laidKinds := [.data], laidTests := true, laidLooks := .later }
def FnExactAddUptoCardSaid : Prop := Claim7.holds Tryd.pinned (.plain (OpenSpec.upto fnExactAddSpec)) fnExactAddUptoCard

/-- THE SECOND FORM's CARD OF 'laws.FnExactSub'. -/
def fnExactSubUptoCard : Claim7 := { stood := { row := fnExactSubUptoRow, standIns := [], harness := (true, "2d1235b4a1a5739297a2877a855dcdaa5897e9078952281e5b674148044b9491"), looks := false }, kinds := [], alts := [], laidByText := true, laidKinds := [.data], laidTests := true, laidLooks := .later }
def FnExactSubUptoCardSaid : Prop := Claim7.holds Tryd.pinned (.plain (OpenSpec.upto fnExactSubSpec)) fnExactSubUptoCard

/-- THE SECOND FORM's CARD OF 'laws.FnExactMul'. -/
def fnExactMulUptoCard : Claim7 := { stood := { row := fnExactMulUptoRow, standIns := [], harness := (true, "2d1235b4a1a5739297a2877a855dcdaa5897e9078952281e5b674148044b9491"), looks := false }, kinds := [], alts := [], laidByText := true, laidKinds := [.data], laidTests := true, laidLooks := .later }
def FnExactMulUptoCardSaid : Prop := Claim7.holds Tryd.pinned (.plain (OpenSpec.upto fnExactMulSpec)) fnExactMulUptoCard

/-- THE SECOND FORM's CARD OF 'laws.FnExactInverse'. -/
def fnExactInverseUptoCard : Claim7 := { stood := { row := fnExactInverseUptoRow, standIns := [], harness := (true, "2d1235b4a1a5739297a2877a855dcdaa5897e9078952281e5b674148044b9491"), looks := false }, kinds := [], alts := [], laidByText := true, laidKinds := [.data], laidTests := true, laidLooks := .later }
def FnExactInverseUptoCardSaid : Prop := Claim7.holds Tryd.pinned (.plain (OpenSpec.upto fnExactInverseSpec)) fnExactInverseUptoCard

/-- THE SECOND FORM's CARD OF 'laws.FnExactPower'. -/
def fnExactPowerUptoCard : Claim7 := { stood := { row := fnExactPowerUptoRow, standIns := [], harness := (true, "2d1235b4a1a5739297a2877a855dcdaa5897e9078952281e5b674148044b9491"), looks := false }, kinds := [], alts := [], laidByText := true, laidKinds := [.data], laidTests := true, laidLooks := .later }
def FnExactPowerUptoCardSaid : Prop := Claim7.holds Tryd.pinned (.plain (OpenSpec.upto fnExactPowerSpec)) fnExactPowerUptoCard

/-- THE SECOND FORM's CARD OF 'laws.FnExactOrder'. -/
def fnExactOrderUptoCard : Claim7 := { stood := { row := fnExactOrderUptoRow, standIns := [], harness := (true, "2d1235b4a1a5739297a2877a855dcdaa5897e9078952281e5b674148044b9491"), looks := false }, kinds := [], alts := [], laidByText := true, laidKinds := [.data], laidTests := true, laidLooks := .later }
def FnExactOrderUptoCardSaid : Prop := Claim7.holds Tryd.pinned (.plain (OpenSpec.upto fnExactOrderSpec)) fnExactOrderUptoCard

/-- THE SECOND FORM's CARD OF 'laws.FnExactSquareRoot'. -/
def fnExactSquareRootUptoCard : Claim7 := { stood := { row := fnExactSquareRootUptoRow, standIns := [], harness := (true, "2d1235b4a1a5739297a2877a855dcdaa5897e9078952281e5b674148044b9491"), looks := false }, kinds := [], alts := [], laidByText := true, laidKinds := [.data], laidTests := true, laidLooks := .later }
def FnExactSquareRootUptoCardSaid : Prop := Claim7.holds Tryd.pinned (.plain (OpenSpec.upto fnExactSquareRootSpec)) fnExactSquareRootUptoCard

/-- THE SECOND FORM's CARD OF 'laws.FnExactBatchInverse'. -/
def fnExactBatchInverseUptoCard : Claim7 := { stood := { row := fnExactBatchInverseUptoRow, standIns := [], harness := (true, "2d1235b4a1a5739297a2877a855dcdaa5897e9078952281e5b674148044b9491"), looks := false }, kinds := [], alts := [], laidByText := true, laidKinds := [.data], laidTests := true, laidLooks := .later }
def FnExactBatchInverseUptoCardSaid : Prop := Claim7.holds Tryd.pinned (.plain (OpenSpec.upto fnExactBatchInverseSpec)) fnExactBatchInverseUptoCard

/-- THE SECOND FORM's CARD OF 'laws.FnExactDot'. -/
def fnExactDotUptoCard : Claim7 := { stood := { row := fnExactDotUptoRow, standIns := [], harness := (true, "2d1235b4a1a5739297a2877a855dcdaa5897e9078952281e5b674148044b9491"), looks := false }, kinds := [], alts := [], laidByText := true, laidKinds := [.data], laidTests := true, laidLooks := .later }
def FnExactDotUptoCardSaid : Prop := Claim7.holds Tryd.pinned (.plain (OpenSpec.upto fnExactDotSpec)) fnExactDotUptoCard
end Rows
end Go.Proofs.YtpbncphbcnjlgaaDoor
