/-
  DERIVED. GIVEN WITH THE SEED: THE CARDS: each row of YtjfbhfloojkphaaDoorRows.lean that lists a variable, with what it lists TIED to the program's text (the seventh form; the later family's looks); each row that meets fmt, with fmt's text TOLD by the authors' own Lean function (tested against real Go, not proved from fmt's source: count such statements apart). THE CARD IS WHAT COUNTS. Prove the row's statement (the work); the ties are given (YtjfbhfloojkphaaDoorTie.lean); close each card by the builder's one call (the guide's Derived/Test/ToyasCard.lean, 'card_holds'). Laid BY PROGRAM, IN A SANDBOX (cutbox-door.mjs). By AI agents, Wed Nov 11 2026. No macro, syntax, notation, axiom, sorry.
-/
import Derived.Test.YtjfbhfloojkphaaDoorRows
import GoSem.ClaimSeven
namespace Go.Proofs.YtjfbhfloojkphaaDoor
namespace Rows

/-- THE TIED CARD OF 'laws.FnRootsTurn'. -/
def fnRootsTurnCard : Claim7 := { stood := { row := fnRootsTurnRow, standIns := [], harness := (true, "7f66c75cf8ca4ab2b743a0b3380082fd51f88c2076aefa32fa1a7843ff40b359"), looks := false }, kinds := [], alts := [], laidByText := true, laidKinds := [.data], laidTests := true, laidLooks := .later }
def FnRootsTurnCardSaid : Prop := Claim7.holds Tryd.pinned (.plain (OpenSpec.ofChange fnRootsTurnSpec)) fnRootsTurnCard

/-- THE TIED CARD OF 'laws.FnExactRootOf'. -/
def fnExactRootOfCard : Claim7 := { stood := { row := fnExactRootOfRow, standIns := [], harness := (true, "7f66c75cf8ca4ab2b743a0b3380082fd51f88c2076aefa32fa1a7843ff40b359"), looks := false }, kinds := [], alts := [], laidByText := true, laidKinds := [.data], laidTests := true, laidLooks := .later }
def FnExactRootOfCardSaid : Prop := Claim7.holds Tryd.pinned (.plain (OpenSpec.ofChange fnExactRootOfSpec)) fnExactRootOfCard

/-- THE TIED CARD OF 'laws.FnExactIsRoot'. -/
def fnExactIsRootCard : Claim7 := { stood := { row := fnExactIsRootRow, standIns := [], harness := (true, "7f66c75cf8ca4ab2b743a0b3380082fd51f88c2076aefa32fa1a7843ff40b359"), looks := false }, kinds := [], alts := [], laidByText := true, laidKinds := [.data], laidTests := true, laidLooks := .later }
def FnExactIsRootCardSaid : Prop := Claim7.holds Tryd.pinned (.plain (OpenSpec.ofChange fnExactIsRootSpec)) fnExactIsRootCard

/-- THE TIED CARD OF 'laws.FnExactRoots'. -/
def fnExactRootsCard : Claim7 := { stood := { row := fnExactRootsRow, standIns := [], harness := (true, "7f66c75cf8ca4ab2b743a0b3380082fd51f88c2076aefa32fa1a7843ff40b359"), looks := false }, kinds := [], alts := [], laidByText := true, laidKinds := [.data], laidTests := true, laidLooks := .later }
def FnExactRootsCardSaid : Prop := Claim7.holds Tryd.pinned (.plain (OpenSpec.ofChange fnExactRootsSpec)) fnExactRootsCard

/-- THE TIED CARD OF 'laws.FnExactRootSum'. -/
def fnExactRootSumCard : Claim7 := { stood := { row := fnExactRootSumRow, standIns := [], harness := (true, "7f66c75cf8ca4ab2b743a0b3380082fd51f88c2076aefa32fa1a7843ff40b359"), looks := false }, kinds := [], alts := [], laidByText := true, laidKinds := [.data], laidTests := true, laidLooks := .later }
def FnExactRootSumCardSaid : Prop := Claim7.holds Tryd.pinned (.plain (OpenSpec.ofChange fnExactRootSumSpec)) fnExactRootSumCard

/-- THE SECOND FORM's CARD OF 'laws.FnRootsTurn'. -/
def fnRootsTurnUptoCard : Claim7 := { stood := { row := fnRootsTurnUptoRow, standIns := [], harness := (true, "7f66c75cf8ca4ab2b743a0b3380082fd51f88c2076aefa32fa1a7843ff40b359"), looks := false }, kinds := [], alts := [], laidByText := true, laidKinds := [.data], laidTests := true, laidLooks := .later }
def FnRootsTurnUptoCardSaid : Prop := Claim7.holds Tryd.pinned (.plain (OpenSpec.upto fnRootsTurnSpec)) fnRootsTurnUptoCard

/-- THE SECOND FORM's CARD OF 'laws.FnExactRootOf'. -/
def fnExactRootOfUptoCard : Claim7 := { stood := { row := fnExactRootOfUptoRow, standIns := [], harness := (true, "7f66c75cf8ca4ab2b743a0b3380082fd51f88c2076aefa32fa1a7843ff40b359"), looks := false }, kinds := [], alts := [], laidByText := true, laidKinds := [.data], laidTests := true, laidLooks := .later }
def FnExactRootOfUptoCardSaid : Prop := Claim7.holds Tryd.pinned (.plain (OpenSpec.upto fnExactRootOfSpec)) fnExactRootOfUptoCard

/-- THE SECOND FORM's CARD OF 'laws.FnExactIsRoot'. -/
def fnExactIsRootUptoCard : Claim7 := { stood := { row := fnExactIsRootUptoRow, standIns := [], harness := (true, "7f66c75cf8ca4ab2b743a0b3380082fd51f88c2076aefa32fa1a7843ff40b359"), looks := false }, kinds := [], alts := [], laidByText := true, laidKinds := [.data], laidTests := true, laidLooks := .later }
def FnExactIsRootUptoCardSaid : Prop := Claim7.holds Tryd.pinned (.plain (OpenSpec.upto fnExactIsRootSpec)) fnExactIsRootUptoCard

/-- THE SECOND FORM's CARD OF 'laws.FnExactRoots'. -/
def fnExactRootsUptoCard : Claim7 := { stood := { row := fnExactRootsUptoRow, standIns := [], harness := (true, "7f66c75cf8ca4ab2b743a0b3380082fd51f88c2076aefa32fa1a7843ff40b359"), looks := false }, kinds := [], alts := [], laidByText := true, laidKinds := [.data], laidTests := true, laidLooks := .later }
def FnExactRootsUptoCardSaid : Prop := Claim7.holds Tryd.pinned (.plain (OpenSpec.upto fnExactRootsSpec)) fnExactRootsUptoCard

/-- THE SECOND FORM's CARD OF 'laws.FnExactRootSum'. -/
def fnExactRootSumUptoCard : Claim7 := { stood := { row := fnExactRootSumUptoRow, standIns := [], harness := (true, "7f66c75cf8ca4ab2b743a0b3380082fd51f88c2076aefa32fa1a7843ff40b359"), looks := false }, kinds := [], alts := [], laidByText := true, laidKinds := [.data], laidTests := true, laidLooks := .later }
def FnExactRootSumUptoCardSaid : Prop := Claim7.holds Tryd.pinned (.plain (OpenSpec.upto fnExactRootSumSpec)) fnExactRootSumUptoCard
end Rows
end Go.Proofs.YtjfbhfloojkphaaDoor
