/-
  DERIVED. GIVEN WITH THE SEED: THE CARDS: each row of YtoohhcfanllhmaaDoorRows.lean that lists a variable, with what it lists TIED to the program's text (the seventh form; the later family's looks); each row that meets fmt, with fmt's text TOLD by the authors' own Lean function (tested against real Go, not proved from fmt's source: count such statements apart). THE CARD IS WHAT COUNTS. Prove the row's statement (the work); the ties are given (YtoohhcfanllhmaaDoorTie.lean); close each card by the builder's one call (the guide's Derived/Test/ToyasCard.lean, 'card_holds'). Laid BY PROGRAM, IN A SANDBOX (cutbox-door.mjs). By AI agents, Wed Nov 11 2026. No macro, syntax, notation, axiom, sorry.
-/
import Derived.Test.YtoohhcfanllhmaaDoorRows
import GoSem.ClaimSeven
namespace Go.Proofs.YtoohhcfanllhmaaDoor
namespace Rows

/-- THE TIED CARD OF 'laws.FnDivBack'. -/
def fnDivBackCard : Claim7 := { stood := { row := fnDivBackRow, standIns := [], harness := (true, "9bb6129d3da819ffea67bee002083822e95652021e52a48e7b3f7d3f4ccc438e"), looks := false }, kinds := [], alts := [], laidByText := true, laidKinds := [.data], laidTests := true, laidLooks := .later }
def FnDivBackCardSaid : Prop := Claim7.holds Tryd.pinned (.plain (OpenSpec.ofChange fnDivBackSpec)) fnDivBackCard

/-- THE TIED CARD OF 'laws.FnGcd'. -/
def fnGcdCard : Claim7 := { stood := { row := fnGcdRow, standIns := [], harness := (true, "9bb6129d3da819ffea67bee002083822e95652021e52a48e7b3f7d3f4ccc438e"), looks := false }, kinds := [], alts := [], laidByText := true, laidKinds := [.data], laidTests := true, laidLooks := .later }
def FnGcdCardSaid : Prop := Claim7.holds Tryd.pinned (.plain (OpenSpec.ofChange fnGcdSpec)) fnGcdCard

/-- THE TIED CARD OF 'laws.FnEvalProduct'. -/
def fnEvalProductCard : Claim7 := { stood := { row := fnEvalProductRow, standIns := [], harness := (true, "9bb6129d3da819ffea67bee002083822e95652021e52a48e7b3f7d3f4ccc438e"), looks := false }, kinds := [], alts := [], laidByText := true, laidKinds := [.data], laidTests := true, laidLooks := .later }
def FnEvalProductCardSaid : Prop := Claim7.holds Tryd.pinned (.plain (OpenSpec.ofChange fnEvalProductSpec)) fnEvalProductCard

/-- THE TIED CARD OF 'laws.FnPowMod'. -/
def fnPowModCard : Claim7 := { stood := { row := fnPowModRow, standIns := [], harness := (true, "9bb6129d3da819ffea67bee002083822e95652021e52a48e7b3f7d3f4ccc438e"), looks := false }, kinds := [], alts := [], laidByText := true, laidKinds := [.data], laidTests := true, laidLooks := .later }
def FnPowModCardSaid : Prop := Claim7.holds Tryd.pinned (.plain (OpenSpec.ofChange fnPowModSpec)) fnPowModCard

/-- THE SECOND FORM's CARD OF 'laws.FnDivBack'. -/
def fnDivBackUptoCard : Claim7 := { stood := { row := fnDivBackUptoRow, standIns := [], harness := (true, "9bb6129d3da819ffea67bee002083822e95652021e52a48e7b3f7d3f4ccc438e"), looks := false }, kinds := [], alts := [], laidByText := true, laidKinds := [.data], laidTests := true, laidLooks := .later }
def FnDivBackUptoCardSaid : Prop := Claim7.holds Tryd.pinned (.plain (OpenSpec.upto fnDivBackSpec)) fnDivBackUptoCard

/-- THE SECOND FORM's CARD OF 'laws.FnGcd'. -/
def fnGcdUptoCard : Claim7 := { stood := { row := fnGcdUptoRow, standIns := [], harness := (true, "9bb6129d3da819ffea67bee002083822e95652021e52a48e7b3f7d3f4ccc438e"), looks := false }, kinds := [], alts := [], laidByText := true, laidKinds := [.data], laidTests := true, laidLooks := .later }
def FnGcdUptoCardSaid : Prop := Claim7.holds Tryd.pinned (.plain (OpenSpec.upto fnGcdSpec)) fnGcdUptoCard

/-- THE SECOND FORM's CARD OF 'laws.FnEvalProduct'. -/
def fnEvalProductUptoCard : Claim7 := { stood := { row := fnEvalProductUptoRow, standIns := [], harness := (true, "9bb6129d3da819ffea67bee002083822e95652021e52a48e7b3f7d3f4ccc438e"), looks := false }, kinds := [], alts := [], laidByText := true, laidKinds := [.data], laidTests := true, laidLooks := .later }
def FnEvalProductUptoCardSaid : Prop := Claim7.holds Tryd.pinned (.plain (OpenSpec.upto fnEvalProductSpec)) fnEvalProductUptoCard

/-- THE SECOND FORM's CARD OF 'laws.FnPowMod'. -/
def fnPowModUptoCard : Claim7 := { stood := { row := fnPowModUptoRow, standIns := [], harness := (true, "9bb6129d3da819ffea67bee002083822e95652021e52a48e7b3f7d3f4ccc438e"), looks := false }, kinds := [], alts := [], laidByText := true, laidKinds := [.data], laidTests := true, laidLooks := .later }
def FnPowModUptoCardSaid : Prop := Claim7.holds Tryd.pinned (.plain (OpenSpec.upto fnPowModSpec)) fnPowModUptoCard
end Rows
end Go.Proofs.YtoohhcfanllhmaaDoor
