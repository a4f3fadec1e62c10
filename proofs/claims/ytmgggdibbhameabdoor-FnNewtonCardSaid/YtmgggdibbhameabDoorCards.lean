/-
  DERIVED. GIVEN WITH THE SEED: THE CARDS: each row of YtmgggdibbhameabDoorRows.lean that lists a variable, with what it lists TIED to the program's text (the seventh form; the later family's looks); each row that meets fmt, with fmt's text TOLD by the authors' own Lean function (tested against real Go, not proved from fmt's source: count such statements apart). THE CARD IS WHAT COUNTS. Prove the row's statement (the work); the ties are given (YtmgggdibbhameabDoorTie.lean); close each card by the builder's one call (the guide's Derived/Test/ToyasCard.lean, 'card_holds'). Laid BY PROGRAM, IN A SANDBOX (cutbox-door.mjs). By AI agents, Wed Nov 11 2026. No macro, syntax, notation, axiom, sorry.
-/
import Derived.Test.YtmgggdibbhameabDoorRows
import GoSem.ClaimSeven
namespace Go.Proofs.YtmgggdibbhameabDoor
namespace Rows

/-- THE TIED CARD OF 'laws.FnExactSeriesSqrt'. -/
def fnExactSeriesSqrtCard : Claim7 := { stood := { row := fnExactSeriesSqrtRow, standIns := [], harness := (true, "72fcee74c9080a30c910ad36601c31fd851224102c8298eb3d6a8b74ac8c008d"), looks := false }, kinds := [], alts := [], laidByText := true, laidKinds := [.data], laidTests := true, laidLooks := .later }
def FnExactSeriesSqrtCardSaid : Prop := Claim7.holds Tryd.pinned (.plain (OpenSpec.ofChange fnExactSeriesSqrtSpec)) fnExactSeriesSqrtCard

/-- THE TIED CARD OF 'laws.FnExactSeriesInto'. -/
def fnExactSeriesIntoCard : Claim7 := { stood := { row := fnExactSeriesIntoRow, standIns := [], harness := (true, "72fcee74c9080a30c910ad36601c31fd851224102c8298eb3d6a8b74ac8c008d"), looks := false }, kinds := [], alts := [], laidByText := true, laidKinds := [.data], laidTests := true, laidLooks := .later }
def FnExactSeriesIntoCardSaid : Prop := Claim7.holds Tryd.pinned (.plain (OpenSpec.ofChange fnExactSeriesIntoSpec)) fnExactSeriesIntoCard

/-- THE TIED CARD OF 'laws.FnExactNewton'. -/
def fnExactNewtonCard : Claim7 := { stood := { row := fnExactNewtonRow, standIns := [], harness := (true, "72fcee74c9080a30c910ad36601c31fd851224102c8298eb3d6a8b74ac8c008d"), looks := false }, kinds := [], alts := [], laidByText := true, laidKinds := [.data], laidTests := true, laidLooks := .later }
def FnExactNewtonCardSaid : Prop := Claim7.holds Tryd.pinned (.plain (OpenSpec.ofChange fnExactNewtonSpec)) fnExactNewtonCard

/-- THE TIED CARD OF 'laws.FnLogExp'. -/
def fnLogExpCard : Claim7 := { stood := { row := fnLogExpRow, standIns := [], harness := (true, "72fcee74c9080a30c910ad36601c31fd851224102c8298eb3d6a8b74ac8c008d"), looks := false }, kinds := [], alts := [], laidByText := true, laidKinds := [.data], laidTests := true, laidLooks := .later }
def FnLogExpCardSaid : Prop := Claim7.holds Tryd.pinned (.plain (OpenSpec.ofChange fnLogExpSpec)) fnLogExpCard

/-- THE TIED CARD OF 'laws.FnLogProduct'. -/
def fnLogProductCard : Claim7 := { stood := { row := fnLogProductRow, standIns := [], harness := (true, "72fcee74c9080a30c910ad36601c31fd851224102c8298eb3d6a8b74ac8c008d"), looks := false }, kinds := [], alts := [], laidByText := true, laidKinds := [.data], laidTests := true, laidLooks := .later }
def FnLogProductCardSaid : Prop := Claim7.holds Tryd.pinned (.plain (OpenSpec.ofChange fnLogProductSpec)) fnLogProductCard

/-- THE TIED CARD OF 'laws.FnSeriesPowers'. -/
def fnSeriesPowersCard : Claim7 := { stood := { row := fnSeriesPowersRow, standIns := [], harness := (true, "72fcee74c9080a30c910ad36601c31fd851224102c8298eb3d6a8b74ac8c008d"), looks := false }, kinds := [], alts := [], laidByText := true, laidKinds := [.data], laidTests := true, laidLooks := .later }
def FnSeriesPowersCardSaid : Prop := Claim7.holds Tryd.pinned (.plain (OpenSpec.ofChange fnSeriesPowersSpec)) fnSeriesPowersCard

/-- THE TIED CARD OF 'laws.FnSeriesInto'. -/
def fnSeriesIntoCard : Claim7 := { stood := { row := fnSeriesIntoRow, standIns := [], harness := (true, "72fcee74c9080a30c910ad36601c31fd851224102c8298eb3d6a8b74ac8c008d"), looks := false }, kinds := [], alts := [], laidByText := true, laidKinds := [.data], laidTests := true, laidLooks := .later }
def FnSeriesIntoCardSaid : Prop := Claim7.holds Tryd.pinned (.plain (OpenSpec.ofChange fnSeriesIntoSpec)) fnSeriesIntoCard

/-- THE TIED CARD OF 'laws.FnNewton'. -/
def fnNewtonCard : Claim7 := { stood := { row := fnNewtonRow, standIns := [], harness := (true, "72fcee74c9080a30c910ad36601c31fd851224102c8298eb3d6a8b74ac8c008d"), looks := false }, kinds := [], alts := [], laidByText := true, laidKinds := [.data], laidTests := true, laidLooks := .later }
def FnNewtonCardSaid : Prop := Claim7.holds Tryd.pinned (.plain (OpenSpec.ofChange fnNewtonSpec)) fnNewtonCard

/-- THE SECOND FORM's CARD OF 'laws.FnExactSeriesSqrt'. -/
def fnExactSeriesSqrtUptoCard : Claim7 := { stood := { row := fnExactSeriesSqrtUptoRow, standIns := [], harness := (true, "72fcee74c9080a30c910ad36601c31fd851224102c8298eb3d6a8b74ac8c008d"), looks := false }, kinds := [], alts := [], laidByText := true, laidKinds := [.data], laidTests := true, laidLooks := .later }
def FnExactSeriesSqrtUptoCardSaid : Prop := Claim7.holds Tryd.pinned (.plain (OpenSpec.upto fnExactSeriesSqrtSpec)) fnExactSeriesSqrtUptoCard

/-- THE SECOND FORM's CARD OF 'laws.FnExactSeriesInto'. -/
def fnExactSeriesIntoUptoCard : Claim7 := { stood := { row := fnExactSeriesIntoUptoRow, standIns := [], harness := (true, "72fcee74c9080a30c910ad36601c31fd851224102c8298eb3d6a8b74ac8c008d"), looks := false }, kinds := [], alts := [], laidByText := true, laidKinds := [.data], laidTests := true, laidLooks := .later }
def FnExactSeriesIntoUptoCardSaid : Prop := Claim7.holds Tryd.pinned (.plain (OpenSpec.upto fnExactSeriesIntoSpec)) fnExactSeriesIntoUptoCard

/-- THE SECOND FORM's CARD OF 'laws.FnExactNewton'. -/
def fnExactNewtonUptoCard : Claim7 := { stood := { row := fnExactNewtonUptoRow, standIns := [], harness := (true, "72fcee74c9080a30c910ad36601c31fd851224102c8298eb3d6a8b74ac8c008d"), looks := false }, kinds := [], alts := [], laidByText := true, laidKinds := [.data], laidTests := true, laidLooks := .later }
def FnExactNewtonUptoCardSaid : Prop := Claim7.holds Tryd.pinned (.plain (OpenSpec.upto fnExactNewtonSpec)) fnExactNewtonUptoCard

/-- THE SECOND FORM's CARD OF 'laws.FnLogExp'. -/
def fnLogExpUptoCard : Claim7 := { stood := { row := fnLogExpUptoRow, standIns := [], harness := (true, "72fcee74c9080a30c910ad36601c31fd851224102c8298eb3d6a8b74ac8c008d"), looks := false }, kinds := [], alts := [], laidByText := true, laidKinds := [.data], laidTests := true, laidLooks := .later }
def FnLogExpUptoCardSaid : Prop := Claim7.holds Tryd.pinned (.plain (OpenSpec.upto fnLogExpSpec)) fnLogExpUptoCard

/-- THE SECOND FORM's CARD OF 'laws.FnLogProduct'. -/
def fnLogProductUptoCard : Claim7 := { stood := { row := fnLogProductUptoRow, standIns := [], harness := (true, "72fcee74c9080a30c910ad36601c31fd851224102c8298eb3d6a8b74ac8c008d"), looks := false }, kinds := [], alts := [], laidByText := true, laidKinds := [.data], laidTests := true, laidLooks := .later }
def FnLogProductUptoCardSaid : Prop := Claim7.holds Tryd.pinned (.plain (OpenSpec.upto fnLogProductSpec)) fnLogProductUptoCard

/-- THE SECOND FORM's CARD OF 'laws.FnSeriesPowers'. -/
def fnSeriesPowersUptoCard : Claim7 := { stood := { row := fnSeriesPowersUptoRow, standIns := [], harness := (true, "72fcee74c9080a30c910ad36601c31fd851224102c8298eb3d6a8b74ac8c008d"), looks := false }, kinds := [], alts := [], laidByText := true, laidKinds := [.data], laidTests := true, laidLooks := .later }
def FnSeriesPowersUptoCardSaid : Prop := Claim7.holds Tryd.pinned (.plain (OpenSpec.upto fnSeriesPowersSpec)) fnSeriesPowersUptoCard

/-- THE SECOND FORM's CARD OF 'laws.FnSeriesInto'. -/
def fnSeriesIntoUptoCard : Claim7 := { stood := { row := fnSeriesIntoUptoRow, standIns := [], harness := (true, "72fcee74c9080a30c910ad36601c31fd851224102c8298eb3d6a8b74ac8c008d"), looks := false }, kinds := [], alts := [], laidByText := true, laidKinds := [.data], laidTests := true, laidLooks := .later }
def FnSeriesIntoUptoCardSaid : Prop := Claim7.holds Tryd.pinned (.plain (OpenSpec.upto fnSeriesIntoSpec)) fnSeriesIntoUptoCard

/-- THE SECOND FORM's CARD OF 'laws.FnNewton'. -/
def fnNewtonUptoCard : Claim7 := { stood := { row := fnNewtonUptoRow, standIns := [], harness := (true, "72fcee74c9080a30c910ad36601c31fd851224102c8298eb3d6a8b74ac8c008d"), looks := false }, kinds := [], alts := [], laidByText := true, laidKinds := [.data], laidTests := true, laidLooks := .later }
def FnNewtonUptoCardSaid : Prop := Claim7.holds Tryd.pinned (.plain (OpenSpec.upto fnNewtonSpec)) fnNewtonUptoCard
end Rows
end Go.Proofs.YtmgggdibbhameabDoor
