/-
  The program's functions on polynomials that answer lists.
-/
import Derived.Test.YthepiainflbglabDoorWalkYD
import Derived.Test.YthepiainflbglabDoorWalkYF
namespace Go.Proofs.YthepiainflbglabDoor
open Go.RowKit
theorem OwnG.finish {w w' : World} {l : List Int} {g : Nat} (hg : w.heap.size ≤ g) (ho : Own w' g l.length (lf l)) (hb : Below w.heap.size w w') : OwnL w l (.returned (.slice (some ⟨g, 0, none⟩) l.length l.length)) w' := OwnG.own ⟨g, rfl, hg, ho, hb⟩
end Go.Proofs.YthepiainflbglabDoor
