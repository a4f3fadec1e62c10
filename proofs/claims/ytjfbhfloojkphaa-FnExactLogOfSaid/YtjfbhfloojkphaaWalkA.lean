/-
  The walks of the functions on integers: what each answers, in any world that holds the table of fields; the world stands.
-/
import Derived.Test.YtjfbhfloojkphaaRows
import Derived.Test.YtjfbhfloojkphaaNum
import Derived.WalkKit
import Derived.WalkSpells
import Derived.WalkLawsBesides
import Derived.Lib.Hide
namespace Go.Proofs.Ytjfbhfloojkphaa
open Go.RowKit

/-- The world holds the table of fields. -/
def Tab (w : World) : Prop := ∀ n : Int, 0 ≤ n → n ≤ 8 →
  w.cell? ⟨0, n.toNat * 3, none⟩ = some (.int .i64 (P n)) ∧ w.cell? ⟨0, n.toNat * 3 + 1, none⟩ = some (.int .i64 (G n)) ∧ w.cell? ⟨0, n.toNat * 3 + 2, none⟩ = some (.int .i64 (T n))
theorem Tab.keep {w w' : World} (h : Tab w) (hk : ∀ o, w'.cell? ⟨0, o, none⟩ = w.cell? ⟨0, o, none⟩) : Tab w' := by
  intro n h0 h8
  rw [hk, hk, hk]; exact h n h0 h8

theorem ret_int {k : IntKind} {a b : Int} (h : a = b) : Ending.returned (.int k a) = .returned (.int k b) := by rw [h]

end Go.Proofs.Ytjfbhfloojkphaa
