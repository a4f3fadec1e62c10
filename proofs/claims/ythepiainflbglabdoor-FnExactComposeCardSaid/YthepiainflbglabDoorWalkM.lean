/-
  Lists that grow: the specification's BatchInverse, a copy, a drawn list.
-/
import Derived.Test.YthepiainflbglabDoorWalkL
namespace Go.Proofs.YthepiainflbglabDoor
open Go.RowKit
def xsF (F : Nat → Int) (k : Nat) : List Value := (List.range k).map fun j => .int .i64 (F j)
theorem xsF_succ (F : Nat → Int) (k : Nat) : xsF F k ++ [.int .i64 (F k)] = xsF F (k + 1) := by simp [xsF, List.range_succ]
theorem xsF_congr {F G : Nat → Int} {k : Nat} (h : ∀ j, j < k → F j = G j) : xsF F k = xsF G k := by
  unfold xsF
  refine List.map_congr_left fun j hj => ?_
  rw [h j (List.mem_range.1 hj)]
theorem own_empty (w : World) (F : Nat → Int) : (w.alloc (.cells #[] 3)).ownsRow w.heap.size 3 1 (.slice (some ⟨w.heap.size, 0, none⟩) 0 0) 0 (xsF F 0) :=
  ⟨rfl, .inr ⟨w.heap.size, 0, #[], rfl, Nat.le_refl _, by unfold World.alloc; simp, by omega, by unfold maxLen; omega, rfl, rfl⟩⟩
theorem src_of_owns {w' : World} {base : Nat} {v : Value} {n : Nat} {F : Nat → Int} (h : w'.ownsRow base 3 1 v n (xsF F n)) : ∃ a cap, v = .slice a n cap ∧ Src w' a n F := by
  obtain ⟨hl, h⟩ := h
  rcases h with ⟨rfl, rfl⟩ | ⟨g, cap, cur, rfl, hg, hh, hc, hm, hs, ht⟩
  · exact ⟨none, 0, rfl, .inl rfl⟩
  · refine ⟨_, _, rfl, .inr ⟨g, 0, rfl, (Array.getElem?_eq_some_iff.1 hh).1, fun j hj => ?_⟩⟩
    have hx : (xsF F n)[j]? = some (.int .i64 (F j)) := by simp [xsF, hj]
    have hcur : cur.toList[j]? = some (.int .i64 (F j)) := by
      rw [← ht, List.getElem?_take_of_lt (by omega)] at hx; exact hx
    unfold World.cell?
    rw [hh]
    simp
    simpa using hcur
/-- A list of n integers. -/
def ListP (w : World) (n : Nat) (F : Nat → Int) (e : Ending) (w' : World) : Prop := ∃ a cap, e = .returned (.slice a n cap) ∧ Src w' a n F ∧ Below w.heap.size w w'
end Go.Proofs.YthepiainflbglabDoor
