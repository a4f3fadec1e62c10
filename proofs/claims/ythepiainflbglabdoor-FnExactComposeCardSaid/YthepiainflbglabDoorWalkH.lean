/-
  The draws of numbers, of a field, of an element, of any integer.
-/
import Derived.Test.YthepiainflbglabDoorWalkG
namespace Go.Proofs.YthepiainflbglabDoor
open Go.RowKit
theorem mod_bd {x n : Int} (hn : 0 < n) : 0 ≤ x % n ∧ x % n < n := ⟨Int.emod_nonneg _ (by omega), Int.emod_lt_of_pos _ hn⟩
def DrawBool (g : Nat) (w : World) (e : Ending) (w' : World) : Prop := ∃ b : Bool, e = .returned (.bool b) ∧ w.grownBy w' (some g) ∧ Cur g w'
/-- A short list of integers in a block of its own. -/
def Ints (Q : Int → Prop) (w : World) (g lb len : Nat) : Prop := lb ≠ g ∧ ∀ j : Nat, j < len → ∃ n : Int, w.cell? ⟨lb, j, none⟩ = some (.int .i64 n) ∧ Q n
theorem Cur.alloc {g : Nat} {w : World} (h : Cur g w) (o : Obj) : Cur g (w.alloc o) := by
  obtain ⟨a, len, cap, i, hh, h0, h1, h2, f1, f2, i0, i1, hgs, hby⟩ := h
  have hg := World.grownBy_alloc w o none
  have c : ∀ k v, w.cell? ⟨g, k, none⟩ = some v → (w.alloc o).cell? ⟨g, k, none⟩ = some v := fun k v hv => hg.cell hv (by simp)
  have fz : ∀ k, (w.alloc o).frozen? ⟨g, k, none⟩ = w.frozen? ⟨g, k, none⟩ := fun k => hg.frozen_far ⟨g, k, none⟩ hgs (by simp)
  exact ⟨a, len, cap, i, hh, c _ _ h0, c _ _ h1, c _ _ h2, (fz _).trans f1, (fz _).trans f2, i0, i1, Nat.lt_of_lt_of_le hgs hg.size, hby.keep (World.grownBy_alloc w o (some g))⟩
theorem Cur.other {g : Nat} {w w' : World} {row : Option Nat} (h : Cur g w) (hg : w.grownBy w' row) (hr : ∀ k, row = some k → g < k) : Cur g w' := by
  obtain ⟨a, len, cap, i, hh, h0, h1, h2, f1, f2, i0, i1, hgs, hby⟩ := h
  have ne : ∀ b, b ≤ g → some b ≠ row := fun b hb e => by have := hr b e.symm; omega
  have c : ∀ k v, w.cell? ⟨g, k, none⟩ = some v → w'.cell? ⟨g, k, none⟩ = some v := fun k v hv => hg.cell hv (ne g (Nat.le_refl _))
  have fz : ∀ k, w'.frozen? ⟨g, k, none⟩ = w.frozen? ⟨g, k, none⟩ := fun k => hg.frozen_far ⟨g, k, none⟩ hgs (ne g (Nat.le_refl _))
  refine ⟨a, len, cap, i, hh, c _ _ h0, c _ _ h1, c _ _ h2, (fz _).trans f1, (fz _).trans f2, i0, i1, Nat.lt_of_lt_of_le hgs hg.size, hby.1, hby.2.imp id ?_⟩
  rintro ⟨b, off, e, hne, hlt, hb⟩
  refine ⟨b, off, e, hne, Nat.lt_of_lt_of_le hlt hg.size, fun j hj => ?_⟩
  obtain ⟨n, n0, n1, hc⟩ := hb j hj
  exact ⟨n, n0, n1, hg.cell hc (ne b (by omega))⟩
theorem Cur.lt {g : Nat} {w : World} (h : Cur g w) : g < w.heap.size := by
  obtain ⟨a, len, cap, i, hh, h0, h1, h2, f1, f2, i0, i1, hgs, hby⟩ := h
  exact hgs
theorem ints_alloc (Q : Int → Prop) {w : World} {g : Nat} (hg : g < w.heap.size) (cs : Array Value) (t : TypeId) (h : ∀ j, j < cs.size → ∃ n : Int, cs[j]? = some (.int .i64 n) ∧ Q n) : Ints Q (w.alloc (.cells cs t)) g w.heap.size cs.size := by
  refine ⟨by omega, fun j hj => ?_⟩
  obtain ⟨n, hn, hq⟩ := h j hj
  refine ⟨n, ?_, hq⟩
  unfold World.cell? World.alloc
  simp [hn]
end Go.Proofs.YthepiainflbglabDoor
