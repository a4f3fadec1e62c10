/-
  Inverses of a list, the program's.
-/
import Derived.Test.YtcenglbcibkniaaDoorWalkK
import Derived.Test.YtcenglbcibkniaaDoorNumB
namespace Go.Proofs.YtcenglbcibkniaaDoor
open Go.RowKit
theorem own_step {wr : World} {g n k : Nat} {F : Nat → Int} (h : Own wr g n (fun j => if j < k then F j else 0)) : Own (wr.setCell ⟨g, k, none⟩ (.int .i64 (F k))) g n (fun j => if j < k + 1 then F j else 0) := by
  refine (World.rowIs.set h k (.int .i64 (F k))).congr fun j _ => ?_
  by_cases h1 : j = k
  · subst h1; simp
  · by_cases h2 : j < k
    · simp [h1, h2, show j < k + 1 by omega]
    · simp [h1, h2, show ¬ j < k + 1 by omega]
theorem own_other {wr : World} {g g2 n k : Nat} {F : Nat → Int} {v : Value} (h : Own wr g n F) (hne : g ≠ g2) : Own (wr.setCell ⟨g2, k, none⟩ v) g n F := World.rowIs.setOther h (a := ⟨g2, k, none⟩) hne v
/-- The state of the way back. -/
def Back (f : Int) (Z : Nat → Int) (w wr : World) (n : Nat) (i b : Int) : Prop :=
  RS (b * prodF f Z (i + 1).toNat) (P f) = 1 ∧ Own wr w.heap.size n (fun j => if (j : Int) ≤ i then RS (Z j) (P f) else invF f (Z j)) ∧ Own wr (w.heap.size + 1) n (fun j => prodF f Z j) ∧ Below w.heap.size w wr
theorem Back.yes {f : Int} (h0 : 0 ≤ f) (h8 : f ≤ 8) {Z : Nat → Int} {w wr : World} {n k : Nat} {b : Int} (h : Back f Z w wr n k b) (hz : RS (Z k) (P f) ≠ 0) :
    Back f Z w (wr.setCell ⟨w.heap.size, k, none⟩ (.int .i64 (RS (b * prodF f Z k) (P f)))) n (k - 1) (RS (b * RS (Z k) (P f)) (P f)) := by
  obtain ⟨h1, h2, h3, h4⟩ := h
  rw [show ((k : Int) + 1).toNat = k + 1 by omega] at h1
  obtain ⟨e1, e2⟩ := back_yes h0 h8 hz h1
  refine ⟨by rw [show ((k : Int) - 1 + 1).toNat = k by omega]; exact e2, ?_, own_other h3 (by omega), h4.setCell (Nat.le_refl _) _⟩
  rw [e1]
  refine (World.rowIs.set h2 k (.int .i64 (invF f (Z k)))).congr fun j _ => ?_
  by_cases hj : j = k
  · subst hj; simp [show ¬ (j : Int) ≤ (j : Int) - 1 by omega]
  · by_cases hj2 : (j : Int) ≤ k
    · simp [hj, hj2, show (j : Int) ≤ (k : Int) - 1 by omega]
    · simp [hj, hj2, show ¬ (j : Int) ≤ (k : Int) - 1 by omega]
theorem Back.no {f : Int} {Z : Nat → Int} {w wr : World} {n k : Nat} {b : Int} (h : Back f Z w wr n k b) (hz : RS (Z k) (P f) = 0) : Back f Z w wr n (k - 1) b := by
  obtain ⟨h1, h2, h3, h4⟩ := h
  rw [show ((k : Int) + 1).toNat = k + 1 by omega] at h1
  obtain ⟨e1, e2⟩ := back_no hz h1
  refine ⟨by rw [show ((k : Int) - 1 + 1).toNat = k by omega]; exact e1, ?_, h3, h4⟩
  refine World.rowIs.congr h2 fun j _ => ?_
  by_cases hj : j = k
  · subst hj; simp [hz, e2]
  · by_cases hj2 : (j : Int) ≤ k
    · simp [hj2, show (j : Int) ≤ (k : Int) - 1 by omega]
    · simp [hj2, show ¬ (j : Int) ≤ (k : Int) - 1 by omega]
/-- The state of the way forth. -/
def Forth (f : Int) (Z : Nat → Int) (w wr : World) (n k : Nat) : Prop :=
  Own wr w.heap.size n (fun j => if j < k then RS (Z j) (P f) else 0) ∧ Own wr (w.heap.size + 1) n (fun j => if j < k then prodF f Z j else 0) ∧ Below w.heap.size w wr
theorem Forth.step {f : Int} {Z : Nat → Int} {w wr : World} {n k : Nat} (h : Forth f Z w wr n k) :
    Forth f Z w ((wr.setCell ⟨w.heap.size, k, none⟩ (.int .i64 (RS (Z k) (P f)))).setCell ⟨w.heap.size + 1, k, none⟩ (.int .i64 (prodF f Z k))) n (k + 1) := by
  obtain ⟨h1, h2, h3⟩ := h
  exact ⟨own_other (own_step (F := fun j => RS (Z j) (P f)) h1) (by omega), own_step (F := fun j => prodF f Z j) (own_other h2 (by omega)), (h3.setCell (Nat.le_refl _) _).setCell (Nat.le_succ _) _⟩
theorem Forth.back {f : Int} (h0 : 0 ≤ f) (h8 : f ≤ 8) {Z : Nat → Int} {w wr : World} {n : Nat} (h : Forth f Z w wr n n) : Back f Z w wr n ((n : Int) - 1) (PW (P f) (prodF f Z n) (P f - 2)) := by
  have hb := prodF_bd h0 h8 Z n
  refine ⟨by rw [show ((n : Int) - 1 + 1).toNat = n by omega]; exact back_first h0 h8 hb.1 hb.2, World.rowIs.congr h.1 fun j hj => ?_, World.rowIs.congr h.2.1 fun j hj => ?_, h.2.2⟩
  · simp [hj, show (j : Int) ≤ (n : Int) - 1 by omega]
  · simp [hj]
def InvP (f : Int) (Z : Nat → Int) (w : World) (n : Nat) (e : Ending) (w' : World) : Prop := CopyP w n (fun j => invF f (Z j)) e w'
theorem made0 : ∀ w : World, (Instr.makeSlice 24 (.int .i64 0) (.int .i64 0)).run Tryd.prog w = .ok (.slice (some ⟨w.heap.size, 0, none⟩) 0 0) (w.alloc (.cells (madeCells #[.int .i64 0] 0) 3)) :=
  run_make_row' (P := Tryd.prog) 24 3 (.int .i64 0) 8 Tryd.underlying24 info3 rfl .i64 .i64 0 (by omega) (by omega)
/-- Marks: k, k + 1, .. -/
def MarkP (w : World) (g n : Nat) (k : Int) (e : Ending) (w' : World) : Prop := e = .returned (.int .i64 (k + n)) ∧ Own w' g n (fun j => k + j) ∧ w.grownBy w' (some g)
end Go.Proofs.YtcenglbcibkniaaDoor
