/-
  Lists of integers: copies, comparisons, sums of products.
-/
import Derived.Test.YtcenglbcibkniaaDoorWalkI
import Derived.Deep.OwnRows
import Derived.Test.YtcenglbcibkniaaDoorWalkC
namespace Go.Proofs.YtcenglbcibkniaaDoor
open Go.RowKit
/-- A slice of n integers that can be read: F j at j. -/
def Src (w : World) (a : Option Addr) (n : Nat) (F : Nat → Int) : Prop :=
  n = 0 ∨ ∃ b off, a = some ⟨b, off, none⟩ ∧ b < w.heap.size ∧ ∀ j, j < n → w.cell? ⟨b, off + j, none⟩ = some (.int .i64 (F j))
theorem Src.keep {w w' : World} {a : Option Addr} {n : Nat} {F : Nat → Int} (h : Src w a n F) (hb : Below w.heap.size w w') : Src w' a n F := by
  refine h.imp id ?_
  rintro ⟨b, off, e, hlt, hc⟩
  exact ⟨b, off, e, Nat.lt_of_lt_of_le hlt hb.size, fun j hj => (hb.cell (p := ⟨b, off + j, none⟩) hlt).trans (hc j hj)⟩
/-- A block of the call's own: n integers, F j at j. -/
def Own (w : World) (g n : Nat) (F : Nat → Int) : Prop := w.rowIs g 3 n (fun j => .int .i64 (F j))
theorem Own.src {w : World} {g n : Nat} {F : Nat → Int} (h : Own w g n F) : Src w (some ⟨g, 0, none⟩) n F :=
  .inr ⟨g, 0, rfl, h.lt, fun j hj => by rw [Nat.zero_add]; exact h.cell hj⟩
theorem Own.keep {w w' : World} {g n : Nat} {F : Nat → Int} (h : Own w g n F) (hb : Below w.heap.size w w') : Own w' g n F := World.rowIs.of_block h (hb.block g h.lt)
theorem below_drewN {B : Nat} {a w : World} (h : Below B a w) (n : Nat) : Below B a (w.drewN n) := ⟨h.os, h.tape, h.output, h.size, h.block⟩
theorem quiet_left {P : Program} {f : FuncId} {args : Array Value} {w : World} {n : Nat} {v : Value}
    (h : Calls P f args (w.drewN n) fun e w' => e = .returned v ∧ w.drewN n = w') : Calls P f args (w.drewN n) fun e w'' => e = .returned v ∧ ∃ m, w'' = w.drewN m :=
  h.mono fun _ _ ⟨he, hm⟩ => ⟨he, n, hm.symm⟩
def CopyP (w : World) (n : Nat) (F : Nat → Int) (e : Ending) (w' : World) : Prop := e = .returned (.slice (some ⟨w.heap.size, 0, none⟩) n n) ∧ Own w' w.heap.size n F ∧ Below w.heap.size w w'
theorem copy_set {w wr : World} {n k : Nat} {F : Nat → Int} (h : Own wr w.heap.size n (fun j => if j < k then F j else 0)) : Own (wr.setCell ⟨w.heap.size, k, none⟩ (.int .i64 (F k))) w.heap.size n (fun j => if j < k + 1 then F j else 0) := by
  refine (World.rowIs.set h k (.int .i64 (F k))).congr fun j _ => ?_
  by_cases h1 : j = k
  · subst h1; simp
  · by_cases h2 : j < k
    · simp [h1, h2, show j < k + 1 by omega]
    · simp [h1, h2, show ¬ j < k + 1 by omega]
def TrueP (w : World) (e : Ending) (w' : World) : Prop := e = .returned (.bool true) ∧ Below w.heap.size w w'
/-- The sum of products of the first k pairs. -/
def dotF (f : Int) (A B : Nat → Int) : Nat → Int
  | 0 => 0
  | k + 1 => mAdd f (dotF f A B k) (mMul f (A k) (B k))
theorem dotF_bd {f : Int} (h0 : 0 ≤ f) (h8 : f ≤ 8) (A B : Nat → Int) (k : Nat) : 0 ≤ dotF f A B k ∧ dotF f A B k < P f := by
  have hp := P_bd h0 h8
  cases k with
  | zero => exact ⟨Int.le_refl _, by show (0 : Int) < _; omega⟩
  | succ k => rw [dotF, mAdd, if_pos ⟨h0, h8⟩]; exact RS_bd (by omega)
def IntP (w : World) (x : Int) (e : Ending) (w' : World) : Prop := e = .returned (.int .i64 x) ∧ Below w.heap.size w w'
def mDot (f : Int) (A B : Nat → Int) (n m : Nat) : Int := if (0 ≤ f ∧ f ≤ 8) ∧ n ≤ 4096 ∧ m ≤ 4096 then dotF f A B (min n m) else -1
/-- The program's step is the specification's. -/
theorem dot_step {f : Int} (h0 : 0 ≤ f) (h8 : f ≤ 8) (A B : Nat → Int) (k : Nat) : RS (dotF f A B k + RS (RS (A k) (P f) * RS (B k) (P f)) (P f)) (P f) = dotF f A B (k + 1) := by
  rw [dotF, mAdd, if_pos ⟨h0, h8⟩, mMul, if_pos ⟨h0, h8⟩, RS_mul]
theorem src_of_row {w : World} {a : Option Addr} {len cap : Nat} {zs : List Int} (h : IsRow .i64 w a len cap zs) : Src w a len (fun j => zs.getD j 0) := by
  by_cases h0 : len = 0
  · exact .inl h0
  · refine .inr ?_
    rcases h with ⟨_, h, _⟩ | ⟨x, rfl, hc, _, hz, hcell, hwf⟩
    · exact absurd h h0
    · have hs := cell_some (hcell 0 (by omega))
      obtain ⟨b, off, sp⟩ := x
      obtain ⟨hs1, hs2⟩ := hs
      have hs3 : sp = none := hs1
      subst hs3
      exact ⟨b, off, rfl, hs2, fun j hj => by rw [← add_at]; exact hcell j (by omega)⟩
end Go.Proofs.YtcenglbcibkniaaDoor
