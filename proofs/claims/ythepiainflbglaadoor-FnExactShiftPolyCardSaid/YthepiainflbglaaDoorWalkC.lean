/-
  The specification's Power, Inverse and TwoPower.
-/
import Derived.Test.YthepiainflbglaaDoorWalkB
namespace Go.Proofs.YthepiainflbglaaDoor
open Go.RowKit
theorem vint {k : IntKind} {a b : Int} (h : a = b) : Value.int k a = .int k b := by rw [h]
theorem tm_pos {x m : Int} (h : 0 ≤ x) : x.tmod m = RS x m := Int.tmod_eq_emod_of_nonneg h
/-- What is left of P - 1 after k halvings. -/
def halves (f : Int) (k : Nat) : Int := (P f - 1) / 2 ^ k
theorem halves_facts : ∀ f, f < 9 → ∀ k, k ≤ 26 → (k < Mth.tN f → ((Mth.pN f - 1) / 2 ^ k) % 2 = 0) ∧ (k = Mth.tN f → ((Mth.pN f - 1) / 2 ^ k) % 2 = 1) := by decide +kernel
theorem halves_nat {f : Int} (h0 : 0 ≤ f) (h8 : f ≤ 8) (k : Nat) : halves f k = (((Mth.pN f.toNat - 1) / 2 ^ k : Nat) : Int) := by
  unfold halves
  have hp := P_bd h0 h8
  rw [P_nat h0] at *
  rw [show ((Mth.pN f.toNat : Int) - 1) = ((Mth.pN f.toNat - 1 : Nat) : Int) by omega, Int.natCast_ediv]; simp
theorem halves_bd {f : Int} (h0 : 0 ≤ f) (h8 : f ≤ 8) (k : Nat) : 0 ≤ halves f k ∧ halves f k ≤ 1004535809 := by
  have hp := P_bd h0 h8
  have hn := P_nat h0
  rw [halves_nat h0 h8]
  have := Nat.div_le_self (Mth.pN f.toNat - 1) (2 ^ k)
  generalize (Mth.pN f.toNat - 1) / 2 ^ k = d at *
  omega
theorem halves_succ {f : Int} (h0 : 0 ≤ f) (h8 : f ≤ 8) (k : Nat) : halves f k / 2 = halves f (k + 1) := by
  rw [halves_nat h0 h8, halves_nat h0 h8, Nat.pow_succ, ← Nat.div_div_eq_div_mul]; omega
theorem T_nat {f : Int} (h0 : 0 ≤ f) (h8 : f ≤ 8) : T f = (Mth.tN f.toNat : Int) := by unfold T; rw [if_pos ⟨h0, h8⟩]
theorem halves_even {f : Int} (h0 : 0 ≤ f) (h8 : f ≤ 8) {k : Nat} (h : (k : Int) < T f) : halves f k % 2 = 0 := by
  have ht := T_bd h0 h8
  have hn := T_nat h0 h8
  have := (halves_facts f.toNat (by omega) k (by omega)).1 (by omega)
  rw [halves_nat h0 h8]; omega
theorem halves_odd {f : Int} (h0 : 0 ≤ f) (h8 : f ≤ 8) {k : Nat} (h : (k : Int) = T f) : halves f k % 2 = 1 := by
  have ht := T_bd h0 h8
  have hn := T_nat h0 h8
  have := (halves_facts f.toNat (by omega) k (by omega)).2 (by omega)
  rw [halves_nat h0 h8]; omega
end Go.Proofs.YthepiainflbglaaDoor
