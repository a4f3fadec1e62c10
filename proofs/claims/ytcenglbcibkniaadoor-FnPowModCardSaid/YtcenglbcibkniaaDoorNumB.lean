/-
  Inverses of a whole list by one power: the products before each element, and the way back.
-/
import Derived.Test.YtcenglbcibkniaaDoorNumS
namespace Go.Proofs.YtcenglbcibkniaaDoor
open Mth
def invF (f z : Int) : Int := if RS z (P f) = 0 then 0 else mPower f z (-1)
def prodF (f : Int) (Z : Nat → Int) : Nat → Int
  | 0 => 1
  | k + 1 => if RS (Z k) (P f) = 0 then prodF f Z k else RS (prodF f Z k * RS (Z k) (P f)) (P f)
section
variable {f : Int} (h0 : 0 ≤ f) (h8 : f ≤ 8)
include h0 h8
theorem RS_mul_pos {a b : Int} (a0 : 0 < a) (a1 : a < P f) (b0 : 0 < b) (b1 : b < P f) : 0 < RS (a * b) (P f) ∧ RS (a * b) (P f) < P f := by
  have hp := P_bd h0 h8
  have hb := RS_bd (x := a * b) (m := P f) (by omega)
  have hn := (fldf h0 h8).mul_nz (x := a.toNat) (y := b.toNat) (by rw [Nat.mod_eq_of_lt (by omega)]; omega) (by rw [Nat.mod_eq_of_lt (by omega)]; omega)
  rw [RS_nat h0 h8 (by omega) (by omega)] at *
  omega
theorem prodF_bd (Z : Nat → Int) (k : Nat) : 0 < prodF f Z k ∧ prodF f Z k < P f := by
  have hp := P_bd h0 h8
  induction k with
  | zero => exact ⟨by show (0 : Int) < 1; omega, by show (1 : Int) < _; omega⟩
  | succ k ih =>
    rw [prodF]
    split
    · exact ih
    · rename_i hz
      have hb := RS_bd (x := Z k) (m := P f) (by omega)
      exact RS_mul_pos h0 h8 ih.1 ih.2 (by omega) hb.2
theorem inv_one {z : Int} (hz : RS z (P f) ≠ 0) : RS (mPower f z (-1) * RS z (P f)) (P f) = 1 ∧ 0 < mPower f z (-1) ∧ mPower f z (-1) < P f := by
  have hp := P_bd h0 h8
  have ba := RS_bd (x := z) (m := P f) (by omega)
  have e : mPower f z (-1) = mPower f (RS z (P f)) (-1) := by unfold mPower; rw [RS_RS]
  obtain ⟨h1, i0, i1⟩ := inv_at (z := RS z (P f)) (k := 1) h0 h8 (by omega) ba.2 (by omega)
  rw [← e] at h1 i0 i1
  refine ⟨?_, i0, i1⟩
  rw [RS_nat h0 h8 (by omega) ba.1]
  rw [show (1 : Int).toNat = 1 from rfl, Nat.pow_one] at h1
  omega
theorem inv_unique {y z : Int} (y0 : 0 ≤ y) (y1 : y < P f) (hz : RS z (P f) ≠ 0) (h : RS (y * RS z (P f)) (P f) = 1) : y = invF f z := by
  have hp := P_bd h0 h8
  have ba := RS_bd (x := z) (m := P f) (by omega)
  obtain ⟨h1, i0, i1⟩ := inv_one h0 h8 hz
  rw [invF, if_neg hz]
  rw [RS_nat h0 h8 y0 ba.1] at h
  rw [RS_nat h0 h8 (by omega) ba.1] at h1
  have := (fldf h0 h8).cancel (x := (RS z (P f)).toNat) (a := y.toNat) (b := (mPower f z (-1)).toNat) (by rw [Nat.mod_eq_of_lt (by omega)]; omega) (by rw [Nat.mul_comm, Nat.mul_comm (RS z (P f)).toNat]; omega)
  rw [Nat.mod_eq_of_lt (by omega), Nat.mod_eq_of_lt (by omega)] at this
  omega
theorem invF_bd (z : Int) : 0 ≤ invF f z ∧ invF f z < P f := by
  have hp := P_bd h0 h8
  unfold invF
  split
  · omega
  · rename_i hz
    have := inv_one h0 h8 hz
    omega
theorem inv_neg {z : Int} (hz : RS z (P f) = 0) : mPower f z (-1) = -1 := by
  unfold mPower; rw [if_pos ⟨h0, h8⟩, if_pos hz]; rfl
/-- The way back: b times the product of the first k is 1. -/
theorem back_first {x : Int} (x0 : 0 < x) (x1 : x < P f) : RS (PW (P f) x (P f - 2) * x) (P f) = 1 := by
  have hp := P_bd h0 h8
  rw [RS_nat h0 h8 (PW_bd (by omega)).1 (by omega), PW_toNat, mulm (Nat.mod_mod _ _) rfl, ← Nat.pow_succ, show (P f - 2).toNat.succ = (P f).toNat - 1 by omega,
    (fldf h0 h8).fermat (by rw [Nat.mod_eq_of_lt (by omega)]; omega)]
  rfl
end
theorem RS_assoc (a b c m : Int) : RS (a * RS (b * c) m) m = RS (RS (a * b) m * c) m := by
  unfold RS
  rw [Int.mul_emod, Int.emod_emod_of_dvd _ (Int.dvd_refl _), ← Int.mul_emod, ← Int.mul_assoc]
  conv => rhs; rw [Int.mul_emod, Int.emod_emod_of_dvd _ (Int.dvd_refl _), ← Int.mul_emod]
theorem back_yes {f : Int} (h0 : 0 ≤ f) (h8 : f ≤ 8) {Z : Nat → Int} {k : Nat} {b : Int} (hz : RS (Z k) (P f) ≠ 0) (h : RS (b * prodF f Z (k + 1)) (P f) = 1) :
    RS (b * prodF f Z k) (P f) = invF f (Z k) ∧ RS (RS (b * RS (Z k) (P f)) (P f) * prodF f Z k) (P f) = 1 := by
  have hp := P_bd h0 h8
  rw [prodF, if_neg hz] at h
  constructor
  · have hb := RS_bd (x := b * prodF f Z k) (m := P f) (by omega)
    refine inv_unique h0 h8 hb.1 hb.2 hz ?_
    rw [← RS_assoc]; exact h
  · rw [← RS_assoc, Int.mul_comm (RS (Z k) (P f))]; exact h
theorem back_no {f : Int} {Z : Nat → Int} {k : Nat} {b : Int} (hz : RS (Z k) (P f) = 0) (h : RS (b * prodF f Z (k + 1)) (P f) = 1) : RS (b * prodF f Z k) (P f) = 1 ∧ invF f (Z k) = 0 := by
  rw [prodF, if_pos hz] at h
  exact ⟨h, if_pos hz⟩
end Go.Proofs.YtcenglbcibkniaaDoor
