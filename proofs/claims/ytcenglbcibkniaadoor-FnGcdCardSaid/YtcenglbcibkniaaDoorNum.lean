/-
  The numbers that the walks name: what each function of the fields answers, as plain functions on integers, and the small facts that the walks want.
-/
import Derived.Test.YtcenglbcibkniaaDoorMath
namespace Go.Proofs.YtcenglbcibkniaaDoor
open Mth

def P (f : Int) : Int := if 0 ≤ f then (pN f.toNat : Int) else 0
def G (f : Int) : Int := if 0 ≤ f then (gN f.toNat : Int) else 0
def T (f : Int) : Int := if 0 ≤ f ∧ f ≤ 8 then (tN f.toNat : Int) else -1
theorem nine {f : Int} (h0 : 0 ≤ f) (h8 : f ≤ 8) : f = 0 ∨ f = 1 ∨ f = 2 ∨ f = 3 ∨ f = 4 ∨ f = 5 ∨ f = 6 ∨ f = 7 ∨ f = 8 := by omega
theorem P_bd {f : Int} (h0 : 0 ≤ f) (h8 : f ≤ 8) : 17 ≤ P f ∧ P f ≤ 1004535809 := by
  rcases nine h0 h8 with rfl | rfl | rfl | rfl | rfl | rfl | rfl | rfl | rfl <;> decide
theorem P_nat {f : Int} (h0 : 0 ≤ f) : P f = (pN f.toNat : Int) := by unfold P; rw [if_pos h0]
theorem P_toNat {f : Int} (h0 : 0 ≤ f) : (P f).toNat = pN f.toNat := by rw [P_nat h0]; rfl
theorem G_bd {f : Int} (h0 : 0 ≤ f) (h8 : f ≤ 8) : 1 < G f ∧ G f < P f := by
  rcases nine h0 h8 with rfl | rfl | rfl | rfl | rfl | rfl | rfl | rfl | rfl <;> decide
theorem T_bd {f : Int} (h0 : 0 ≤ f) (h8 : f ≤ 8) : 4 ≤ T f ∧ T f ≤ 26 := by
  rcases nine h0 h8 with rfl | rfl | rfl | rfl | rfl | rfl | rfl | rfl | rfl <;> decide
theorem P_off {f : Int} (h : f < 0 ∨ 8 < f) : P f = 0 := by
  unfold P
  split
  · obtain ⟨n, hn⟩ : ∃ n, f.toNat = n + 9 := ⟨f.toNat - 9, by omega⟩
    rw [hn]; rfl
  · rfl
theorem G_off {f : Int} (h : f < 0 ∨ 8 < f) : G f = 0 := by
  unfold G
  split
  · obtain ⟨n, hn⟩ : ∃ n, f.toNat = n + 9 := ⟨f.toNat - 9, by omega⟩
    rw [hn]; rfl
  · rfl
theorem T_off {f : Int} (h : f < 0 ∨ 8 < f) : T f = -1 := by
  unfold T; rw [if_neg (by omega)]

/-- The remainder that is not negative. -/
def RS (x m : Int) : Int := x % m
theorem RS_bd {x m : Int} (h : 0 < m) : 0 ≤ RS x m ∧ RS x m < m := ⟨Int.emod_nonneg _ (by omega), Int.emod_lt_of_pos _ h⟩
theorem RS_self {x m : Int} (h0 : 0 ≤ x) (h1 : x < m) : RS x m = x := Int.emod_eq_of_lt h0 h1
theorem tmod_emod (x m : Int) : (x.tmod m) % m = x % m := by
  conv => rhs; rw [← Int.tmod_add_mul_tdiv x m]
  rw [Int.add_mul_emod_self_left]
theorem rs_pos {x m : Int} (hm : 0 < m) (h : 0 ≤ x.tmod m) : x.tmod m = RS x m := by
  have := Int.tmod_lt_of_pos x hm
  rw [RS, ← tmod_emod, Int.emod_eq_of_lt h this]
theorem rs_neg {x m : Int} (hm : 0 < m) (h : x.tmod m < 0) : x.tmod m + m = RS x m := by
  have := Int.lt_tmod_of_pos x hm
  rw [RS, ← tmod_emod, ← Int.add_emod_right, Int.emod_eq_of_lt (by omega) (by omega)]
theorem RS_mul (a b m : Int) : RS (RS a m * RS b m) m = RS (a * b) m := by unfold RS; exact (Int.mul_emod a b m).symm
theorem RS_add (a b m : Int) : RS (RS a m + RS b m) m = RS (a + b) m := by unfold RS; exact (Int.add_emod a b m).symm
theorem RS_sub (a b m : Int) : RS (RS a m - RS b m) m = RS (a - b) m := by unfold RS; exact (Int.sub_emod a b m).symm
theorem RS_RS (a m : Int) : RS (RS a m) m = RS a m := by unfold RS; exact Int.emod_emod_of_dvd a (Int.dvd_refl m)
theorem prod_bd {a b f : Int} (h0 : 0 ≤ f) (h8 : f ≤ 8) (ha : 0 ≤ a) (ha2 : a < P f) (hb : 0 ≤ b) (hb2 : b < P f) : 0 ≤ a * b ∧ a * b ≤ 1009092190767134464 := by
  have hp := P_bd h0 h8
  refine ⟨Int.mul_nonneg ha hb, ?_⟩
  have h1 : a * b ≤ a * 1004535808 := Int.mul_le_mul_of_nonneg_left (by omega) ha
  omega

/-- Powers: x^e as an element. -/
def PW (m x e : Int) : Int := ((x.toNat ^ e.toNat % m.toNat : Nat) : Int)
theorem PW_bd {m x e : Int} (h : 0 < m) : 0 ≤ PW m x e ∧ PW m x e < m := by
  unfold PW
  have := Nat.mod_lt (x.toNat ^ e.toNat) (show 0 < m.toNat by omega)
  omega
/-- A loop's state: r·x^e is x0^e0. -/
def PWat (m x0 e0 x e r : Int) : Prop := (r.toNat * x.toNat ^ e.toNat) % m.toNat = x0.toNat ^ e0.toNat % m.toNat
theorem PWat_start (m x e : Int) : PWat m x e x e 1 := by unfold PWat; simp
theorem toNat_RS {m : Int} (hm : 0 < m) {a b : Int} (ha : 0 ≤ a) (hb : 0 ≤ b) : (RS (a * b) m).toNat = a.toNat * b.toNat % m.toNat := by
  obtain ⟨a, rfl⟩ := Int.eq_ofNat_of_zero_le ha
  obtain ⟨b, rfl⟩ := Int.eq_ofNat_of_zero_le hb
  obtain ⟨m, rfl⟩ := Int.eq_ofNat_of_zero_le (Int.le_of_lt hm)
  unfold RS
  rw [← Int.natCast_mul, ← Int.natCast_emod]; rfl
theorem PWat_even {m x0 e0 x e r : Int} (hm : 0 < m) (hx : 0 ≤ x) (he : 0 ≤ e) (h2 : e % 2 = 0) (h : PWat m x0 e0 x e r) : PWat m x0 e0 (RS (x * x) m) (e / 2) r := by
  unfold PWat at *
  rw [toNat_RS hm hx hx, show (e / 2).toNat = e.toNat / 2 by omega, half_even (by omega) (Nat.mod_mod _ _), h]
theorem PWat_odd {m x0 e0 x e r : Int} (hm : 0 < m) (hx : 0 ≤ x) (hr : 0 ≤ r) (he : 0 ≤ e) (h2 : e % 2 = 1) (h : PWat m x0 e0 x e r) : PWat m x0 e0 (RS (x * x) m) (e / 2) (RS (r * x) m) := by
  unfold PWat at *
  rw [toNat_RS hm hx hx, toNat_RS hm hr hx, show (e / 2).toNat = e.toNat / 2 by omega, half_odd (by omega) (Nat.mod_mod _ _) (Nat.mod_mod _ _), h]
theorem PWat_end {m x0 e0 x r : Int} (hr : 0 ≤ r) (hr2 : r < m) (h : PWat m x0 e0 x 0 r) : r = PW m x0 e0 := by
  unfold PWat at h; unfold PW
  rw [← h]
  simp
  rw [Int.emod_eq_of_lt (by omega) (by omega)]; omega

def pow0 (e : Int) : Int := if e < 0 then -1 else if e = 0 then 1 else 0
def mReduce (f x : Int) : Int := if 0 ≤ f ∧ f ≤ 8 then RS x (P f) else -1
def mAdd (f a b : Int) : Int := if 0 ≤ f ∧ f ≤ 8 then RS (a + b) (P f) else -1
def mSub (f a b : Int) : Int := if 0 ≤ f ∧ f ≤ 8 then RS (a - b) (P f) else -1
def mMul (f a b : Int) : Int := if 0 ≤ f ∧ f ≤ 8 then RS (a * b) (P f) else -1
def mPower (f a e : Int) : Int := if 0 ≤ f ∧ f ≤ 8 then (if RS a (P f) = 0 then pow0 e else PW (P f) (RS a (P f)) (RS e (P f - 1))) else -1
end Go.Proofs.YtcenglbcibkniaaDoor
