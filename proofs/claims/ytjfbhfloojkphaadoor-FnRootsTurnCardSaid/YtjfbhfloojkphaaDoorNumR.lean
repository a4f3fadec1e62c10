/-
  Roots of unity as plain numbers: the root of order 2^k, its powers, their sums; logarithms; bits reversed. Nothing of the program stands here.
-/
import Derived.Test.YtjfbhfloojkphaaDoorNumS
import Derived.Test.YtjfbhfloojkphaaDoorNumO
namespace Go.Proofs.YtjfbhfloojkphaaDoor
open Mth
/-- Field f has a root of order 2^k. -/
def hasK (f k : Int) : Prop := (0 ≤ f ∧ f ≤ 8) ∧ 0 ≤ k ∧ k ≤ T f
instance (f k : Int) : Decidable (hasK f k) := inferInstanceAs (Decidable ((0 ≤ f ∧ f ≤ 8) ∧ 0 ≤ k ∧ k ≤ T f))
theorem hasK_iff (f k : Int) : hasK f k ↔ 0 ≤ k ∧ k ≤ T f := by
  constructor
  · exact fun h => h.2
  · intro h
    refine ⟨?_, h⟩
    by_cases hf : 0 ≤ f ∧ f ≤ 8
    · exact hf
    · have := T_off (f := f) (by omega); omega
theorem T_le (f : Int) : T f ≤ 26 := by
  by_cases hf : 0 ≤ f ∧ f ≤ 8
  · exact (T_bd hf.1 hf.2).2
  · rw [T_off (f := f) (by omega)]; omega
def mRoot (f k : Int) : Int := if hasK f k then PW (P f) (G f) ((P f - 1) / 2 ^ k.toNat) else -1
theorem mRoot_on {f k : Int} (h : hasK f k) : mRoot f k = PW (P f) (G f) ((P f - 1) / 2 ^ k.toNat) := if_pos h
theorem mRoot_off {f k : Int} (h : ¬ hasK f k) : mRoot f k = -1 := if_neg h
theorem shr_bd {f k : Int} (h0 : 0 ≤ f) (h8 : f ≤ 8) : 0 ≤ (P f - 1) / 2 ^ k.toNat ∧ (P f - 1) / 2 ^ k.toNat ≤ P f - 1 := by
  have hp := P_bd h0 h8
  have h1 : (1 : Int) ≤ 2 ^ k.toNat := by
    have : 1 ≤ 2 ^ k.toNat := Nat.one_le_two_pow
    exact_mod_cast this
  exact ⟨Int.ediv_nonneg (by omega) (by omega), Int.ediv_le_self _ (by omega)⟩
theorem cut_root {f k : Int} (h : hasK f k) : ∃ c, (P f).toNat - 1 = 2 ^ k.toNat * c ∧ 0 < c ∧ ((P f - 1) / 2 ^ k.toNat).toNat = c := by
  obtain ⟨⟨h0, h8⟩, k0, k1⟩ := h
  have hp := P_bd h0 h8
  obtain ⟨s1, s2, s3, s4⟩ := P_split h0 h8
  have e : 2 ^ (T f).toNat = 2 ^ k.toNat * 2 ^ ((T f).toNat - k.toNat) := by rw [← Nat.pow_add]; congr 1; omega
  have h1 : 0 < 2 ^ k.toNat := Nat.pow_pos (by omega)
  refine ⟨2 ^ ((T f).toNat - k.toNat) * (oddP f).toNat, by rw [s1, e, Nat.mul_assoc], Nat.mul_pos (Nat.pow_pos (by omega)) (by omega), ?_⟩
  have e2 : (P f - 1) = (((P f).toNat - 1 : Nat) : Int) := by omega
  rw [e2, show (2 : Int) ^ k.toNat = ((2 ^ k.toNat : Nat) : Int) by simp, ← Int.natCast_ediv, Int.toNat_natCast, s1, e, Nat.mul_assoc, Nat.mul_div_cancel_left _ h1]
theorem two_le {f k : Int} (h : hasK f k) : two k ≤ P f - 1 := by
  obtain ⟨c, e, c0, _⟩ := cut_root h
  have hp := P_bd h.1.1 h.1.2
  have : 2 ^ k.toNat * 1 ≤ 2 ^ k.toNat * c := Nat.mul_le_mul_left _ c0
  rw [two_nat h.2.1]; omega
theorem two_dvd {f k : Int} (h : hasK f k) : two k ∣ P f - 1 := by
  obtain ⟨c, e, c0, _⟩ := cut_root h
  have hp := P_bd h.1.1 h.1.2
  refine ⟨c, ?_⟩
  rw [two_nat h.2.1, show (P f - 1) = (((P f).toNat - 1 : Nat) : Int) by omega, e]; simp
theorem root_bd {f k : Int} (h : hasK f k) : 0 < mRoot f k ∧ mRoot f k < P f := by
  have h0 := h.1.1
  have h8 := h.1.2
  have hp := P_bd h0 h8
  have hg := G_bd h0 h8
  rw [mRoot_on h]
  have b := PW_bd (m := P f) (x := G f) (e := (P f - 1) / 2 ^ k.toNat) (by omega)
  have := PW_nz (e := (P f - 1) / 2 ^ k.toNat) h0 h8 (show 0 < G f by omega) hg.2
  omega
theorem G_toNat {f : Int} (h0 : 0 ≤ f) : (G f).toNat = gN f.toNat := by unfold G; rw [if_pos h0]; rfl
/-- The order of the root is 2^k. -/
theorem root_ord {f k : Int} (h : hasK f k) (m : Nat) : (mRoot f k).toNat ^ m % (P f).toNat = 1 ↔ 2 ^ k.toNat ∣ m := by
  obtain ⟨c, e, c0, ec⟩ := cut_root h
  have h0 := h.1.1
  have h8 := h.1.2
  have hp := P_bd h0 h8
  have hf := fldf h0 h8
  rw [mRoot_on h, PW_toNat, ec, G_toNat h0, ← Nat.pow_mod, ← Nat.pow_mul]
  constructor
  · intro h1
    obtain ⟨d, hd⟩ := hf.ord _ h1
    rw [e, Nat.mul_comm (2 ^ k.toNat) c, Nat.mul_assoc] at hd
    exact ⟨d, Nat.eq_of_mul_eq_mul_left c0 hd⟩
  · rintro ⟨d, rfl⟩
    rw [show c * (2 ^ k.toNat * d) = ((P f).toNat - 1) * d by rw [e, Nat.mul_comm (2 ^ k.toNat) c, Nat.mul_assoc], Nat.pow_mul]
    exact pow_one_mod d (by omega) hf.one
theorem PW_zero {f x : Int} (h0 : 0 ≤ f) (h8 : f ≤ 8) : PW (P f) x 0 = 1 := by
  have hp := P_bd h0 h8
  unfold PW
  simp
  rw [Int.emod_eq_of_lt (by omega) (by omega)]
theorem PW_succ {f x : Int} (h0 : 0 ≤ f) (h8 : f ≤ 8) (x0 : 0 ≤ x) (j : Nat) : RS (PW (P f) x j * x) (P f) = PW (P f) x ((j + 1 : Nat) : Int) := by
  have hp := P_bd h0 h8
  have b := PW_bd (m := P f) (x := x) (e := j) (by omega)
  rw [RS_nat h0 h8 b.1 x0, PW_toNat]
  unfold PW
  rw [Int.toNat_natCast, Int.toNat_natCast, Nat.pow_succ, Nat.mod_mul_mod]
theorem PW_self {f x : Int} (x0 : 0 ≤ x) (x1 : x < P f) : PW (P f) x 1 = x := by
  unfold PW
  simp
  rw [Int.max_eq_left x0, Int.max_eq_left (by omega), Int.emod_eq_of_lt x0 x1]
/-- The k-th root's powers: what Roots lists. -/
def rootsF (f k : Int) (j : Nat) : Int := PW (P f) (mRoot f k) j
theorem rootsF_bd {f k : Int} (h : hasK f k) (j : Nat) : 0 < rootsF f k j ∧ rootsF f k j < P f := by
  have hp := P_bd h.1.1 h.1.2
  have b := root_bd h
  have b2 := PW_bd (m := P f) (x := mRoot f k) (e := j) (by omega)
  have := PW_nz (e := j) h.1.1 h.1.2 b.1 b.2
  unfold rootsF
  omega
theorem rootsF_one {f k : Int} (h : hasK f k) {j : Nat} : rootsF f k j = 1 ↔ 2 ^ k.toNat ∣ j := by
  unfold rootsF
  rw [PW_one]
  exact root_ord h j
theorem rootsF_step {f k : Int} (h : hasK f k) (j : Nat) : RS (rootsF f k j * mRoot f k) (P f) = rootsF f k (j + 1) := by
  have b := root_bd h
  exact PW_succ h.1.1 h.1.2 (by omega) j
/-- The specification's element is the same. -/
theorem power_roots {f k : Int} (h : hasK f k) {j : Nat} (hj : (j : Int) < two k) : mPower f (mRoot f k) j = rootsF f k j := by
  have b := root_bd h
  have h2 := two_le h
  have e : RS (mRoot f k) (P f) = mRoot f k := RS_self (by omega) b.2
  unfold mPower
  rw [if_pos h.1, e, if_neg (by omega), RS_self (by omega) (by omega)]
  rfl
/-- Its order, as both functions reckon it. -/
theorem root_order {f k : Int} (h : hasK f k) : mOrder f (mRoot f k) = two k := by
  have b := root_bd h
  have h0 := h.1.1
  have h8 := h.1.2
  have hp := P_bd h0 h8
  have e : RS (mRoot f k) (P f) = mRoot f k := RS_self (by omega) b.2
  unfold mOrder
  rw [if_pos ⟨h.1, by omega⟩, e]
  have hf := fld f.toNat (by omega)
  have hx : (mRoot f k).toNat % pN f.toNat ≠ 0 := by rw [← P_toNat h0, Nat.mod_eq_of_lt (by omega)]; omega
  have key := hf.ordF hx (facs f.toNat) (facs_pr _) (facs_prod _ (by omega)) (tst f (mRoot f k)) (fun m => by
    unfold tst
    rw [decide_eq_true_iff, PW_one, P_toNat h0, Int.toNat_natCast])
  have ord := root_ord h
  rw [P_toNat h0] at ord
  have e2 : Mth.ordF (tst f (mRoot f k)) (facs f.toNat) (pN f.toNat - 1) = 2 ^ k.toNat :=
    Nat.dvd_antisymm ((key _).1 ((ord _).2 (Nat.dvd_refl _))) ((ord _).1 ((key _).2 (Nat.dvd_refl _)))
  rw [e2, two_nat h.2.1]
def mIsRoot (f x k : Int) : Bool := decide (hasK f k ∧ 0 < x ∧ x < P f ∧ mOrder f x = two k)
theorem root_is {f k : Int} (h : hasK f k) : mIsRoot f (mRoot f k) k = true := by
  have b := root_bd h
  unfold mIsRoot
  simp [h, b, root_order h]
def mRootSum (f k j : Int) : Int := if hasK f k ∧ k ≤ 9 then (if j % two k = 0 then two k else 0) else -1
/-- The sum of the first n powers of z. -/
def gS (z : Nat) : Nat → Nat
  | 0 => 0
  | n + 1 => gS z n + z ^ n
theorem gS_step (z n : Nat) : gS z n * z + 1 = gS z n + z ^ n := by
  induction n with
  | zero => simp [gS]
  | succ n ih => rw [gS, Nat.add_mul, Nat.pow_succ]; omega
theorem gS_ones {z p : Nat} (hp : 1 < p) (hz : z % p = 1) (n : Nat) : gS z n % p = n % p := by
  induction n with
  | zero => rfl
  | succ n ih => rw [gS, Nat.add_mod, ih, pow_one_mod n hp hz, Nat.mod_add_mod]
theorem gS_zero {p g z n : Nat} (h : Fld p g) (hn : z ^ n % p = 1) (hz : z % p ≠ 1) : gS z n % p = 0 := by
  have hp := h.two
  refine Classical.byContradiction fun hne => hz ?_
  have e := gS_step z n
  have e2 : (gS z n * z + 1) % p = (gS z n * 1 + 1) % p := by
    rw [e, Nat.mul_one, Nat.add_mod, hn, Nat.mod_add_mod]
  have e3 : (gS z n * z) % p = (gS z n * 1) % p := by
    have e4 : ((gS z n * z : Nat) + (1 : Int)) % (p : Int) = ((gS z n * 1 : Nat) + (1 : Int)) % (p : Int) := by exact_mod_cast e2
    have e5 := (Int.emod_add_cancel_right 1).1 e4
    exact_mod_cast e5
  rw [h.cancel hne e3, Nat.mod_eq_of_lt (by omega)]
/-- The sum of the j-th powers of the first i roots. -/
def sumF (f k j : Int) : Nat → Int
  | 0 => 0
  | i + 1 => mAdd f (sumF f k j i) (mPower f (rootsF f k i) j)
theorem sumF_nat {f k j : Int} (h : hasK f k) (i : Nat) : sumF f k j i = ((gS ((mRoot f k).toNat ^ (RS j (P f - 1)).toNat) i % (P f).toNat : Nat) : Int) := by
  have h0 := h.1.1
  have h8 := h.1.2
  have hp := P_bd h0 h8
  induction i with
  | zero => rfl
  | succ i ih =>
    have b := rootsF_bd h i
    have e1 : RS (rootsF f k i) (P f) = rootsF f k i := RS_self (by omega) b.2
    have e2 : mPower f (rootsF f k i) j = ((((mRoot f k).toNat ^ (RS j (P f - 1)).toNat) ^ i % (P f).toNat : Nat) : Int) := by
      unfold mPower
      rw [if_pos h.1, e1, if_neg (by omega)]
      unfold rootsF
      show (((PW (P f) (mRoot f k) i).toNat ^ (RS j (P f - 1)).toNat % (P f).toNat : Nat) : Int) = _
      rw [PW_toNat, ← Nat.pow_mod, Int.toNat_natCast, ← Nat.pow_mul, ← Nat.pow_mul, Nat.mul_comm]
    rw [sumF, ih, e2, mAdd, if_pos h.1, gS]
    unfold RS
    rw [show P f = ((P f).toNat : Int) by omega, Int.toNat_natCast, ← Int.natCast_add, ← Int.natCast_emod, ← Nat.add_mod]
theorem sumF_end {f k j : Int} (h : hasK f k) (k9 : k ≤ 9) : sumF f k j (2 ^ k.toNat) = mRootSum f k j := by
  have h0 := h.1.1
  have h8 := h.1.2
  have hp := P_bd h0 h8
  have hf := fldf h0 h8
  have h2 := two_le h
  have t2 := two_nat h.2.1
  have re := RS_bd (x := j) (m := P f - 1) (by omega)
  have ord := root_ord h
  rw [sumF_nat h]
  unfold mRootSum
  rw [if_pos ⟨h, k9⟩]
  have hj : j % two k = (RS j (P f - 1)) % two k := by
    unfold RS
    rw [Int.emod_emod_of_dvd j (two_dvd h)]
  have hdv : j % two k = 0 ↔ 2 ^ k.toNat ∣ (RS j (P f - 1)).toNat := by
    rw [hj, t2]
    constructor
    · intro hz
      have := Int.dvd_of_emod_eq_zero hz
      rw [show RS j (P f - 1) = ((RS j (P f - 1)).toNat : Int) by omega] at this
      exact Int.natCast_dvd_natCast.1 this
    · intro hd
      have := Int.natCast_dvd_natCast.2 hd
      rw [show ((RS j (P f - 1)).toNat : Int) = RS j (P f - 1) by omega] at this
      exact Int.emod_eq_zero_of_dvd this
  by_cases hz : j % two k = 0
  · rw [if_pos hz, gS_ones (by omega) ((ord _).2 (hdv.1 hz)), Nat.mod_eq_of_lt (by omega), t2]
  · rw [if_neg hz, gS_zero hf (by rw [← Nat.pow_mul]; exact (ord _).2 (Nat.dvd_mul_left _ _)) (fun e => hz (hdv.2 ((ord _).1 e)))]
    rfl
theorem sumF_bd {f k j : Int} (h : hasK f k) (i : Nat) : 0 ≤ sumF f k j i ∧ sumF f k j i < P f := by
  have hp := P_bd h.1.1 h.1.2
  rw [sumF_nat h]
  have := Nat.mod_lt (gS ((mRoot f k).toNat ^ (RS j (P f - 1)).toNat) i) (show 0 < (P f).toNat by omega)
  omega
/-- Logarithms. -/
def mLog (n : Int) : Int := if n = 1 then 0 else if n = 2 then 1 else if n = 4 then 2 else if n = 8 then 3 else if n = 16 then 4 else if n = 32 then 5 else if n = 64 then 6 else if n = 128 then 7 else if n = 256 then 8 else if n = 512 then 9 else -1
theorem ten {k : Nat} (h : k ≤ 9) : k = 0 ∨ k = 1 ∨ k = 2 ∨ k = 3 ∨ k = 4 ∨ k = 5 ∨ k = 6 ∨ k = 7 ∨ k = 8 ∨ k = 9 := by omega
theorem log_at {k : Nat} (h : k ≤ 9) : mLog (2 ^ k) = k := by
  rcases ten h with rfl | rfl | rfl | rfl | rfl | rfl | rfl | rfl | rfl | rfl <;> decide
theorem log_off {n : Int} (h : ∀ k : Nat, k ≤ 9 → n ≠ 2 ^ k) : mLog n = -1 := by
  have h0 := h 0 (by omega); have h1 := h 1 (by omega); have h2 := h 2 (by omega); have h3 := h 3 (by omega); have h4 := h 4 (by omega)
  have h5 := h 5 (by omega); have h6 := h 6 (by omega); have h7 := h 7 (by omega); have h8 := h 8 (by omega); have h9 := h 9 (by omega)
  simp at h0 h1 h2 h3 h4 h5 h6 h7 h8 h9
  simp [mLog, h0, h1, h2, h3, h4, h5, h6, h7, h8, h9]
theorem log_cases (n : Int) : (∃ k : Nat, k ≤ 9 ∧ n = 2 ^ k ∧ mLog n = k) ∨ ((∀ k : Nat, k ≤ 9 → n ≠ 2 ^ k) ∧ mLog n = -1) := by
  by_cases h : ∃ k : Nat, k ≤ 9 ∧ n = 2 ^ k
  · obtain ⟨k, hk, rfl⟩ := h
    exact .inl ⟨k, hk, rfl, log_at hk⟩
  · have h2 : ∀ k : Nat, k ≤ 9 → n ≠ 2 ^ k := fun k hk e => h ⟨k, hk, e⟩
    exact .inr ⟨h2, log_off h2⟩
/-- The first j bits of x, the lowest first. -/
def rv (x : Nat) : Nat → Nat
  | 0 => 0
  | j + 1 => 2 * rv x j + x / 2 ^ j % 2
theorem rv_lt (x j : Nat) : rv x j < 2 ^ j := by
  induction j with
  | zero => simp [rv]
  | succ j ih => rw [rv, Nat.pow_succ]; omega
theorem rv_all : ∀ k, k < 10 → ∀ x, x < 2 ^ k → rv (rv x k) k = x := by decide +kernel
theorem rv_twice {k x : Nat} (hk : k ≤ 9) (hx : x < 2 ^ k) : rv (rv x k) k = x := rv_all k (by omega) x hx
def mRev (x k : Int) : Int := if (0 ≤ k ∧ k ≤ 9) ∧ 0 ≤ x ∧ x < two k then (rv x.toNat k.toNat : Nat) else -1
end Go.Proofs.YtjfbhfloojkphaaDoor
