/-
  What the functions of chapter 3 answer, as plain functions of lists.
-/
import Derived.Test.YtcenglbcibkniaaDoorNumG
namespace Go.Proofs.YtcenglbcibkniaaDoor
open Mth

def PolOk (f : Int) (l : List Int) : Prop := (0 ≤ f ∧ f ≤ 8) ∧ l.length ≤ 400 ∧ Pol f l
open Classical in
noncomputable def quoL (f : Int) (a b : List Int) : List Int := if h : ∃ q, ∃ r, DivP f a b q r then choose h else []
theorem quoL_eq {f : Int} (h0 : 0 ≤ f) (h8 : f ≤ 8) {a b q r : List Int} (hb : Pol f b) (h : DivP f a b q r) : quoL f a b = q := by
  have hex : ∃ q, ∃ r, DivP f a b q r := ⟨q, r, h⟩
  unfold quoL
  rw [dif_pos hex]
  obtain ⟨r', h'⟩ := Classical.choose_spec hex
  exact (DivP.unique h0 h8 hb h' h).1
open Classical in
noncomputable def powL (f : Int) (a : List Int) (e : Nat) (m : List Int) : List Int := if h : ∃ r, IsPow f a e m r then choose h else []
theorem powL_eq {f : Int} (h0 : 0 ≤ f) (h8 : f ≤ 8) {a m r : List Int} {e : Nat} (hm : Pol f m) (h : IsPow f a e m r) : powL f a e m = r := by
  have hex : ∃ r, IsPow f a e m r := ⟨r, h⟩
  unfold powL
  rw [dif_pos hex]
  exact IsPow.unique h0 h8 hm (Classical.choose_spec hex) h
theorem powL_len {f : Int} {a m : List Int} {e : Nat} : (powL f a e m).length ≤ m.length := by
  unfold powL
  split
  · rename_i h; exact Nat.le_of_lt (Classical.choose_spec h).2.1
  · exact Nat.zero_le _
def shiftL (a : List Int) (n : Int) : List Int :=
  if a.length = 0 ∨ n ≤ -(a.length : Int) then [] else if n < 0 then tab (a.length - (-n).toNat) (fun j => lf a (j + (-n).toNat)) else tab (n.toNat + a.length) (fun j => if j < n.toNat then 0 else lf a (j - n.toNat))
def okMul (f : Int) (a b : List Int) : Prop := PolOk f a ∧ PolOk f b ∧ a.length + b.length ≤ 401
def okDiv (f : Int) (a b : List Int) : Prop := PolOk f a ∧ PolOk f b ∧ b.length ≠ 0
def okShift (f : Int) (a : List Int) (n : Int) : Prop := PolOk f a ∧ (a.length = 0 ∨ n ≤ 400 - (a.length : Int))
def okPow (f : Int) (a : List Int) (e : Int) (m : List Int) : Prop := PolOk f a ∧ PolOk f m ∧ m.length ≠ 0 ∧ 0 ≤ e ∧ e ≤ 1000000
def okComp (f : Int) (a b : List Int) : Prop := PolOk f a ∧ PolOk f b ∧ (a.length ≤ 1 ∨ b.length ≤ 1 ∨ (a.length - 1) * (b.length - 1) < 400)
section
open Classical
noncomputable def mPolyOk (f : Int) (l : List Int) : Bool := decide (PolOk f l)
noncomputable def mTrim (f : Int) (l : List Int) : List Int := if (0 ≤ f ∧ f ≤ 8) ∧ l.length ≤ 400 then trimL f l.length (lf l) else []
noncomputable def mDegree (f : Int) (l : List Int) : Int := if PolOk f l then (l.length : Int) - 1 else -2
noncomputable def mAddPoly (f : Int) (a b : List Int) : List Int := if PolOk f a ∧ PolOk f b then addL f a b else []
noncomputable def mSubPoly (f : Int) (a b : List Int) : List Int := if PolOk f a ∧ PolOk f b then addL f a (scaleL f b (-1)) else []
noncomputable def mScalePoly (f : Int) (a : List Int) (c : Int) : List Int := if PolOk f a then scaleL f a c else []
noncomputable def mMulPoly0 (f : Int) (a b : List Int) : List Int := if okMul f a b then mulL f a b else []
noncomputable def mMulPoly1 (f : Int) (a b : List Int) : Bool := decide (okMul f a b)
noncomputable def mEvalPoly (f : Int) (a : List Int) (x : Int) : Int := if PolOk f a then evL f x a else -1
noncomputable def mDivMod0 (f : Int) (a b : List Int) : List Int := if okDiv f a b then quoL f a b else []
noncomputable def mDivMod1 (f : Int) (a b : List Int) : List Int := if okDiv f a b then remL f a b else []
noncomputable def mDivMod2 (f : Int) (a b : List Int) : Bool := decide (okDiv f a b)
noncomputable def mGcdPoly (f : Int) (a b : List Int) : List Int := if PolOk f a ∧ PolOk f b then gcdM f a b else []
noncomputable def mDerivative (f : Int) (a : List Int) : List Int := if PolOk f a then derL f a else []
noncomputable def mShiftPoly0 (f : Int) (a : List Int) (n : Int) : List Int := if okShift f a n then shiftL a n else []
noncomputable def mShiftPoly1 (f : Int) (a : List Int) (n : Int) : Bool := decide (okShift f a n)
noncomputable def mPowMod0 (f : Int) (a : List Int) (e : Int) (m : List Int) : List Int := if okPow f a e m then powL f a e.toNat m else []
noncomputable def mPowMod1 (f : Int) (a : List Int) (e : Int) (m : List Int) : Bool := decide (okPow f a e m)
noncomputable def mSquareFree (f : Int) (a : List Int) : Bool := decide (PolOk f a ∧ (gcdM f a (derL f a)).length = 1)
noncomputable def mCompose0 (f : Int) (a b : List Int) : List Int := if okComp f a b then compL f b a else []
noncomputable def mCompose1 (f : Int) (a b : List Int) : Bool := decide (okComp f a b)
end
theorem cutL_le (n : Nat) (F : Nat → Int) : (cutL n F).length ≤ n := by rw [cutL_len]; exact cutN_le _ _
theorem len_mTrim (f : Int) (l : List Int) (_n : l.length ≤ 1048576) : (mTrim f l).length ≤ 1048576 := by
  unfold mTrim
  split
  · exact Nat.le_trans (cutL_le _ _) _n
  · simp
theorem len_mAddPoly (f : Int) (a b : List Int) (na : a.length ≤ 1048576) (nb : b.length ≤ 1048576) : (mAddPoly f a b).length ≤ 1048576 := by
  unfold mAddPoly
  split
  · have := addL_le f a b; omega
  · simp
theorem len_mSubPoly (f : Int) (a b : List Int) (na : a.length ≤ 1048576) (nb : b.length ≤ 1048576) : (mSubPoly f a b).length ≤ 1048576 := by
  unfold mSubPoly
  split
  · have := addL_le f a (scaleL f b (-1)); have := scaleL_le f b (-1); omega
  · simp
theorem len_mScalePoly (f : Int) (a : List Int) (c : Int) (na : a.length ≤ 1048576) : (mScalePoly f a c).length ≤ 1048576 := by
  unfold mScalePoly
  split
  · have := scaleL_le f a c; omega
  · simp
theorem len_mMulPoly0 (f : Int) (a b : List Int) (na : a.length ≤ 1048576) (nb : b.length ≤ 1048576) : (mMulPoly0 f a b).length ≤ 1048576 := by
  unfold mMulPoly0
  split
  · rename_i h
    have := mulL_le f a b
    have := h.2.2
    omega
  · simp
theorem len_mDivMod0 (f : Int) (a b : List Int) (na : a.length ≤ 1048576) (nb : b.length ≤ 1048576) : (mDivMod0 f a b).length ≤ 1048576 := by
  unfold mDivMod0
  split
  · rename_i h
    unfold quoL
    split
    · rename_i hex
      obtain ⟨r, h2⟩ := Classical.choose_spec hex
      have := div_len h.1.1.1 h.1.1.2 h.2.1.2.2 h2
      have := h.2.2
      omega
    · simp
  · simp
theorem len_mDivMod1 (f : Int) (a b : List Int) (na : a.length ≤ 1048576) (nb : b.length ≤ 1048576) : (mDivMod1 f a b).length ≤ 1048576 := by
  unfold mDivMod1
  split
  · rename_i h
    have := remL_len (f := f) (a := a) h.2.2
    omega
  · simp
theorem monL_le (f : Int) (x : List Int) : (monL f x).length ≤ x.length := by
  unfold monL
  split
  · exact Nat.zero_le _
  · exact scaleL_le _ _ _
theorem len_gcdM {f : Int} (h0 : 0 ≤ f) (h8 : f ≤ 8) (a b : List Int) : (gcdM f a b).length ≤ max a.length b.length := by
  have := (gcd_le h0 h8 _ a b (Nat.le_refl _)).1
  have := monL_le f (gcdL f a b)
  unfold gcdM
  omega
theorem len_mGcdPoly (f : Int) (a b : List Int) (na : a.length ≤ 1048576) (nb : b.length ≤ 1048576) : (mGcdPoly f a b).length ≤ 1048576 := by
  unfold mGcdPoly
  split
  · rename_i h
    have := len_gcdM h.1.1.1 h.1.1.2 a b
    omega
  · simp
theorem len_mDerivative (f : Int) (a : List Int) (na : a.length ≤ 1048576) : (mDerivative f a).length ≤ 1048576 := by
  unfold mDerivative
  split
  · have := derL_le f a; omega
  · simp
theorem len_mShiftPoly0 (f : Int) (a : List Int) (n : Int) (na : a.length ≤ 1048576) : (mShiftPoly0 f a n).length ≤ 1048576 := by
  unfold mShiftPoly0
  split
  · rename_i h
    unfold shiftL
    split
    · simp
    · split
      · rw [tab_len]; omega
      · rw [tab_len]; have := h.2; omega
  · simp
theorem len_mPowMod0 (f : Int) (a : List Int) (e : Int) (m : List Int) (na : a.length ≤ 1048576) (nm : m.length ≤ 1048576) : (mPowMod0 f a e m).length ≤ 1048576 := by
  unfold mPowMod0
  split
  · exact Nat.le_trans powL_len nm
  · simp
theorem comp_le {f : Int} {a b : List Int} (h : okComp f a b) : (compL f b a).length ≤ 400 := by
  have h1 := compL_le f b a
  rcases h.2.2 with h2 | h2 | h2
  · rw [show a.length - 1 = 0 by omega, Nat.zero_mul] at h1; omega
  · rw [show b.length - 1 = 0 by omega, Nat.mul_zero] at h1; omega
  · omega
theorem len_mCompose0 (f : Int) (a b : List Int) (na : a.length ≤ 1048576) (nb : b.length ≤ 1048576) : (mCompose0 f a b).length ≤ 1048576 := by
  unfold mCompose0
  split
  · rename_i h
    have := comp_le h
    omega
  · simp
end Go.Proofs.YtcenglbcibkniaaDoor
