/-
  Roots of unity: the functions on integers, the program's and the specification's: both answer the same plain function of their arguments.
-/
import Derived.Test.YtjfbhfloojkphaaDoorWalkD
import Derived.Test.YtjfbhfloojkphaaDoorNumR
import Derived.Deep.QuietTactic
import Derived.BigQuiet
namespace Go.Proofs.YtjfbhfloojkphaaDoor
open Go.RowKit
theorem in_yes (x a b : Int) (w : World) (h0 : a ≤ x) (h1 : x ≤ b) : Calls Tryd.prog 31 #[.int .i64 x, .int .i64 a, .int .i64 b] w fun e w' => e = .returned (.bool true) ∧ w = w' := by
  go_enter Tryd.func31, Tryd.ntmps31
  go_wp2
  go_ret
  exact ⟨by simp [*], rfl⟩
theorem in_no (x a b : Int) (w : World) (h : x < a ∨ b < x) : Calls Tryd.prog 31 #[.int .i64 x, .int .i64 a, .int .i64 b] w fun e w' => e = .returned (.bool false) ∧ w = w' := by
  by_cases h0 : a ≤ x
  · have hd : decide (a ≤ x) = true := by simpa using h0
    have hd2 : decide (x ≤ b) = false := by simp; omega
    go_enter Tryd.func31, Tryd.ntmps31
    go_wp2
    go_ret
    exact ⟨by simp [*], rfl⟩
  · have hd : decide (a ≤ x) = false := by simpa using h0
    go_enter Tryd.func31, Tryd.ntmps31
    go_wp2
    go_ret
    exact ⟨by simp [*], rfl⟩
theorem hasRoot_yes (f k : Int) (w : World) (ht : Tab w) (h : hasK f k) : Calls Tryd.prog 38 #[.int .i64 f, .int .i64 k] w fun e w' => e = .returned (.bool true) ∧ w = w' := by
  obtain ⟨_, k0, k1⟩ := h
  have hd : decide (0 ≤ k) = true := by simpa using k0
  have hd2 : decide (k ≤ T f) = true := by simpa using k1
  go_enter Tryd.func38, Tryd.ntmps38
  go_wp2_with fail
  refine (iTwoPower f w ht).mono ?_
  rintro e w' ⟨rfl, rfl⟩
  go_wp2
  go_ret
  exact ⟨by simp [*], rfl⟩
theorem hasRoot_no (f k : Int) (w : World) (ht : Tab w) (h : ¬ hasK f k) : Calls Tryd.prog 38 #[.int .i64 f, .int .i64 k] w fun e w' => e = .returned (.bool false) ∧ w = w' := by
  rw [hasK_iff] at h
  by_cases k0 : 0 ≤ k
  · have hd : decide (0 ≤ k) = true := by simpa using k0
    have hd2 : decide (k ≤ T f) = false := by simp; omega
    go_enter Tryd.func38, Tryd.ntmps38
    go_wp2_with fail
    refine (iTwoPower f w ht).mono ?_
    rintro e w' ⟨rfl, rfl⟩
    go_wp2
    go_ret
    exact ⟨by simp [*], rfl⟩
  · have hd : decide (0 ≤ k) = false := by simpa using k0
    go_enter Tryd.func38, Tryd.ntmps38
    go_wp2
    go_ret
    exact ⟨by simp, rfl⟩
theorem hasRoots_yes (f k : Int) (w : World) (ht : Tab w) (h : hasK f k) (k9 : k ≤ 9) : Calls Tryd.prog 34 #[.int .i64 f, .int .i64 k] w fun e w' => e = .returned (.bool true) ∧ w = w' := by
  have hd : decide (k ≤ 9) = true := by simpa using k9
  go_enter Tryd.func34, Tryd.ntmps34
  go_wp2_with fail
  refine (hasRoot_yes f k w ht h).mono ?_
  rintro e w' ⟨rfl, rfl⟩
  go_wp2
  go_ret
  exact ⟨by simp [*], rfl⟩
theorem hasRoots_no (f k : Int) (w : World) (ht : Tab w) (h : ¬ (hasK f k ∧ k ≤ 9)) : Calls Tryd.prog 34 #[.int .i64 f, .int .i64 k] w fun e w' => e = .returned (.bool false) ∧ w = w' := by
  by_cases hk : hasK f k
  · have hd : decide (k ≤ 9) = false := by simp; exact Int.not_le.1 (fun h9 => h ⟨hk, h9⟩)
    go_enter Tryd.func34, Tryd.ntmps34
    go_wp2_with fail
    refine (hasRoot_yes f k w ht hk).mono ?_
    rintro e w' ⟨rfl, rfl⟩
    go_wp2
    go_ret
    exact ⟨by simp [*], rfl⟩
  · go_enter Tryd.func34, Tryd.ntmps34
    go_wp2_with fail
    refine (hasRoot_no f k w ht hk).mono ?_
    rintro e w' ⟨rfl, rfl⟩
    go_wp2
    go_ret
    exact ⟨by simp [*], rfl⟩
theorem rootk_c (f k : Int) (w : World) (ht : Tab w) (h : hasK f k) : Calls Tryd.prog 36 #[.int .i64 f, .int .i64 k] w fun e w' => e = .returned (.int .i64 (mRoot f k)) ∧ w = w' := by
  have HR := Lib.hid (mRoot_on h)
  obtain ⟨⟨h0, h8⟩, k0, k1⟩ := h
  have hp := P_bd h0 h8
  have hG := G_bd h0 h8
  have hT := T_le f
  have hs := shr_bd (k := k) h0 h8
  go_enter Tryd.func36, Tryd.ntmps36
  go_wp2_with fail
  refine (generator_c f w ht h0 h8).mono ?_
  rintro e w' ⟨rfl, rfl⟩
  go_wp2_with fail
  refine (prime_c f w ht h0 h8).mono ?_
  rintro e w' ⟨rfl, rfl⟩
  go_wp2_with fail
  refine (power_c f (G f) ((P f - 1) / 2 ^ k.toNat) w ht h0 h8 (by omega) (by omega) (by omega) (by omega)).mono ?_
  rintro e w' ⟨rfl, rfl⟩
  go_wp2
  go_ret
  exact ⟨ret_int HR.out.symm, rfl⟩
theorem iRootOf (f k : Int) (w : World) (ht : Tab w) : Calls Tryd.prog 17 #[.int .i64 f, .int .i64 k] w fun e w' => e = .returned (.int .i64 (mRoot f k)) ∧ w = w' := by
  by_cases hk : hasK f k
  · go_enter Tryd.func17, Tryd.ntmps17
    go_wp2_with fail
    refine (hasRoot_yes f k w ht hk).mono ?_
    rintro e w' ⟨rfl, rfl⟩
    go_wp2_with fail
    refine (rootk_c f k w ht hk).mono ?_
    rintro e w' ⟨rfl, rfl⟩
    go_wp2
    go_ret
    exact ⟨rfl, rfl⟩
  · have HR := Lib.hid (mRoot_off hk)
    go_enter Tryd.func17, Tryd.ntmps17
    go_wp2_with fail
    refine (hasRoot_no f k w ht hk).mono ?_
    rintro e w' ⟨rfl, rfl⟩
    go_wp2
    go_ret
    exact ⟨ret_int HR.out.symm, rfl⟩
theorem shr_lt {f k : Int} (h : hasK f k) (hk : 0 < k) : (P f - 1) / 2 ^ k.toNat < P f - 1 := by
  obtain ⟨c, e, c0, ec⟩ := cut_root h
  have hp := P_bd h.1.1 h.1.2
  have hs := shr_bd (k := k) h.1.1 h.1.2
  have : 2 ^ 1 ≤ 2 ^ k.toNat := Nat.pow_le_pow_right (by omega) (by omega)
  have : 2 ^ 1 * c ≤ 2 ^ k.toNat * c := Nat.mul_le_mul_right _ this
  omega
/-- The specification's exponent is reduced, which turns it at k = 0 alone: and there both powers are 1. -/
theorem spec_root {f k : Int} (h : hasK f k) : mPower f (G f) ((P f - 1) / 2 ^ k.toNat) = mRoot f k := by
  have h0 := h.1.1
  have h8 := h.1.2
  have hp := P_bd h0 h8
  have hg := G_bd h0 h8
  have hs := shr_bd (k := k) h0 h8
  have e : RS (G f) (P f) = G f := RS_self (by omega) hg.2
  rw [mRoot_on h]
  unfold mPower
  rw [if_pos h.1, e, if_neg (by omega)]
  by_cases hk : 0 < k
  · rw [RS_self hs.1 (shr_lt h hk)]
  · have : k = 0 := by have := h.2.1; omega
    subst this
    have e2 : (P f - 1) / 2 ^ (0 : Int).toNat = P f - 1 := by simp
    rw [e2, show RS (P f - 1) (P f - 1) = 0 from Int.emod_self, PW_zero h0 h8]
    refine ((PW_one _ _).2 ?_).symm
    have hf := fldf h0 h8
    rw [G_toNat h0, show (P f - 1).toNat = (P f).toNat - 1 by omega]
    exact hf.one
theorem sRootOf (f k : Int) (w : World) : Calls Tryd.prog 10 #[.int .i64 f, .int .i64 k] w fun e w' => e = .returned (.int .i64 (mRoot f k)) ∧ w = w' := by
  by_cases hk : hasK f k
  · have HR := Lib.hid (spec_root hk)
    obtain ⟨⟨h0, h8⟩, k0, k1⟩ := hk
    have hp := P_bd h0 h8
    have hT := T_le f
    have hz : (P f == 0) = false := by simp; omega
    go_enter Tryd.func10, Tryd.ntmps10
    go_wp2_with fail
    refine (sModulus f w).mono ?_
    rintro e w' ⟨rfl, rfl⟩
    go_wp2_with fail
    refine (sTwoPower f w).mono ?_
    rintro e w' ⟨rfl, rfl⟩
    go_wp2_with fail
    refine (in_yes k 0 (T f) w k0 k1).mono ?_
    rintro e w' ⟨rfl, rfl⟩
    go_wp2_with fail
    refine (sGenerator f w).mono ?_
    rintro e w' ⟨rfl, rfl⟩
    go_wp2_with fail
    refine (sModulus f w).mono ?_
    rintro e w' ⟨rfl, rfl⟩
    go_wp2_with fail
    refine (sPower f (G f) ((P f - 1) / 2 ^ k.toNat) w).mono ?_
    rintro e w' ⟨rfl, rfl⟩
    go_wp2
    go_ret
    exact ⟨ret_int HR.out, rfl⟩
  · have HR := Lib.hid (mRoot_off hk)
    by_cases hf : 0 ≤ f ∧ f ≤ 8
    · have hn : k < 0 ∨ T f < k := by
        rw [hasK_iff] at hk; omega
      have hp := P_bd hf.1 hf.2
      have hz : (P f == 0) = false := by simp; omega
      clear hk
      go_enter Tryd.func10, Tryd.ntmps10
      go_wp2_with fail
      refine (sModulus f w).mono ?_
      rintro e w' ⟨rfl, rfl⟩
      go_wp2_with fail
      refine (sTwoPower f w).mono ?_
      rintro e w' ⟨rfl, rfl⟩
      go_wp2_with fail
      refine (in_no k 0 (T f) w hn).mono ?_
      rintro e w' ⟨rfl, rfl⟩
      go_wp2
      go_ret
      exact ⟨ret_int HR.out.symm, rfl⟩
    · have hz : (P f == 0) = true := by simp [P_off (f := f) (by omega)]
      clear hk
      go_enter Tryd.func10, Tryd.ntmps10
      go_wp2_with fail
      refine (sModulus f w).mono ?_
      rintro e w' ⟨rfl, rfl⟩
      go_wp2
      go_ret
      exact ⟨ret_int HR.out.symm, rfl⟩
theorem shl_at {k : Int} (h0 : 0 ≤ k) (h : k ≤ 26) : wrap64 (2 ^ k.toNat) = two k := by
  have := two_bd h0 h
  exact IntWalk.wrap64_in _ (by unfold two at this; omega)
theorem sum_yes {f k j : Int} (h : hasK f k) (k9 : k ≤ 9) (hz : j % two k = 0) : mRootSum f k j = two k := by
  unfold mRootSum; rw [if_pos ⟨h, k9⟩, if_pos hz]
theorem sum_no {f k j : Int} (h : hasK f k) (k9 : k ≤ 9) (hz : j % two k ≠ 0) : mRootSum f k j = 0 := by
  unfold mRootSum; rw [if_pos ⟨h, k9⟩, if_neg hz]
theorem sum_off {f k j : Int} (h : ¬ (hasK f k ∧ k ≤ 9)) : mRootSum f k j = -1 := if_neg h
theorem tmod_iff (j m : Int) : j.tmod m = 0 ↔ j % m = 0 := by
  rw [← Int.dvd_iff_tmod_eq_zero, ← Int.dvd_iff_emod_eq_zero]
set_option maxHeartbeats 400000 in
theorem iRootSum (f k j : Int) (w : World) (ht : Tab w) : Calls Tryd.prog 15 #[.int .i64 f, .int .i64 k, .int .i64 j] w fun e w' => e = .returned (.int .i64 (mRootSum f k j)) ∧ w = w' := by
  by_cases h : hasK f k ∧ k ≤ 9
  · obtain ⟨h, k9⟩ := h
    have k0 := h.2.1
    have ek := shl_at k0 (by omega)
    have tb := two_bd k0 (by omega)
    by_cases hz : j % two k = 0
    · have HS := Lib.hid (sum_yes h k9 hz)
      have e1 : (j.tmod (two k) == 0) = true := by simpa using (tmod_iff j (two k)).2 hz
      clear hz
      go_enter Tryd.func15, Tryd.ntmps15
      go_wp2_with fail
      refine (hasRoots_yes f k w ht h k9).mono ?_
      rintro e w' ⟨rfl, rfl⟩
      go_wp2
      go_ret
      exact ⟨ret_int (ek.trans HS.out.symm), rfl⟩
    · have HS := Lib.hid (sum_no h k9 hz)
      have e1 : (j.tmod (two k) == 0) = false := by simpa using (fun e => hz ((tmod_iff j (two k)).1 e))
      clear hz
      go_enter Tryd.func15, Tryd.ntmps15
      go_wp2_with fail
      refine (hasRoots_yes f k w ht h k9).mono ?_
      rintro e w' ⟨rfl, rfl⟩
      go_wp2
      go_ret
      exact ⟨ret_int HS.out.symm, rfl⟩
  · have HS := Lib.hid (sum_off (j := j) h)
    go_enter Tryd.func15, Tryd.ntmps15
    go_wp2_with fail
    refine (hasRoots_no f k w ht h).mono ?_
    rintro e w' ⟨rfl, rfl⟩
    go_wp2
    go_ret
    exact ⟨ret_int HS.out.symm, rfl⟩
set_option maxHeartbeats 400000 in
theorem sRootSum (f k j : Int) (w : World) : Calls Tryd.prog 23 #[.int .i64 f, .int .i64 k, .int .i64 j] w fun e w' => e = .returned (.int .i64 (mRootSum f k j)) ∧ w = w' := by
  by_cases hk : hasK f k
  · have rb := root_bd hk
    have r0 : ¬ mRoot f k < 0 := by omega
    by_cases k9 : k ≤ 9
    · have k0 := hk.2.1
      have ek := shl_at k0 (by omega)
      have tb := two_bd k0 (by omega)
      have t2 := two_le hk
      by_cases hz : j % two k = 0
      · have HS := Lib.hid (sum_yes hk k9 hz)
        have HR : Hid (mReduce f (two k) = two k) := Lib.hid (by unfold mReduce; rw [if_pos hk.1, RS_self (by omega) (by omega)])
        have e1 : (j.tmod (two k) == 0) = true := by simpa using (tmod_iff j (two k)).2 hz
        clear hz
        go_enter Tryd.func23, Tryd.ntmps23
        go_wp2_with fail
        refine (sRootOf f k w).mono ?_
        rintro e w' ⟨rfl, rfl⟩
        go_wp2_with fail
        refine (sReduce f (two k) w).mono ?_
        rintro e w' ⟨rfl, rfl⟩
        rw [HR.out]
        go_wp2
        go_ret
        exact ⟨ret_int HS.out.symm, rfl⟩
      · have HS := Lib.hid (sum_no hk k9 hz)
        have e1 : (j.tmod (two k) == 0) = false := by simpa using (fun e => hz ((tmod_iff j (two k)).1 e))
        clear hz
        go_enter Tryd.func23, Tryd.ntmps23
        go_wp2_with fail
        refine (sRootOf f k w).mono ?_
        rintro e w' ⟨rfl, rfl⟩
        go_wp2
        go_ret
        exact ⟨ret_int HS.out.symm, rfl⟩
    · have HS := Lib.hid (sum_off (j := j) (fun h : hasK f k ∧ k ≤ 9 => k9 h.2))
      go_enter Tryd.func23, Tryd.ntmps23
      go_wp2_with fail
      refine (sRootOf f k w).mono ?_
      rintro e w' ⟨rfl, rfl⟩
      go_wp2
      go_ret
      exact ⟨ret_int HS.out.symm, rfl⟩
  · have HS := Lib.hid (sum_off (j := j) (fun h : hasK f k ∧ k ≤ 9 => hk h.1))
    have HR := Lib.hid (mRoot_off hk)
    clear hk
    go_enter Tryd.func23, Tryd.ntmps23
    go_wp2_with fail
    refine (sRootOf f k w).mono ?_
    rintro e w' ⟨rfl, rfl⟩
    rw [HR.out]
    go_wp2
    go_ret
    exact ⟨ret_int HS.out.symm, rfl⟩
theorem is_off {f x k : Int} (h : ¬ (hasK f k ∧ 0 < x ∧ x < P f ∧ mOrder f x = two k)) : mIsRoot f x k = false := by
  unfold mIsRoot; simpa using h
theorem is_on {f x k : Int} (h : hasK f k) (x0 : 0 < x) (x1 : x < P f) : mIsRoot f x k = (mOrder f x == two k) := by
  unfold mIsRoot
  simp [h, x0, x1]
  by_cases e : mOrder f x = two k
  · simp [e]
  · rw [decide_eq_false e]; exact (beq_eq_false_iff_ne.2 e).symm
theorem order_on {f x : Int} (hf : 0 ≤ f ∧ f ≤ 8) (x0 : 0 < x) (x1 : x < P f) : mOrder f x = (Mth.ordF (tst f x) (Mth.facs f.toNat) (Mth.pN f.toNat - 1) : Nat) := by
  have e : RS x (P f) = x := RS_self (by omega) x1
  unfold mOrder
  rw [if_pos ⟨hf, by omega⟩, e]
theorem ret_bool {a b : Bool} (h : a = b) : Ending.returned (.bool a) = .returned (.bool b) := by rw [h]
set_option maxRecDepth 100000 in
set_option maxHeartbeats 800000 in
theorem sIsRoot (f x k : Int) (w : World) : Calls Tryd.prog 18 #[.int .i64 f, .int .i64 x, .int .i64 k] w fun e w' => e = .returned (.bool (mIsRoot f x k)) ∧ w = w' := by
  by_cases hk : hasK f k
  · have rb := root_bd hk
    have r0 : decide (0 ≤ mRoot f k) = true := by simp; omega
    have k0 := hk.2.1
    have kT := T_le f
    have k1 := hk.2.2
    have ek := shl_at k0 (by omega)
    have hp := P_bd hk.1.1 hk.1.2
    by_cases hx : 0 ≤ x ∧ x < P f
    · have HS : Hid ((mOrder f x == two k) = mIsRoot f x k) := Lib.hid (by
        by_cases x0 : 0 < x
        · exact (is_on hk x0 hx.2).symm
        · have tb := two_bd k0 (by omega)
          have : x = 0 := by omega
          subst this
          have e : mOrder f 0 = -1 := by unfold mOrder; rw [if_neg (fun h => h.2 (RS_self (by omega) (by omega)))]
          rw [e, is_off (fun h => x0 h.2.1)]
          simp; omega)
      go_enter Tryd.func18, Tryd.ntmps18
      go_wp2_with fail
      refine (sRootOf f k w).mono ?_
      rintro e w' ⟨rfl, rfl⟩
      go_wp2_with fail
      refine (sModulus f w).mono ?_
      rintro e w' ⟨rfl, rfl⟩
      go_wp2_with fail
      refine (in_yes x 0 (P f - 1) w hx.1 (by omega)).mono ?_
      rintro e w' ⟨rfl, rfl⟩
      go_wp2_with fail
      refine (sOrder f x w).mono ?_
      rintro e w' ⟨rfl, rfl⟩
      go_wp2
      go_ret
      exact ⟨ret_bool (by rw [← HS.out, ← ek]), rfl⟩
    · have HS := Lib.hid (is_off (fun h : hasK f k ∧ 0 < x ∧ x < P f ∧ mOrder f x = two k => hx ⟨by have := h.2.1; omega, h.2.2.1⟩))
      go_enter Tryd.func18, Tryd.ntmps18
      go_wp2_with fail
      refine (sRootOf f k w).mono ?_
      rintro e w' ⟨rfl, rfl⟩
      go_wp2_with fail
      refine (sModulus f w).mono ?_
      rintro e w' ⟨rfl, rfl⟩
      go_wp2_with fail
      refine (in_no x 0 (P f - 1) w (by omega)).mono ?_
      rintro e w' ⟨rfl, rfl⟩
      go_wp2
      go_ret
      exact ⟨ret_bool HS.out.symm, rfl⟩
  · have HS := Lib.hid (is_off (fun h : hasK f k ∧ 0 < x ∧ x < P f ∧ mOrder f x = two k => hk h.1))
    have HR := Lib.hid (mRoot_off hk)
    clear hk
    go_enter Tryd.func18, Tryd.ntmps18
    go_wp2_with fail
    refine (sRootOf f k w).mono ?_
    rintro e w' ⟨rfl, rfl⟩
    rw [HR.out]
    go_wp2
    go_ret
    exact ⟨ret_bool HS.out.symm, rfl⟩
def BoolP (w : World) (b : Bool) (e : Ending) (w' : World) : Prop := e = .returned (.bool b) ∧ Below w.heap.size w w'
theorem qleft {P : Program} {f : FuncId} {args : Array Value} {w : World} {n : Nat} {v : Value}
    (h : Calls P f args (w.drewN n) fun e w' => e = .returned v ∧ w.drewN n = w') : Calls P f args (w.drewN n) fun e w'' => e = .returned v ∧ ∃ m, w'' = w.drewN m :=
  h.mono fun _ _ ⟨he, hm⟩ => ⟨he, n, hm.symm⟩
theorem bel_drewN {B : Nat} {a w : World} (h : Below B a w) (n : Nat) : Below B a (w.drewN n) := ⟨h.os, h.tape, h.output, h.size, h.block⟩
set_option maxRecDepth 100000 in
set_option maxHeartbeats 800000 in
theorem iIsRoot (f x k : Int) (w : World) (ht : Tab w) : Calls Tryd.prog 16 #[.int .i64 f, .int .i64 x, .int .i64 k] w (BoolP w (mIsRoot f x k)) := by
  by_cases hk : hasK f k
  · have k0 := hk.2.1
    have kT := T_le f
    have k1 := hk.2.2
    have ek := shl_at k0 (by omega)
    obtain ⟨h0, h8⟩ := hk.1
    have hp := P_bd h0 h8
    have HT := Lib.hid (fun q => Tab.keep (w' := w.drewN q) ht (fun _ => rfl))
    by_cases x0 : 0 < x
    · have hd1 : decide (0 < x) = true := by simpa using x0
      by_cases x1 : x < P f
      · have hd2 : decide (x < P f) = true := by simpa using x1
        have HS : Hid ((((Mth.ordF (tst f x) (Mth.facs f.toNat) (Mth.pN f.toNat - 1) : Nat) : Int) == two k) = mIsRoot f x k) := Lib.hid (by rw [is_on hk x0 x1, order_on hk.1 x0 x1])
        go_enter Tryd.func16, Tryd.ntmps16
        go_wp2_with fail
        refine (hasRoot_yes f k w ht hk).mono ?_
        rintro e w' ⟨rfl, rfl⟩
        go_wp2
        go_quiet ((first | (go_at_call 39; exact qleft (prime_c f _ (HT.out _) h0 h8)) | (go_at_call 40; exact qleft (order_c f x _ (HT.out _) h0 h8 (by omega) x1))))
        go_wp2
        go_ret
        exact ⟨ret_bool HS.out, bel_drewN (Below.refl _ _) _⟩
      · have hd2 : decide (x < P f) = false := by simpa using x1
        have HS := Lib.hid (is_off (fun h : hasK f k ∧ 0 < x ∧ x < P f ∧ mOrder f x = two k => x1 h.2.2.1))
        go_enter Tryd.func16, Tryd.ntmps16
        go_wp2_with fail
        refine (hasRoot_yes f k w ht hk).mono ?_
        rintro e w' ⟨rfl, rfl⟩
        go_wp2
        go_quiet ((go_at_call 39; exact qleft (prime_c f _ (HT.out _) h0 h8)))
        go_wp2
        go_ret
        exact ⟨ret_bool HS.out.symm, bel_drewN (Below.refl _ _) _⟩
    · have hd1 : decide (0 < x) = false := by simpa using x0
      have HS := Lib.hid (is_off (fun h : hasK f k ∧ 0 < x ∧ x < P f ∧ mOrder f x = two k => x0 h.2.1))
      go_enter Tryd.func16, Tryd.ntmps16
      go_wp2_with fail
      refine (hasRoot_yes f k w ht hk).mono ?_
      rintro e w' ⟨rfl, rfl⟩
      go_wp2
      go_quiet (fail)
      go_wp2
      go_ret
      exact ⟨ret_bool HS.out.symm, bel_drewN (Below.refl _ _) _⟩
  · have HS := Lib.hid (is_off (fun h : hasK f k ∧ 0 < x ∧ x < P f ∧ mOrder f x = two k => hk h.1))
    go_enter Tryd.func16, Tryd.ntmps16
    go_wp2_with fail
    refine (hasRoot_no f k w ht hk).mono ?_
    rintro e w' ⟨rfl, rfl⟩
    go_wp2
    go_ret
    exact ⟨ret_bool HS.out.symm, Below.refl _ _⟩
end Go.Proofs.YtjfbhfloojkphaaDoor
