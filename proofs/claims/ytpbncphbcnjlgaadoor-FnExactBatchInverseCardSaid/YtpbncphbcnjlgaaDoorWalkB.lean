/-
  The walks of the exported functions on integers, the program's and the specification's: both answer the same plain function of their arguments.
-/
import Derived.Test.YtpbncphbcnjlgaaDoorWalkA
namespace Go.Proofs.YtpbncphbcnjlgaaDoor
open Go.RowKit
theorem iModulus (f : Int) (w : World) (ht : Tab w) : Calls Tryd.prog 43 #[.int .i64 f] w fun e w' => e = .returned (.int .i64 (P f)) ∧ w = w' := by
  by_cases hk : 0 ≤ f ∧ f ≤ 8
  · obtain ⟨h0, h8⟩ := hk
    go_enter Tryd.func43, Tryd.ntmps43
    go_wp2_with fail
    refine (known_yes f w h0 h8).mono ?_
    rintro e w' ⟨rfl, rfl⟩
    go_wp2_with fail
    refine (prime_c f w ht h0 h8).mono ?_
    rintro e w' ⟨rfl, rfl⟩
    go_wp2
    go_ret
    exact ⟨rfl, rfl⟩
  · have H := Lib.hid (P_off (f := f) (by omega))
    go_enter Tryd.func43, Tryd.ntmps43
    go_wp2_with fail
    refine (known_no f w (by omega)).mono ?_
    rintro e w' ⟨rfl, rfl⟩
    go_wp2
    go_ret
    exact ⟨ret_int H.out.symm, rfl⟩
theorem iGenerator (f : Int) (w : World) (ht : Tab w) : Calls Tryd.prog 45 #[.int .i64 f] w fun e w' => e = .returned (.int .i64 (G f)) ∧ w = w' := by
  by_cases hk : 0 ≤ f ∧ f ≤ 8
  · obtain ⟨h0, h8⟩ := hk
    go_enter Tryd.func45, Tryd.ntmps45
    go_wp2_with fail
    refine (known_yes f w h0 h8).mono ?_
    rintro e w' ⟨rfl, rfl⟩
    go_wp2_with fail
    refine (generator_c f w ht h0 h8).mono ?_
    rintro e w' ⟨rfl, rfl⟩
    go_wp2
    go_ret
    exact ⟨rfl, rfl⟩
  · have H := Lib.hid (G_off (f := f) (by omega))
    go_enter Tryd.func45, Tryd.ntmps45
    go_wp2_with fail
    refine (known_no f w (by omega)).mono ?_
    rintro e w' ⟨rfl, rfl⟩
    go_wp2
    go_ret
    exact ⟨ret_int H.out.symm, rfl⟩
theorem iTwoPower (f : Int) (w : World) (ht : Tab w) : Calls Tryd.prog 47 #[.int .i64 f] w fun e w' => e = .returned (.int .i64 (T f)) ∧ w = w' := by
  by_cases hk : 0 ≤ f ∧ f ≤ 8
  · obtain ⟨h0, h8⟩ := hk
    go_enter Tryd.func47, Tryd.ntmps47
    go_wp2_with fail
    refine (known_yes f w h0 h8).mono ?_
    rintro e w' ⟨rfl, rfl⟩
    go_wp2_with fail
    refine (twoPower_c f w ht h0 h8).mono ?_
    rintro e w' ⟨rfl, rfl⟩
    go_wp2
    go_ret
    exact ⟨rfl, rfl⟩
  · have H := Lib.hid (T_off (f := f) (by omega))
    go_enter Tryd.func47, Tryd.ntmps47
    go_wp2_with fail
    refine (known_no f w (by omega)).mono ?_
    rintro e w' ⟨rfl, rfl⟩
    go_wp2
    go_ret
    exact ⟨ret_int H.out.symm, rfl⟩
theorem iReduce (f x : Int) (w : World) (ht : Tab w) : Calls Tryd.prog 48 #[.int .i64 f, .int .i64 x] w fun e w' => e = .returned (.int .i64 (mReduce f x)) ∧ w = w' := by
  by_cases hk : 0 ≤ f ∧ f ≤ 8
  · have H := Lib.hid (show mReduce f x = _ from if_pos hk)
    obtain ⟨h0, h8⟩ := hk
    have hp := P_bd h0 h8
    go_enter Tryd.func48, Tryd.ntmps48
    go_wp2_with fail
    refine (known_yes f w h0 h8).mono ?_
    rintro e w' ⟨rfl, rfl⟩
    go_wp2_with fail
    refine (reduce_c f x w ht h0 h8).mono ?_
    rintro e w' ⟨rfl, rfl⟩
    go_wp2
    go_ret
    exact ⟨ret_int (H.out.symm), rfl⟩
  · have H := Lib.hid (show mReduce f x = _ from if_neg hk)
    go_enter Tryd.func48, Tryd.ntmps48
    go_wp2_with fail
    refine (known_no f w (by omega)).mono ?_
    rintro e w' ⟨rfl, rfl⟩
    go_wp2
    go_ret
    exact ⟨ret_int H.out.symm, rfl⟩
theorem iAdd (f a b : Int) (w : World) (ht : Tab w) : Calls Tryd.prog 27 #[.int .i64 f, .int .i64 a, .int .i64 b] w fun e w' => e = .returned (.int .i64 (mAdd f a b)) ∧ w = w' := by
  by_cases hk : 0 ≤ f ∧ f ≤ 8
  · have H := Lib.hid (show mAdd f a b = _ from if_pos hk)
    obtain ⟨h0, h8⟩ := hk
    have hp := P_bd h0 h8
    have ba := RS_bd (x := a) (m := P f) (by omega)
    have bb := RS_bd (x := b) (m := P f) (by omega)
    go_enter Tryd.func27, Tryd.ntmps27
    go_wp2_with fail
    refine (known_yes f w h0 h8).mono ?_
    rintro e w' ⟨rfl, rfl⟩
    go_wp2_with fail
    refine (reduce_c f a w ht h0 h8).mono ?_
    rintro e w' ⟨rfl, rfl⟩
    go_wp2_with fail
    refine (reduce_c f b w ht h0 h8).mono ?_
    rintro e w' ⟨rfl, rfl⟩
    go_wp2_with fail
    refine (add_c f (RS a (P f)) (RS b (P f)) w ht h0 h8 ba.1 ba.2 bb.1 bb.2).mono ?_
    rintro e w' ⟨rfl, rfl⟩
    go_wp2
    go_ret
    exact ⟨ret_int ((RS_add a b (P f)).trans H.out.symm), rfl⟩
  · have H := Lib.hid (show mAdd f a b = _ from if_neg hk)
    go_enter Tryd.func27, Tryd.ntmps27
    go_wp2_with fail
    refine (known_no f w (by omega)).mono ?_
    rintro e w' ⟨rfl, rfl⟩
    go_wp2
    go_ret
    exact ⟨ret_int H.out.symm, rfl⟩
theorem iSub (f a b : Int) (w : World) (ht : Tab w) : Calls Tryd.prog 30 #[.int .i64 f, .int .i64 a, .int .i64 b] w fun e w' => e = .returned (.int .i64 (mSub f a b)) ∧ w = w' := by
  by_cases hk : 0 ≤ f ∧ f ≤ 8
  · have H := Lib.hid (show mSub f a b = _ from if_pos hk)
    obtain ⟨h0, h8⟩ := hk
    have hp := P_bd h0 h8
    have ba := RS_bd (x := a) (m := P f) (by omega)
    have bb := RS_bd (x := b) (m := P f) (by omega)
    go_enter Tryd.func30, Tryd.ntmps30
    go_wp2_with fail
    refine (known_yes f w h0 h8).mono ?_
    rintro e w' ⟨rfl, rfl⟩
    go_wp2_with fail
    refine (reduce_c f a w ht h0 h8).mono ?_
    rintro e w' ⟨rfl, rfl⟩
    go_wp2_with fail
    refine (reduce_c f b w ht h0 h8).mono ?_
    rintro e w' ⟨rfl, rfl⟩
    go_wp2_with fail
    refine (sub_c f (RS a (P f)) (RS b (P f)) w ht h0 h8 ba.1 ba.2 bb.1 bb.2).mono ?_
    rintro e w' ⟨rfl, rfl⟩
    go_wp2
    go_ret
    exact ⟨ret_int ((RS_sub a b (P f)).trans H.out.symm), rfl⟩
  · have H := Lib.hid (show mSub f a b = _ from if_neg hk)
    go_enter Tryd.func30, Tryd.ntmps30
    go_wp2_with fail
    refine (known_no f w (by omega)).mono ?_
    rintro e w' ⟨rfl, rfl⟩
    go_wp2
    go_ret
    exact ⟨ret_int H.out.symm, rfl⟩
theorem iMul (f a b : Int) (w : World) (ht : Tab w) : Calls Tryd.prog 26 #[.int .i64 f, .int .i64 a, .int .i64 b] w fun e w' => e = .returned (.int .i64 (mMul f a b)) ∧ w = w' := by
  by_cases hk : 0 ≤ f ∧ f ≤ 8
  · have H := Lib.hid (show mMul f a b = _ from if_pos hk)
    obtain ⟨h0, h8⟩ := hk
    have hp := P_bd h0 h8
    have ba := RS_bd (x := a) (m := P f) (by omega)
    have bb := RS_bd (x := b) (m := P f) (by omega)
    go_enter Tryd.func26, Tryd.ntmps26
    go_wp2_with fail
    refine (known_yes f w h0 h8).mono ?_
    rintro e w' ⟨rfl, rfl⟩
    go_wp2_with fail
    refine (reduce_c f a w ht h0 h8).mono ?_
    rintro e w' ⟨rfl, rfl⟩
    go_wp2_with fail
    refine (reduce_c f b w ht h0 h8).mono ?_
    rintro e w' ⟨rfl, rfl⟩
    go_wp2_with fail
    refine (mul_c f (RS a (P f)) (RS b (P f)) w ht h0 h8 ba.1 ba.2 bb.1 bb.2).mono ?_
    rintro e w' ⟨rfl, rfl⟩
    go_wp2
    go_ret
    exact ⟨ret_int ((RS_mul a b (P f)).trans H.out.symm), rfl⟩
  · have H := Lib.hid (show mMul f a b = _ from if_neg hk)
    go_enter Tryd.func26, Tryd.ntmps26
    go_wp2_with fail
    refine (known_no f w (by omega)).mono ?_
    rintro e w' ⟨rfl, rfl⟩
    go_wp2
    go_ret
    exact ⟨ret_int H.out.symm, rfl⟩
theorem pow0_c (e : Int) (w : World) : Calls Tryd.prog 68 #[.int .i64 e] w fun e' w' => e' = .returned (.int .i64 (pow0 e)) ∧ w = w' := by
  by_cases h1 : e < 0
  · have H := Lib.hid (show pow0 e = _ from if_pos h1)
    go_enter Tryd.func68, Tryd.ntmps68
    go_wp2
    go_ret
    exact ⟨ret_int H.out.symm, rfl⟩
  · by_cases h2 : e = 0
    · subst h2
      go_enter Tryd.func68, Tryd.ntmps68
      go_wp2
      go_ret
      exact ⟨ret_int (by decide), rfl⟩
    · have H := Lib.hid (show pow0 e = 0 by unfold pow0; rw [if_neg h1, if_neg h2])
      have hb : (e == 0) = false := by simpa using h2
      clear h2
      go_enter Tryd.func68, Tryd.ntmps68
      go_wp2
      go_ret
      exact ⟨ret_int H.out.symm, rfl⟩
theorem iPower (f a e : Int) (w : World) (ht : Tab w) : Calls Tryd.prog 34 #[.int .i64 f, .int .i64 a, .int .i64 e] w fun e' w' => e' = .returned (.int .i64 (mPower f a e)) ∧ w = w' := by
  by_cases hk : 0 ≤ f ∧ f ≤ 8
  · have H := Lib.hid (show mPower f a e = _ from if_pos hk)
    obtain ⟨h0, h8⟩ := hk
    have hp := P_bd h0 h8
    have ba := RS_bd (x := a) (m := P f) (by omega)
    have be := RS_bd (x := e) (m := P f - 1) (by omega)
    by_cases hz : RS a (P f) = 0
    · have H2 := Lib.hid (H.out.trans (if_pos hz))
      have hb : (RS a (P f) == 0) = true := by simpa using hz
      clear hz
      go_enter Tryd.func34, Tryd.ntmps34
      go_wp2_with fail
      refine (known_yes f w h0 h8).mono ?_
      rintro e w' ⟨rfl, rfl⟩
      go_wp2_with fail
      refine (reduce_c f a w ht h0 h8).mono ?_
      rintro e w' ⟨rfl, rfl⟩
      go_wp2_with fail
      refine (pow0_c e w).mono ?_
      rintro e w' ⟨rfl, rfl⟩
      go_wp2
      go_ret
      exact ⟨ret_int H2.out.symm, rfl⟩
    · have H2 := Lib.hid (H.out.trans (if_neg hz))
      have hb : (RS a (P f) == 0) = false := by simpa using hz
      clear hz
      go_enter Tryd.func34, Tryd.ntmps34
      go_wp2_with fail
      refine (known_yes f w h0 h8).mono ?_
      rintro e w' ⟨rfl, rfl⟩
      go_wp2_with fail
      refine (reduce_c f a w ht h0 h8).mono ?_
      rintro e w' ⟨rfl, rfl⟩
      go_wp2_with fail
      refine (prime_c f w ht h0 h8).mono ?_
      rintro e w' ⟨rfl, rfl⟩
      go_wp2_with fail
      refine (residue_c e (P f - 1) w (by omega) (by omega)).mono ?_
      rintro e w' ⟨rfl, rfl⟩
      go_wp2_with fail
      refine (power_c f (RS a (P f)) (RS e (P f - 1)) w ht h0 h8 ba.1 ba.2 be.1 (by omega)).mono ?_
      rintro e w' ⟨rfl, rfl⟩
      go_wp2
      go_ret
      exact ⟨ret_int H2.out.symm, rfl⟩
  · have H := Lib.hid (show mPower f a e = _ from if_neg hk)
    go_enter Tryd.func34, Tryd.ntmps34
    go_wp2_with fail
    refine (known_no f w (by omega)).mono ?_
    rintro e w' ⟨rfl, rfl⟩
    go_wp2
    go_ret
    exact ⟨ret_int H.out.symm, rfl⟩
theorem iInverse (f a : Int) (w : World) (ht : Tab w) : Calls Tryd.prog 33 #[.int .i64 f, .int .i64 a] w fun e' w' => e' = .returned (.int .i64 (mPower f a (-1))) ∧ w = w' := by
  go_enter Tryd.func33, Tryd.ntmps33
  go_wp2_with fail
  refine (iPower f a (-1) w ht).mono ?_
  rintro e w' ⟨rfl, rfl⟩
  go_wp2
  go_ret
  exact ⟨rfl, rfl⟩
theorem sModulus (f : Int) (w : World) : Calls Tryd.prog 37 #[.int .i64 f] w fun e w' => e = .returned (.int .i64 (P f)) ∧ w = w' := by
  by_cases hk : 0 ≤ f ∧ f ≤ 8
  · obtain ⟨h0, h8⟩ := hk
    rcases nine h0 h8 with rfl | rfl | rfl | rfl | rfl | rfl | rfl | rfl | rfl
    all_goals
      go_enter Tryd.func37, Tryd.ntmps37
      go_wp2
      go_ret
      exact ⟨ret_int (by decide), rfl⟩
  · have H := Lib.hid (P_off (f := f) (by omega))
    have e0 : (f == 0) = false := by simp; omega
    have e1 : (f == 1) = false := by simp; omega
    have e2 : (f == 2) = false := by simp; omega
    have e3 : (f == 3) = false := by simp; omega
    have e4 : (f == 4) = false := by simp; omega
    have e5 : (f == 5) = false := by simp; omega
    have e6 : (f == 6) = false := by simp; omega
    have e7 : (f == 7) = false := by simp; omega
    have e8 : (f == 8) = false := by simp; omega
    go_enter Tryd.func37, Tryd.ntmps37
    go_wp2
    go_ret
    exact ⟨ret_int H.out.symm, rfl⟩
theorem sGenerator (f : Int) (w : World) : Calls Tryd.prog 44 #[.int .i64 f] w fun e w' => e = .returned (.int .i64 (G f)) ∧ w = w' := by
  by_cases hk : 0 ≤ f ∧ f ≤ 8
  · obtain ⟨h0, h8⟩ := hk
    rcases nine h0 h8 with rfl | rfl | rfl | rfl | rfl | rfl | rfl | rfl | rfl
    all_goals
      go_enter Tryd.func44, Tryd.ntmps44
      go_wp2
      go_ret
      exact ⟨ret_int (by decide), rfl⟩
  · have H := Lib.hid (G_off (f := f) (by omega))
    have e0 : (f == 0) = false := by simp; omega
    have e1 : (f == 1) = false := by simp; omega
    have e2 : (f == 2) = false := by simp; omega
    have e3 : (f == 3) = false := by simp; omega
    have e4 : (f == 4) = false := by simp; omega
    have e5 : (f == 5) = false := by simp; omega
    have e6 : (f == 6) = false := by simp; omega
    have e7 : (f == 7) = false := by simp; omega
    have e8 : (f == 8) = false := by simp; omega
    go_enter Tryd.func44, Tryd.ntmps44
    go_wp2
    go_ret
    exact ⟨ret_int H.out.symm, rfl⟩
theorem sReduce (f x : Int) (w : World) : Calls Tryd.prog 31 #[.int .i64 f, .int .i64 x] w fun e w' => e = .returned (.int .i64 (mReduce f x)) ∧ w = w' := by
  by_cases hk : 0 ≤ f ∧ f ≤ 8
  · have H := Lib.hid (show mReduce f x = _ from if_pos hk)
    obtain ⟨h0, h8⟩ := hk
    have hp := P_bd h0 h8
    have b1 := Int.lt_tmod_of_pos x (show 0 < P f by omega)
    have b2 := Int.tmod_lt_of_pos x (show 0 < P f by omega)
    have hz : (P f == 0) = false := by simp; omega
    go_enter Tryd.func31, Tryd.ntmps31
    go_wp2_with fail
    refine (sModulus f w).mono ?_
    rintro e w' ⟨rfl, rfl⟩
    go_wp2
    · go_ret
      exact ⟨ret_int ((rs_neg (by omega) ‹_›).trans H.out.symm), rfl⟩
    · go_ret
      exact ⟨ret_int ((rs_pos (by omega) ‹_›).trans H.out.symm), rfl⟩
  · have H := Lib.hid (show mReduce f x = _ from if_neg hk)
    have hz : (P f == 0) = true := by simp [P_off (f := f) (by omega)]
    go_enter Tryd.func31, Tryd.ntmps31
    go_wp2_with fail
    refine (sModulus f w).mono ?_
    rintro e w' ⟨rfl, rfl⟩
    go_wp2
    go_ret
    exact ⟨ret_int H.out.symm, rfl⟩
theorem sAdd (f a b : Int) (w : World) : Calls Tryd.prog 29 #[.int .i64 f, .int .i64 a, .int .i64 b] w fun e w' => e = .returned (.int .i64 (mAdd f a b)) ∧ w = w' := by
  by_cases hk : 0 ≤ f ∧ f ≤ 8
  · have H := Lib.hid (show mAdd f a b = _ from if_pos hk)
    have Ra := Lib.hid (show mReduce f a = _ from if_pos hk)
    have Rb := Lib.hid (show mReduce f b = _ from if_pos hk)
    have Rc := Lib.hid (show mReduce f (RS a (P f) + RS b (P f)) = _ from if_pos hk)
    obtain ⟨h0, h8⟩ := hk
    have hp := P_bd h0 h8
    have ba := RS_bd (x := a) (m := P f) (by omega)
    have bb := RS_bd (x := b) (m := P f) (by omega)
    have hz : (P f == 0) = false := by simp; omega
    go_enter Tryd.func29, Tryd.ntmps29
    go_wp2_with fail
    refine (sModulus f w).mono ?_
    rintro e w' ⟨rfl, rfl⟩
    go_wp2_with fail
    refine (sReduce f a w).mono ?_
    rintro e w' ⟨rfl, rfl⟩
    rw [Ra.out]
    go_wp2_with fail
    refine (sReduce f b w).mono ?_
    rintro e w' ⟨rfl, rfl⟩
    rw [Rb.out]
    go_wp2_with fail
    refine (sReduce f (RS a (P f) + RS b (P f)) w).mono ?_
    rintro e w' ⟨rfl, rfl⟩
    go_wp2
    go_ret
    exact ⟨ret_int ((Rc.out.trans (RS_add a b (P f))).trans H.out.symm), rfl⟩
  · have H := Lib.hid (show mAdd f a b = _ from if_neg hk)
    have hz : (P f == 0) = true := by simp [P_off (f := f) (by omega)]
    go_enter Tryd.func29, Tryd.ntmps29
    go_wp2_with fail
    refine (sModulus f w).mono ?_
    rintro e w' ⟨rfl, rfl⟩
    go_wp2
    go_ret
    exact ⟨ret_int H.out.symm, rfl⟩
theorem sSub (f a b : Int) (w : World) : Calls Tryd.prog 49 #[.int .i64 f, .int .i64 a, .int .i64 b] w fun e w' => e = .returned (.int .i64 (mSub f a b)) ∧ w = w' := by
  by_cases hk : 0 ≤ f ∧ f ≤ 8
  · have H := Lib.hid (show mSub f a b = _ from if_pos hk)
    have Ra := Lib.hid (show mReduce f a = _ from if_pos hk)
    have Rb := Lib.hid (show mReduce f b = _ from if_pos hk)
    have Rc := Lib.hid (show mReduce f (RS a (P f) - RS b (P f)) = _ from if_pos hk)
    obtain ⟨h0, h8⟩ := hk
    have hp := P_bd h0 h8
    have ba := RS_bd (x := a) (m := P f) (by omega)
    have bb := RS_bd (x := b) (m := P f) (by omega)
    have hz : (P f == 0) = false := by simp; omega
    go_enter Tryd.func49, Tryd.ntmps49
    go_wp2_with fail
    refine (sModulus f w).mono ?_
    rintro e w' ⟨rfl, rfl⟩
    go_wp2_with fail
    refine (sReduce f a w).mono ?_
    rintro e w' ⟨rfl, rfl⟩
    rw [Ra.out]
    go_wp2_with fail
    refine (sReduce f b w).mono ?_
    rintro e w' ⟨rfl, rfl⟩
    rw [Rb.out]
    go_wp2_with fail
    refine (sReduce f (RS a (P f) - RS b (P f)) w).mono ?_
    rintro e w' ⟨rfl, rfl⟩
    go_wp2
    go_ret
    exact ⟨ret_int ((Rc.out.trans (RS_sub a b (P f))).trans H.out.symm), rfl⟩
  · have H := Lib.hid (show mSub f a b = _ from if_neg hk)
    have hz : (P f == 0) = true := by simp [P_off (f := f) (by omega)]
    go_enter Tryd.func49, Tryd.ntmps49
    go_wp2_with fail
    refine (sModulus f w).mono ?_
    rintro e w' ⟨rfl, rfl⟩
    go_wp2
    go_ret
    exact ⟨ret_int H.out.symm, rfl⟩
theorem sMul (f a b : Int) (w : World) : Calls Tryd.prog 28 #[.int .i64 f, .int .i64 a, .int .i64 b] w fun e w' => e = .returned (.int .i64 (mMul f a b)) ∧ w = w' := by
  by_cases hk : 0 ≤ f ∧ f ≤ 8
  · have H := Lib.hid (show mMul f a b = _ from if_pos hk)
    have Ra := Lib.hid (show mReduce f a = _ from if_pos hk)
    have Rb := Lib.hid (show mReduce f b = _ from if_pos hk)
    have Rc := Lib.hid (show mReduce f (RS a (P f) * RS b (P f)) = _ from if_pos hk)
    obtain ⟨h0, h8⟩ := hk
    have hp := P_bd h0 h8
    have ba := RS_bd (x := a) (m := P f) (by omega)
    have bb := RS_bd (x := b) (m := P f) (by omega)
    have hz : (P f == 0) = false := by simp; omega
    obtain ⟨q1, q2⟩ := prod_bd h0 h8 ba.1 ba.2 bb.1 bb.2
    go_enter Tryd.func28, Tryd.ntmps28
    go_wp2_with fail
    refine (sModulus f w).mono ?_
    rintro e w' ⟨rfl, rfl⟩
    go_wp2_with fail
    refine (sReduce f a w).mono ?_
    rintro e w' ⟨rfl, rfl⟩
    rw [Ra.out]
    go_wp2_with fail
    refine (sReduce f b w).mono ?_
    rintro e w' ⟨rfl, rfl⟩
    rw [Rb.out]
    go_wp2_with fail
    refine (sReduce f (RS a (P f) * RS b (P f)) w).mono ?_
    rintro e w' ⟨rfl, rfl⟩
    go_wp2
    go_ret
    exact ⟨ret_int ((Rc.out.trans (RS_mul a b (P f))).trans H.out.symm), rfl⟩
  · have H := Lib.hid (show mMul f a b = _ from if_neg hk)
    have hz : (P f == 0) = true := by simp [P_off (f := f) (by omega)]
    go_enter Tryd.func28, Tryd.ntmps28
    go_wp2_with fail
    refine (sModulus f w).mono ?_
    rintro e w' ⟨rfl, rfl⟩
    go_wp2
    go_ret
    exact ⟨ret_int H.out.symm, rfl⟩
end Go.Proofs.YtpbncphbcnjlgaaDoor
