/-
  The walks of the exported functions on integers, the program's and the specification's: both answer the same plain function of their arguments.
-/
import Derived.Test.YtcenglbcibkniaaDoorWalkA
namespace Go.Proofs.YtcenglbcibkniaaDoor
open Go.RowKit
theorem sModulus (f : Int) (w : World) : Calls Tryd.prog 18 #[.int .i64 f] w fun e w' => e = .returned (.int .i64 (P f)) ∧ w = w' := by
  by_cases hk : 0 ≤ f ∧ f ≤ 8
  · obtain ⟨h0, h8⟩ := hk
    rcases nine h0 h8 with rfl | rfl | rfl | rfl | rfl | rfl | rfl | rfl | rfl
    all_goals
      go_enter Tryd.func18, Tryd.ntmps18
      go_wp2
      go_ret
      exact ⟨ret_int (by decide), rfl⟩
  · have H := Lib.hid (P_off (f := f) (by omega))
    have e0 : (f == 0) = false := by simp; omega
    have e1 : (f == 1) = false := by simp; omega
    have e2 : (f == 2) = false := by simp; omega
    have e3 : (f == 3) = false := by simp; omega
    have e4 : (f == 4) = false := by simp; omega
    have e5 : (f == 5) = false := by simp; omega
    have e6 : (f == 6) = false := by simp; omega
    have e7 : (f == 7) = false := by simp; omega
    have e8 : (f == 8) = false := by simp; omega
    go_enter Tryd.func18, Tryd.ntmps18
    go_wp2
    go_ret
    exact ⟨ret_int H.out.symm, rfl⟩
theorem sReduce (f x : Int) (w : World) : Calls Tryd.prog 50 #[.int .i64 f, .int .i64 x] w fun e w' => e = .returned (.int .i64 (mReduce f x)) ∧ w = w' := by
  by_cases hk : 0 ≤ f ∧ f ≤ 8
  · have H := Lib.hid (show mReduce f x = _ from if_pos hk)
    obtain ⟨h0, h8⟩ := hk
    have hp := P_bd h0 h8
    have b1 := Int.lt_tmod_of_pos x (show 0 < P f by omega)
    have b2 := Int.tmod_lt_of_pos x (show 0 < P f by omega)
    have hz : (P f == 0) = false := by simp; omega
    go_enter Tryd.func50, Tryd.ntmps50
    go_wp2_with fail
    refine (sModulus f w).mono ?_
    rintro e w' ⟨rfl, rfl⟩
    go_wp2
    · go_ret
      exact ⟨ret_int ((rs_neg (by omega) ‹_›).trans H.out.symm), rfl⟩
    · go_ret
      exact ⟨ret_int ((rs_pos (by omega) ‹_›).trans H.out.symm), rfl⟩
  · have H := Lib.hid (show mReduce f x = _ from if_neg hk)
    have hz : (P f == 0) = true := by simp [P_off (f := f) (by omega)]
    go_enter Tryd.func50, Tryd.ntmps50
    go_wp2_with fail
    refine (sModulus f w).mono ?_
    rintro e w' ⟨rfl, rfl⟩
    go_wp2
    go_ret
    exact ⟨ret_int H.out.symm, rfl⟩
theorem sAdd (f a b : Int) (w : World) : Calls Tryd.prog 51 #[.int .i64 f, .int .i64 a, .int .i64 b] w fun e w' => e = .returned (.int .i64 (mAdd f a b)) ∧ w = w' := by
  by_cases hk : 0 ≤ f ∧ f ≤ 8
  · have H := Lib.hid (show mAdd f a b = _ from if_pos hk)
    have Ra := Lib.hid (show mReduce f a = _ from if_pos hk)
    have Rb := Lib.hid (show mReduce f b = _ from if_pos hk)
    have Rc := Lib.hid (show mReduce f (RS a (P f) + RS b (P f)) = _ from if_pos hk)
    obtain ⟨h0, h8⟩ := hk
    have hp := P_bd h0 h8
    have ba := RS_bd (x := a) (m := P f) (by omega)
    have bb := RS_bd (x := b) (m := P f) (by omega)
    have hz : (P f == 0) = false := by simp; omega
    go_enter Tryd.func51, Tryd.ntmps51
    go_wp2_with fail
    refine (sModulus f w).mono ?_
    rintro e w' ⟨rfl, rfl⟩
    go_wp2_with fail
    refine (sReduce f a w).mono ?_
    rintro e w' ⟨rfl, rfl⟩
    rw [Ra.out]
    go_wp2_with fail
    refine (sReduce f b w).mono ?_
    rintro e w' ⟨rfl, rfl⟩
    rw [Rb.out]
    go_wp2_with fail
    refine (sReduce f (RS a (P f) + RS b (P f)) w).mono ?_
    rintro e w' ⟨rfl, rfl⟩
    go_wp2
    go_ret
    exact ⟨ret_int ((Rc.out.trans (RS_add a b (P f))).trans H.out.symm), rfl⟩
  · have H := Lib.hid (show mAdd f a b = _ from if_neg hk)
    have hz : (P f == 0) = true := by simp [P_off (f := f) (by omega)]
    go_enter Tryd.func51, Tryd.ntmps51
    go_wp2_with fail
    refine (sModulus f w).mono ?_
    rintro e w' ⟨rfl, rfl⟩
    go_wp2
    go_ret
    exact ⟨ret_int H.out.symm, rfl⟩
theorem sSub (f a b : Int) (w : World) : Calls Tryd.prog 66 #[.int .i64 f, .int .i64 a, .int .i64 b] w fun e w' => e = .returned (.int .i64 (mSub f a b)) ∧ w = w' := by
  by_cases hk : 0 ≤ f ∧ f ≤ 8
  · have H := Lib.hid (show mSub f a b = _ from if_pos hk)
    have Ra := Lib.hid (show mReduce f a = _ from if_pos hk)
    have Rb := Lib.hid (show mReduce f b = _ from if_pos hk)
    have Rc := Lib.hid (show mReduce f (RS a (P f) - RS b (P f)) = _ from if_pos hk)
    obtain ⟨h0, h8⟩ := hk
    have hp := P_bd h0 h8
    have ba := RS_bd (x := a) (m := P f) (by omega)
    have bb := RS_bd (x := b) (m := P f) (by omega)
    have hz : (P f == 0) = false := by simp; omega
    go_enter Tryd.func66, Tryd.ntmps66
    go_wp2_with fail
    refine (sModulus f w).mono ?_
    rintro e w' ⟨rfl, rfl⟩
    go_wp2_with fail
    refine (sReduce f a w).mono ?_
    rintro e w' ⟨rfl, rfl⟩
    rw [Ra.out]
    go_wp2_with fail
    refine (sReduce f b w).mono ?_
    rintro e w' ⟨rfl, rfl⟩
    rw [Rb.out]
    go_wp2_with fail
    refine (sReduce f (RS a (P f) - RS b (P f)) w).mono ?_
    rintro e w' ⟨rfl, rfl⟩
    go_wp2
    go_ret
    exact ⟨ret_int ((Rc.out.trans (RS_sub a b (P f))).trans H.out.symm), rfl⟩
  · have H := Lib.hid (show mSub f a b = _ from if_neg hk)
    have hz : (P f == 0) = true := by simp [P_off (f := f) (by omega)]
    go_enter Tryd.func66, Tryd.ntmps66
    go_wp2_with fail
    refine (sModulus f w).mono ?_
    rintro e w' ⟨rfl, rfl⟩
    go_wp2
    go_ret
    exact ⟨ret_int H.out.symm, rfl⟩
theorem sMul (f a b : Int) (w : World) : Calls Tryd.prog 23 #[.int .i64 f, .int .i64 a, .int .i64 b] w fun e w' => e = .returned (.int .i64 (mMul f a b)) ∧ w = w' := by
  by_cases hk : 0 ≤ f ∧ f ≤ 8
  · have H := Lib.hid (show mMul f a b = _ from if_pos hk)
    have Ra := Lib.hid (show mReduce f a = _ from if_pos hk)
    have Rb := Lib.hid (show mReduce f b = _ from if_pos hk)
    have Rc := Lib.hid (show mReduce f (RS a (P f) * RS b (P f)) = _ from if_pos hk)
    obtain ⟨h0, h8⟩ := hk
    have hp := P_bd h0 h8
    have ba := RS_bd (x := a) (m := P f) (by omega)
    have bb := RS_bd (x := b) (m := P f) (by omega)
    have hz : (P f == 0) = false := by simp; omega
    obtain ⟨q1, q2⟩ := prod_bd h0 h8 ba.1 ba.2 bb.1 bb.2
    go_enter Tryd.func23, Tryd.ntmps23
    go_wp2_with fail
    refine (sModulus f w).mono ?_
    rintro e w' ⟨rfl, rfl⟩
    go_wp2_with fail
    refine (sReduce f a w).mono ?_
    rintro e w' ⟨rfl, rfl⟩
    rw [Ra.out]
    go_wp2_with fail
    refine (sReduce f b w).mono ?_
    rintro e w' ⟨rfl, rfl⟩
    rw [Rb.out]
    go_wp2_with fail
    refine (sReduce f (RS a (P f) * RS b (P f)) w).mono ?_
    rintro e w' ⟨rfl, rfl⟩
    go_wp2
    go_ret
    exact ⟨ret_int ((Rc.out.trans (RS_mul a b (P f))).trans H.out.symm), rfl⟩
  · have H := Lib.hid (show mMul f a b = _ from if_neg hk)
    have hz : (P f == 0) = true := by simp [P_off (f := f) (by omega)]
    go_enter Tryd.func23, Tryd.ntmps23
    go_wp2_with fail
    refine (sModulus f w).mono ?_
    rintro e w' ⟨rfl, rfl⟩
    go_wp2
    go_ret
    exact ⟨ret_int H.out.symm, rfl⟩
end Go.Proofs.YtcenglbcibkniaaDoor
