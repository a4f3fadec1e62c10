/-
  The walks of the exported functions on integers, the program's and the specification's: both answer the same plain function of their arguments.
-/
import Derived.Test.YtajlhgiihneeiaaDoorWalkA
namespace Go.Proofs.YtajlhgiihneeiaaDoor
open Go.RowKit
theorem sModulus (f : Int) (w : World) : Calls Tryd.prog 23 #[.int .i64 f] w fun e w' => e = .returned (.int .i64 (P f)) ∧ w = w' := by
  by_cases hk : 0 ≤ f ∧ f ≤ 8
  · obtain ⟨h0, h8⟩ := hk
    rcases nine h0 h8 with rfl | rfl | rfl | rfl | rfl | rfl | rfl | rfl | rfl
    all_goals
      go_enter Tryd.func23, Tryd.ntmps23
      go_wp2
      go_ret
      exact ⟨ret_int (by decide), rfl⟩
  · have H := Lib.hid (P_off (f := f) (by omega))
    have e0 : (f == 0) = false := by simp; omega
    have e1 : (f == 1) = false := by simp; omega
    have e2 : (f == 2) = false := by simp; omega
    have e3 : (f == 3) = false := by simp; omega
    have e4 : (f == 4) = false := by simp; omega
    have e5 : (f == 5) = false := by simp; omega
    have e6 : (f == 6) = false := by simp; omega
    have e7 : (f == 7) = false := by simp; omega
    have e8 : (f == 8) = false := by simp; omega
    go_enter Tryd.func23, Tryd.ntmps23
    go_wp2
    go_ret
    exact ⟨ret_int H.out.symm, rfl⟩
theorem sReduce (f x : Int) (w : World) : Calls Tryd.prog 8 #[.int .i64 f, .int .i64 x] w fun e w' => e = .returned (.int .i64 (mReduce f x)) ∧ w = w' := by
  by_cases hk : 0 ≤ f ∧ f ≤ 8
  · have H := Lib.hid (show mReduce f x = _ from if_pos hk)
    obtain ⟨h0, h8⟩ := hk
    have hp := P_bd h0 h8
    have b1 := Int.lt_tmod_of_pos x (show 0 < P f by omega)
    have b2 := Int.tmod_lt_of_pos x (show 0 < P f by omega)
    have hz : (P f == 0) = false := by simp; omega
    go_enter Tryd.func8, Tryd.ntmps8
    go_wp2_with fail
    refine (sModulus f w).mono ?_
    rintro e w' ⟨rfl, rfl⟩
    go_wp2
    · go_ret
      exact ⟨ret_int ((rs_neg (by omega) ‹_›).trans H.out.symm), rfl⟩
    · go_ret
      exact ⟨ret_int ((rs_pos (by omega) ‹_›).trans H.out.symm), rfl⟩
  · have H := Lib.hid (show mReduce f x = _ from if_neg hk)
    have hz : (P f == 0) = true := by simp [P_off (f := f) (by omega)]
    go_enter Tryd.func8, Tryd.ntmps8
    go_wp2_with fail
    refine (sModulus f w).mono ?_
    rintro e w' ⟨rfl, rfl⟩
    go_wp2
    go_ret
    exact ⟨ret_int H.out.symm, rfl⟩
end Go.Proofs.YtajlhgiihneeiaaDoor
