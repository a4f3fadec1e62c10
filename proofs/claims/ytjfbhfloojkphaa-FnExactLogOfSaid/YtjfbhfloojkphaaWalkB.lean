/-
  The walks of the exported functions on integers, the program's and the specification's: both answer the same plain function of their arguments.
-/
import Derived.Test.YtjfbhfloojkphaaWalkA
namespace Go.Proofs.Ytjfbhfloojkphaa
open Go.RowKit
theorem sModulus (f : Int) (w : World) : Calls Try.prog 28 #[.int .i64 f] w fun e w' => e = .returned (.int .i64 (P f)) ∧ w = w' := by
  by_cases hk : 0 ≤ f ∧ f ≤ 8
  · obtain ⟨h0, h8⟩ := hk
    rcases nine h0 h8 with rfl | rfl | rfl | rfl | rfl | rfl | rfl | rfl | rfl
    all_goals
      go_enter Try.func28, Try.ntmps28
      go_wp2
      go_ret
      exact ⟨ret_int (by decide), rfl⟩
  · have H := Lib.hid (P_off (f := f) (by omega))
    have e0 : (f == 0) = false := by simp; omega
    have e1 : (f == 1) = false := by simp; omega
    have e2 : (f == 2) = false := by simp; omega
    have e3 : (f == 3) = false := by simp; omega
    have e4 : (f == 4) = false := by simp; omega
    have e5 : (f == 5) = false := by simp; omega
    have e6 : (f == 6) = false := by simp; omega
    have e7 : (f == 7) = false := by simp; omega
    have e8 : (f == 8) = false := by simp; omega
    go_enter Try.func28, Try.ntmps28
    go_wp2
    go_ret
    exact ⟨ret_int H.out.symm, rfl⟩
end Go.Proofs.Ytjfbhfloojkphaa
