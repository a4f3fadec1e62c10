/-
  Logarithms and reversed bits, the program's and the specification's: both answer the same plain function of their arguments.
-/
import Derived.Test.YtjfbhfloojkphaaWalkC
import Derived.Test.YtjfbhfloojkphaaNumR
import Derived.Deep.QuietTactic
import Derived.BigQuiet
namespace Go.Proofs.Ytjfbhfloojkphaa
open Go.RowKit
theorem two_cast (k : Nat) : two (k : Int) = 2 ^ k := rfl
theorem log_two {k : Nat} (h : k ≤ 9) : mLog (two k) = k := log_at h
theorem shl_nat {k : Nat} (h : k ≤ 26) : wrap64 (2 ^ k) = two (k : Int) := by
  have := two_bd (k := (k : Int)) (by omega) (by omega)
  exact IntWalk.wrap64_in _ (by rw [two_cast] at this; omega)
set_option maxHeartbeats 400000 in
theorem sLogOf (n : Int) (w : World) : Calls Try.prog 9 #[.int .i64 n] w fun e w' => e = .returned (.int .i64 (mLog n)) ∧ w = w' := by
  go_enter Try.func9, Try.ntmps9
  go_wp2_with fail
  go_loop [3] (fun v => ∃ k : Nat, v = .int .i64 k ∧ k ≤ 10 ∧ Hid (∀ j : Nat, j < k → n ≠ two j)) (fun v => 10 - (intOf v).toNat)
  case atStart => exact ⟨0, rfl, by omega, Lib.hid (fun j hj => by omega)⟩
  case round =>
    obtain ⟨k, rfl, hk, H⟩ := hrel
    by_cases h9 : k ≤ 9
    · have ek := shl_nat (k := k) (by omega)
      by_cases he : n = two k
      · have e1 : (n == two k) = true := by simpa using he
        have HL : Hid (mLog n = k) := Lib.hid (by rw [he]; exact log_two h9)
        clear he
        go_wp2
        go_ret
        exact ⟨ret_int HL.out.symm, rfl⟩
      · have e1 : (n == two k) = false := by simpa using he
        have H2 : Hid (∀ j : Nat, j < k + 1 → n ≠ two j) := Lib.hid (fun j hj => by
          by_cases hjk : j = k
          · subst hjk; exact he
          · exact H.out j (by omega))
        clear he
        go_wp2
        go_round
        case rel => exact ⟨k + 1, by go_num, by omega, H2⟩
        case measure => simp [intOf]; omega
    · obtain rfl : k = 10 := by omega
      have HL : Hid (mLog n = -1) := Lib.hid (log_off (fun j hj => H.out j (by omega)))
      go_wp2
      go_ret
      exact ⟨ret_int HL.out.symm, rfl⟩
set_option maxHeartbeats 400000 in
theorem iLogOf (n : Int) (w : World) : Calls Try.prog 13 #[.int .i64 n] w fun e w' => e = .returned (.int .i64 (mLog n)) ∧ w = w' := by
  go_enter Try.func13, Try.ntmps13
  go_wp2_with fail
  go_loop [3, 4] (fun _ v => ∃ k : Nat, v = .int .i64 k ∧ k ≤ 10 ∧ Hid (∀ j : Nat, j < k → n ≠ two j)) (fun _ v => 10 - (intOf v).toNat)
  case atStart => exact ⟨0, rfl, by omega, Lib.hid (fun j hj => by omega)⟩
  case round =>
    obtain ⟨k, rfl, hk, H⟩ := hrel
    by_cases h9 : k ≤ 9
    · have ek := shl_nat (k := k) (by omega)
      by_cases he : n = two k
      · have e1 : (n == two k) = true := by simpa using he
        have HL : Hid (mLog n = k) := Lib.hid (by rw [he]; exact log_two h9)
        clear he
        go_wp2
        go_ret
        exact ⟨ret_int HL.out.symm, rfl⟩
      · have e1 : (n == two k) = false := by simpa using he
        have H2 : Hid (∀ j : Nat, j < k + 1 → n ≠ two j) := Lib.hid (fun j hj => by
          by_cases hjk : j = k
          · subst hjk; exact he
          · exact H.out j (by omega))
        clear he
        go_wp2
        go_round
        case rel => exact ⟨k + 1, by go_num, by omega, H2⟩
        case measure => simp [intOf]; omega
    · obtain rfl : k = 10 := by omega
      have HL : Hid (mLog n = -1) := Lib.hid (log_off (fun j hj => H.out j (by omega)))
      go_wp2
      go_ret
      exact ⟨ret_int HL.out.symm, rfl⟩
end Go.Proofs.Ytjfbhfloojkphaa
