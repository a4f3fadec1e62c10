/-
  Reversed bits, the program's and the specification's: both answer the same plain function of their arguments.
-/
import Derived.Test.YtjfbhfloojkphaaWalkP
namespace Go.Proofs.Ytjfbhfloojkphaa
open Go.RowKit
theorem mRev_on {x : Nat} {k : Nat} (hk : k ≤ 9) (hx : x < 2 ^ k) : mRev x k = (rv x k : Nat) := by
  unfold mRev
  rw [if_pos ⟨⟨by omega, by omega⟩, by omega, by rw [two_cast]; exact_mod_cast hx⟩]
  simp
theorem mRev_off {x k : Int} (h : ¬ ((0 ≤ k ∧ k ≤ 9) ∧ 0 ≤ x ∧ x < two k)) : mRev x k = -1 := if_neg h
theorem rin_yes (x a b : Int) (w : World) (h0 : a ≤ x) (h1 : x ≤ b) : Calls Try.prog 26 #[.int .i64 x, .int .i64 a, .int .i64 b] w fun e w' => e = .returned (.bool true) ∧ w = w' := by
  go_enter Try.func26, Try.ntmps26
  go_wp2
  go_ret
  exact ⟨by simp [*], rfl⟩
theorem rin_no (x a b : Int) (w : World) (h : x < a ∨ b < x) : Calls Try.prog 26 #[.int .i64 x, .int .i64 a, .int .i64 b] w fun e w' => e = .returned (.bool false) ∧ w = w' := by
  by_cases h0 : a ≤ x
  · have hd : decide (a ≤ x) = true := by simpa using h0
    have hd2 : decide (x ≤ b) = false := by simp; omega
    go_enter Try.func26, Try.ntmps26
    go_wp2
    go_ret
    exact ⟨by simp [*], rfl⟩
  · have hd : decide (a ≤ x) = false := by simpa using h0
    go_enter Try.func26, Try.ntmps26
    go_wp2
    go_ret
    exact ⟨by simp [*], rfl⟩
theorem rv_bd {x j k : Nat} (hj : j ≤ k) (hk : k ≤ 9) : rv x j < 512 := by
  have := rv_lt x j
  have : 2 ^ j ≤ 2 ^ 9 := Nat.pow_le_pow_right (by omega) (by omega)
  omega
theorem two_512 {k : Nat} (hk : k ≤ 9) : two (k : Int) ≤ 512 := by
  rcases ten hk with rfl | rfl | rfl | rfl | rfl | rfl | rfl | rfl | rfl | rfl <;> decide
theorem ofInt_nat {x : Nat} (h : x < 1073741824) : (BitVec.ofInt 64 (x : Int)).toNat = x := by
  rw [BitVec.toNat_ofInt]
  have : ((x : Int) % ((2 ^ 64 : Nat) : Int)).toNat = x := by rw [Int.emod_eq_of_lt (by omega) (by omega)]; rfl
  exact this
theorem bits_and1 {x : Nat} (h : x < 1073741824) : bits .and .i64 (x : Int) 1 = ((x % 2 : Nat) : Int) := by
  unfold bits
  show IntKind.i64.wrap ((BitVec.ofInt 64 (x : Int) &&& BitVec.ofInt 64 ((1 : Nat) : Int)).toNat : Int) = _
  rw [BitVec.toNat_and, ofInt_nat h, ofInt_nat (by omega), Nat.and_one_is_mod, IntWalk.i64_in _ (by omega)]
theorem bits_or1 {r b : Nat} (hr : r < 1000000) (hb : b < 2) : bits .or .i64 ((r : Int) * 2) (b : Int) = ((2 * r + b : Nat) : Int) := by
  unfold bits
  show IntKind.i64.wrap ((BitVec.ofInt 64 ((r : Int) * 2) ||| BitVec.ofInt 64 (b : Int)).toNat : Int) = _
  have e : 2 * r + b = 2 * r ||| b := by
    have := Nat.two_pow_add_eq_or_of_lt (b := b) (i := 1) (by omega) r
    simpa using this
  rw [BitVec.toNat_or, show (r : Int) * 2 = ((2 * r : Nat) : Int) by omega, ofInt_nat (by omega), ofInt_nat (by omega), ← e, IntWalk.i64_in _ (by omega)]
theorem half_more (x j : Nat) : x / 2 ^ j / 2 = x / 2 ^ (j + 1) := by rw [Nat.div_div_eq_div_mul, Nat.pow_succ]
theorem rv_step {x j : Nat} (hx : x / 2 ^ j < 1073741824) (hr : rv x j < 1000000) : bits .or .i64 (((rv x j : Nat) : Int) * 2) (bits .and .i64 (((x / 2 ^ j : Nat)) : Int) 1) = ((rv x (j + 1) : Nat) : Int) := by
  rw [bits_and1 hx, bits_or1 hr (by omega), rv]
set_option maxHeartbeats 400000 in
theorem iReverse_on (x k : Nat) (w : World) (hk : k ≤ 9) (hx : x < 2 ^ k) : Calls Try.prog 15 #[.int .i64 x, .int .i64 k] w fun e w' => e = .returned (.int .i64 (rv x k : Nat)) ∧ w = w' := by
  have ek := shl_nat (k := k) (by omega)
  have hx2 : (x : Int) < two k := by rw [two_cast]; exact_mod_cast hx
  have hd : decide (two k ≤ (x : Int)) = false := by simpa using hx2
  have tb := two_bd (k := (k : Int)) (by omega) (by omega)
  have t9 := two_512 hk
  have x9 : x < 512 := by omega
  clear hx
  go_enter Try.func15, Try.ntmps15
  go_wp2_with fail
  clear ek hd tb
  go_loop [0, 5, 23] (fun u v i => ∃ j : Nat, i = .int .i64 j ∧ u = .int .i64 ((x / 2 ^ j : Nat) : Int) ∧ v = .int .i64 ((rv x j : Nat) : Int) ∧ j ≤ k) (fun _ _ i => k - (intOf i).toNat)
  case atStart => exact ⟨0, rfl, by simp, rfl, by omega⟩
  case round =>
    obtain ⟨j, rfl, rfl, rfl, hj⟩ := hrel
    have rb := rv_bd (x := x) hj hk
    have xb : x / 2 ^ j ≤ x := Nat.div_le_self _ _
    by_cases hlt : j < k
    · have H1 := Lib.hid (rv_step (x := x) (j := j) (by omega) (by omega))
      go_wp2
      go_round
      case rel => exact ⟨j + 1, by go_num, vint (by rw [← half_more]; simp), vint (by rw [← H1.out]; simp), by omega⟩
      case measure => simp [intOf]; omega
    · have hd : decide (j < k) = false := by simpa using hlt
      obtain rfl : j = k := by omega
      go_wp2
      go_ret
      exact ⟨rfl, rfl⟩
theorem iReverse_off (x k : Int) (w : World) (h : ¬ ((0 ≤ k ∧ k ≤ 9) ∧ 0 ≤ x ∧ x < two k)) : Calls Try.prog 15 #[.int .i64 x, .int .i64 k] w fun e w' => e = .returned (.int .i64 (-1)) ∧ w = w' := by
  by_cases k0 : k < 0
  · go_enter Try.func15, Try.ntmps15
    go_wp2
    go_ret
    exact ⟨rfl, rfl⟩
  · by_cases k9 : 9 < k
    · go_enter Try.func15, Try.ntmps15
      go_wp2
      go_ret
      exact ⟨rfl, rfl⟩
    · by_cases x0 : x < 0
      · clear h
        go_enter Try.func15, Try.ntmps15
        go_wp2
        go_ret
        exact ⟨rfl, rfl⟩
      · obtain ⟨k, rfl⟩ := Int.eq_ofNat_of_zero_le (show 0 ≤ k by omega)
        have ek := shl_nat (k := k) (by omega)
        have hx2 : two k ≤ x := by omega
        have hd : decide (two k ≤ x) = true := by simpa using hx2
        clear h
        go_enter Try.func15, Try.ntmps15
        go_wp2
        go_ret
        exact ⟨rfl, rfl⟩
theorem iReverse (x k : Int) (w : World) : Calls Try.prog 15 #[.int .i64 x, .int .i64 k] w fun e w' => e = .returned (.int .i64 (mRev x k)) ∧ w = w' := by
  by_cases h : (0 ≤ k ∧ k ≤ 9) ∧ 0 ≤ x ∧ x < two k
  · obtain ⟨⟨k0, k1⟩, x0, x1⟩ := h
    obtain ⟨k, rfl⟩ := Int.eq_ofNat_of_zero_le k0
    obtain ⟨x, rfl⟩ := Int.eq_ofNat_of_zero_le x0
    have hx : x < 2 ^ k := by rw [two_cast] at x1; exact_mod_cast x1
    rw [mRev_on (by omega) hx]
    exact iReverse_on x k w (by omega) hx
  · rw [mRev_off h]
    exact iReverse_off x k w h
theorem two_sub {k i : Nat} (h : i < k) : two ((k - i : Nat) : Int) = 2 * two ((k - 1 - i : Nat) : Int) := by
  rw [show k - i = (k - 1 - i) + 1 by omega, two_cast, two_cast, Int.pow_succ, Int.mul_comm]
/-- What the specification has gathered after i bits. -/
def gath (x k i : Nat) : Int := (rv x i : Int) * two ((k - i : Nat) : Int)
theorem gath_bd {x k i : Nat} (hi : i ≤ k) (hk : k ≤ 9) : 0 ≤ gath x k i ∧ gath x k i ≤ 512 := by
  have h1 := rv_lt x i
  have e : 2 ^ i * 2 ^ (k - i) = 2 ^ k := by rw [← Nat.pow_add]; congr 1; omega
  have h2 : rv x i * 2 ^ (k - i) ≤ 2 ^ i * 2 ^ (k - i) := Nat.mul_le_mul_right _ (by omega)
  have h4 : 2 ^ k ≤ 2 ^ 9 := Nat.pow_le_pow_right (by omega) hk
  have h5 : gath x k i = ((rv x i * 2 ^ (k - i) : Nat) : Int) := by unfold gath; rw [two_cast]; simp
  rw [h5]
  omega
theorem gath_one {x k i : Nat} (hi : i < k) (hb : x / 2 ^ i % 2 = 1) : gath x k i + two ((k - 1 - i : Nat) : Int) = gath x k (i + 1) := by
  unfold gath
  rw [rv, hb, show k - (i + 1) = k - 1 - i by omega, two_sub hi]
  rw [Int.natCast_add, Int.natCast_mul, Int.add_mul, ← Int.mul_assoc, Int.mul_comm (rv x i : Int)]
  simp
theorem gath_zero {x k i : Nat} (hi : i < k) (hb : x / 2 ^ i % 2 = 0) : gath x k i = gath x k (i + 1) := by
  unfold gath
  rw [rv, hb, show k - (i + 1) = k - 1 - i by omega, two_sub hi]
  rw [Nat.add_zero, Int.natCast_mul, ← Int.mul_assoc, Int.mul_comm (rv x i : Int)]
  simp
theorem bit_at (x j : Nat) : ((x : Int) / 2 ^ j).tmod 2 = ((x / 2 ^ j % 2 : Nat) : Int) := by
  have e : (x : Int) / 2 ^ j = ((x / 2 ^ j : Nat) : Int) := by simp
  rw [e, Int.tmod_eq_emod_of_nonneg (Int.natCast_nonneg _)]
  simp
theorem gath_end (x k : Nat) : gath x k k = (rv x k : Nat) := by
  unfold gath
  rw [Nat.sub_self]
  show (rv x k : Int) * 1 = _
  rw [Int.mul_one]
set_option maxHeartbeats 400000 in
theorem sReverse_on (x k : Nat) (w : World) (hk : k ≤ 9) (hx : x < 2 ^ k) : Calls Try.prog 14 #[.int .i64 x, .int .i64 k] w fun e w' => e = .returned (.int .i64 (rv x k : Nat)) ∧ w = w' := by
  have ek := shl_nat (k := k) (by omega)
  have hx2 : (x : Int) < two k := by rw [two_cast]; exact_mod_cast hx
  have t9 := two_512 hk
  have x9 : x < 512 := by omega
  clear hx
  go_enter Try.func14, Try.ntmps14
  go_wp2_with fail
  refine (rin_yes (k : Int) 0 9 w (by omega) (by omega)).mono ?_
  rintro e w' ⟨rfl, rfl⟩
  go_wp2_with fail
  refine (rin_yes (x : Int) 0 (two k - 1) w (by omega) (by omega)).mono ?_
  rintro e w' ⟨rfl, rfl⟩
  go_wp2_with fail
  clear ek
  go_loop [5, 6] (fun u v => ∃ j : Nat, v = .int .i64 j ∧ u = .int .i64 (gath x k j) ∧ j ≤ k) (fun _ v => k - (intOf v).toNat)
  case atStart => exact ⟨0, rfl, vint (by unfold gath; simp [rv]), by omega⟩
  case round =>
    obtain ⟨j, rfl, rfl, hj⟩ := hrel
    have gb := gath_bd (x := x) hj hk
    by_cases hlt : j < k
    · have ej := shl_nat (k := k - 1 - j) (by omega)
      by_cases hb : x / 2 ^ j % 2 = 1
      · have e1 : (((x : Int) / 2 ^ j).tmod 2 == 1) = true := by rw [bit_at, hb]; rfl
        have tb := two_bd (k := ((k - 1 - j : Nat) : Int)) (by omega) (by omega)
        have HG := Lib.hid (gath_one hlt hb)
        clear hb
        go_wp2
        go_round
        case rel => exact ⟨j + 1, by go_num, vint HG.out, by omega⟩
        case measure => simp [intOf]; omega
      · have h0 : x / 2 ^ j % 2 = 0 := by omega
        have e1 : (((x : Int) / 2 ^ j).tmod 2 == 1) = false := by rw [bit_at, h0]; rfl
        have HG := Lib.hid (gath_zero (x := x) hlt h0)
        clear h0
        clear hb
        go_wp2
        go_round
        case rel => exact ⟨j + 1, by go_num, vint HG.out, by omega⟩
        case measure => simp [intOf]; omega
    · have hd : decide (j < k) = false := by simpa using hlt
      obtain rfl : j = k := by omega
      have HG := Lib.hid (gath_end x j)
      go_wp2
      go_ret
      exact ⟨ret_int HG.out, rfl⟩
theorem sReverse_off (x k : Int) (w : World) (h : ¬ ((0 ≤ k ∧ k ≤ 9) ∧ 0 ≤ x ∧ x < two k)) : Calls Try.prog 14 #[.int .i64 x, .int .i64 k] w fun e w' => e = .returned (.int .i64 (-1)) ∧ w = w' := by
  by_cases k0 : 0 ≤ k ∧ k ≤ 9
  · obtain ⟨k0, k1⟩ := k0
    obtain ⟨k, rfl⟩ := Int.eq_ofNat_of_zero_le k0
    have ek := shl_nat (k := k) (by omega)
    have t9 := two_512 (k := k) (by omega)
    have tb := two_bd (k := (k : Int)) (by omega) (by omega)
    have hn : x < 0 ∨ two k - 1 < x := by omega
    clear h
    go_enter Try.func14, Try.ntmps14
    go_wp2_with fail
    refine (rin_yes (k : Int) 0 9 w (by omega) (by omega)).mono ?_
    rintro e w' ⟨rfl, rfl⟩
    go_wp2_with fail
    refine (rin_no x 0 (two k - 1) w hn).mono ?_
    rintro e w' ⟨rfl, rfl⟩
    go_wp2
    go_ret
    exact ⟨rfl, rfl⟩
  · clear h
    go_enter Try.func14, Try.ntmps14
    go_wp2_with fail
    refine (rin_no k 0 9 w (by omega)).mono ?_
    rintro e w' ⟨rfl, rfl⟩
    go_wp2
    go_ret
    exact ⟨rfl, rfl⟩
theorem sReverse (x k : Int) (w : World) : Calls Try.prog 14 #[.int .i64 x, .int .i64 k] w fun e w' => e = .returned (.int .i64 (mRev x k)) ∧ w = w' := by
  by_cases h : (0 ≤ k ∧ k ≤ 9) ∧ 0 ≤ x ∧ x < two k
  · obtain ⟨⟨k0, k1⟩, x0, x1⟩ := h
    obtain ⟨k, rfl⟩ := Int.eq_ofNat_of_zero_le k0
    obtain ⟨x, rfl⟩ := Int.eq_ofNat_of_zero_le x0
    have hx : x < 2 ^ k := by rw [two_cast] at x1; exact_mod_cast x1
    rw [mRev_on (by omega) hx]
    exact sReverse_on x k w (by omega) hx
  · rw [mRev_off h]
    exact sReverse_off x k w h
end Go.Proofs.Ytjfbhfloojkphaa
