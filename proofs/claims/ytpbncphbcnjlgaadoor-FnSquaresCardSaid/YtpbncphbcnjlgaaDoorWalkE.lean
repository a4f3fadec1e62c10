/-
  Square roots, the program's and the specification's.
-/
import Derived.Test.YtpbncphbcnjlgaaDoorWalkD
import Derived.Test.YtpbncphbcnjlgaaDoorNumS
namespace Go.Proofs.YtpbncphbcnjlgaaDoor
open Go.RowKit
/-- What SquareRoot answers. -/
noncomputable def mSqrt (f a : Int) : Int := @dite Int (∃ s, IsSq f a s) (Classical.propDecidable _) (fun h => Classical.choose h) (fun _ => 0)
theorem mSqrt_eq {f a s : Int} (h : IsSq f a s) : s = mSqrt f a := by
  have hex : ∃ s, IsSq f a s := ⟨s, h⟩
  unfold mSqrt
  rw [dif_pos hex]
  exact IsSq_unique h (Classical.choose_spec hex)
theorem odd_lt {f : Int} (h0 : 0 ≤ f) (h8 : f ≤ 8) : 2 * oddP f < P f - 1 := by
  have hp := P_bd h0 h8
  have hsp := P_split h0 h8
  have hO := odd_bd h0 h8
  have hT := T_bd h0 h8
  have h4 : 2 ^ 4 ≤ 2 ^ (T f).toNat := Nat.pow_le_pow_right (by omega) (by omega)
  have h5 : 2 ^ 4 * (oddP f).toNat ≤ 2 ^ (T f).toNat * (oddP f).toNat := Nat.mul_le_mul_right _ h4
  omega
theorem shl_two {k : Int} (h0 : 0 ≤ k) (h : k ≤ 26) : wrap64 (2 ^ k.toNat) = two k := by
  have := two_bd h0 h
  exact IntWalk.wrap64_in _ (by unfold two at this; omega)
theorem shl_two' {k : Int} (h0 : 0 < k) (h : k ≤ 26) : wrap64 (2 ^ (k.toNat - 1)) = two (k - 1) := by
  rw [show k.toNat - 1 = (k - 1).toNat by omega]; exact shl_two (by omega) (by omega)
theorem isSquare_c (n a : Int) (w : World) (ht : Tab w) (h0 : 0 ≤ n) (h8 : n ≤ 8) (ha : 0 ≤ a) (ha2 : a < P n) : Calls Tryd.prog 75 #[.int .i64 n, .int .i64 a] w fun e w' => e = .returned (.bool (PW (P n) a ((P n - 1) / 2) == 1)) ∧ w = w' := by
  have hp := P_bd h0 h8
  go_enter Tryd.func75, Tryd.ntmps75
  go_wp2_with fail
  refine (prime_c n w ht h0 h8).mono ?_
  rintro e w' ⟨rfl, rfl⟩
  go_wp2_with fail
  refine (power_c n a ((P n - 1) / 2) w ht h0 h8 ha ha2 (by omega) (by omega)).mono ?_
  rintro e w' ⟨rfl, rfl⟩
  go_wp2
  go_ret
  exact ⟨rfl, rfl⟩
set_option maxRecDepth 100000 in
set_option maxHeartbeats 1600000 in
theorem root_c (n a : Int) (w : World) (ht : Tab w) (h0 : 0 ≤ n) (h8 : n ≤ 8) (hz : RS a (P n) ≠ 0) (hs : PW (P n) (RS a (P n)) ((P n - 1) / 2) = 1) : Calls Tryd.prog 76 #[.int .i64 n, .int .i64 (RS a (P n))] w fun e w' => e = .returned (.int .i64 (mSqrt n a)) ∧ w = w' := by
  have hp := P_bd h0 h8
  have hT := T_bd h0 h8
  have hG := G_bd h0 h8
  have o1 := (odd_bd h0 h8).1
  have o2 := (odd_bd h0 h8).2.1
  have ba := RS_bd (x := a) (m := P n) (by omega)
  have HF := Lib.hid (SqI_first h0 h8 hs)
  have HE := Lib.hid (fun r r0 r1 e => IsSq_of (r := r) h0 h8 hz hs r0 r1 e)
  clear hs hz
  have eo : (P n - 1) / 2 ^ (T n).toNat = oddP n := rfl
  go_enter Tryd.func76, Tryd.ntmps76
  go_wp2_with fail
  refine (prime_c n w ht h0 h8).mono ?_
  rintro e w' ⟨rfl, rfl⟩
  go_wp2_with fail
  refine (twoPower_c n w ht h0 h8).mono ?_
  rintro e w' ⟨rfl, rfl⟩
  go_wp2_with fail
  refine (power_c n (RS a (P n)) ((oddP n + 1) / 2) w ht h0 h8 ba.1 ba.2 (by omega) (by omega)).mono ?_
  rintro e w' ⟨rfl, rfl⟩
  go_wp2_with fail
  refine (power_c n (RS a (P n)) (oddP n) w ht h0 h8 ba.1 ba.2 (by omega) (by omega)).mono ?_
  rintro e w' ⟨rfl, rfl⟩
  go_wp2_with fail
  refine (generator_c n w ht h0 h8).mono ?_
  rintro e w' ⟨rfl, rfl⟩
  go_wp2_with fail
  refine (power_c n (G n) (oddP n) w ht h0 h8 (by omega) (by omega) (by omega) (by omega)).mono ?_
  rintro e w' ⟨rfl, rfl⟩
  go_wp2_with fail
  refine (twoPower_c n w ht h0 h8).mono ?_
  rintro e w' ⟨rfl, rfl⟩
  go_wp2_with fail
  clear eo
  go_loop [7, 8, 9, 10, 11] (fun u v y z _ => ∃ r e s k : Int, u = .int .i64 r ∧ v = .int .i64 e ∧ y = .int .i64 s ∧ z = .int .i64 k ∧ 0 ≤ r ∧ r < P n ∧ 0 ≤ e ∧ e < P n ∧ 0 ≤ s ∧ s < P n ∧ 0 ≤ k ∧ k ≤ 25 ∧ SqI n (RS a (P n)) r e s k) (fun _ _ _ z _ => (intOf z).toNat)
  case atStart =>
    have b1 := PW_bd (m := P n) (x := RS a (P n)) (e := (oddP n + 1) / 2) (by omega)
    have b2 := PW_bd (m := P n) (x := RS a (P n)) (e := oddP n) (by omega)
    have b3 := PW_bd (m := P n) (x := G n) (e := oddP n) (by omega)
    exact ⟨_, _, _, _, rfl, rfl, rfl, rfl, b1.1, b1.2, b2.1, b2.2, b3.1, b3.2, by omega, by omega, HF.out⟩
  case round =>
    obtain ⟨r, e, s, k, rfl, rfl, rfl, rfl, r0, r1, e0, e1, s0, s1, k0, k1, hq⟩ := hrel
    clear HF
    by_cases hk : 0 < k
    · have ek := shl_two' hk (by omega)
      have tj := two_bd (k := k - 1) (by omega) (by omega)
      have b1 := RS_bd (x := s * s) (m := P n) (by omega)
      by_cases ht1 : PW (P n) e (two (k - 1)) = 1
      · have hn := SqI_yes h0 h8 s0 hk hq ht1
        have e2 : (PW (P n) e (two (k - 1)) != 1) = false := by simp [ht1]
        clear ht1 hq
        go_wp2_with fail
        refine (mul_c n s s w ht h0 h8 s0 s1 s0 s1).mono ?_
        rintro e w' ⟨rfl, rfl⟩
        go_wp2_with fail
        refine (power_c n e (two (k - 1)) w ht h0 h8 e0 e1 (by omega) (by omega)).mono ?_
        rintro e w' ⟨rfl, rfl⟩
        go_wp2
        go_round
        case rel => exact ⟨_, _, _, _, rfl, rfl, rfl, rfl, r0, r1, e0, e1, b1.1, b1.2, by omega, by omega, hn⟩
        case measure => simp [intOf]; omega
      · have hn := SqI_no h0 h8 r0 e0 s0 hk hq ht1
        have b2 := RS_bd (x := r * s) (m := P n) (by omega)
        have b3 := RS_bd (x := e * RS (s * s) (P n)) (m := P n) (by omega)
        have e2 : (PW (P n) e (two (k - 1)) != 1) = true := by simp [ht1]
        clear ht1 hq
        go_wp2_with fail
        refine (mul_c n s s w ht h0 h8 s0 s1 s0 s1).mono ?_
        rintro e w' ⟨rfl, rfl⟩
        go_wp2_with fail
        refine (power_c n e (two (k - 1)) w ht h0 h8 e0 e1 (by omega) (by omega)).mono ?_
        rintro e w' ⟨rfl, rfl⟩
        go_wp2_with fail
        refine (mul_c n r s w ht h0 h8 r0 r1 s0 s1).mono ?_
        rintro e w' ⟨rfl, rfl⟩
        go_wp2_with fail
        refine (mul_c n e (RS (s * s) (P n)) w ht h0 h8 e0 e1 b1.1 b1.2).mono ?_
        rintro e w' ⟨rfl, rfl⟩
        go_wp2
        go_round
        case rel => exact ⟨_, _, _, _, rfl, rfl, rfl, rfl, b2.1, b2.2, b3.1, b3.2, b1.1, b1.2, by omega, by omega, hn⟩
        case measure => simp [intOf]; omega
    · obtain rfl : k = 0 := by omega
      have hl := HE.out r r0 r1 (SqI_last h0 h8 ba.1 ba.2 r0 hq)
      by_cases hm : P n - r < r
      · have HM := Lib.hid (mSqrt_eq (hl.1 hm))
        clear hl HE hq
        go_wp2
        go_ret
        exact ⟨ret_int HM.out, rfl⟩
      · have HM := Lib.hid (mSqrt_eq (hl.2 (by omega)))
        clear hl HE hq
        go_wp2
        go_ret
        exact ⟨ret_int HM.out, rfl⟩
theorem iSquareRoot (f a : Int) (w : World) (ht : Tab w) : Calls Tryd.prog 38 #[.int .i64 f, .int .i64 a] w fun e' w' => e' = .returned (.int .i64 (mSqrt f a)) ∧ w = w' := by
  by_cases hk : 0 ≤ f ∧ f ≤ 8
  · have HK := Lib.hid hk
    obtain ⟨h0, h8⟩ := hk
    have hp := P_bd h0 h8
    have ba := RS_bd (x := a) (m := P f) (by omega)
    by_cases hz : RS a (P f) = 0
    · have H2 := Lib.hid (mSqrt_eq (s := 0) (.inr (.inl ⟨HK.out, hz, rfl⟩)))
      have hb : (RS a (P f) == 0) = true := by simpa using hz
      clear hz
      go_enter Tryd.func38, Tryd.ntmps38
      go_wp2_with fail
      refine (known_yes f w h0 h8).mono ?_
      rintro e w' ⟨rfl, rfl⟩
      go_wp2_with fail
      refine (reduce_c f a w ht h0 h8).mono ?_
      rintro e w' ⟨rfl, rfl⟩
      go_wp2
      go_ret
      exact ⟨ret_int H2.out, rfl⟩
    · have hb : (RS a (P f) == 0) = false := by simpa using hz
      by_cases hs : PW (P f) (RS a (P f)) ((P f - 1) / 2) = 1
      · have hb2 : (PW (P f) (RS a (P f)) ((P f - 1) / 2) == 1) = true := by simpa using hs
        have HR := Lib.hid (root_c f a w ht h0 h8 hz hs)
        clear hz hs
        go_enter Tryd.func38, Tryd.ntmps38
        go_wp2_with fail
        refine (known_yes f w h0 h8).mono ?_
        rintro e w' ⟨rfl, rfl⟩
        go_wp2_with fail
        refine (reduce_c f a w ht h0 h8).mono ?_
        rintro e w' ⟨rfl, rfl⟩
        go_wp2_with fail
        refine (isSquare_c f (RS a (P f)) w ht h0 h8 ba.1 ba.2).mono ?_
        rintro e w' ⟨rfl, rfl⟩
        go_wp2_with fail
        refine HR.out.mono ?_
        rintro e w' ⟨rfl, rfl⟩
        go_wp2
        go_ret
        exact ⟨rfl, rfl⟩
      · have hb2 : (PW (P f) (RS a (P f)) ((P f - 1) / 2) == 1) = false := by simpa using hs
        have H2 := Lib.hid (mSqrt_eq (s := -1) (.inr (.inr (.inl ⟨HK.out, hz, hs, rfl⟩))))
        clear hz hs
        go_enter Tryd.func38, Tryd.ntmps38
        go_wp2_with fail
        refine (known_yes f w h0 h8).mono ?_
        rintro e w' ⟨rfl, rfl⟩
        go_wp2_with fail
        refine (reduce_c f a w ht h0 h8).mono ?_
        rintro e w' ⟨rfl, rfl⟩
        go_wp2_with fail
        refine (isSquare_c f (RS a (P f)) w ht h0 h8 ba.1 ba.2).mono ?_
        rintro e w' ⟨rfl, rfl⟩
        go_wp2
        go_ret
        exact ⟨ret_int H2.out, rfl⟩
  · have H := Lib.hid (mSqrt_eq (f := f) (a := a) (s := -1) (.inl ⟨hk, rfl⟩))
    go_enter Tryd.func38, Tryd.ntmps38
    go_wp2_with fail
    refine (known_no f w (by omega)).mono ?_
    rintro e w' ⟨rfl, rfl⟩
    go_wp2
    go_ret
    exact ⟨ret_int H.out, rfl⟩
end Go.Proofs.YtpbncphbcnjlgaaDoor
