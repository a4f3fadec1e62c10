/-
  The specification's SquareRoot.
-/
import Derived.Test.YtpbncphbcnjlgaaDoorWalkE
namespace Go.Proofs.YtpbncphbcnjlgaaDoor
open Go.RowKit
theorem add_shl {k t : Int} {x : Int} (h : wrap64 x = t) (k0 : 0 ≤ k) (k1 : k ≤ 67108864) (ht : 1 ≤ t ∧ t ≤ 67108864) : wrap64 (k + wrap64 x) = k + t := by
  rw [h]; exact IntWalk.wrap64_in _ (by omega)
theorem mPower_self {f L e : Int} (h0 : 0 ≤ f) (h8 : f ≤ 8) (L0 : 0 < L) (L1 : L < P f) (e0 : 0 ≤ e) (e1 : e < P f - 1) : mPower f L e = PW (P f) L e := by
  have hs : RS L (P f) = L := RS_self (by omega) L1
  rw [mPower_at ⟨h0, h8⟩ (by rw [hs]; omega) e0 e1, hs]
set_option maxRecDepth 100000 in
set_option maxHeartbeats 1600000 in
theorem sSquareRoot_in (f a : Int) (w : World) (h0 : 0 ≤ f) (h8 : f ≤ 8) (hzz : RS a (P f) ≠ 0) : Calls Tryd.prog 53 #[.int .i64 f, .int .i64 a] w fun e' w' => e' = .returned (.int .i64 (mSqrt f a)) ∧ w = w' := by
  have Ra := Lib.hid (show mReduce f a = _ from if_pos ⟨h0, h8⟩)
  have hp := P_bd h0 h8
  have hT := T_bd h0 h8
  have hG := G_bd h0 h8
  have hpz : (P f == 0) = false := by simp; omega
  have o1 := (odd_bd h0 h8).1
  have o2 := (odd_bd h0 h8).2.1
  have o3 : 2 * oddP f < P f - 1 := odd_lt h0 h8
  have ba := RS_bd (x := a) (m := P f) (by omega)
  have hz : (RS a (P f) == 0) = false := by simpa using hzz
  have x0 : 0 < RS a (P f) := by omega
  have HZZ := Lib.hid hzz
  clear hzz
  have HZ := Lib.hid (mPower_self (L := G f) (e := oddP f) h0 h8 (by omega) (by omega) (by omega) (by omega))
  have HY := Lib.hid (mPower_self (e := oddP f) h0 h8 x0 ba.2 (by omega) (by omega))
  have HY2 := Lib.hid (mPower_self (e := (oddP f + 1) / 2) h0 h8 x0 ba.2 (by omega) (by omega))
  have zb := PW_bd (m := P f) (x := G f) (e := oddP f) (by omega)
  have z0 : 0 < PW (P f) (G f) (oddP f) := by have := PW_nz (e := oddP f) h0 h8 (show 0 < G f by omega) (by omega); omega
  have yb := PW_bd (m := P f) (x := RS a (P f)) (e := oddP f) (by omega)
  have y0 : 0 < PW (P f) (RS a (P f)) (oddP f) := by have := PW_nz (e := oddP f) h0 h8 x0 ba.2; omega
  have eo : (P f - 1) / 2 ^ (T f).toNat = oddP f := rfl
  go_enter Tryd.func53, Tryd.ntmps53
  go_wp2_with fail
  refine (sModulus f w).mono ?_
  rintro e w' ⟨rfl, rfl⟩
  go_wp2_with fail
  refine (sReduce f a w).mono ?_
  rintro e w' ⟨rfl, rfl⟩
  rw [Ra.out]
  go_wp2_with fail
  refine (sTwoPower f w).mono ?_
  rintro e w' ⟨rfl, rfl⟩
  go_wp2_with fail
  refine (sGenerator f w).mono ?_
  rintro e w' ⟨rfl, rfl⟩
  go_wp2_with fail
  refine (sPower f (G f) (oddP f) w).mono ?_
  rintro e w' ⟨rfl, rfl⟩
  rw [HZ.out]
  go_wp2_with fail
  refine (sPower f (RS a (P f)) (oddP f) w).mono ?_
  rintro e w' ⟨rfl, rfl⟩
  rw [HY.out]
  clear eo
  go_wp2_with fail
  go_loop [11, 12, 13] (fun u v _ => ∃ k i : Int, u = .int .i64 k ∧ v = .int .i64 i ∧ 0 ≤ i ∧ i ≤ T f ∧ BitI f (PW (P f) (RS a (P f)) (oddP f)) (PW (P f) (G f) (oddP f)) k i) (fun _ v _ => (T f - intOf v).toNat)
  case atStart => exact ⟨0, 0, rfl, rfl, by omega, by omega, BitI_first h0 h8 x0 ba.2⟩
  case round =>
    obtain ⟨k, i, rfl, rfl, i0, i1, hb⟩ := hrel
    have k0 := hb.1
    have k1 := hb.2.1
    have ti := two_bd i0 (by omega)
    by_cases hi : i < T f
    · obtain ⟨hL, L0, L1⟩ := left_at (k := k) h0 h8 y0 yb.2 z0 zb.2 k0
      have tj := two_bd (k := T f - 1 - i) (by omega) (by omega)
      have tk := two_lt (j := T f - 1 - i) h0 h8 (by omega) (by omega)
      have HP := Lib.hid (mPower_self h0 h8 L0 L1 (show 0 ≤ two (T f - 1 - i) by omega) tk)
      have EK1 := Lib.hid (shl_two (k := T f - 1 - i) (by omega) (by omega))
      have EK2 := Lib.hid (shl_two i0 (by omega))
      by_cases ht1 : PW (P f) (mMul f (PW (P f) (RS a (P f)) (oddP f)) (mPower f (PW (P f) (G f) (oddP f)) (-k))) (two (T f - 1 - i)) = 1
      · have hn := BitI_yes i0 hi hb hL ht1
        have e2 : (PW (P f) (mMul f (PW (P f) (RS a (P f)) (oddP f)) (mPower f (PW (P f) (G f) (oddP f)) (-k))) (two (T f - 1 - i)) != 1) = false := by simp [ht1]
        clear hL ht1 hb
        go_wp2_with fail
        refine (sPower f (PW (P f) (G f) (oddP f)) (-k) w).mono ?_
        rintro e w' ⟨rfl, rfl⟩
        go_wp2_with fail
        refine (sMul f (PW (P f) (RS a (P f)) (oddP f)) (mPower f (PW (P f) (G f) (oddP f)) (-k)) w).mono ?_
        rintro e w' ⟨rfl, rfl⟩
        go_wp2_with fail
        rw [EK1.out]
        refine (sPower f (mMul f (PW (P f) (RS a (P f)) (oddP f)) (mPower f (PW (P f) (G f) (oddP f)) (-k))) (two (T f - 1 - i)) w).mono ?_
        rintro e w' ⟨rfl, rfl⟩
        rw [HP.out]
        go_wp2
        go_round
        case rel => exact ⟨_, _, rfl, rfl, by omega, by omega, hn⟩
        case measure => simp [intOf]; omega
      · have hn := BitI_no h0 h8 i0 hi hb hL ht1
        have e2 : (PW (P f) (mMul f (PW (P f) (RS a (P f)) (oddP f)) (mPower f (PW (P f) (G f) (oddP f)) (-k))) (two (T f - 1 - i)) != 1) = true := by simp [ht1]
        clear hL ht1 hb
        go_wp2_with fail
        refine (sPower f (PW (P f) (G f) (oddP f)) (-k) w).mono ?_
        rintro e w' ⟨rfl, rfl⟩
        go_wp2_with fail
        refine (sMul f (PW (P f) (RS a (P f)) (oddP f)) (mPower f (PW (P f) (G f) (oddP f)) (-k)) w).mono ?_
        rintro e w' ⟨rfl, rfl⟩
        go_wp2_with fail
        rw [EK1.out]
        refine (sPower f (mMul f (PW (P f) (RS a (P f)) (oddP f)) (mPower f (PW (P f) (G f) (oddP f)) (-k))) (two (T f - 1 - i)) w).mono ?_
        rintro e w' ⟨rfl, rfl⟩
        rw [HP.out]
        go_wp2
        go_round
        case rel => exact ⟨_, _, vint (add_shl EK2.out k0 (by omega) (by omega)), rfl, by omega, by omega, hn⟩
        case measure => simp [intOf]; omega
    · obtain rfl : i = T f := by omega
      by_cases h2 : k % 2 = 1
      · have H := Lib.hid (mSqrt_eq (f := f) (a := a) (s := -1) (.inr (.inr (.inl ⟨⟨h0, h8⟩, HZZ.out, bit_odd h0 h8 h2 hb, rfl⟩))))
        have e2 : (k % 2 == 1) = true := by simp [h2]
        clear h2 hb
        go_wp2
        go_ret
        exact ⟨ret_int H.out, rfl⟩
      · obtain ⟨s0, s1, es, eo2⟩ := bit_even h0 h8 x0 ba.2 (by omega) hb
        have hl := IsSq_of h0 h8 HZZ.out eo2 s0 s1 es
        have e2 : (k % 2 == 1) = false := by simp [h2]
        clear h2 hb es eo2
        by_cases hm : P f - mMul f (PW (P f) (RS a (P f)) ((oddP f + 1) / 2)) (mPower f (PW (P f) (G f) (oddP f)) (-(k / 2))) < mMul f (PW (P f) (RS a (P f)) ((oddP f + 1) / 2)) (mPower f (PW (P f) (G f) (oddP f)) (-(k / 2)))
        · have HM := Lib.hid (mSqrt_eq (hl.1 hm))
          clear hl
          go_wp2_with fail
          refine (sPower f (RS a (P f)) ((oddP f + 1) / 2) w).mono ?_
          rintro e w' ⟨rfl, rfl⟩
          rw [HY2.out]
          go_wp2_with fail
          refine (sPower f (PW (P f) (G f) (oddP f)) (-(k / 2)) w).mono ?_
          rintro e w' ⟨rfl, rfl⟩
          go_wp2_with fail
          refine (sMul f (PW (P f) (RS a (P f)) ((oddP f + 1) / 2)) (mPower f (PW (P f) (G f) (oddP f)) (-(k / 2))) w).mono ?_
          rintro e w' ⟨rfl, rfl⟩
          go_wp2
          go_ret
          exact ⟨ret_int HM.out, rfl⟩
        · have HM := Lib.hid (mSqrt_eq (hl.2 (by omega)))
          clear hl
          go_wp2_with fail
          refine (sPower f (RS a (P f)) ((oddP f + 1) / 2) w).mono ?_
          rintro e w' ⟨rfl, rfl⟩
          rw [HY2.out]
          go_wp2_with fail
          refine (sPower f (PW (P f) (G f) (oddP f)) (-(k / 2)) w).mono ?_
          rintro e w' ⟨rfl, rfl⟩
          go_wp2_with fail
          refine (sMul f (PW (P f) (RS a (P f)) ((oddP f + 1) / 2)) (mPower f (PW (P f) (G f) (oddP f)) (-(k / 2))) w).mono ?_
          rintro e w' ⟨rfl, rfl⟩
          go_wp2
          go_ret
          exact ⟨ret_int HM.out, rfl⟩
theorem sSquareRoot (f a : Int) (w : World) : Calls Tryd.prog 53 #[.int .i64 f, .int .i64 a] w fun e' w' => e' = .returned (.int .i64 (mSqrt f a)) ∧ w = w' := by
  by_cases hk : 0 ≤ f ∧ f ≤ 8
  · by_cases hz : RS a (P f) = 0
    · have H := Lib.hid (mSqrt_eq (s := 0) (.inr (.inl ⟨hk, hz, rfl⟩)))
      have Ra := Lib.hid (show mReduce f a = _ from if_pos hk)
      obtain ⟨h0, h8⟩ := hk
      have hp := P_bd h0 h8
      have hpz : (P f == 0) = false := by simp; omega
      have hb : (RS a (P f) == 0) = true := by simpa using hz
      clear hz
      go_enter Tryd.func53, Tryd.ntmps53
      go_wp2_with fail
      refine (sModulus f w).mono ?_
      rintro e w' ⟨rfl, rfl⟩
      go_wp2_with fail
      refine (sReduce f a w).mono ?_
      rintro e w' ⟨rfl, rfl⟩
      rw [Ra.out]
      go_wp2
      go_ret
      exact ⟨ret_int H.out, rfl⟩
    · exact sSquareRoot_in f a w hk.1 hk.2 hz
  · have H := Lib.hid (mSqrt_eq (f := f) (a := a) (s := -1) (.inl ⟨hk, rfl⟩))
    have hz : (P f == 0) = true := by simp [P_off (f := f) (by omega)]
    go_enter Tryd.func53, Tryd.ntmps53
    go_wp2_with fail
    refine (sModulus f w).mono ?_
    rintro e w' ⟨rfl, rfl⟩
    go_wp2
    go_ret
    exact ⟨ret_int H.out, rfl⟩
end Go.Proofs.YtpbncphbcnjlgaaDoor
