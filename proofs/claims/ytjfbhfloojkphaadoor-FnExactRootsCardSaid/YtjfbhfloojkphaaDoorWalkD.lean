/-
  The order of an element, the program's and the specification's.
-/
import Derived.Test.YtjfbhfloojkphaaDoorWalkC
import Derived.Test.YtjfbhfloojkphaaDoorNumO
namespace Go.Proofs.YtjfbhfloojkphaaDoor
open Go.RowKit
set_option maxHeartbeats 800000 in
theorem order_c (n a : Int) (w : World) (ht : Tab w) (h0 : 0 ≤ n) (h8 : n ≤ 8) (ha : 0 ≤ a) (ha2 : a < P n) : Calls Tryd.prog 40 #[.int .i64 n, .int .i64 a] w fun e w' => e = .returned (.int .i64 (Mth.ordF (tst n a) (Mth.facs n.toNat) (Mth.pN n.toNat - 1) : Nat)) ∧ w = w' := by
  have hp := P_bd h0 h8
  go_enter Tryd.func40, Tryd.ntmps40
  go_wp2_with fail
  refine (prime_c n w ht h0 h8).mono ?_
  rintro e w' ⟨rfl, rfl⟩
  go_wp2_with fail
  go_loop [5, 6, 7] (fun u v y => ∃ k r q : Int, u = .int .i64 k ∧ v = .int .i64 r ∧ y = .int .i64 q ∧ Ost n a k r q ∧ 2 ≤ q ∧ q ≤ 1000) (fun _ _ y => (1000 - intOf y).toNat)
  case atStart => exact ⟨_, _, _, rfl, rfl, rfl, Ost_start h0 h8, by omega, by omega⟩
  case round =>
    obtain ⟨k, r, q, rfl, rfl, rfl, ho, q0, q1⟩ := hrel
    obtain ⟨k0, k1, r0, r1⟩ := Ost_bd ho
    by_cases hr : 1 < r
    · have hq := Ost_q ho hr
      go_wp2_with fail
      go_loop [5, 6] (fun u v => ∃ k r : Int, u = .int .i64 k ∧ v = .int .i64 r ∧ Ost n a k r q) (fun _ v => (intOf v).toNat)
      case atStart => exact ⟨_, _, rfl, rfl, ho⟩
      case round =>
        clear ho k0 k1 r0 r1 hr
        obtain ⟨k, r, rfl, rfl, ho⟩ := hrel
        obtain ⟨k0, k1, r0, r1⟩ := Ost_bd ho
        by_cases hd : r % q = 0
        · obtain ⟨b1, b2, b3, b4⟩ := (Ost_quo q0 ho hd).2
          have e1 : (r % q == 0) = true := by simp [hd]
          by_cases hy : PW (P n) a (k / q) = 1
          · have hn := Ost_yes q0 ho hd hy
            have e2 : (PW (P n) a (k / q) == 1) = true := by simp [hy]
            clear hd hy
            go_wp2_with fail
            refine (power_c n a (k / q) w ht h0 h8 ha ha2 (by omega) (by omega)).mono ?_
            rintro e w' ⟨rfl, rfl⟩
            go_wp2
            go_round
            case rel => exact ⟨_, _, rfl, rfl, hn⟩
            case measure => simp [intOf]; omega
          · have hn := Ost_no q0 ho hd hy
            have e2 : (PW (P n) a (k / q) == 1) = false := by simp [hy]
            clear hd hy
            go_wp2_with fail
            refine (power_c n a (k / q) w ht h0 h8 ha ha2 (by omega) (by omega)).mono ?_
            rintro e w' ⟨rfl, rfl⟩
            go_wp2
            go_round
            case rel => exact ⟨_, _, rfl, rfl, hn⟩
            case measure => simp [intOf]; omega
        · have hn := Ost_next q0 ho hd
          have e1 : (r % q == 0) = false := by simp [hd]
          clear hd
          go_wp2
          go_round
          case rel => exact ⟨_, _, _, rfl, rfl, rfl, hn, by omega, by omega⟩
          case measure => simp [intOf]; omega
    · obtain rfl : r = 1 := by omega
      have H := Lib.hid (Ost_end ho)
      go_wp2
      go_ret
      exact ⟨ret_int H.out, rfl⟩
/-- An exponent below P - 1 is not turned. -/
theorem mPower_at {f a e : Int} (hk : 0 ≤ f ∧ f ≤ 8) (hz : RS a (P f) ≠ 0) (e0 : 0 ≤ e) (e1 : e < P f - 1) : mPower f a e = PW (P f) (RS a (P f)) e := by
  unfold mPower
  rw [if_pos hk, if_neg hz, RS_self e0 e1]
set_option maxRecDepth 100000 in
set_option maxHeartbeats 1600000 in
theorem sOrder (f a : Int) (w : World) : Calls Tryd.prog 41 #[.int .i64 f, .int .i64 a] w fun e' w' => e' = .returned (.int .i64 (mOrder f a)) ∧ w = w' := by
  by_cases hk : 0 ≤ f ∧ f ≤ 8
  · have Ra := Lib.hid (show mReduce f a = _ from if_pos hk)
    have HK := Lib.hid hk
    obtain ⟨h0, h8⟩ := hk
    have hp := P_bd h0 h8
    have ba := RS_bd (x := a) (m := P f) (by omega)
    have hpz : (P f == 0) = false := by simp; omega
    by_cases hz : RS a (P f) = 0
    · have H2 := Lib.hid (show mOrder f a = -1 from if_neg (fun h => h.2 hz))
      have hb : (RS a (P f) == 0) = true := by simpa using hz
      clear hz
      go_enter Tryd.func41, Tryd.ntmps41
      go_wp2_with fail
      refine (sModulus f w).mono ?_
      rintro e w' ⟨rfl, rfl⟩
      go_wp2_with fail
      refine (sReduce f a w).mono ?_
      rintro e w' ⟨rfl, rfl⟩
      rw [Ra.out]
      go_wp2
      go_ret
      exact ⟨ret_int H2.out.symm, rfl⟩
    · have H2 := Lib.hid (show mOrder f a = _ from if_pos ⟨⟨h0, h8⟩, hz⟩)
      have HZ := Lib.hid hz
      have hb : (RS a (P f) == 0) = false := by simpa using hz
      clear hz
      go_enter Tryd.func41, Tryd.ntmps41
      go_wp2_with fail
      refine (sModulus f w).mono ?_
      rintro e w' ⟨rfl, rfl⟩
      go_wp2_with fail
      refine (sReduce f a w).mono ?_
      rintro e w' ⟨rfl, rfl⟩
      rw [Ra.out]
      go_wp2_with fail
      go_loop [6, 7, 8] (fun u v y => ∃ k r q : Int, u = .int .i64 k ∧ v = .int .i64 r ∧ y = .int .i64 q ∧ Ost f (RS a (P f)) k r q ∧ 2 ≤ q ∧ q ≤ 1000) (fun _ _ y => (1000 - intOf y).toNat)
      case atStart => exact ⟨_, _, _, rfl, rfl, rfl, Ost_start h0 h8, by omega, by omega⟩
      case round =>
        obtain ⟨k, r, q, rfl, rfl, rfl, ho, q0, q1⟩ := hrel
        obtain ⟨k0, k1, r0, r1⟩ := Ost_bd ho
        have qq : q * q ≤ 1000 * 1000 := Int.mul_le_mul q1 q1 (by omega) (by omega)
        have qq0 : 4 ≤ q * q := Int.mul_le_mul q0 q0 (by omega) (by omega)
        by_cases hr : q * q ≤ r
        · have hq := Ost_q ho (by omega)
          have hqr : decide (q * q ≤ r) = true := by simpa using hr
          go_wp2_with fail
          go_loop [6, 7] (fun u v => ∃ k r : Int, u = .int .i64 k ∧ v = .int .i64 r ∧ Ost f (RS a (P f)) k r q) (fun _ v => (intOf v).toNat)
          case atStart => exact ⟨_, _, rfl, rfl, ho⟩
          case round =>
            clear ho k0 k1 r0 r1 hr hqr
            obtain ⟨k, r, rfl, rfl, ho⟩ := hrel
            obtain ⟨k0, k1, r0, r1⟩ := Ost_bd ho
            by_cases hd : r % q = 0
            · obtain ⟨b1, b2, b3, b4⟩ := (Ost_quo q0 ho hd).2
              have e1 : (r % q == 0) = true := by simp [hd]
              have e3 : (k % q == 0) = true := by simp [Ost_div q0 ho hd]
              have HP := Lib.hid (mPower_at (e := k / q) HK.out HZ.out (by omega) (by omega))
              by_cases hy : PW (P f) (RS a (P f)) (k / q) = 1
              · have hn := Ost_yes q0 ho hd hy
                have e2 : (PW (P f) (RS a (P f)) (k / q) == 1) = true := by simp [hy]
                clear hd hy
                go_wp2_with fail
                refine (sPower f a (k / q) w).mono ?_
                rintro e w' ⟨rfl, rfl⟩
                rw [HP.out]
                go_wp2
                go_round
                case rel => exact ⟨_, _, rfl, rfl, hn⟩
                case measure => simp [intOf]; omega
              · have hn := Ost_no q0 ho hd hy
                have e2 : (PW (P f) (RS a (P f)) (k / q) == 1) = false := by simp [hy]
                clear hd hy
                go_wp2_with fail
                refine (sPower f a (k / q) w).mono ?_
                rintro e w' ⟨rfl, rfl⟩
                rw [HP.out]
                go_wp2
                go_round
                case rel => exact ⟨_, _, rfl, rfl, hn⟩
                case measure => simp [intOf]; omega
            · have hn := Ost_next q0 ho hd
              have e1 : (r % q == 0) = false := by simp [hd]
              clear hd
              go_wp2
              go_round
              case rel => exact ⟨_, _, _, rfl, rfl, rfl, hn, by omega, by omega⟩
              case measure => simp [intOf]; omega
        · have hqr : decide (q * q ≤ r) = false := by simpa using hr
          by_cases hl : 1 < r
          · obtain ⟨ho2, hr2⟩ := Ost_last q0 ho (by omega) hl
            have hrr : r % r = 0 := Int.emod_self
            have hrq : r / r = 1 := Int.ediv_self (by omega)
            have hkr := Ost_div hr2 ho2 hrr
            obtain ⟨b1, b2, b3, b4⟩ := (Ost_quo hr2 ho2 hrr).2
            have e3 : (k % r == 0) = true := by simp [hkr]
            have HP := Lib.hid (mPower_at (e := k / r) HK.out HZ.out (by omega) (by omega))
            by_cases hy : PW (P f) (RS a (P f)) (k / r) = 1
            · have hn := Ost_yes hr2 ho2 hrr hy
              rw [hrq] at hn
              have H := Lib.hid ((Ost_end hn).trans H2.out.symm)
              have e2 : (PW (P f) (RS a (P f)) (k / r) == 1) = true := by simp [hy]
              clear hn hy hrq hrr hkr ho2 hr2
              go_wp2_with fail
              refine (sPower f a (k / r) w).mono ?_
              rintro e w' ⟨rfl, rfl⟩
              rw [HP.out]
              go_wp2
              go_ret
              exact ⟨ret_int H.out, rfl⟩
            · have hn := Ost_no hr2 ho2 hrr hy
              rw [hrq] at hn
              have H := Lib.hid ((Ost_end hn).trans H2.out.symm)
              have e2 : (PW (P f) (RS a (P f)) (k / r) == 1) = false := by simp [hy]
              clear hn hy hrq hrr hkr ho2 hr2
              go_wp2_with fail
              refine (sPower f a (k / r) w).mono ?_
              rintro e w' ⟨rfl, rfl⟩
              rw [HP.out]
              go_wp2
              go_ret
              exact ⟨ret_int H.out, rfl⟩
          · obtain rfl : r = 1 := by omega
            have H := Lib.hid ((Ost_end ho).trans H2.out.symm)
            go_wp2
            go_ret
            exact ⟨ret_int H.out, rfl⟩
  · have H := Lib.hid (show mOrder f a = -1 from if_neg (fun h => hk h.1))
    have hz : (P f == 0) = true := by simp [P_off (f := f) (by omega)]
    go_enter Tryd.func41, Tryd.ntmps41
    go_wp2_with fail
    refine (sModulus f w).mono ?_
    rintro e w' ⟨rfl, rfl⟩
    go_wp2
    go_ret
    exact ⟨ret_int H.out.symm, rfl⟩
end Go.Proofs.YtjfbhfloojkphaaDoor
