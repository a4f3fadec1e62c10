/-
  The specification's Power, Inverse and TwoPower.
-/
import Derived.Test.YtcenglbcibkniaaDoorWalkB
namespace Go.Proofs.YtcenglbcibkniaaDoor
open Go.RowKit
theorem vint {k : IntKind} {a b : Int} (h : a = b) : Value.int k a = .int k b := by rw [h]
theorem tm_pos {x m : Int} (h : 0 ≤ x) : x.tmod m = RS x m := Int.tmod_eq_emod_of_nonneg h
set_option maxHeartbeats 800000 in
theorem sPower (f a e : Int) (w : World) : Calls Tryd.prog 52 #[.int .i64 f, .int .i64 a, .int .i64 e] w fun e' w' => e' = .returned (.int .i64 (mPower f a e)) ∧ w = w' := by
  by_cases hk : 0 ≤ f ∧ f ≤ 8
  · have H := Lib.hid (show mPower f a e = _ from if_pos hk)
    have Ra := Lib.hid (show mReduce f a = _ from if_pos hk)
    obtain ⟨h0, h8⟩ := hk
    have hp := P_bd h0 h8
    have ba := RS_bd (x := a) (m := P f) (by omega)
    have be := RS_bd (x := e) (m := P f - 1) (by omega)
    have hpz : (P f == 0) = false := by simp; omega
    by_cases hz : RS a (P f) = 0
    · have H2 := Lib.hid (H.out.trans (if_pos hz))
      have hb : (RS a (P f) == 0) = true := by simpa using hz
      clear hz
      by_cases e1 : e = 0
      · subst e1
        go_enter Tryd.func52, Tryd.ntmps52
        go_wp2_with fail
        refine (sModulus f w).mono ?_
        rintro e w' ⟨rfl, rfl⟩
        go_wp2_with fail
        refine (sReduce f a w).mono ?_
        rintro e w' ⟨rfl, rfl⟩
        rw [Ra.out]
        go_wp2
        go_ret
        exact ⟨ret_int (H2.out.trans (by decide)).symm, rfl⟩
      · have e2 : (e == 0) = false := by simpa using e1
        by_cases e3 : e < 0
        · have H3 := Lib.hid (H2.out.trans (show pow0 e = -1 from if_pos e3))
          clear e1
          go_enter Tryd.func52, Tryd.ntmps52
          go_wp2_with fail
          refine (sModulus f w).mono ?_
          rintro e w' ⟨rfl, rfl⟩
          go_wp2_with fail
          refine (sReduce f a w).mono ?_
          rintro e w' ⟨rfl, rfl⟩
          rw [Ra.out]
          go_wp2
          go_ret
          exact ⟨ret_int H3.out.symm, rfl⟩
        · have H3 := Lib.hid (H2.out.trans (show pow0 e = 0 by unfold pow0; rw [if_neg e3, if_neg e1]))
          clear e1
          go_enter Tryd.func52, Tryd.ntmps52
          go_wp2_with fail
          refine (sModulus f w).mono ?_
          rintro e w' ⟨rfl, rfl⟩
          go_wp2_with fail
          refine (sReduce f a w).mono ?_
          rintro e w' ⟨rfl, rfl⟩
          rw [Ra.out]
          go_wp2
          go_ret
          exact ⟨ret_int H3.out.symm, rfl⟩
    · have H2 := Lib.hid (H.out.trans (if_neg hz))
      have hb : (RS a (P f) == 0) = false := by simpa using hz
      clear hz
      have b1 := Int.lt_tmod_of_pos e (show 0 < P f - 1 by omega)
      have b2 := Int.tmod_lt_of_pos e (show 0 < P f - 1 by omega)
      have hs : (e.tmod (P f - 1) < 0 ∧ Hid (e.tmod (P f - 1) + P f - 1 = RS e (P f - 1))) ∨ (0 ≤ e.tmod (P f - 1) ∧ Hid (e.tmod (P f - 1) = RS e (P f - 1))) := by
        by_cases h : e.tmod (P f - 1) < 0
        · exact .inl ⟨h, Lib.hid (by have := rs_neg (show 0 < P f - 1 by omega) h; omega)⟩
        · exact .inr ⟨by omega, Lib.hid (rs_pos (by omega) (by omega))⟩
      rcases hs with ⟨hs, HS⟩ | ⟨hs, HS⟩
      all_goals
        go_enter Tryd.func52, Tryd.ntmps52
        go_wp2_with fail
        refine (sModulus f w).mono ?_
        rintro e w' ⟨rfl, rfl⟩
        go_wp2_with fail
        refine (sReduce f a w).mono ?_
        rintro e w' ⟨rfl, rfl⟩
        rw [Ra.out]
        go_wp2_with fail
        go_loop [8, 9, 10] (fun u v r => ∃ x k s : Int, u = .int .i64 x ∧ v = .int .i64 k ∧ r = .int .i64 s ∧ 0 ≤ x ∧ x < P f ∧ 0 ≤ k ∧ k ≤ 2000000000 ∧ 0 ≤ s ∧ s < P f ∧ PWat (P f) (RS a (P f)) (RS e (P f - 1)) x k s) (fun _ v _ => (intOf v).toNat)
        case atStart => exact ⟨RS a (P f), RS e (P f - 1), 1, rfl, vint HS.out, rfl, ba.1, ba.2, be.1, by omega, by omega, by omega, PWat_start _ _ _⟩
        case round =>
          obtain ⟨x, k, s, rfl, rfl, rfl, x0, x1, k0, k1, s0, s1, hat⟩ := hrel
          clear hs HS b1 b2
          by_cases hk : 0 < k
          · have bx := RS_bd (x := x * x) (m := P f) (by omega)
            have q1 := prod_bd h0 h8 x0 x1 x0 x1
            have q2 := prod_bd h0 h8 s0 s1 x0 x1
            by_cases h2 : k % 2 = 1
            · have h3 := PWat_odd (by omega) x0 s0 k0 h2 hat
              have bs := RS_bd (x := s * x) (m := P f) (by omega)
              have e2 : (k % 2 == 1) = true := by simp [h2]
              clear h2
              go_wp2
              go_round
              case rel => exact ⟨RS (x * x) (P f), _, RS (s * x) (P f), vint (by first | rfl | exact tm_pos q1.1), rfl, vint (by first | rfl | exact tm_pos q2.1), bx.1, bx.2, by omega, by omega, bs.1, bs.2, h3⟩
              case measure => simp [intOf]; omega
            · have h3 := PWat_even (by omega) x0 k0 (by omega) hat
              have e2 : (k % 2 == 1) = false := by simp [h2]
              clear h2
              go_wp2
              go_round
              case rel => exact ⟨RS (x * x) (P f), _, _, vint (by first | rfl | exact tm_pos q1.1), rfl, rfl, bx.1, bx.2, by omega, by omega, s0, s1, h3⟩
              case measure => simp [intOf]; omega
          · obtain rfl : k = 0 := by omega
            have h3 := PWat_end s0 s1 hat
            have H3 := Lib.hid (h3.trans H2.out.symm)
            clear h3
            go_wp2
            go_ret
            exact ⟨ret_int H3.out, rfl⟩
  · have H := Lib.hid (show mPower f a e = _ from if_neg hk)
    have hz : (P f == 0) = true := by simp [P_off (f := f) (by omega)]
    go_enter Tryd.func52, Tryd.ntmps52
    go_wp2_with fail
    refine (sModulus f w).mono ?_
    rintro e w' ⟨rfl, rfl⟩
    go_wp2
    go_ret
    exact ⟨ret_int H.out.symm, rfl⟩
theorem sInverse (f a : Int) (w : World) : Calls Tryd.prog 40 #[.int .i64 f, .int .i64 a] w fun e' w' => e' = .returned (.int .i64 (mPower f a (-1))) ∧ w = w' := by
  go_enter Tryd.func40, Tryd.ntmps40
  go_wp2_with fail
  refine (sPower f a (-1) w).mono ?_
  rintro e w' ⟨rfl, rfl⟩
  go_wp2
  go_ret
  exact ⟨rfl, rfl⟩
/-- What is left of P - 1 after k halvings. -/
def halves (f : Int) (k : Nat) : Int := (P f - 1) / 2 ^ k
theorem halves_facts : ∀ f, f < 9 → ∀ k, k ≤ 26 → (k < Mth.tN f → ((Mth.pN f - 1) / 2 ^ k) % 2 = 0) ∧ (k = Mth.tN f → ((Mth.pN f - 1) / 2 ^ k) % 2 = 1) := by decide +kernel
theorem halves_nat {f : Int} (h0 : 0 ≤ f) (h8 : f ≤ 8) (k : Nat) : halves f k = (((Mth.pN f.toNat - 1) / 2 ^ k : Nat) : Int) := by
  unfold halves
  have hp := P_bd h0 h8
  rw [P_nat h0] at *
  rw [show ((Mth.pN f.toNat : Int) - 1) = ((Mth.pN f.toNat - 1 : Nat) : Int) by omega, Int.natCast_ediv]; simp
theorem halves_bd {f : Int} (h0 : 0 ≤ f) (h8 : f ≤ 8) (k : Nat) : 0 ≤ halves f k ∧ halves f k ≤ 1004535809 := by
  have hp := P_bd h0 h8
  have hn := P_nat h0
  rw [halves_nat h0 h8]
  have := Nat.div_le_self (Mth.pN f.toNat - 1) (2 ^ k)
  generalize (Mth.pN f.toNat - 1) / 2 ^ k = d at *
  omega
theorem halves_succ {f : Int} (h0 : 0 ≤ f) (h8 : f ≤ 8) (k : Nat) : halves f k / 2 = halves f (k + 1) := by
  rw [halves_nat h0 h8, halves_nat h0 h8, Nat.pow_succ, ← Nat.div_div_eq_div_mul]; omega
theorem T_nat {f : Int} (h0 : 0 ≤ f) (h8 : f ≤ 8) : T f = (Mth.tN f.toNat : Int) := by unfold T; rw [if_pos ⟨h0, h8⟩]
theorem halves_even {f : Int} (h0 : 0 ≤ f) (h8 : f ≤ 8) {k : Nat} (h : (k : Int) < T f) : halves f k % 2 = 0 := by
  have ht := T_bd h0 h8
  have hn := T_nat h0 h8
  have := (halves_facts f.toNat (by omega) k (by omega)).1 (by omega)
  rw [halves_nat h0 h8]; omega
theorem halves_odd {f : Int} (h0 : 0 ≤ f) (h8 : f ≤ 8) {k : Nat} (h : (k : Int) = T f) : halves f k % 2 = 1 := by
  have ht := T_bd h0 h8
  have hn := T_nat h0 h8
  have := (halves_facts f.toNat (by omega) k (by omega)).2 (by omega)
  rw [halves_nat h0 h8]; omega
end Go.Proofs.YtcenglbcibkniaaDoor
