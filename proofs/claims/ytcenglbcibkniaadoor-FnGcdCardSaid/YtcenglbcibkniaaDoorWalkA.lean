/-
  The walks of the functions on integers: what each answers, in any world that holds the table of fields; the world stands.
-/
import Derived.Test.YtcenglbcibkniaaDoorRows
import Derived.Test.YtcenglbcibkniaaDoorNum
import Derived.WalkKit
import Derived.WalkSpells
import Derived.WalkLawsBesides
import Derived.Lib.Hide
namespace Go.Proofs.YtcenglbcibkniaaDoor
open Go.RowKit

/-- The world holds the table of fields. -/
def Tab (w : World) : Prop := ∀ n : Int, 0 ≤ n → n ≤ 8 →
  w.cell? ⟨0, n.toNat * 3, none⟩ = some (.int .i64 (P n)) ∧ w.cell? ⟨0, n.toNat * 3 + 1, none⟩ = some (.int .i64 (G n)) ∧ w.cell? ⟨0, n.toNat * 3 + 2, none⟩ = some (.int .i64 (T n))
theorem Tab.keep {w w' : World} (h : Tab w) (hk : ∀ o, w'.cell? ⟨0, o, none⟩ = w.cell? ⟨0, o, none⟩) : Tab w' := by
  intro n h0 h8
  rw [hk, hk, hk]; exact h n h0 h8

theorem ret_int {k : IntKind} {a b : Int} (h : a = b) : Ending.returned (.int k a) = .returned (.int k b) := by rw [h]

theorem prime_c (n : Int) (w : World) (ht : Tab w) (h0 : 0 ≤ n) (h8 : n ≤ 8) : Calls Tryd.prog 70 #[.int .i64 n] w fun e w' => e = .returned (.int .i64 (P n)) ∧ w = w' := by
  have hc := (ht n h0 h8).1
  go_enter Tryd.func70, Tryd.ntmps70
  go_wp2
  go_ret
  exact ⟨rfl, rfl⟩
theorem known_yes (n : Int) (w : World) (h0 : 0 ≤ n) (h8 : n ≤ 8) : Calls Tryd.prog 69 #[.int .i64 n] w fun e w' => e = .returned (.bool true) ∧ w = w' := by
  go_enter Tryd.func69, Tryd.ntmps69
  go_wp2
  go_ret
  exact ⟨by simp [*], rfl⟩
theorem known_no (n : Int) (w : World) (h : n < 0 ∨ 8 < n) : Calls Tryd.prog 69 #[.int .i64 n] w fun e w' => e = .returned (.bool false) ∧ w = w' := by
  rcases h with h | h
  · have hd : decide (0 ≤ n) = false := by simp; omega
    go_enter Tryd.func69, Tryd.ntmps69
    go_wp2
    go_ret
    exact ⟨by simp [*], rfl⟩
  · have hd : decide (0 ≤ n) = true := by simp; omega
    have hd2 : decide (n ≤ 8) = false := by simp; omega
    go_enter Tryd.func69, Tryd.ntmps69
    go_wp2
    go_ret
    exact ⟨by simp [*], rfl⟩
theorem residue_c (x m : Int) (w : World) (hm : 0 < m) (hm2 : m ≤ 2000000000) : Calls Tryd.prog 71 #[.int .i64 x, .int .i64 m] w fun e w' => e = .returned (.int .i64 (RS x m)) ∧ w = w' := by
  have b1 := Int.lt_tmod_of_pos x hm
  have b2 := Int.tmod_lt_of_pos x hm
  go_enter Tryd.func71, Tryd.ntmps71
  go_wp2
  · go_ret
    exact ⟨ret_int (rs_neg hm ‹_›), rfl⟩
  · go_ret
    exact ⟨ret_int (rs_pos hm ‹_›), rfl⟩
theorem reduce_c (n x : Int) (w : World) (ht : Tab w) (h0 : 0 ≤ n) (h8 : n ≤ 8) : Calls Tryd.prog 49 #[.int .i64 n, .int .i64 x] w fun e w' => e = .returned (.int .i64 (RS x (P n))) ∧ w = w' := by
  have hp := P_bd h0 h8
  go_enter Tryd.func49, Tryd.ntmps49
  go_wp2_with fail
  refine (prime_c n w ht h0 h8).mono ?_
  rintro e w' ⟨rfl, rfl⟩
  go_wp2_with fail
  refine (residue_c x (P n) w (by omega) (by omega)).mono ?_
  rintro e w' ⟨rfl, rfl⟩
  go_wp2
  go_ret
  exact ⟨rfl, rfl⟩
theorem add_c (n a b : Int) (w : World) (ht : Tab w) (h0 : 0 ≤ n) (h8 : n ≤ 8) (ha : 0 ≤ a) (ha2 : a < P n) (hb : 0 ≤ b) (hb2 : b < P n) : Calls Tryd.prog 63 #[.int .i64 n, .int .i64 a, .int .i64 b] w fun e w' => e = .returned (.int .i64 (RS (a + b) (P n))) ∧ w = w' := by
  have hp := P_bd h0 h8
  go_enter Tryd.func63, Tryd.ntmps63
  go_wp2_with fail
  refine (reduce_c n (a + b) w ht h0 h8).mono ?_
  rintro e w' ⟨rfl, rfl⟩
  go_wp2
  go_ret
  exact ⟨rfl, rfl⟩
theorem sub_c (n a b : Int) (w : World) (ht : Tab w) (h0 : 0 ≤ n) (h8 : n ≤ 8) (ha : 0 ≤ a) (ha2 : a < P n) (hb : 0 ≤ b) (hb2 : b < P n) : Calls Tryd.prog 62 #[.int .i64 n, .int .i64 a, .int .i64 b] w fun e w' => e = .returned (.int .i64 (RS (a - b) (P n))) ∧ w = w' := by
  have hp := P_bd h0 h8
  go_enter Tryd.func62, Tryd.ntmps62
  go_wp2_with fail
  refine (reduce_c n (a - b) w ht h0 h8).mono ?_
  rintro e w' ⟨rfl, rfl⟩
  go_wp2
  go_ret
  exact ⟨rfl, rfl⟩
theorem mul_c (n a b : Int) (w : World) (ht : Tab w) (h0 : 0 ≤ n) (h8 : n ≤ 8) (ha : 0 ≤ a) (ha2 : a < P n) (hb : 0 ≤ b) (hb2 : b < P n) : Calls Tryd.prog 61 #[.int .i64 n, .int .i64 a, .int .i64 b] w fun e w' => e = .returned (.int .i64 (RS (a * b) (P n))) ∧ w = w' := by
  have hp := P_bd h0 h8
  obtain ⟨q1, q2⟩ := prod_bd h0 h8 ha ha2 hb hb2
  go_enter Tryd.func61, Tryd.ntmps61
  go_wp2_with fail
  refine (reduce_c n (a * b) w ht h0 h8).mono ?_
  rintro e w' ⟨rfl, rfl⟩
  go_wp2
  go_ret
  exact ⟨rfl, rfl⟩
set_option maxHeartbeats 400000 in
theorem power_c (n a e : Int) (w : World) (ht : Tab w) (h0 : 0 ≤ n) (h8 : n ≤ 8) (ha : 0 ≤ a) (ha2 : a < P n) (he : 0 ≤ e) (he2 : e ≤ 2000000000) : Calls Tryd.prog 73 #[.int .i64 n, .int .i64 a, .int .i64 e] w fun e' w' => e' = .returned (.int .i64 (PW (P n) a e)) ∧ w = w' := by
  have hp := P_bd h0 h8
  go_enter Tryd.func73, Tryd.ntmps73
  go_wp2_with fail
  go_loop [1, 2, 7] (fun u v r => ∃ x k s : Int, u = .int .i64 x ∧ v = .int .i64 k ∧ r = .int .i64 s ∧ 0 ≤ x ∧ x < P n ∧ 0 ≤ k ∧ k ≤ 2000000000 ∧ 0 ≤ s ∧ s < P n ∧ PWat (P n) a e x k s) (fun _ v _ => (intOf v).toNat)
  case atStart => exact ⟨a, e, 1, rfl, rfl, rfl, ha, ha2, he, he2, by omega, by omega, PWat_start _ _ _⟩
  case round =>
    obtain ⟨x, k, s, rfl, rfl, rfl, x0, x1, k0, k1, s0, s1, hat⟩ := hrel
    by_cases hk : 0 < k
    · by_cases h2 : k % 2 = 1
      · have h3 := PWat_odd (by omega) x0 s0 k0 h2 hat
        have b1 := RS_bd (x := x * x) (m := P n) (by omega)
        have b2 := RS_bd (x := s * x) (m := P n) (by omega)
        have e2 : (k % 2 == 1) = true := by simp [h2]
        clear h2
        go_wp2_with fail
        refine (mul_c n s x w ht h0 h8 s0 s1 x0 x1).mono ?_
        rintro e w' ⟨rfl, rfl⟩
        go_wp2_with fail
        refine (mul_c n x x w ht h0 h8 x0 x1 x0 x1).mono ?_
        rintro e w' ⟨rfl, rfl⟩
        go_wp2
        go_round
        case rel => exact ⟨_, _, _, rfl, rfl, rfl, b1.1, b1.2, by omega, by omega, b2.1, b2.2, h3⟩
        case measure => simp [intOf]; omega
      · have h3 := PWat_even (by omega) x0 k0 (by omega) hat
        have b1 := RS_bd (x := x * x) (m := P n) (by omega)
        have e2 : (k % 2 == 1) = false := by simp [h2]
        clear h2
        go_wp2_with fail
        refine (mul_c n x x w ht h0 h8 x0 x1 x0 x1).mono ?_
        rintro e w' ⟨rfl, rfl⟩
        go_wp2
        go_round
        case rel => exact ⟨_, _, _, rfl, rfl, rfl, b1.1, b1.2, by omega, by omega, s0, s1, h3⟩
        case measure => simp [intOf]; omega
    · obtain rfl : k = 0 := by omega
      have h3 := PWat_end s0 s1 hat
      have H3 := Lib.hid h3
      clear h3
      go_wp2
      go_ret
      exact ⟨ret_int H3.out, rfl⟩
end Go.Proofs.YtcenglbcibkniaaDoor
