/-
  The walks of the functions on integers: what each answers, in any world that holds the table of fields; the world stands.
-/
import Derived.Test.YthepiainflbglaaDoorRows
import Derived.Test.YthepiainflbglaaDoorNum
import Derived.WalkKit
import Derived.WalkSpells
import Derived.WalkLawsBesides
import Derived.Lib.Hide
namespace Go.Proofs.YthepiainflbglaaDoor
open Go.RowKit

/-- The world holds the table of fields. -/
def Tab (w : World) : Prop := ∀ n : Int, 0 ≤ n → n ≤ 8 →
  w.cell? ⟨0, n.toNat * 3, none⟩ = some (.int .i64 (P n)) ∧ w.cell? ⟨0, n.toNat * 3 + 1, none⟩ = some (.int .i64 (G n)) ∧ w.cell? ⟨0, n.toNat * 3 + 2, none⟩ = some (.int .i64 (T n))
theorem Tab.keep {w w' : World} (h : Tab w) (hk : ∀ o, w'.cell? ⟨0, o, none⟩ = w.cell? ⟨0, o, none⟩) : Tab w' := by
  intro n h0 h8
  rw [hk, hk, hk]; exact h n h0 h8

theorem ret_int {k : IntKind} {a b : Int} (h : a = b) : Ending.returned (.int k a) = .returned (.int k b) := by rw [h]

theorem prime_c (n : Int) (w : World) (ht : Tab w) (h0 : 0 ≤ n) (h8 : n ≤ 8) : Calls Tryd.prog 33 #[.int .i64 n] w fun e w' => e = .returned (.int .i64 (P n)) ∧ w = w' := by
  have hc := (ht n h0 h8).1
  go_enter Tryd.func33, Tryd.ntmps33
  go_wp2
  go_ret
  exact ⟨rfl, rfl⟩
theorem known_yes (n : Int) (w : World) (h0 : 0 ≤ n) (h8 : n ≤ 8) : Calls Tryd.prog 32 #[.int .i64 n] w fun e w' => e = .returned (.bool true) ∧ w = w' := by
  go_enter Tryd.func32, Tryd.ntmps32
  go_wp2
  go_ret
  exact ⟨by simp [*], rfl⟩
theorem known_no (n : Int) (w : World) (h : n < 0 ∨ 8 < n) : Calls Tryd.prog 32 #[.int .i64 n] w fun e w' => e = .returned (.bool false) ∧ w = w' := by
  rcases h with h | h
  · have hd : decide (0 ≤ n) = false := by simp; omega
    go_enter Tryd.func32, Tryd.ntmps32
    go_wp2
    go_ret
    exact ⟨by simp [*], rfl⟩
  · have hd : decide (0 ≤ n) = true := by simp; omega
    have hd2 : decide (n ≤ 8) = false := by simp; omega
    go_enter Tryd.func32, Tryd.ntmps32
    go_wp2
    go_ret
    exact ⟨by simp [*], rfl⟩
theorem residue_c (x m : Int) (w : World) (hm : 0 < m) (hm2 : m ≤ 2000000000) : Calls Tryd.prog 48 #[.int .i64 x, .int .i64 m] w fun e w' => e = .returned (.int .i64 (RS x m)) ∧ w = w' := by
  have b1 := Int.lt_tmod_of_pos x hm
  have b2 := Int.tmod_lt_of_pos x hm
  go_enter Tryd.func48, Tryd.ntmps48
  go_wp2
  · go_ret
    exact ⟨ret_int (rs_neg hm ‹_›), rfl⟩
  · go_ret
    exact ⟨ret_int (rs_pos hm ‹_›), rfl⟩
theorem reduce_c (n x : Int) (w : World) (ht : Tab w) (h0 : 0 ≤ n) (h8 : n ≤ 8) : Calls Tryd.prog 37 #[.int .i64 n, .int .i64 x] w fun e w' => e = .returned (.int .i64 (RS x (P n))) ∧ w = w' := by
  have hp := P_bd h0 h8
  go_enter Tryd.func37, Tryd.ntmps37
  go_wp2_with fail
  refine (prime_c n w ht h0 h8).mono ?_
  rintro e w' ⟨rfl, rfl⟩
  go_wp2_with fail
  refine (residue_c x (P n) w (by omega) (by omega)).mono ?_
  rintro e w' ⟨rfl, rfl⟩
  go_wp2
  go_ret
  exact ⟨rfl, rfl⟩
theorem add_c (n a b : Int) (w : World) (ht : Tab w) (h0 : 0 ≤ n) (h8 : n ≤ 8) (ha : 0 ≤ a) (ha2 : a < P n) (hb : 0 ≤ b) (hb2 : b < P n) : Calls Tryd.prog 49 #[.int .i64 n, .int .i64 a, .int .i64 b] w fun e w' => e = .returned (.int .i64 (RS (a + b) (P n))) ∧ w = w' := by
  have hp := P_bd h0 h8
  go_enter Tryd.func49, Tryd.ntmps49
  go_wp2_with fail
  refine (reduce_c n (a + b) w ht h0 h8).mono ?_
  rintro e w' ⟨rfl, rfl⟩
  go_wp2
  go_ret
  exact ⟨rfl, rfl⟩
theorem mul_c (n a b : Int) (w : World) (ht : Tab w) (h0 : 0 ≤ n) (h8 : n ≤ 8) (ha : 0 ≤ a) (ha2 : a < P n) (hb : 0 ≤ b) (hb2 : b < P n) : Calls Tryd.prog 50 #[.int .i64 n, .int .i64 a, .int .i64 b] w fun e w' => e = .returned (.int .i64 (RS (a * b) (P n))) ∧ w = w' := by
  have hp := P_bd h0 h8
  obtain ⟨q1, q2⟩ := prod_bd h0 h8 ha ha2 hb hb2
  go_enter Tryd.func50, Tryd.ntmps50
  go_wp2_with fail
  refine (reduce_c n (a * b) w ht h0 h8).mono ?_
  rintro e w' ⟨rfl, rfl⟩
  go_wp2
  go_ret
  exact ⟨rfl, rfl⟩
end Go.Proofs.YthepiainflbglaaDoor
