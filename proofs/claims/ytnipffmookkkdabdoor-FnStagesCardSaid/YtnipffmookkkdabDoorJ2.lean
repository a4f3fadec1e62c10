/-
  Texts of the proofs of this seat, joined (part 2).
-/
import Derived.Deep.QuietTactic
import Derived.BigQuiet
import Derived.StillTailTactics
import Derived.Deep.RegionHeld3
import Derived.Deep.AppendLies
import Derived.RangeFuncBox
import Derived.RangeFuncLeaves
import Derived.RangeFuncCalls
import Derived.Shelf.Abstract
import Derived.OwnWalkIn
import Derived.TacticsInMore
import Derived.LoopNIn
import Derived.LoopIn
import Derived.Maps.AppendAt
import Derived.Test.YtnipffmookkkdabDoorJ1
namespace Go.Proofs.YtnipffmookkkdabDoor
open Go.RowKit
theorem src_of_owns2 {w' : World} {base : Nat} {v : Value} {n : Nat} {F : Nat → Int} (h : w'.ownsRow base 3 1 v n (xsF F n)) : ∃ a cap, v = .slice a n cap ∧ n ≤ cap ∧ Src w' a n F := by
  obtain ⟨a, cap, hv, hs⟩ := src_of_owns h
  refine ⟨a, cap, hv, ?_, hs⟩
  obtain ⟨hl, h⟩ := h
  rcases h with ⟨h1, h2⟩ | ⟨g, cap', cur, h1, hg, hh, hc, hm, hs, ht⟩
  · rw [hv] at h1; cases h1; exact Nat.le_refl _
  · rw [hv] at h1; cases h1; exact hc
/-- A list that the call made, in a row of its own that may have room. -/
def OwnsL (w : World) (l : List Int) (e : Ending) (w' : World) : Prop := ∃ v, e = .returned v ∧ w'.ownsRow w.heap.size 3 1 v l.length (xsF (lf l) l.length) ∧ Below w.heap.size w w'
theorem OwnsL.list {w w' : World} {l : List Int} {e : Ending} (h : OwnsL w l e w') : ListL w l e w' := by
  obtain ⟨v, rfl, ho, hb⟩ := h
  obtain ⟨a, cap, rfl, _, hs⟩ := src_of_owns2 ho
  exact ⟨a, cap, rfl, hs, hb⟩
theorem owns_to {w w' : World} {n : Nat} {F : Nat → Int} {l : List Int} {v : Value} (h : w'.ownsRow w.heap.size 3 1 v n (xsF F n)) (hn : n = l.length) (e : ∀ j, j < n → F j = lf l j) (hb : Below w.heap.size w w') : OwnsL w l (.returned v) w' := by
  subst hn
  exact ⟨v, rfl, by rw [← xsF_congr e]; exact h, hb⟩
set_option maxHeartbeats 1600000 in
theorem copy_some (b off n cap : Nat) (F : Nat → Int) (w : World) (hn : n ≤ 1048576) (hlt : b < w.heap.size) (hc : ∀ j, j < n → w.cell? ⟨b, off + j, none⟩ = some (.int .i64 (F j))) :
    Calls Tryd.prog 97 #[.slice (some ⟨b, off, none⟩) n cap] w fun e w' => ∃ v, e = .returned v ∧ w'.ownsRow w.heap.size 3 1 v n (xsF F n) ∧ Below w.heap.size w w' := by
  have HC := Lib.hid hc
  clear hc
  obtain ⟨i0, hi, hz0, hz1, hz2⟩ := info_parts info3
  have HI := Lib.hid hi
  have HZ0 := Lib.hid hz0
  have HZ1 := Lib.hid hz1
  have HZ2 := Lib.hid hz2
  clear hi hz0 hz1 hz2
  go_enter Tryd.func97, Tryd.ntmps97
  go_wp2_with fail
  go_loopw [3, 4] (fun v i wr => ∃ k : Nat, i = .int .i64 k ∧ k ≤ n ∧ wr.ownsRow w.heap.size 3 1 v k (xsF F k) ∧ Below w.heap.size w wr) (fun _ i _ => n - (intOf i).toNat)
  case atStart => exact ⟨0, rfl, Nat.zero_le _, own_empty w F, (Below.refl _ _).alloc (Nat.le_refl _) _⟩
  case round =>
    obtain ⟨k, rfl, hk, hown, hnx⟩ := hrel
    by_cases h1 : k < n
    · have hc2 : wr.cell? ⟨b, off + k, none⟩ = some (.int .i64 (F k)) := (hnx.cell (p := ⟨b, off + k, none⟩) hlt).trans (HC.out k h1)
      have hs := hnx.size
      go_wp2_with (at_builtin; refine wpList_append_own _ rfl _ _ 22 rfl w.heap.size 3 i0 (.int .i64 0) 1 8 Tryd.underlying22 HI.out HZ0.out HZ1.out HZ2.out rfl (by decide) _ _ _ rfl (hown.alloc _) ⟨wr.heap.size, 0, none⟩ 1 1 [.int .i64 (F k)] rfl rfl ?c1 ?c2 ?c3 ?c4 ?c5 ?_)
      case c1 => exact cell_one_new _ _ _
      case c2 => intro u hu; simp at hu; subst hu; rfl
      case c3 => unfold maxLen; omega
      case c4 => omega
      case c5 => simp; omega
      intro v' w1 hown' hgrow _
      have hbel : Below w.heap.size w w1 := (hnx.alloc hs _).grown hgrow (by simp; omega) (own_ge hown)
      rw [xsF_succ] at hown'
      clear hgrow hown hc2
      go_wp2
      go_roundw
      case rel => exact ⟨k + 1, by go_num, by omega, hown', hbel⟩
      case measure => simp [intOf]; omega
    · have hd : decide (k < n) = false := by simpa using h1
      obtain rfl : k = n := by omega
      have HO := Lib.hid hown
      clear hown
      go_wp2
      go_ret
      exact ⟨_, rfl, HO.out, hnx⟩
theorem copy_none (a : Option Addr) (cap : Nat) (F : Nat → Int) (w : World) : Calls Tryd.prog 97 #[.slice a 0 cap] w fun e w' => ∃ v, e = .returned v ∧ w'.ownsRow w.heap.size 3 1 v 0 (xsF F 0) ∧ Below w.heap.size w w' := by
  go_enter Tryd.func97, Tryd.ntmps97
  go_wp2
  refine wp_loop_rounds 1 ?_
  rw [rounds_succ]
  go_wp2
  go_ret
  exact ⟨_, rfl, own_empty w F, (Below.refl _ _).alloc (Nat.le_refl _) _⟩
set_option maxRecDepth 100000 in
set_option maxHeartbeats 1600000 in
theorem cut_some (b off n cap : Nat) (F : Nat → Int) (w : World) (hn : n ≤ 1048576) (hcap : n ≤ cap) (hlt : b < w.heap.size) (hc : ∀ j, j < n → w.cell? ⟨b, off + j, none⟩ = some (.int .i64 (F j))) :
    Calls Tryd.prog 79 #[.slice (some ⟨b, off, none⟩) n cap] w (OwnsL w (cutL n F)) := by
  have HC := Lib.hid hc
  clear hc
  have HT : Hid (∀ k : Nat, k ≤ n → cutN F n = k → ∀ (v : Value) (w2 : World), w2.ownsRow w.heap.size 3 1 v k (xsF F k) → Below w.heap.size w w2 → OwnsL w (cutL n F) (.returned v) w2) := Lib.hid (fun k hk e v w2 ho hb => by
    subst e
    exact owns_to ho (cutL_len n F).symm (fun j hj => cutL_at hj) hb)
  go_enter Tryd.func79, Tryd.ntmps79
  go_wp2_with fail
  go_loop [3] (fun i => ∃ k : Nat, i = .int .i64 k ∧ k ≤ n ∧ Hid (cutN F n = cutN F k)) (fun i => (intOf i).toNat)
  case atStart => exact ⟨n, rfl, Nat.le_refl _, Lib.hid rfl⟩
  case round =>
    obtain ⟨k, rfl, hk, HK⟩ := hrel
    have hkc : k ≤ cap := by omega
    by_cases h1 : 0 < k
    · obtain ⟨m, rfl⟩ : ∃ m, k = m + 1 := ⟨k - 1, by omega⟩
      have c1 : w.cell? ⟨b, off + m, none⟩ = some (.int .i64 (F m)) := HC.out m (by omega)
      by_cases h2 : F m = 0
      · have HK2 : Hid (cutN F n = cutN F m) := Lib.hid (HK.out.trans (by rw [cutN, if_pos h2]))
        have e2 : (F m == 0) = true := by simp [h2]
        clear h2 HK
        go_wp2
        go_round
        case rel => exact ⟨m, by go_num, by omega, HK2⟩
        case measure => simp [intOf] <;> omega
      · have HK2 : Hid (cutN F n = m + 1) := Lib.hid (HK.out.trans (by rw [cutN, if_neg h2]))
        have e2 : (F m == 0) = false := by simp [h2]
        clear h2 HK
        go_wp2_with fail
        refine (copy_some b off (m + 1) cap F w (by omega) hlt (fun j hj => HC.out j (by omega))).mono ?_
        rintro e w2 ⟨v, rfl, ho, hb⟩
        have HO := Lib.hid ho
        clear ho
        go_wp2
        go_ret
        exact HT.out (m + 1) hk HK2.out _ w2 HO.out hb
    · obtain rfl : k = 0 := by omega
      have HK2 : Hid (cutN F n = 0) := Lib.hid (HK.out.trans rfl)
      clear HK h1
      go_wp2_with fail
      refine (copy_none (some ⟨b, off, none⟩) cap F w).mono ?_
      rintro e w2 ⟨v, rfl, ho, hb⟩
      have HO := Lib.hid ho
      clear ho
      go_wp2
      go_ret
      exact HT.out 0 (Nat.zero_le _) HK2.out _ w2 HO.out hb
theorem cut_none (a : Option Addr) (cap : Nat) (F : Nat → Int) (w : World) : Calls Tryd.prog 79 #[.slice a 0 cap] w (OwnsL w (cutL 0 F)) := by
  rcases a with _ | x
  · go_enter Tryd.func79, Tryd.ntmps79
    go_wp2
    refine wp_loop_rounds 1 ?_
    rw [rounds_succ]
    go_wp2_with fail
    refine (copy_none _ _ F w).mono ?_
    rintro e w2 ⟨v, rfl, ho, hb⟩
    have HO := Lib.hid ho
    clear ho
    go_wp2
    go_ret
    exact owns_to HO.out (cutL_len 0 F).symm (fun j hj => by omega) hb
  · go_enter Tryd.func79, Tryd.ntmps79
    go_wp2
    refine wp_loop_rounds 1 ?_
    rw [rounds_succ]
    go_wp2_with fail
    refine (copy_none _ _ F w).mono ?_
    rintro e w2 ⟨v, rfl, ho, hb⟩
    have HO := Lib.hid ho
    clear ho
    go_wp2
    go_ret
    exact owns_to HO.out (cutL_len 0 F).symm (fun j hj => by omega) hb
theorem cut_c (a : Option Addr) (n cap : Nat) (F : Nat → Int) (w : World) (hn : n ≤ 1048576) (hcap : n ≤ cap) (hs : Src w a n F) : Calls Tryd.prog 79 #[.slice a n cap] w (OwnsL w (cutL n F)) := by
  rcases hs with rfl | ⟨b, off, rfl, hlt, hc⟩
  · exact cut_none a cap F w
  · exact cut_some b off n cap F w hn hcap hlt hc
/-- The last step of a function that cuts the list which it has made. -/
theorem cut_own {base n : Nat} {F : Nat → Int} {v : Value} {w : World} (hn : n ≤ 1048576) (h : w.ownsRow base 3 1 v n (xsF F n)) : Calls Tryd.prog 79 #[v] w (OwnsL w (cutL n F)) := by
  obtain ⟨a, cap, rfl, hcap, hs⟩ := src_of_owns2 h
  exact cut_c a n cap F w hn hcap hs
theorem OwnsL.up {u w w' : World} {l : List Int} {e : Ending} (h : OwnsL w l e w') (hb : Below u.heap.size u w) (hs : u.heap.size ≤ w.heap.size) : OwnsL u l e w' := by
  obtain ⟨v, rfl, ho, h2⟩ := h
  refine ⟨v, rfl, ?_, below_up hb h2 hs⟩
  obtain ⟨hl, h⟩ := ho
  refine ⟨hl, ?_⟩
  rcases h with h | ⟨g, cap, cur, h1, hg, hr⟩
  · exact .inl h
  · exact .inr ⟨g, cap, cur, h1, Nat.le_trans hs hg, hr⟩
end Go.Proofs.YtnipffmookkkdabDoor
namespace Go.Proofs.YtnipffmookkkdabDoor
open Mth
/-- Field f has a root of order 2^k. -/
def hasK (f k : Int) : Prop := (0 ≤ f ∧ f ≤ 8) ∧ 0 ≤ k ∧ k ≤ T f
instance (f k : Int) : Decidable (hasK f k) := inferInstanceAs (Decidable ((0 ≤ f ∧ f ≤ 8) ∧ 0 ≤ k ∧ k ≤ T f))
theorem hasK_iff (f k : Int) : hasK f k ↔ 0 ≤ k ∧ k ≤ T f := by
  constructor
  · exact fun h => h.2
  · intro h
    refine ⟨?_, h⟩
    by_cases hf : 0 ≤ f ∧ f ≤ 8
    · exact hf
    · have := T_off (f := f) (by omega); omega
theorem T_le (f : Int) : T f ≤ 26 := by
  by_cases hf : 0 ≤ f ∧ f ≤ 8
  · exact (T_bd hf.1 hf.2).2
  · rw [T_off (f := f) (by omega)]; omega
def mRoot (f k : Int) : Int := if hasK f k then PW (P f) (G f) ((P f - 1) / 2 ^ k.toNat) else -1
theorem mRoot_on {f k : Int} (h : hasK f k) : mRoot f k = PW (P f) (G f) ((P f - 1) / 2 ^ k.toNat) := if_pos h
theorem mRoot_off {f k : Int} (h : ¬ hasK f k) : mRoot f k = -1 := if_neg h
theorem shr_bd {f k : Int} (h0 : 0 ≤ f) (h8 : f ≤ 8) : 0 ≤ (P f - 1) / 2 ^ k.toNat ∧ (P f - 1) / 2 ^ k.toNat ≤ P f - 1 := by
  have hp := P_bd h0 h8
  have h1 : (1 : Int) ≤ 2 ^ k.toNat := by
    have : 1 ≤ 2 ^ k.toNat := Nat.one_le_two_pow
    exact_mod_cast this
  exact ⟨Int.ediv_nonneg (by omega) (by omega), Int.ediv_le_self _ (by omega)⟩
theorem cut_root {f k : Int} (h : hasK f k) : ∃ c, (P f).toNat - 1 = 2 ^ k.toNat * c ∧ 0 < c ∧ ((P f - 1) / 2 ^ k.toNat).toNat = c := by
  obtain ⟨⟨h0, h8⟩, k0, k1⟩ := h
  have hp := P_bd h0 h8
  obtain ⟨s1, s2, s3, s4⟩ := P_split h0 h8
  have e : 2 ^ (T f).toNat = 2 ^ k.toNat * 2 ^ ((T f).toNat - k.toNat) := by rw [← Nat.pow_add]; congr 1; omega
  have h1 : 0 < 2 ^ k.toNat := Nat.pow_pos (by omega)
  refine ⟨2 ^ ((T f).toNat - k.toNat) * (oddP f).toNat, by rw [s1, e, Nat.mul_assoc], Nat.mul_pos (Nat.pow_pos (by omega)) (by omega), ?_⟩
  have e2 : (P f - 1) = (((P f).toNat - 1 : Nat) : Int) := by omega
  rw [e2, show (2 : Int) ^ k.toNat = ((2 ^ k.toNat : Nat) : Int) by simp, ← Int.natCast_ediv, Int.toNat_natCast, s1, e, Nat.mul_assoc, Nat.mul_div_cancel_left _ h1]
theorem two_le {f k : Int} (h : hasK f k) : two k ≤ P f - 1 := by
  obtain ⟨c, e, c0, _⟩ := cut_root h
  have hp := P_bd h.1.1 h.1.2
  have : 2 ^ k.toNat * 1 ≤ 2 ^ k.toNat * c := Nat.mul_le_mul_left _ c0
  rw [two_nat h.2.1]; omega
theorem two_dvd {f k : Int} (h : hasK f k) : two k ∣ P f - 1 := by
  obtain ⟨c, e, c0, _⟩ := cut_root h
  have hp := P_bd h.1.1 h.1.2
  refine ⟨c, ?_⟩
  rw [two_nat h.2.1, show (P f - 1) = (((P f).toNat - 1 : Nat) : Int) by omega, e]; simp
theorem root_bd {f k : Int} (h : hasK f k) : 0 < mRoot f k ∧ mRoot f k < P f := by
  have h0 := h.1.1
  have h8 := h.1.2
  have hp := P_bd h0 h8
  have hg := G_bd h0 h8
  rw [mRoot_on h]
  have b := PW_bd (m := P f) (x := G f) (e := (P f - 1) / 2 ^ k.toNat) (by omega)
  have := PW_nz (e := (P f - 1) / 2 ^ k.toNat) h0 h8 (show 0 < G f by omega) hg.2
  omega
theorem G_toNat {f : Int} (h0 : 0 ≤ f) : (G f).toNat = gN f.toNat := by unfold G; rw [if_pos h0]; rfl
/-- The order of the root is 2^k. -/
theorem root_ord {f k : Int} (h : hasK f k) (m : Nat) : (mRoot f k).toNat ^ m % (P f).toNat = 1 ↔ 2 ^ k.toNat ∣ m := by
  obtain ⟨c, e, c0, ec⟩ := cut_root h
  have h0 := h.1.1
  have h8 := h.1.2
  have hp := P_bd h0 h8
  have hf := fldf h0 h8
  rw [mRoot_on h, PW_toNat, ec, G_toNat h0, ← Nat.pow_mod, ← Nat.pow_mul]
  constructor
  · intro h1
    obtain ⟨d, hd⟩ := hf.ord _ h1
    rw [e, Nat.mul_comm (2 ^ k.toNat) c, Nat.mul_assoc] at hd
    exact ⟨d, Nat.eq_of_mul_eq_mul_left c0 hd⟩
  · rintro ⟨d, rfl⟩
    rw [show c * (2 ^ k.toNat * d) = ((P f).toNat - 1) * d by rw [e, Nat.mul_comm (2 ^ k.toNat) c, Nat.mul_assoc], Nat.pow_mul]
    exact pow_one_mod d (by omega) hf.one
theorem PW_zero {f x : Int} (h0 : 0 ≤ f) (h8 : f ≤ 8) : PW (P f) x 0 = 1 := by
  have hp := P_bd h0 h8
  unfold PW
  simp
  rw [Int.emod_eq_of_lt (by omega) (by omega)]
theorem PW_succ {f x : Int} (h0 : 0 ≤ f) (h8 : f ≤ 8) (x0 : 0 ≤ x) (j : Nat) : RS (PW (P f) x j * x) (P f) = PW (P f) x ((j + 1 : Nat) : Int) := by
  have hp := P_bd h0 h8
  have b := PW_bd (m := P f) (x := x) (e := j) (by omega)
  rw [RS_nat h0 h8 b.1 x0, PW_toNat]
  unfold PW
  rw [Int.toNat_natCast, Int.toNat_natCast, Nat.pow_succ, Nat.mod_mul_mod]
/-- The k-th root's powers: what Roots lists. -/
def rootsF (f k : Int) (j : Nat) : Int := PW (P f) (mRoot f k) j
theorem rootsF_bd {f k : Int} (h : hasK f k) (j : Nat) : 0 < rootsF f k j ∧ rootsF f k j < P f := by
  have hp := P_bd h.1.1 h.1.2
  have b := root_bd h
  have b2 := PW_bd (m := P f) (x := mRoot f k) (e := j) (by omega)
  have := PW_nz (e := j) h.1.1 h.1.2 b.1 b.2
  unfold rootsF
  omega
/-- Logarithms. -/
def mLog (n : Int) : Int := if n = 1 then 0 else if n = 2 then 1 else if n = 4 then 2 else if n = 8 then 3 else if n = 16 then 4 else if n = 32 then 5 else if n = 64 then 6 else if n = 128 then 7 else if n = 256 then 8 else if n = 512 then 9 else -1
theorem ten {k : Nat} (h : k ≤ 9) : k = 0 ∨ k = 1 ∨ k = 2 ∨ k = 3 ∨ k = 4 ∨ k = 5 ∨ k = 6 ∨ k = 7 ∨ k = 8 ∨ k = 9 := by omega
theorem log_at {k : Nat} (h : k ≤ 9) : mLog (2 ^ k) = k := by
  rcases ten h with rfl | rfl | rfl | rfl | rfl | rfl | rfl | rfl | rfl | rfl <;> decide
theorem log_off {n : Int} (h : ∀ k : Nat, k ≤ 9 → n ≠ 2 ^ k) : mLog n = -1 := by
  have h0 := h 0 (by omega); have h1 := h 1 (by omega); have h2 := h 2 (by omega); have h3 := h 3 (by omega); have h4 := h 4 (by omega)
  have h5 := h 5 (by omega); have h6 := h 6 (by omega); have h7 := h 7 (by omega); have h8 := h 8 (by omega); have h9 := h 9 (by omega)
  simp at h0 h1 h2 h3 h4 h5 h6 h7 h8 h9
  simp [mLog, h0, h1, h2, h3, h4, h5, h6, h7, h8, h9]
theorem log_cases (n : Int) : (∃ k : Nat, k ≤ 9 ∧ n = 2 ^ k ∧ mLog n = k) ∨ ((∀ k : Nat, k ≤ 9 → n ≠ 2 ^ k) ∧ mLog n = -1) := by
  by_cases h : ∃ k : Nat, k ≤ 9 ∧ n = 2 ^ k
  · obtain ⟨k, hk, rfl⟩ := h
    exact .inl ⟨k, hk, rfl, log_at hk⟩
  · have h2 : ∀ k : Nat, k ≤ 9 → n ≠ 2 ^ k := fun k hk e => h ⟨k, hk, e⟩
    exact .inr ⟨h2, log_off h2⟩
/-- The first j bits of x, the lowest first. -/
def rv (x : Nat) : Nat → Nat
  | 0 => 0
  | j + 1 => 2 * rv x j + x / 2 ^ j % 2
theorem rv_lt (x j : Nat) : rv x j < 2 ^ j := by
  induction j with
  | zero => simp [rv]
  | succ j ih => rw [rv, Nat.pow_succ]; omega
theorem rv_all : ∀ k, k < 10 → ∀ x, x < 2 ^ k → rv (rv x k) k = x := by decide +kernel
theorem rv_twice {k x : Nat} (hk : k ≤ 9) (hx : x < 2 ^ k) : rv (rv x k) k = x := rv_all k (by omega) x hx
def mRev (x k : Int) : Int := if (0 ≤ k ∧ k ≤ 9) ∧ 0 ≤ x ∧ x < two k then (rv x.toNat k.toNat : Nat) else -1
end Go.Proofs.YtnipffmookkkdabDoor
namespace Go.Proofs.YtnipffmookkkdabDoor
open Go.RowKit
theorem in_yes (x a b : Int) (w : World) (h0 : a ≤ x) (h1 : x ≤ b) : Calls Tryd.prog 76 #[.int .i64 x, .int .i64 a, .int .i64 b] w fun e w' => e = .returned (.bool true) ∧ w = w' := by
  go_enter Tryd.func76, Tryd.ntmps76
  go_wp2
  go_ret
  exact ⟨by simp [*], rfl⟩
theorem in_no (x a b : Int) (w : World) (h : x < a ∨ b < x) : Calls Tryd.prog 76 #[.int .i64 x, .int .i64 a, .int .i64 b] w fun e w' => e = .returned (.bool false) ∧ w = w' := by
  by_cases h0 : a ≤ x
  · have hd : decide (a ≤ x) = true := by simpa using h0
    have hd2 : decide (x ≤ b) = false := by simp; omega
    go_enter Tryd.func76, Tryd.ntmps76
    go_wp2
    go_ret
    exact ⟨by simp [*], rfl⟩
  · have hd : decide (a ≤ x) = false := by simpa using h0
    go_enter Tryd.func76, Tryd.ntmps76
    go_wp2
    go_ret
    exact ⟨by simp [*], rfl⟩
theorem hasRoot_yes (f k : Int) (w : World) (ht : Tab w) (h : hasK f k) : Calls Tryd.prog 86 #[.int .i64 f, .int .i64 k] w fun e w' => e = .returned (.bool true) ∧ w = w' := by
  obtain ⟨_, k0, k1⟩ := h
  have hd : decide (0 ≤ k) = true := by simpa using k0
  have hd2 : decide (k ≤ T f) = true := by simpa using k1
  go_enter Tryd.func86, Tryd.ntmps86
  go_wp2_with fail
  refine (iTwoPower f w ht).mono ?_
  rintro e w' ⟨rfl, rfl⟩
  go_wp2
  go_ret
  exact ⟨by simp [*], rfl⟩
theorem hasRoot_no (f k : Int) (w : World) (ht : Tab w) (h : ¬ hasK f k) : Calls Tryd.prog 86 #[.int .i64 f, .int .i64 k] w fun e w' => e = .returned (.bool false) ∧ w = w' := by
  rw [hasK_iff] at h
  by_cases k0 : 0 ≤ k
  · have hd : decide (0 ≤ k) = true := by simpa using k0
    have hd2 : decide (k ≤ T f) = false := by simp; omega
    go_enter Tryd.func86, Tryd.ntmps86
    go_wp2_with fail
    refine (iTwoPower f w ht).mono ?_
    rintro e w' ⟨rfl, rfl⟩
    go_wp2
    go_ret
    exact ⟨by simp [*], rfl⟩
  · have hd : decide (0 ≤ k) = false := by simpa using k0
    go_enter Tryd.func86, Tryd.ntmps86
    go_wp2
    go_ret
    exact ⟨by simp, rfl⟩
theorem hasRoots_yes (f k : Int) (w : World) (ht : Tab w) (h : hasK f k) (k9 : k ≤ 9) : Calls Tryd.prog 49 #[.int .i64 f, .int .i64 k] w fun e w' => e = .returned (.bool true) ∧ w = w' := by
  have hd : decide (k ≤ 9) = true := by simpa using k9
  go_enter Tryd.func49, Tryd.ntmps49
  go_wp2_with fail
  refine (hasRoot_yes f k w ht h).mono ?_
  rintro e w' ⟨rfl, rfl⟩
  go_wp2
  go_ret
  exact ⟨by simp [*], rfl⟩
theorem hasRoots_no (f k : Int) (w : World) (ht : Tab w) (h : ¬ (hasK f k ∧ k ≤ 9)) : Calls Tryd.prog 49 #[.int .i64 f, .int .i64 k] w fun e w' => e = .returned (.bool false) ∧ w = w' := by
  by_cases hk : hasK f k
  · have hd : decide (k ≤ 9) = false := by simp; exact Int.not_le.1 (fun h9 => h ⟨hk, h9⟩)
    go_enter Tryd.func49, Tryd.ntmps49
    go_wp2_with fail
    refine (hasRoot_yes f k w ht hk).mono ?_
    rintro e w' ⟨rfl, rfl⟩
    go_wp2
    go_ret
    exact ⟨by simp [*], rfl⟩
  · go_enter Tryd.func49, Tryd.ntmps49
    go_wp2_with fail
    refine (hasRoot_no f k w ht hk).mono ?_
    rintro e w' ⟨rfl, rfl⟩
    go_wp2
    go_ret
    exact ⟨by simp [*], rfl⟩
theorem rootk_c (f k : Int) (w : World) (ht : Tab w) (h : hasK f k) : Calls Tryd.prog 109 #[.int .i64 f, .int .i64 k] w fun e w' => e = .returned (.int .i64 (mRoot f k)) ∧ w = w' := by
  have HR := Lib.hid (mRoot_on h)
  obtain ⟨⟨h0, h8⟩, k0, k1⟩ := h
  have hp := P_bd h0 h8
  have hG := G_bd h0 h8
  have hT := T_le f
  have hs := shr_bd (k := k) h0 h8
  go_enter Tryd.func109, Tryd.ntmps109
  go_wp2_with fail
  refine (generator_c f w ht h0 h8).mono ?_
  rintro e w' ⟨rfl, rfl⟩
  go_wp2_with fail
  refine (prime_c f w ht h0 h8).mono ?_
  rintro e w' ⟨rfl, rfl⟩
  go_wp2_with fail
  refine (power_c f (G f) ((P f - 1) / 2 ^ k.toNat) w ht h0 h8 (by omega) (by omega) (by omega) (by omega)).mono ?_
  rintro e w' ⟨rfl, rfl⟩
  go_wp2
  go_ret
  exact ⟨ret_int HR.out.symm, rfl⟩
theorem shr_lt {f k : Int} (h : hasK f k) (hk : 0 < k) : (P f - 1) / 2 ^ k.toNat < P f - 1 := by
  obtain ⟨c, e, c0, ec⟩ := cut_root h
  have hp := P_bd h.1.1 h.1.2
  have hs := shr_bd (k := k) h.1.1 h.1.2
  have : 2 ^ 1 ≤ 2 ^ k.toNat := Nat.pow_le_pow_right (by omega) (by omega)
  have : 2 ^ 1 * c ≤ 2 ^ k.toNat * c := Nat.mul_le_mul_right _ this
  omega
/-- The specification's exponent is reduced, which turns it at k = 0 alone: and there both powers are 1. -/
theorem spec_root {f k : Int} (h : hasK f k) : mPower f (G f) ((P f - 1) / 2 ^ k.toNat) = mRoot f k := by
  have h0 := h.1.1
  have h8 := h.1.2
  have hp := P_bd h0 h8
  have hg := G_bd h0 h8
  have hs := shr_bd (k := k) h0 h8
  have e : RS (G f) (P f) = G f := RS_self (by omega) hg.2
  rw [mRoot_on h]
  unfold mPower
  rw [if_pos h.1, e, if_neg (by omega)]
  by_cases hk : 0 < k
  · rw [RS_self hs.1 (shr_lt h hk)]
  · have : k = 0 := by have := h.2.1; omega
    subst this
    have e2 : (P f - 1) / 2 ^ (0 : Int).toNat = P f - 1 := by simp
    rw [e2, show RS (P f - 1) (P f - 1) = 0 from Int.emod_self, PW_zero h0 h8]
    refine ((PW_one _ _).2 ?_).symm
    have hf := fldf h0 h8
    rw [G_toNat h0, show (P f - 1).toNat = (P f).toNat - 1 by omega]
    exact hf.one
theorem sRootOf (f k : Int) (w : World) : Calls Tryd.prog 37 #[.int .i64 f, .int .i64 k] w fun e w' => e = .returned (.int .i64 (mRoot f k)) ∧ w = w' := by
  by_cases hk : hasK f k
  · have HR := Lib.hid (spec_root hk)
    obtain ⟨⟨h0, h8⟩, k0, k1⟩ := hk
    have hp := P_bd h0 h8
    have hT := T_le f
    have hz : (P f == 0) = false := by simp; omega
    go_enter Tryd.func37, Tryd.ntmps37
    go_wp2_with fail
    refine (sModulus f w).mono ?_
    rintro e w' ⟨rfl, rfl⟩
    go_wp2_with fail
    refine (sTwoPower f w).mono ?_
    rintro e w' ⟨rfl, rfl⟩
    go_wp2_with fail
    refine (in_yes k 0 (T f) w k0 k1).mono ?_
    rintro e w' ⟨rfl, rfl⟩
    go_wp2_with fail
    refine (sGenerator f w).mono ?_
    rintro e w' ⟨rfl, rfl⟩
    go_wp2_with fail
    refine (sModulus f w).mono ?_
    rintro e w' ⟨rfl, rfl⟩
    go_wp2_with fail
    refine (sPower f (G f) ((P f - 1) / 2 ^ k.toNat) w).mono ?_
    rintro e w' ⟨rfl, rfl⟩
    go_wp2
    go_ret
    exact ⟨ret_int HR.out, rfl⟩
  · have HR := Lib.hid (mRoot_off hk)
    by_cases hf : 0 ≤ f ∧ f ≤ 8
    · have hn : k < 0 ∨ T f < k := by
        rw [hasK_iff] at hk; omega
      have hp := P_bd hf.1 hf.2
      have hz : (P f == 0) = false := by simp; omega
      clear hk
      go_enter Tryd.func37, Tryd.ntmps37
      go_wp2_with fail
      refine (sModulus f w).mono ?_
      rintro e w' ⟨rfl, rfl⟩
      go_wp2_with fail
      refine (sTwoPower f w).mono ?_
      rintro e w' ⟨rfl, rfl⟩
      go_wp2_with fail
      refine (in_no k 0 (T f) w hn).mono ?_
      rintro e w' ⟨rfl, rfl⟩
      go_wp2
      go_ret
      exact ⟨ret_int HR.out.symm, rfl⟩
    · have hz : (P f == 0) = true := by simp [P_off (f := f) (by omega)]
      clear hk
      go_enter Tryd.func37, Tryd.ntmps37
      go_wp2_with fail
      refine (sModulus f w).mono ?_
      rintro e w' ⟨rfl, rfl⟩
      go_wp2
      go_ret
      exact ⟨ret_int HR.out.symm, rfl⟩
theorem shl_at {k : Int} (h0 : 0 ≤ k) (h : k ≤ 26) : wrap64 (2 ^ k.toNat) = two k := by
  have := two_bd h0 h
  exact IntWalk.wrap64_in _ (by unfold two at this; omega)
end Go.Proofs.YtnipffmookkkdabDoor
namespace Go.Proofs.YtnipffmookkkdabDoor
open Go.RowKit
theorem two_cast (k : Nat) : two (k : Int) = 2 ^ k := rfl
theorem log_two {k : Nat} (h : k ≤ 9) : mLog (two k) = k := log_at h
theorem shl_nat {k : Nat} (h : k ≤ 26) : wrap64 (2 ^ k) = two (k : Int) := by
  have := two_bd (k := (k : Int)) (by omega) (by omega)
  exact IntWalk.wrap64_in _ (by rw [two_cast] at this; omega)
set_option maxHeartbeats 400000 in
theorem sLogOf (n : Int) (w : World) : Calls Tryd.prog 29 #[.int .i64 n] w fun e w' => e = .returned (.int .i64 (mLog n)) ∧ w = w' := by
  go_enter Tryd.func29, Tryd.ntmps29
  go_wp2_with fail
  go_loop [3] (fun v => ∃ k : Nat, v = .int .i64 k ∧ k ≤ 10 ∧ Hid (∀ j : Nat, j < k → n ≠ two j)) (fun v => 10 - (intOf v).toNat)
  case atStart => exact ⟨0, rfl, by omega, Lib.hid (fun j hj => by omega)⟩
  case round =>
    obtain ⟨k, rfl, hk, H⟩ := hrel
    by_cases h9 : k ≤ 9
    · have ek := shl_nat (k := k) (by omega)
      by_cases he : n = two k
      · have e1 : (n == two k) = true := by simpa using he
        have HL : Hid (mLog n = k) := Lib.hid (by rw [he]; exact log_two h9)
        clear he
        go_wp2
        go_ret
        exact ⟨ret_int HL.out.symm, rfl⟩
      · have e1 : (n == two k) = false := by simpa using he
        have H2 : Hid (∀ j : Nat, j < k + 1 → n ≠ two j) := Lib.hid (fun j hj => by
          by_cases hjk : j = k
          · subst hjk; exact he
          · exact H.out j (by omega))
        clear he
        go_wp2
        go_round
        case rel => exact ⟨k + 1, by go_num, by omega, H2⟩
        case measure => simp [intOf]; omega
    · obtain rfl : k = 10 := by omega
      have HL : Hid (mLog n = -1) := Lib.hid (log_off (fun j hj => H.out j (by omega)))
      go_wp2
      go_ret
      exact ⟨ret_int HL.out.symm, rfl⟩
set_option maxHeartbeats 400000 in
theorem iLogOf (n : Int) (w : World) : Calls Tryd.prog 61 #[.int .i64 n] w fun e w' => e = .returned (.int .i64 (mLog n)) ∧ w = w' := by
  go_enter Tryd.func61, Tryd.ntmps61
  go_wp2_with fail
  go_loop [3, 4] (fun _ v => ∃ k : Nat, v = .int .i64 k ∧ k ≤ 10 ∧ Hid (∀ j : Nat, j < k → n ≠ two j)) (fun _ v => 10 - (intOf v).toNat)
  case atStart => exact ⟨0, rfl, by omega, Lib.hid (fun j hj => by omega)⟩
  case round =>
    obtain ⟨k, rfl, hk, H⟩ := hrel
    by_cases h9 : k ≤ 9
    · have ek := shl_nat (k := k) (by omega)
      by_cases he : n = two k
      · have e1 : (n == two k) = true := by simpa using he
        have HL : Hid (mLog n = k) := Lib.hid (by rw [he]; exact log_two h9)
        clear he
        go_wp2
        go_ret
        exact ⟨ret_int HL.out.symm, rfl⟩
      · have e1 : (n == two k) = false := by simpa using he
        have H2 : Hid (∀ j : Nat, j < k + 1 → n ≠ two j) := Lib.hid (fun j hj => by
          by_cases hjk : j = k
          · subst hjk; exact he
          · exact H.out j (by omega))
        clear he
        go_wp2
        go_round
        case rel => exact ⟨k + 1, by go_num, by omega, H2⟩
        case measure => simp [intOf]; omega
    · obtain rfl : k = 10 := by omega
      have HL : Hid (mLog n = -1) := Lib.hid (log_off (fun j hj => H.out j (by omega)))
      go_wp2
      go_ret
      exact ⟨ret_int HL.out.symm, rfl⟩
end Go.Proofs.YtnipffmookkkdabDoor
namespace Go.Proofs.YtnipffmookkkdabDoor
open Mth
theorem sumN_mod {p : Int} {f g : Nat → Int} {n : Nat} (h : ∀ i, i < n → f i % p = g i % p) : sumN f n % p = sumN g n % p := by
  induction n with
  | zero => rfl
  | succ n ih => rw [sumN, sumN]; exact emod_add_congr (ih fun i hi => h i (by omega)) (h n (by omega))
theorem sumN_zero {f : Nat → Int} {n : Nat} (h : ∀ i, i < n → f i = 0) : sumN f n = 0 := by
  induction n with
  | zero => rfl
  | succ n ih => rw [sumN, ih fun i hi => h i (by omega), h n (by omega)]; rfl
theorem sumN_split (f : Nat → Int) (a b : Nat) : sumN f (a + b) = sumN f a + sumN (fun i => f (a + i)) b := by
  induction b with
  | zero => simp [sumN]
  | succ b ih => rw [← Nat.add_assoc, sumN, ih, sumN]; omega
theorem sumN_swap (F : Nat → Nat → Int) (n m : Nat) : sumN (fun i => sumN (fun j => F i j) m) n = sumN (fun j => sumN (fun i => F i j) n) m := by
  induction n with
  | zero => rw [sumN]; exact (sumN_zero fun _ _ => rfl).symm
  | succ n ih => rw [sumN, ih, ← sumN_add]; rfl
theorem sumN_mul_r (c : Int) (g : Nat → Int) (n : Nat) : sumN (fun i => g i * c) n = sumN g n * c := by
  rw [Int.mul_comm (sumN g n), ← sumN_mul]
  exact sumN_congr fun i _ => Int.mul_comm _ _
theorem sumN_const (c : Int) (n : Nat) : sumN (fun _ => c) n = n * c := by
  induction n with
  | zero => simp [sumN]
  | succ n ih => rw [sumN, ih, show ((n + 1 : Nat) : Int) = (n : Int) + 1 by omega, Int.add_mul, Int.one_mul]
/-- A sum over all residues, begun elsewhere. -/
theorem sumN_turn (F : Nat → Int) {n c : Nat} (hc : c ≤ n) : sumN (fun i => F ((i + c) % n)) n = sumN F n := by
  have e1 : sumN (fun i => F ((i + c) % n)) n = sumN (fun i => F ((i + c) % n)) (n - c) + sumN (fun u => F ((n - c + u + c) % n)) c := by
    have := sumN_split (fun i => F ((i + c) % n)) (n - c) c
    rwa [Nat.sub_add_cancel hc] at this
  have e2 : sumN F n = sumN F c + sumN (fun i => F (c + i)) (n - c) := by
    have := sumN_split F c (n - c)
    rwa [Nat.add_sub_cancel' hc] at this
  rw [e1, e2, Int.add_comm]
  congr 1
  · exact sumN_congr fun u hu => by rw [show n - c + u + c = u + n by omega, Nat.add_mod_right, Nat.mod_eq_of_lt (by omega)]
  · exact sumN_congr fun i hi => by rw [Nat.mod_eq_of_lt (by omega), Nat.add_comm]
/-- Even and odd places. -/
theorem sumN_even (F : Nat → Int) (h : Nat) : sumN F (2 * h) = sumN (fun u => F (2 * u)) h + sumN (fun u => F (2 * u + 1)) h := by
  induction h with
  | zero => rfl
  | succ h ih => rw [show 2 * (h + 1) = 2 * h + 1 + 1 by omega, sumN, sumN, ih, sumN, sumN]; omega
theorem geo (z : Int) (n : Nat) : (z - 1) * sumN (fun j => z ^ j) n = z ^ n - 1 := by
  induction n with
  | zero => simp [sumN]
  | succ n ih => rw [sumN, Int.mul_add, ih, Int.pow_succ, Int.sub_mul, Int.one_mul, Int.mul_comm z]; omega
theorem pow_mod_congr {p a b : Int} (k : Nat) (h : a % p = b % p) : a ^ k % p = b ^ k % p := by
  induction k with
  | zero => rw [Int.pow_zero, Int.pow_zero]
  | succ k ih => rw [Int.pow_succ, Int.pow_succ]; exact emod_mul_congr ih h
theorem one_pow_mod {p a : Int} (k : Nat) (h : a % p = 1 % p) : a ^ k % p = 1 % p := by
  have := pow_mod_congr k h
  rwa [Int.one_pow] at this
theorem one_p {f : Int} (h0 : 0 ≤ f) (h8 : f ≤ 8) : (1 : Int) % P f = 1 := by
  have := P_bd h0 h8
  exact Int.emod_eq_of_lt (by omega) (by omega)
/-- w is a root of order n in field f, v its inverse. -/
structure Rt (f : Int) (w v : Int) (n : Nat) : Prop where
  h0 : 0 ≤ f
  h8 : f ≤ 8
  n0 : 0 < n
  ord : ∀ m, w ^ m % P f = 1 % P f ↔ n ∣ m
  inv : (w * v) % P f = 1 % P f
theorem Rt.wv {f w v : Int} {n : Nat} (h : Rt f w v n) (m : Nat) : (w ^ m * v ^ m) % P f = 1 % P f := by
  rw [← Int.mul_pow]
  exact one_pow_mod m h.inv
theorem Rt.swap {f w v : Int} {n : Nat} (h : Rt f w v n) : Rt f v w n := by
  refine ⟨h.h0, h.h8, h.n0, fun m => ?_, by rw [Int.mul_comm]; exact h.inv⟩
  rw [← h.ord m]
  have e := h.wv m
  constructor
  · intro hv
    have : (w ^ m * v ^ m) % P f = (w ^ m * 1) % P f := emod_mul_congr rfl hv
    rw [Int.mul_one] at this
    rw [← this, e]
  · intro hw
    have : (w ^ m * v ^ m) % P f = (1 * v ^ m) % P f := emod_mul_congr hw rfl
    rw [Int.one_mul] at this
    rw [← this, e]
theorem Rt.full {f w v : Int} {n : Nat} (h : Rt f w v n) : w ^ n % P f = 1 % P f := (h.ord n).2 (Nat.dvd_refl n)
/-- Exponents count modulo n. -/
theorem Rt.exp {f w v : Int} {n : Nat} (h : Rt f w v n) {a b : Nat} (e : a % n = b % n) : w ^ a % P f = w ^ b % P f := by
  have step : ∀ c, w ^ c % P f = w ^ (c % n) % P f := fun c => by
    have : w ^ c = (w ^ n) ^ (c / n) * w ^ (c % n) := by rw [← Int.pow_mul, ← Int.pow_add, Nat.div_add_mod]
    rw [this]
    have := emod_mul_congr (one_pow_mod (c / n) h.full) (show w ^ (c % n) % P f = w ^ (c % n) % P f from rfl)
    rwa [Int.one_mul] at this
  rw [step a, step b, e]
theorem Rt.geo0 {f w v : Int} {n : Nat} (h : Rt f w v n) {z : Int} (hz : z % P f ≠ 1 % P f) (hn : z ^ n % P f = 1 % P f) : sumN (fun j => z ^ j) n % P f = 0 := by
  refine Classical.byContradiction fun hs => ?_
  have hz1 : (z - 1) % P f ≠ 0 := fun e => hz (Int.emod_emod_of_dvd z (Int.dvd_refl _) ▸ by
    have := emod_add_congr (p := P f) (a := z - 1) (b := 0) (c := 1) (d := 1) (by rw [e]; simp) rfl
    rw [Int.sub_add_cancel, Int.zero_add] at this
    rw [Int.emod_emod_of_dvd z (Int.dvd_refl _)]
    exact this)
  have := mul_nz h.h0 h.h8 hz1 hs
  rw [geo] at this
  exact this (emod_zero_of_sub hn)
/-- The sum of (w^u v^l)^j over j is n where u = l, else 0. -/
theorem Rt.delta {f w v : Int} {n : Nat} (h : Rt f w v n) {u l : Nat} (hu : u < n) (hl : l < n) : sumN (fun j => w ^ (j * u) * v ^ (l * j)) n % P f = (if u = l then (n : Int) else 0) % P f := by
  have e : ∀ j, w ^ (j * u) * v ^ (l * j) = (w ^ u * v ^ l) ^ j := fun j => by rw [Int.mul_pow, ← Int.pow_mul, ← Int.pow_mul, Nat.mul_comm u j]
  rw [sumN_congr fun j _ => e j]
  by_cases hul : u = l
  · subst hul
    rw [if_pos rfl]
    have : sumN (fun j => (w ^ u * v ^ u) ^ j) n % P f = sumN (fun _ => 1) n % P f := sumN_mod fun j _ => one_pow_mod j (h.wv u)
    rw [this, sumN_const, Int.mul_one]
  · rw [if_neg hul]
    have hn : (w ^ u * v ^ l) ^ n % P f = 1 % P f := by
      rw [Int.mul_pow, ← Int.pow_mul, ← Int.pow_mul]
      have := emod_mul_congr ((h.ord (u * n)).2 (Nat.dvd_mul_left n u)) ((h.swap.ord (l * n)).2 (Nat.dvd_mul_left n l))
      rwa [Int.mul_one] at this
    rw [h.geo0 _ hn]
    · simp
    · intro hz
      -- times w^l
      have e2 : (w ^ u * v ^ l * w ^ l) % P f = (1 * w ^ l) % P f := emod_mul_congr hz rfl
      have e3 : (w ^ u * (w ^ l * v ^ l)) % P f = (w ^ u * 1) % P f := emod_mul_congr rfl (h.wv l)
      have e4 : w ^ u % P f = w ^ l % P f := by
        rw [Int.mul_one] at e3
        rw [Int.one_mul] at e2
        rw [← e3, ← e2]
        congr 1
        rw [Int.mul_assoc, Int.mul_comm (v ^ l)]
      -- exponents apart by less than n
      have key : ∀ a b : Nat, a < b → b < n → w ^ a % P f ≠ w ^ b % P f := fun a b hab hb e => by
        have : w ^ (b - a) % P f = 1 % P f := by
          have e5 : (w ^ b * v ^ a) % P f = (w ^ a * v ^ a) % P f := emod_mul_congr e.symm rfl
          rw [h.wv a] at e5
          have e6 : w ^ b * v ^ a = w ^ (b - a) * (w ^ a * v ^ a) := by rw [← Int.mul_assoc, ← Int.pow_add, Nat.sub_add_cancel (Nat.le_of_lt hab)]
          rw [e6] at e5
          have e7 := emod_mul_congr (p := P f) (show w ^ (b - a) % P f = w ^ (b - a) % P f from rfl) (h.wv a)
          rw [Int.mul_one] at e7
          rw [← e7, e5]
        have := Nat.le_of_dvd (by omega) ((h.ord _).1 this)
        omega
      rcases Nat.lt_or_gt_of_ne hul with hlt | hgt
      · exact key u l hlt hl e4
      · exact key l u hgt hu e4.symm
/-- The transform, unreduced. -/
def ftF (w : Int) (n : Nat) (A : Nat → Int) (i : Nat) : Int := sumN (fun j => A j * w ^ (i * j)) n
theorem ft_mod {p w : Int} {n : Nat} {A B : Nat → Int} (h : ∀ j, j < n → A j % p = B j % p) (i : Nat) : ftF w n A i % p = ftF w n B i % p := sumN_mod fun j hj => emod_mul_congr (h j hj) rfl
theorem ft_smul (w c : Int) (n : Nat) (A : Nat → Int) (i : Nat) : ftF w n (fun j => A j * c) i = ftF w n A i * c := by
  unfold ftF
  rw [← sumN_mul_r]
  exact sumN_congr fun j _ => by rw [Int.mul_assoc, Int.mul_comm c, ← Int.mul_assoc]
/-- There and back: n times the vector. -/
theorem ft_back {f w v : Int} {n : Nat} (h : Rt f w v n) (A : Nat → Int) {l : Nat} (hl : l < n) : ftF v n (ftF w n A) l % P f = (A l * n) % P f := by
  unfold ftF
  have e1 : sumN (fun j => sumN (fun u => A u * w ^ (j * u)) n * v ^ (l * j)) n = sumN (fun u => A u * sumN (fun j => w ^ (j * u) * v ^ (l * j)) n) n := by
    rw [sumN_congr fun j _ => (sumN_mul_r (v ^ (l * j)) (fun u => A u * w ^ (j * u)) n).symm, sumN_swap]
    exact sumN_congr fun u _ => by
      rw [← sumN_mul]
      exact sumN_congr fun j _ => Int.mul_assoc _ _ _
  rw [e1]
  have e2 : sumN (fun u => A u * sumN (fun j => w ^ (j * u) * v ^ (l * j)) n) n % P f = sumN (fun u => if u = l then A u * n else 0) n % P f := sumN_mod fun u hu => by
    rw [emod_mul_congr (p := P f) (show A u % P f = A u % P f from rfl) (h.delta hu hl)]
    by_cases hul : u = l
    · rw [if_pos hul, if_pos hul]
    · rw [if_neg hul, if_neg hul, Int.mul_zero]
  rw [e2, sumN_single (fun u => A u * n) l n, if_pos hl]
/-- Cyclic convolution. -/
def cycF (n : Nat) (A B : Nat → Int) (i : Nat) : Int := sumN (fun j => A j * B ((i + n - j) % n)) n
theorem ft_cyc {f w v : Int} {n : Nat} (h : Rt f w v n) (A B : Nat → Int) (i : Nat) : ftF w n (cycF n A B) i % P f = (ftF w n A i * ftF w n B i) % P f := by
  have e1 : ftF w n (cycF n A B) i = sumN (fun j => A j * sumN (fun t => B ((t + n - j) % n) * w ^ (i * t)) n) n := by
    unfold ftF cycF
    rw [sumN_congr fun t _ => (sumN_mul_r (w ^ (i * t)) (fun j => A j * B ((t + n - j) % n)) n).symm, sumN_swap]
    exact sumN_congr fun j _ => by
      rw [← sumN_mul]
      exact sumN_congr fun t _ => Int.mul_assoc _ _ _
  have e2 : ∀ j, j < n → sumN (fun t => B ((t + n - j) % n) * w ^ (i * t)) n % P f = (ftF w n B i * w ^ (i * j)) % P f := fun j hj => by
    have e3 : sumN (fun t => B ((t + n - j) % n) * w ^ (i * t)) n % P f = sumN (fun t => (fun s => B s * w ^ (i * (s + j))) ((t + (n - j)) % n)) n % P f := sumN_mod fun t _ => by
      show _ = (B ((t + (n - j)) % n) * w ^ (i * ((t + (n - j)) % n + j))) % P f
      rw [show t + n - j = t + (n - j) by omega]
      refine emod_mul_congr rfl (h.exp ?_)
      rw [Nat.mul_mod, Nat.mul_mod i ((t + (n - j)) % n + j), Nat.mod_add_mod, show t + (n - j) + j = t + n by omega, Nat.add_mod_right]
    rw [e3, sumN_turn (fun s => B s * w ^ (i * (s + j))) (by omega)]
    unfold ftF
    rw [← sumN_mul_r]
    congr 1
    exact sumN_congr fun s _ => by rw [Nat.mul_add, Int.pow_add, Int.mul_assoc]
  rw [e1]
  have e4 : sumN (fun j => A j * sumN (fun t => B ((t + n - j) % n) * w ^ (i * t)) n) n % P f = sumN (fun j => A j * w ^ (i * j) * ftF w n B i) n % P f := sumN_mod fun j hj => by
    rw [emod_mul_congr (p := P f) (show A j % P f = A j % P f from rfl) (e2 j hj), Int.mul_comm (ftF w n B i), ← Int.mul_assoc]
  rw [e4, sumN_mul_r]
  rfl
/-- The sum of the squares of the transform. -/
theorem ft_energy {f w v : Int} {n : Nat} (h : Rt f w v n) (A : Nat → Int) : sumN (fun i => ftF w n A i * ftF w n A i) n % P f = (n * sumN (fun i => A i * A ((n - i) % n)) n) % P f := by
  have e1 : sumN (fun i => ftF w n A i * ftF w n A i) n = sumN (fun j => A j * ftF w n (ftF w n A) j) n := by
    have : ∀ i, ftF w n A i * ftF w n A i = sumN (fun j => A j * (w ^ (j * i) * ftF w n A i)) n := fun i => by
      conv => lhs; lhs; unfold ftF
      rw [← sumN_mul_r]
      exact sumN_congr fun j _ => by rw [Nat.mul_comm i j, Int.mul_assoc]
    rw [sumN_congr fun i _ => this i, sumN_swap]
    exact sumN_congr fun j _ => by
      rw [sumN_mul]
      congr 1
      unfold ftF
      exact sumN_congr fun i _ => Int.mul_comm _ _
  rw [e1]
  have e2 : ∀ j, j < n → ftF w n (ftF w n A) j % P f = (A ((n - j) % n) * n) % P f := fun j hj => by
    have e3 : ftF w n (ftF w n A) j % P f = ftF v n (ftF w n A) ((n - j) % n) % P f := by
      unfold ftF
      refine sumN_mod fun t _ => emod_mul_congr rfl ?_
      -- w^(j t) = v^((n-j) t)
      have e4 : v ^ ((n - j) % n * t) % P f = v ^ ((n - j) * t) % P f := h.swap.exp (by rw [Nat.mul_mod, Nat.mod_mod, ← Nat.mul_mod])
      rw [e4]
      have e5 : (w ^ (j * t) * (w ^ ((n - j) * t) * v ^ ((n - j) * t))) % P f = (w ^ (j * t) * 1) % P f := emod_mul_congr rfl (h.wv _)
      have e6 : w ^ (j * t) * (w ^ ((n - j) * t) * v ^ ((n - j) * t)) = w ^ (n * t) * v ^ ((n - j) * t) := by
        rw [← Int.mul_assoc, ← Int.pow_add, ← Nat.add_mul, Nat.add_sub_cancel' (Nat.le_of_lt hj)]
      have e7 : (w ^ (n * t) * v ^ ((n - j) * t)) % P f = (1 * v ^ ((n - j) * t)) % P f := emod_mul_congr ((h.ord _).2 (Nat.dvd_mul_right n t)) rfl
      rw [Int.mul_one] at e5
      rw [Int.one_mul] at e7
      rw [← e5, e6, e7]
    rw [e3, ft_back h A (Nat.mod_lt _ h.n0)]
  rw [sumN_mod fun j hj => emod_mul_congr (p := P f) (show A j % P f = A j % P f from rfl) (e2 j hj), ← sumN_mul]
  congr 1
  exact sumN_congr fun i _ => by rw [← Int.mul_assoc, Int.mul_comm]
/-- A rotated vector. -/
def rotF (n c : Nat) (A : Nat → Int) (t : Nat) : Int := A ((t + (n - c)) % n)
theorem ft_rot {f w v : Int} {n c : Nat} (h : Rt f w v n) (hc : c < n) (A : Nat → Int) (i : Nat) : ftF w n (rotF n c A) i % P f = (ftF w n A i * w ^ (i * c)) % P f := by
  have e3 : ftF w n (rotF n c A) i % P f = sumN (fun t => (fun s => A s * w ^ (i * (s + c))) ((t + (n - c)) % n)) n % P f := sumN_mod fun t _ => by
    show (A ((t + (n - c)) % n) * w ^ (i * t)) % P f = (A ((t + (n - c)) % n) * w ^ (i * ((t + (n - c)) % n + c))) % P f
    refine emod_mul_congr rfl (h.exp ?_)
    rw [Nat.mul_mod, Nat.mul_mod i ((t + (n - c)) % n + c), Nat.mod_add_mod, show t + (n - c) + c = t + n by omega, Nat.add_mod_right]
  rw [e3, sumN_turn (fun s => A s * w ^ (i * (s + c))) (by omega)]
  unfold ftF
  rw [← sumN_mul_r]
  congr 1
  exact sumN_congr fun s _ => by rw [Nat.mul_add, Int.pow_add, Int.mul_assoc]
/-- Twisted convolution. -/
def twiF (n : Nat) (A B : Nat → Int) (i : Nat) : Int := sumN (fun j => if j ≤ i then A j * B (i - j) else - (A j * B (i + n - j))) n
theorem twi_fold {n i : Nat} (hi : i < n) {A B : Nat → Int} (hA : ∀ j, n ≤ j → A j = 0) (hB : ∀ j, n ≤ j → B j = 0) : twiF n A B i = cv i A B - cv (i + n) A B := by
  have e1 : cv i A B = sumN (fun j => if j ≤ i then A j * B (i - j) else 0) n := by
    rw [cv_sum]
    have : sumN (fun j => if j ≤ i then A j * B (i - j) else 0) n = sumN (fun j => if j ≤ i then A j * B (i - j) else 0) (i + 1) := sumN_more (by omega) fun j hj _ => by rw [if_neg (by omega)]
    rw [this]
    exact sumN_congr fun j hj => by rw [if_pos (by omega)]
  have e2 : cv (i + n) A B = sumN (fun j => if j ≤ i then 0 else A j * B (i + n - j)) n := by
    rw [cv_sum]
    have : sumN (fun j => A j * B (i + n - j)) (i + n + 1) = sumN (fun j => A j * B (i + n - j)) n := sumN_more (by omega) fun j hj _ => by rw [hA j hj, Int.zero_mul]
    rw [this]
    exact sumN_congr fun j hj => by
      by_cases hji : j ≤ i
      · rw [if_pos hji, hB _ (by omega), Int.mul_zero]
      · rw [if_neg hji]
  rw [e1, e2]
  unfold twiF
  have e3 : sumN (fun j => if j ≤ i then A j * B (i - j) else - (A j * B (i + n - j))) n = sumN (fun j => (if j ≤ i then A j * B (i - j) else 0) + (-1) * (if j ≤ i then 0 else A j * B (i + n - j))) n := sumN_congr fun j _ => by
    by_cases hji : j ≤ i
    · rw [if_pos hji, if_pos hji, if_pos hji]; omega
    · rw [if_neg hji, if_neg hji, if_neg hji]; omega
  rw [e3, sumN_add, sumN_mul]
  omega
end Go.Proofs.YtnipffmookkkdabDoor
namespace Go.Proofs.YtnipffmookkkdabDoor
open Mth
theorem pow_cast {f : Int} (h0 : 0 ≤ f) (h8 : f ≤ 8) {x : Int} (hx : 0 ≤ x) (m : Nat) : x ^ m % P f = ((x.toNat ^ m % (P f).toNat : Nat) : Int) := by
  have hp := P_bd h0 h8
  rw [Int.natCast_emod, Int.natCast_pow, Int.toNat_of_nonneg hx, Int.toNat_of_nonneg (by omega)]
theorem PW_pow {f x : Int} (h0 : 0 ≤ f) (h8 : f ≤ 8) (hx : 0 ≤ x) (m : Nat) : PW (P f) x m = x ^ m % P f := by
  rw [pow_cast h0 h8 hx]
  unfold PW
  rw [Int.toNat_natCast]
theorem rootsF_pow {f k : Int} (h : hasK f k) (j : Nat) : rootsF f k j = mRoot f k ^ j % P f := by
  have b := root_bd h
  exact PW_pow h.1.1 h.1.2 (by omega) j
/-- The inverse of the root. -/
def mInvR (f k : Int) : Int := mPower f (mRoot f k) (-1)
theorem rt_of {f k : Int} (h : hasK f k) : Rt f (mRoot f k) (mInvR f k) (2 ^ k.toNat) := by
  have b := root_bd h
  have h0 := h.1.1
  have h8 := h.1.2
  have hp := P_bd h0 h8
  have hz : RS (mRoot f k) (P f) ≠ 0 := by rw [RS_self (by omega) b.2]; omega
  refine ⟨h0, h8, Nat.pow_pos (by omega), fun m => ?_, ?_⟩
  · rw [one_p h0 h8, pow_cast h0 h8 (by omega), ← root_ord h m]
    omega
  · have := (inv_one h0 h8 hz).1
    rw [RS_self (x := mRoot f k) (by omega) b.2, Int.mul_comm] at this
    rw [one_p h0 h8]
    exact this
/-- Half way round is -1. -/
theorem Rt.half {f w v : Int} {m : Nat} (h : Rt f w v (m + m)) : (w ^ m + 1) % P f = 0 := by
  have m0 : 0 < m := by have := h.n0; omega
  refine Classical.byContradiction fun hs => ?_
  have h1 : (w ^ m - 1) % P f ≠ 0 := fun e => by
    have : w ^ m % P f = 1 % P f := by
      have := emod_add_congr (p := P f) (a := w ^ m - 1) (b := 0) (c := 1) (d := 1) (by rw [e]; simp) rfl
      rwa [Int.sub_add_cancel, Int.zero_add] at this
    have := Nat.le_of_dvd m0 ((h.ord m).1 this)
    omega
  have := mul_nz h.h0 h.h8 h1 hs
  refine this ?_
  have e : (w ^ m - 1) * (w ^ m + 1) = w ^ (m + m) - 1 := by
    rw [Int.pow_add, Int.mul_add, Int.sub_mul, Int.sub_mul]
    omega
  rw [e]
  exact emod_zero_of_sub h.full
theorem rv_bit (b c : Nat) (hc : c < 2) : ∀ j, rv (2 * b + c) (j + 1) = c * 2 ^ j + rv b j
  | 0 => by simp [rv]; omega
  | j + 1 => by
    rw [rv, rv_bit b c hc j]
    show 2 * (c * 2 ^ j + rv b j) + (2 * b + c) / 2 ^ (j + 1) % 2 = c * 2 ^ (j + 1) + rv b (j + 1)
    rw [rv, Nat.pow_succ, Nat.mul_comm (2 ^ j) 2, ← Nat.div_div_eq_div_mul, show (2 * b + c) / 2 = b by omega, Nat.mul_add, ← Nat.mul_assoc c, Nat.mul_comm c 2, Nat.mul_assoc 2 c, Nat.add_assoc]
/-- After s levels: each block of 2^s is the transform of every 2^(k-s)-th number of X. -/
def Lev (f w : Int) (k s : Nat) (X V : Nat → Int) : Prop :=
  ∀ b t, b < 2 ^ (k - s) → t < 2 ^ s → V (b * 2 ^ s + t) % P f = sumN (fun u => X (rv b (k - s) + u * 2 ^ (k - s)) * w ^ (t * (u * 2 ^ (k - s)))) (2 ^ s) % P f
theorem Lev.start {f w : Int} {k : Nat} {X V : Nat → Int} (h : ∀ j, j < 2 ^ k → V j % P f = X (rv j k) % P f) : Lev f w k 0 X V := by
  intro b t hb ht
  have : t = 0 := by have : t < 1 := ht; omega
  subst this
  rw [Nat.sub_zero] at hb ⊢
  rw [show b * 2 ^ 0 + 0 = b by simp, h b hb]
  show _ = (sumN _ 0 + X (rv b k + 0 * 2 ^ k) * w ^ (0 * (0 * 2 ^ k))) % P f
  simp [sumN]
/-- One level. -/
theorem Lev.step {f w v : Int} {k s : Nat} {X V V' : Nat → Int} (hr : Rt f w v (2 ^ k)) (hs : s < k) (h : Lev f w k s X V)
    (hlo : ∀ b t, b < 2 ^ (k - s - 1) → t < 2 ^ s → V' (b * 2 ^ (s + 1) + t) % P f = (V (b * 2 ^ (s + 1) + t) + V (b * 2 ^ (s + 1) + t + 2 ^ s) * w ^ (t * 2 ^ (k - s - 1))) % P f)
    (hhi : ∀ b t, b < 2 ^ (k - s - 1) → t < 2 ^ s → V' (b * 2 ^ (s + 1) + t + 2 ^ s) % P f = (V (b * 2 ^ (s + 1) + t) - V (b * 2 ^ (s + 1) + t + 2 ^ s) * w ^ (t * 2 ^ (k - s - 1))) % P f) : Lev f w k (s + 1) X V' := by
  intro b t hb ht
  obtain ⟨m, hm⟩ : ∃ m, m = 2 ^ (k - s - 1) := ⟨_, rfl⟩
  obtain ⟨g, hg⟩ : ∃ g, g = 2 ^ s := ⟨_, rfl⟩
  have e1 : k - (s + 1) = k - s - 1 := by omega
  have e2 : k - s = k - s - 1 + 1 := by omega
  have p1 : (2 : Nat) ^ (k - s) = 2 * m := by rw [e2, Nat.pow_succ, hm, Nat.mul_comm]
  have p2 : (2 : Nat) ^ (s + 1) = 2 * g := by rw [Nat.pow_succ, hg, Nat.mul_comm]
  have p3 : (2 : Nat) ^ k = g * m + g * m := by
    have : k = s + (k - s - 1) + 1 := by omega
    rw [this, Nat.pow_succ, Nat.pow_add, ← hg, ← hm]
    omega
  have hr2 : Rt f w v (g * m + g * m) := by rw [← p3]; exact hr
  have hhalf := hr2.half
  rw [e1, ← hm] at hb
  rw [← hm] at hlo hhi
  rw [← hg] at hlo hhi
  rw [p2] at hlo hhi ht
  rw [e1, ← hm, p2]
  -- the two blocks below
  have r0 : rv (2 * b) (k - s) = rv b (k - s - 1) := by rw [e2]; have := rv_bit b 0 (by omega) (k - s - 1); simpa using this
  have r1 : rv (2 * b + 1) (k - s) = rv b (k - s - 1) + m := by rw [e2]; have := rv_bit b 1 (by omega) (k - s - 1); rw [Nat.one_mul, ← hm] at this; rw [show k - s - 1 + 1 - 1 = k - s - 1 by omega]; omega
  have LE : ∀ t, t < g → V (b * (2 * g) + t) % P f = sumN (fun u => X (rv b (k - s - 1) + u * (2 * m)) * w ^ (t * (u * (2 * m)))) g % P f := fun t ht => by
    have := h (2 * b) t (by rw [p1]; omega) (by rw [← hg]; exact ht)
    rw [r0, p1, ← hg, show 2 * b * g = b * (2 * g) by rw [Nat.mul_comm 2 b, Nat.mul_assoc]] at this
    exact this
  have LO : ∀ t, t < g → V (b * (2 * g) + t + g) % P f = sumN (fun u => X (rv b (k - s - 1) + m + u * (2 * m)) * w ^ (t * (u * (2 * m)))) g % P f := fun t ht => by
    have := h (2 * b + 1) t (by rw [p1]; omega) (by rw [← hg]; exact ht)
    rw [r1, p1, ← hg, show (2 * b + 1) * g + t = b * (2 * g) + t + g by rw [Nat.add_mul, Nat.mul_comm 2 b, Nat.mul_assoc]; omega] at this
    exact this
  -- the whole sum, split
  have split : ∀ t, sumN (fun u => X (rv b (k - s - 1) + u * m) * w ^ (t * (u * m))) (2 * g) = sumN (fun u => X (rv b (k - s - 1) + u * (2 * m)) * w ^ (t * (u * (2 * m)))) g + sumN (fun u => X (rv b (k - s - 1) + m + u * (2 * m)) * w ^ (t * (u * (2 * m)))) g * w ^ (t * m) := fun t => by
    rw [sumN_even, ← sumN_mul_r]
    congr 1
    · exact sumN_congr fun u _ => by rw [show 2 * u * m = u * (2 * m) by rw [Nat.mul_comm 2 u, Nat.mul_assoc]]
    · exact sumN_congr fun u _ => by
        rw [show (2 * u + 1) * m = m + u * (2 * m) by rw [Nat.add_mul, Nat.mul_comm 2 u, Nat.mul_assoc]; omega, ← Nat.add_assoc, Int.mul_assoc, ← Int.pow_add, ← Nat.mul_add, Nat.add_comm m]
  by_cases htg : t < g
  · rw [hlo b t hb htg, split t]
    exact emod_add_congr (LE t htg) (emod_mul_congr (LO t htg) rfl)
  · obtain ⟨r, rfl⟩ : ∃ r, t = r + g := ⟨t - g, by omega⟩
    have hrg : r < g := by omega
    rw [← Nat.add_assoc, hhi b r hb hrg, split (r + g)]
    -- w^((r+g) u 2m) = w^(r u 2m), w^((r+g) m) = - w^(r m)
    have x1 : ∀ u, w ^ ((r + g) * (u * (2 * m))) % P f = w ^ (r * (u * (2 * m))) % P f := fun u => hr2.exp (by
      rw [Nat.add_mul, show g * (u * (2 * m)) = (g * m + g * m) * u by rw [← Nat.mul_assoc, Nat.mul_comm g u, Nat.mul_assoc, Nat.mul_comm _ u, ← Nat.mul_add g, Nat.two_mul], Nat.add_mul_mod_self_left])
    have x2 : w ^ ((r + g) * m) % P f = (- w ^ (r * m)) % P f := by
      rw [Nat.add_mul, Int.pow_add]
      have : (w ^ (r * m) * w ^ (g * m)) % P f = (w ^ (r * m) * (-1)) % P f := emod_mul_congr rfl (by
        have := emod_add_congr (p := P f) (a := w ^ (g * m) + 1) (b := 0) (c := -1) (d := -1) (by rw [hhalf]; simp) rfl
        rw [Int.zero_add] at this
        rw [← this]
        congr 1
        omega)
      rw [this]
      congr 1
      omega
    have y1 : (sumN (fun u => X (rv b (k - s - 1) + u * (2 * m)) * w ^ ((r + g) * (u * (2 * m)))) g) % P f = V (b * (2 * g) + r) % P f := by
      rw [LE r hrg]
      exact sumN_mod fun u _ => emod_mul_congr rfl (x1 u)
    have y2 : (sumN (fun u => X (rv b (k - s - 1) + m + u * (2 * m)) * w ^ ((r + g) * (u * (2 * m)))) g) % P f = V (b * (2 * g) + r + g) % P f := by
      rw [LO r hrg]
      exact sumN_mod fun u _ => emod_mul_congr rfl (x1 u)
    have y3 := emod_add_congr y1 (emod_mul_congr y2 x2)
    rw [y3]
    congr 1
    rw [Int.mul_neg]
    omega
/-- All levels: the transform. -/
theorem Lev.last {f w : Int} {k : Nat} {X V : Nat → Int} (h : Lev f w k k X V) {t : Nat} (ht : t < 2 ^ k) : V t % P f = ftF w (2 ^ k) X t % P f := by
  have := h 0 t (by simp) ht
  rw [Nat.sub_self, Nat.zero_mul, Nat.zero_add] at this
  rw [this]
  unfold ftF
  congr 1
  exact sumN_congr fun u _ => by simp [rv]
end Go.Proofs.YtnipffmookkkdabDoor
namespace Go.Proofs.YtnipffmookkkdabDoor
open Mth
def VecOk (f : Int) (l : List Int) : Prop := (0 ≤ mLog l.length ∧ mLog l.length ≤ T f) ∧ ∀ j, j < l.length → 0 ≤ lf l j ∧ lf l j < P f
def TwoOk (f : Int) (a b : List Int) : Prop := a.length = b.length ∧ VecOk f a ∧ VecOk f b
open Classical in
noncomputable def mVectorOk (f : Int) (l : List Int) : Bool := decide (VecOk f l)
/-- The log of a vector. -/
theorem VecOk.log {f : Int} {l : List Int} (h : VecOk f l) : ∃ k : Nat, k ≤ 9 ∧ l.length = 2 ^ k ∧ mLog l.length = k ∧ hasK f k := by
  rcases log_cases (l.length : Int) with ⟨k, hk, hn, hl⟩ | ⟨_, hl⟩
  · refine ⟨k, hk, ?_, hl, (hasK_iff f k).2 ⟨by omega, by have := h.1.2; omega⟩⟩
    have e : ((2 ^ k : Nat) : Int) = 2 ^ k := by rw [Int.natCast_pow]; rfl
    omega
  · have := h.1.1
    omega
theorem VecOk.f08 {f : Int} {l : List Int} (h : VecOk f l) : 0 ≤ f ∧ f ≤ 8 := by
  obtain ⟨k, _, _, _, hk⟩ := h.log
  exact hk.1
theorem VecOk.pos {f : Int} {l : List Int} (h : VecOk f l) : 0 < l.length ∧ l.length ≤ 512 := by
  obtain ⟨k, hk, hn, _, _⟩ := h.log
  have : 2 ^ k ≤ 2 ^ 9 := Nat.pow_le_pow_right (by omega) hk
  have h0 : 0 < 2 ^ k := Nat.pow_pos (by omega)
  omega
theorem VecOk.lt {f : Int} {l : List Int} (h : VecOk f l) (j : Nat) : 0 ≤ lf l j ∧ lf l j < P f := by
  have h08 := h.f08
  have hp := P_bd h08.1 h08.2
  by_cases hj : j < l.length
  · exact h.2 j hj
  · rw [lf_out l (by omega)]; omega
def rootL (f : Int) (l : List Int) : Int := mRoot f (mLog l.length)
def invRL (f : Int) (l : List Int) : Int := mInvR f (mLog l.length)
theorem VecOk.rt {f : Int} {l : List Int} (h : VecOk f l) : Rt f (rootL f l) (invRL f l) l.length := by
  obtain ⟨k, hk, hn, hl, hh⟩ := h.log
  have := rt_of hh
  unfold rootL invRL
  rw [hl, hn]
  rwa [Int.toNat_natCast] at this
def fwdL (f : Int) (l : List Int) : List Int := tab l.length fun i => RS (ftF (rootL f l) l.length (lf l) i) (P f)
def bwdL (f : Int) (l : List Int) : List Int := tab l.length fun i => RS (ftF (invRL f l) l.length (lf l) i * mPower f l.length (-1)) (P f)
def ptwL (f : Int) (a b : List Int) : List Int := tab a.length fun i => RS (lf a i * lf b i) (P f)
def cycL (f : Int) (a b : List Int) : List Int := tab a.length fun i => RS (cycF a.length (lf a) (lf b) i) (P f)
def twiL (f : Int) (a b : List Int) : List Int := tab a.length fun i => RS (twiF a.length (lf a) (lf b) i) (P f)
def corF (n : Nat) (A B : Nat → Int) (i : Nat) : Int := sumN (fun j => A j * B ((j + i) % n)) n
def corL (f : Int) (a b : List Int) : List Int := tab a.length fun i => RS (corF a.length (lf a) (lf b) i) (P f)
def enF (n : Nat) (A : Nat → Int) : Int := sumN (fun i => A i * A ((n - i) % n)) n
/-- By how much a rotation by r turns a vector of n numbers. -/
def turnN (n : Nat) (r : Int) : Nat := (r % n).toNat
def rotL (l : List Int) (r : Int) : List Int := tab l.length (rotF l.length (turnN l.length r) (lf l))
/-- One level, at place t; d is n / (2 h). -/
def stgF (f w : Int) (h d : Nat) (V : Nat → Int) (t : Nat) : Int :=
  if t % (2 * h) < h then RS (V t + RS (V (t + h) * w ^ (t % (2 * h) * d)) (P f)) (P f) else RS (V (t - h) - RS (V t * w ^ ((t % (2 * h) - h) * d)) (P f)) (P f)
def stgL (f : Int) (l : List Int) (s : Nat) : List Int := tab l.length (stgF f (rootL f l) (2 ^ s) (l.length / (2 * 2 ^ s)) (lf l))
def okStage (f : Int) (l : List Int) (s : Int) : Prop := VecOk f l ∧ 0 ≤ s ∧ s < mLog l.length
def okConv (f : Int) (a b : List Int) : Prop := okMul f a b ∧ ((mulL f a b).length : Int) ≤ 2 ^ (min 9 (T f)).toNat
open Classical in
noncomputable def mForward (f : Int) (l : List Int) : List Int := if VecOk f l then fwdL f l else []
open Classical in
noncomputable def mBackward (f : Int) (l : List Int) : List Int := if VecOk f l then bwdL f l else []
open Classical in
noncomputable def mPointwise (f : Int) (a b : List Int) : List Int := if TwoOk f a b then ptwL f a b else []
open Classical in
noncomputable def mCyclic (f : Int) (a b : List Int) : List Int := if TwoOk f a b then cycL f a b else []
open Classical in
noncomputable def mTwisted (f : Int) (a b : List Int) : List Int := if TwoOk f a b then twiL f a b else []
open Classical in
noncomputable def mCorrelate (f : Int) (a b : List Int) : List Int := if TwoOk f a b then corL f a b else []
open Classical in
noncomputable def mEnergy (f : Int) (l : List Int) : Int := if VecOk f l then RS (enF l.length (lf l)) (P f) else -1
open Classical in
noncomputable def mRotate (f : Int) (l : List Int) (r : Int) : List Int := if VecOk f l then rotL l r else []
open Classical in
noncomputable def mStage (f : Int) (l : List Int) (s : Int) : List Int := if okStage f l s then stgL f l s.toNat else []
open Classical in
noncomputable def mConvPoly0 (f : Int) (a b : List Int) : List Int := if okConv f a b then mulL f a b else []
open Classical in
noncomputable def mConvPoly1 (f : Int) (a b : List Int) : Bool := decide (okConv f a b)
theorem len_mForward (f : Int) (l : List Int) (n : l.length ≤ 1048576) : (mForward f l).length ≤ 1048576 := by
  unfold mForward; split
  · unfold fwdL; rw [tab_len]; exact n
  · exact Nat.zero_le _
theorem len_mBackward (f : Int) (l : List Int) (n : l.length ≤ 1048576) : (mBackward f l).length ≤ 1048576 := by
  unfold mBackward; split
  · unfold bwdL; rw [tab_len]; exact n
  · exact Nat.zero_le _
theorem len_mCyclic (f : Int) (a b : List Int) (n : a.length ≤ 1048576) (_m : b.length ≤ 1048576) : (mCyclic f a b).length ≤ 1048576 := by
  unfold mCyclic; split
  · unfold cycL; rw [tab_len]; exact n
  · exact Nat.zero_le _
theorem len_mConvPoly0 (f : Int) (a b : List Int) (_na : a.length ≤ 1048576) (_nb : b.length ≤ 1048576) : (mConvPoly0 f a b).length ≤ 1048576 := by
  unfold mConvPoly0; split
  · rename_i h
    have := mulL_le f a b
    have := h.1.2.2
    omega
  · exact Nat.zero_le _
/-- A list of the same length whose numbers are reduced is a vector. -/
theorem VecOk.tab {f : Int} {l : List Int} (h : VecOk f l) {n : Nat} (hn : n = l.length) (F : Nat → Int) (hF : ∀ j, j < n → 0 ≤ F j ∧ F j < P f) : VecOk f (tab n F) := by
  subst hn
  refine ⟨by rw [tab_len]; exact h.1, fun j hj => ?_⟩
  rw [tab_len] at hj
  rw [lf_tab, if_pos hj]
  exact hF j hj
theorem VecOk.fwd {f : Int} {l : List Int} (h : VecOk f l) : VecOk f (fwdL f l) := h.tab rfl _ fun _ _ => RS_bd (P_pos h.f08.1 h.f08.2)
theorem VecOk.bwd {f : Int} {l : List Int} (h : VecOk f l) : VecOk f (bwdL f l) := h.tab rfl _ fun _ _ => RS_bd (P_pos h.f08.1 h.f08.2)
theorem fwdL_len (f : Int) (l : List Int) : (fwdL f l).length = l.length := tab_len _ _
theorem bwdL_len (f : Int) (l : List Int) : (bwdL f l).length = l.length := tab_len _ _
theorem rootL_len {f : Int} {a b : List Int} (h : a.length = b.length) : rootL f a = rootL f b := by unfold rootL; rw [h]
theorem invRL_len {f : Int} {a b : List Int} (h : a.length = b.length) : invRL f a = invRL f b := by unfold invRL; rw [h]
theorem lf_fwdL {f : Int} {l : List Int} {i : Nat} (h : i < l.length) : lf (fwdL f l) i = ftF (rootL f l) l.length (lf l) i % P f := by
  unfold fwdL; rw [lf_tab, if_pos h]; rfl
theorem lf_bwdL {f : Int} {l : List Int} {i : Nat} (h : i < l.length) : lf (bwdL f l) i = (ftF (invRL f l) l.length (lf l) i * mPower f l.length (-1)) % P f := by
  unfold bwdL; rw [lf_tab, if_pos h]; rfl
/-- n has an inverse. -/
theorem VecOk.inv_n {f : Int} {l : List Int} (h : VecOk f l) : ((l.length : Int) * mPower f l.length (-1)) % P f = 1 % P f := by
  have h08 := h.f08
  have hp := P_bd h08.1 h08.2
  obtain ⟨k, hk, hn, hl, hh⟩ := h.log
  have hle := two_le hh
  have hpos := h.pos
  have e : two (k : Int) = (l.length : Int) := by unfold two; rw [hn, Int.toNat_natCast, Int.natCast_pow]; rfl
  have hs : RS (l.length : Int) (P f) = l.length := RS_self (by omega) (by omega)
  have := (inv_one h08.1 h08.2 (z := (l.length : Int)) (by rw [hs]; omega)).1
  rw [hs, Int.mul_comm] at this
  rw [one_p h08.1 h08.2]
  exact this
/-- What FnForwardBack asks. -/
theorem back_fwd {f : Int} {l : List Int} (h : VecOk f l) : mBackward f (mForward f l) = l := by
  unfold mForward
  rw [if_pos h]
  unfold mBackward
  rw [if_pos h.fwd]
  refine list_ext (by rw [bwdL_len, fwdL_len]) fun i hi => ?_
  rw [bwdL_len, fwdL_len] at hi
  have hl := h.lt i
  rw [lf_bwdL (by rw [fwdL_len]; exact hi), fwdL_len, invRL_len (fwdL_len f l)]
  have e1 : ftF (invRL f l) l.length (lf (fwdL f l)) i % P f = (lf l i * l.length) % P f := by
    rw [ft_mod (B := ftF (rootL f l) l.length (lf l)) (fun j hj => by rw [lf_fwdL hj, Int.emod_emod_of_dvd _ (Int.dvd_refl _)]), ft_back h.rt (lf l) hi]
  have e2 := emod_mul_congr e1 (show mPower f (l.length : Int) (-1) % P f = mPower f l.length (-1) % P f from rfl)
  rw [e2, Int.mul_assoc]
  have e3 := emod_mul_congr (show lf l i % P f = lf l i % P f from rfl) h.inv_n
  rw [e3, Int.mul_one, Int.emod_eq_of_lt hl.1 hl.2]
theorem fwd_back {f : Int} {l : List Int} (h : VecOk f l) : mForward f (mBackward f l) = l := by
  unfold mBackward
  rw [if_pos h]
  unfold mForward
  rw [if_pos h.bwd]
  refine list_ext (by rw [fwdL_len, bwdL_len]) fun i hi => ?_
  rw [fwdL_len, bwdL_len] at hi
  have hl := h.lt i
  rw [lf_fwdL (by rw [bwdL_len]; exact hi), bwdL_len, rootL_len (bwdL_len f l)]
  have e1 : ftF (rootL f l) l.length (lf (bwdL f l)) i % P f = (lf l i * l.length * mPower f l.length (-1)) % P f := by
    rw [ft_mod (B := fun j => ftF (invRL f l) l.length (lf l) j * mPower f l.length (-1)) (fun j hj => by rw [lf_bwdL hj, Int.emod_emod_of_dvd _ (Int.dvd_refl _)]), ft_smul]
    exact emod_mul_congr (ft_back h.rt.swap (lf l) hi) rfl
  rw [e1, Int.mul_assoc]
  have e3 := emod_mul_congr (show lf l i % P f = lf l i % P f from rfl) h.inv_n
  rw [e3, Int.mul_one, Int.emod_eq_of_lt hl.1 hl.2]
/-- What FnConvolution asks. -/
theorem fwd_cyc {f : Int} {a b : List Int} (h : TwoOk f a b) : mForward f (mCyclic f a b) = mPointwise f (mForward f a) (mForward f b) ∧ (mForward f (mCyclic f a b)).length = a.length ∧ mCyclic f a b = cycL f a b ∧ mForward f a = fwdL f a ∧ mForward f b = fwdL f b := by
  obtain ⟨hab, ha, hb⟩ := h
  have hc : VecOk f (cycL f a b) := ha.tab rfl _ fun _ _ => RS_bd (P_pos ha.f08.1 ha.f08.2)
  have hcl : (cycL f a b).length = a.length := tab_len _ _
  have e0 : mCyclic f a b = cycL f a b := by unfold mCyclic; rw [if_pos ⟨hab, ha, hb⟩]
  have e1 : mForward f (mCyclic f a b) = fwdL f (cycL f a b) := by rw [e0]; unfold mForward; rw [if_pos hc]
  have e2 : mForward f a = fwdL f a := by unfold mForward; rw [if_pos ha]
  have e3 : mForward f b = fwdL f b := by unfold mForward; rw [if_pos hb]
  refine ⟨?_, by rw [e1, fwdL_len, hcl], e0, e2, e3⟩
  rw [e1, e2, e3]
  unfold mPointwise
  rw [if_pos ⟨by rw [fwdL_len, fwdL_len, hab], ha.fwd, hb.fwd⟩]
  refine list_ext (by unfold ptwL; rw [fwdL_len, tab_len, fwdL_len, hcl]) fun i hi => ?_
  rw [fwdL_len, hcl] at hi
  rw [lf_fwdL (by rw [hcl]; exact hi), hcl, rootL_len hcl]
  unfold ptwL
  rw [lf_tab, fwdL_len, if_pos hi, lf_fwdL hi, lf_fwdL (by rw [← hab]; exact hi), rootL_len hab.symm, ← hab]
  unfold RS
  rw [← Int.mul_emod, ← ft_cyc ha.rt (lf a) (lf b) i]
  exact ft_mod (fun j hj => by
    unfold cycL
    rw [lf_tab, if_pos hj]
    unfold RS
    rw [Int.emod_emod_of_dvd _ (Int.dvd_refl _)]) i
/-- Correlation with 1, 0, 0, .. ahead. -/
theorem cor_one {n : Nat} {A B : Nat → Int} (h1 : A 0 = 1) (hA : ∀ j, 0 < j → j < n → A j = 0) {i : Nat} (hi : i < n) : corF n A B i = B i := by
  unfold corF
  obtain ⟨m, rfl⟩ : ∃ m, n = m + 1 := ⟨n - 1, by omega⟩
  rw [sumN_first, h1, Int.one_mul, Nat.zero_add, Nat.mod_eq_of_lt hi]
  rw [sumN_zero (f := fun j => A (j + 1) * B ((j + 1 + i) % (m + 1))) fun j hj => by rw [hA (j + 1) (by omega) (by omega), Int.zero_mul]]
  omega
/-- What FnEnergy asks. -/
theorem fwd_energy {f : Int} {l : List Int} (h : VecOk f l) : sumN (fun i => lf (fwdL f l) i * lf (fwdL f l) i) l.length % P f = (l.length * enF l.length (lf l)) % P f := by
  unfold enF
  rw [← ft_energy h.rt (lf l)]
  exact sumN_mod fun i hi => by rw [lf_fwdL hi, ← Int.mul_emod]
/-- What FnRotate asks. -/
theorem turn_lt {n : Nat} (h : 0 < n) (r : Int) : turnN n r < n := by
  have := Int.emod_lt_of_pos r (show (0 : Int) < n by omega)
  have := Int.emod_nonneg r (show (n : Int) ≠ 0 by omega)
  unfold turnN
  omega
theorem fwd_rot {f : Int} {l : List Int} (h : VecOk f l) (r : Int) {i : Nat} (hi : i < l.length) : lf (fwdL f (rotL l r)) i = (lf (fwdL f l) i * rootL f l ^ (i * turnN l.length r)) % P f := by
  have hrl : (rotL l r).length = l.length := tab_len _ _
  rw [lf_fwdL (by rw [hrl]; exact hi), hrl, rootL_len hrl, lf_fwdL hi]
  have e := ft_rot h.rt (turn_lt h.pos.1 r) (lf l) i
  rw [Int.mul_emod, Int.emod_emod_of_dvd _ (Int.dvd_refl _), ← Int.mul_emod, ← e]
  exact ft_mod (fun j hj => by unfold rotL; rw [lf_tab, if_pos hj]) i
end Go.Proofs.YtnipffmookkkdabDoor
namespace Go.Proofs.YtnipffmookkkdabDoor
open Go.RowKit
theorem mReduce_on {f : Int} (h0 : 0 ≤ f) (h8 : f ≤ 8) (x : Int) : mReduce f x = RS x (P f) := by unfold mReduce; rw [if_pos ⟨h0, h8⟩]
def NilP (w : World) (e : Ending) (w' : World) : Prop := e = .returned (.slice none 0 0) ∧ Below w.heap.size w w'
theorem NilP.list {w w' : World} {l : List Int} {e : Ending} (hl : l = []) (h : NilP w e w') : ListL w l e w' := by
  subst hl
  obtain ⟨rfl, hb⟩ := h
  exact ⟨none, 0, rfl, .inl rfl, hb⟩
theorem NilP.own {w w' : World} {l : List Int} {e : Ending} (hl : l = []) (h : NilP w e w') : OwnL w l e w' := by
  subst hl
  obtain ⟨rfl, hb⟩ := h
  exact ⟨none, 0, rfl, OwnA.nil rfl, hb⟩
/-- A list of no cells, cut. -/
theorem cut_new {u : World} (w : World) (hb : Below u.heap.size u w) : Calls Tryd.prog 79 #[.slice (some ⟨w.heap.size, 0, none⟩) 0 0] (w.alloc (.cells #[] 3)) (OwnsL u []) :=
  (cut_own (base := w.heap.size) (n := 0) (F := fun _ => 0) (by omega) (own_empty w (fun _ => 0))).mono fun _ _ h => h.up (hb.alloc hb.size _) (Nat.le_trans hb.size (by simp))
set_option maxRecDepth 100000 in
set_option maxHeartbeats 1600000 in
theorem sTrim_some (f : Int) (b off n cap : Nat) (F : Nat → Int) (w : World) (h0 : 0 ≤ f) (h8 : f ≤ 8) (hn : n ≤ 400) (hlt : b < w.heap.size) (hc : ∀ j, j < n → w.cell? ⟨b, off + j, none⟩ = some (.int .i64 (F j))) :
    Calls Tryd.prog 41 #[.int .i64 f, .slice (some ⟨b, off, none⟩) n cap] w (OwnsL w (cutL n (fun j => RS (F j) (P f)))) := by
  have HC := Lib.hid hc
  clear hc
  have hp := P_bd h0 h8
  have hz : (P f == 0) = false := by simp; omega
  have hd1 : decide ((400 : Int) < n) = false := by simp; omega
  obtain ⟨i0, hi, hz0, hz1, hz2⟩ := info_parts info3
  have HI := Lib.hid hi
  have HZ0 := Lib.hid hz0
  have HZ1 := Lib.hid hz1
  have HZ2 := Lib.hid hz2
  clear hi hz0 hz1 hz2
  go_enter Tryd.func41, Tryd.ntmps41
  go_wp2_with fail
  refine (sModulus f _).mono ?_
  rintro e w' ⟨rfl, rfl⟩
  go_wp2_with fail
  go_loopw [5, 6] (fun v i wr => ∃ k : Nat, i = .int .i64 k ∧ k ≤ n ∧ wr.ownsRow w.heap.size 3 1 v k (xsF (fun j => RS (F j) (P f)) k) ∧ Below w.heap.size w wr) (fun _ i _ => n - (intOf i).toNat)
  case atStart => exact ⟨0, rfl, Nat.zero_le _, own_empty w _, (Below.refl _ _).alloc (Nat.le_refl _) _⟩
  case round =>
    obtain ⟨k, rfl, hk, hown, hnx⟩ := hrel
    by_cases h1 : k < n
    · have hc2 : wr.cell? ⟨b, off + k, none⟩ = some (.int .i64 (F k)) := (hnx.cell (p := ⟨b, off + k, none⟩) hlt).trans (HC.out k h1)
      have HM := Lib.hid (mReduce_on h0 h8 (F k))
      go_wp2_with fail
      refine (sReduce f (F k) wr).mono ?_
      rintro e w' ⟨rfl, rfl⟩
      rw [HM.out]
      have hs := hnx.size
      go_wp2_with (at_builtin; refine wpList_append_own _ rfl _ _ 22 rfl w.heap.size 3 i0 (.int .i64 0) 1 8 Tryd.underlying22 HI.out HZ0.out HZ1.out HZ2.out rfl (by decide) _ _ _ rfl (hown.alloc _) ⟨wr.heap.size, 0, none⟩ 1 1 [.int .i64 (RS (F k) (P f))] rfl rfl ?c1 ?c2 ?c3 ?c4 ?c5 ?_)
      case c1 => exact cell_one_new _ _ _
      case c2 => intro u hu; simp at hu; subst hu; rfl
      case c3 => unfold maxLen; omega
      case c4 => omega
      case c5 => simp; omega
      intro v' w1 hown' hgrow _
      have hbel : Below w.heap.size w w1 := (hnx.alloc hs _).grown hgrow (by simp; omega) (own_ge hown)
      rw [xsF_succ (fun j => RS (F j) (P f))] at hown'
      clear hgrow hown
      go_wp2
      go_roundw
      case rel => exact ⟨k + 1, by go_num, by omega, hown', hbel⟩
      case measure => simp [intOf]; omega
    · have hd : decide (k < n) = false := by simpa using h1
      obtain rfl : k = n := by omega
      have HO := Lib.hid (cut_own (by omega) hown)
      clear hown
      go_wp2_with fail
      refine HO.out.mono ?_
      rintro e w2 ho
      obtain ⟨v2, rfl, ho2, hb2⟩ := ho.up hnx hnx.size
      have HO2 := Lib.hid ho2
      clear ho ho2 HO
      go_wp2
      go_ret
      exact ⟨_, rfl, HO2.out, hb2⟩
theorem sTrim_none (f : Int) (a : Option Addr) (cap : Nat) (w : World) (h0 : 0 ≤ f) (h8 : f ≤ 8) : Calls Tryd.prog 41 #[.int .i64 f, .slice a 0 cap] w (OwnsL w []) := by
  have hp := P_bd h0 h8
  have hz : (P f == 0) = false := by simp; omega
  have HO := Lib.hid (cut_new w (Below.refl _ _))
  go_enter Tryd.func41, Tryd.ntmps41
  go_wp2_with fail
  refine (sModulus f _).mono ?_
  rintro e w' ⟨rfl, rfl⟩
  go_wp2_with fail
  refine wp_loop_rounds 1 ?_
  rw [rounds_succ]
  go_wp2_with fail
  refine HO.out.mono ?_
  rintro e w2 ⟨v2, rfl, ho2, hb2⟩
  have HO2 := Lib.hid ho2
  clear ho2 HO
  go_wp2
  go_ret
  exact ⟨_, rfl, HO2.out, hb2⟩
theorem sTrim_off (f : Int) (a : Option Addr) (n cap : Nat) (w : World) (hk : ¬ ((0 ≤ f ∧ f ≤ 8) ∧ n ≤ 400)) (hn : n ≤ 1048576) : Calls Tryd.prog 41 #[.int .i64 f, .slice a n cap] w (NilP w) := by
  by_cases h : 0 ≤ f ∧ f ≤ 8
  · have hp := P_bd h.1 h.2
    have hz : (P f == 0) = false := by simp; omega
    have hd : decide ((400 : Int) < n) = true := by simp; omega
    go_enter Tryd.func41, Tryd.ntmps41
    go_wp2_with fail
    refine (sModulus f _).mono ?_
    rintro e w' ⟨rfl, rfl⟩
    go_wp2
    go_ret
    exact ⟨rfl, (Below.refl _ _).alloc (Nat.le_refl _) _⟩
  · have hz : (P f == 0) = true := by simp [P_off (f := f) (by omega)]
    go_enter Tryd.func41, Tryd.ntmps41
    go_wp2_with fail
    refine (sModulus f _).mono ?_
    rintro e w' ⟨rfl, rfl⟩
    go_wp2
    go_ret
    exact ⟨rfl, (Below.refl _ _).alloc (Nat.le_refl _) _⟩
theorem sTrim (f : Int) (a : Option Addr) (l : List Int) (cap : Nat) (w : World) (hn : l.length ≤ 1048576) (hs : Src w a l.length (lf l)) : Calls Tryd.prog 41 #[.int .i64 f, .slice a l.length cap] w (ListL w (mTrim f l)) := by
  by_cases hk : (0 ≤ f ∧ f ≤ 8) ∧ l.length ≤ 400
  · rw [show mTrim f l = trimL f l.length (lf l) by unfold mTrim; rw [if_pos hk]]
    rcases hs with hz | ⟨b, off, rfl, hlt, hc⟩
    · rw [show trimL f l.length (lf l) = [] by unfold trimL; rw [hz]; rfl, hz]
      exact (sTrim_none f a cap w hk.1.1 hk.1.2).mono fun _ _ h => h.list
    · exact (sTrim_some f b off l.length cap (lf l) w hk.1.1 hk.1.2 hk.2 hlt hc).mono fun _ _ h => h.list
  · exact (sTrim_off f a l.length cap w hk hn).mono fun _ _ h => h.list (by unfold mTrim; rw [if_neg hk])
end Go.Proofs.YtnipffmookkkdabDoor
namespace Go.Proofs.YtnipffmookkkdabDoor
open Go.RowKit
theorem inverse_c (n a : Int) (w : World) (ht : Tab w) (h0 : 0 ≤ n) (h8 : n ≤ 8) (ha : 0 ≤ a) (ha2 : a < P n) : Calls Tryd.prog 90 #[.int .i64 n, .int .i64 a] w fun e w' => e = .returned (.int .i64 (PW (P n) a (P n - 2))) ∧ w = w' := by
  have hp := P_bd h0 h8
  go_enter Tryd.func90, Tryd.ntmps90
  go_wp2_with fail
  refine (prime_c n w ht h0 h8).mono ?_
  rintro e w' ⟨rfl, rfl⟩
  go_wp2_with fail
  refine (power_c n a (P n - 2) w ht h0 h8 ha ha2 (by omega) (by omega)).mono ?_
  rintro e w' ⟨rfl, rfl⟩
  go_wp2
  go_ret
  exact ⟨rfl, rfl⟩
theorem inverse_inv {f x : Int} (h0 : 0 ≤ f) (h8 : f ≤ 8) (x0 : 0 < x) (x1 : x < P f) : PW (P f) x (P f - 2) = invF f x := by
  have hp := P_bd h0 h8
  have b := PW_bd (m := P f) (x := x) (e := P f - 2) (by omega)
  refine inv_unique h0 h8 b.1 b.2 ?_ ?_
  · rw [RS_self (by omega) x1]; omega
  · rw [RS_self (by omega) x1]; exact back_first h0 h8 x0 x1
def upd (Q : Nat → Int) (s : Nat) (m : Int) : Nat → Int := fun j => if j = s then m else Q j
end Go.Proofs.YtnipffmookkkdabDoor
namespace Go.Proofs.YtnipffmookkkdabDoor
open Go.RowKit
/-- The row within a round: the first j of row i done. -/
def prw (f : Int) (A B : Nat → Int) (i j : Nat) : Nat → Int := fun k => if i ≤ k ∧ k < i + j then RS (cpar A B k (i + 1)) (P f) else RS (cpar A B k i) (P f)
theorem prw_zero (f : Int) (A B : Nat → Int) (i k : Nat) : RS (cpar A B k i) (P f) = prw f A B i 0 k := by unfold prw; rw [if_neg (by omega)]
theorem prw_at (f : Int) (A B : Nat → Int) (i j : Nat) : prw f A B i j (i + j) = RS (cpar A B (i + j) i) (P f) := by unfold prw; rw [if_neg (by omega)]
theorem prw_new (f : Int) (A B : Nat → Int) (i j : Nat) : RS (RS (cpar A B (i + j) i) (P f) + A i * B j) (P f) = RS (cpar A B (i + j) (i + 1)) (P f) := by
  rw [cpar_succ, if_pos (by omega), Nat.add_sub_cancel_left]
  unfold RS
  exact emod_add_congr (by simp) rfl
theorem prw_succ (f : Int) (A B : Nat → Int) (i j k : Nat) : (if k = i + j then RS (cpar A B (i + j) (i + 1)) (P f) else prw f A B i j k) = prw f A B i (j + 1) k := by
  unfold prw
  by_cases h : k = i + j
  · subst h
    rw [if_pos rfl, if_pos (by omega)]
  · rw [if_neg h]
    by_cases h1 : i ≤ k ∧ k < i + j
    · rw [if_pos h1, if_pos (by omega)]
    · rw [if_neg h1, if_neg (by omega)]
theorem prw_end {f : Int} {A B : Nat → Int} {m : Nat} (hB : ∀ j, m ≤ j → B j = 0) (i k : Nat) : prw f A B i m k = RS (cpar A B k (i + 1)) (P f) := by
  unfold prw
  split
  · rfl
  · rename_i h
    rw [cpar_succ]
    by_cases h1 : i ≤ k
    · rw [if_pos h1, hB (k - i) (by omega), Int.mul_zero, Int.add_zero]
    · rw [if_neg h1, Int.add_zero]
theorem prw_set {f : Int} {wr : World} {g N i j : Nat} {A B : Nat → Int} (h : Own wr g N (prw f A B i j)) : Own (wr.setCell ⟨g, i + j, none⟩ (.int .i64 (RS (cpar A B (i + j) (i + 1)) (P f)))) g N (prw f A B i (j + 1)) := by
  refine (World.rowIs.set h (i + j) (.int .i64 (RS (cpar A B (i + j) (i + 1)) (P f)))).congr fun k _ => ?_
  rw [← prw_succ]
  split <;> rfl
set_option maxRecDepth 100000 in
set_option maxHeartbeats 3200000 in
theorem product_some (f : Int) (b off b2 off2 n m cap cap2 N : Nat) (A B : Nat → Int) (w : World) (ht : Tab w) (h0 : 0 ≤ f) (h8 : f ≤ 8) (hn : n ≤ 4096) (hm : m ≤ 4096) (n0 : 0 < n) (m0 : 0 < m) (hN : n + m = N + 1)
    (hA : ∀ j, 0 ≤ A j ∧ A j < P f) (hB : ∀ j, 0 ≤ B j ∧ B j < P f) (hB2 : ∀ j, m ≤ j → B j = 0) (hlt : b < w.heap.size) (hlt2 : b2 < w.heap.size)
    (hc : ∀ j, j < n → w.cell? ⟨b, off + j, none⟩ = some (.int .i64 (A j))) (hc2 : ∀ j, j < m → w.cell? ⟨b2, off2 + j, none⟩ = some (.int .i64 (B j))) :
    Calls Tryd.prog 78 #[.int .i64 f, .slice (some ⟨b, off, none⟩) n cap, .slice (some ⟨b2, off2, none⟩) m cap2] w fun e w' => e = .returned (.slice (some ⟨w.heap.size, 0, none⟩) N N) ∧ Own w' w.heap.size N (fun k => RS (cpar A B k n) (P f)) ∧ Below w.heap.size w w' := by
  have HC := Lib.hid hc
  have HC2 := Lib.hid hc2
  have HA := Lib.hid hA
  have HB := Lib.hid hB
  have HB2 := Lib.hid hB2
  clear hc hc2 hA hB hB2
  have hp := P_bd h0 h8
  have z1 : ((n : Int) == 0) = false := by simp; omega
  have z2 : ((m : Int) == 0) = false := by simp; omega
  have hmk : ∀ w, (Instr.makeSlice 22 (.int .i64 ((n : Int) + m - 1)) (.int .i64 ((n : Int) + m - 1))).run Tryd.prog w = .ok (.slice (some ⟨w.heap.size, 0, none⟩) N N) (w.alloc (.cells (madeCells #[.int .i64 0] N) 3)) := fun w => by
    rw [show ((n : Int) + m - 1) = (N : Int) by omega]; exact made_n N (by omega) w
  go_enter Tryd.func78, Tryd.ntmps78
  go_wp2_with fail
  clear hmk
  go_loopw [8, 9, 10, 11, 30] (fun _ _ _ _ i wr => ∃ k : Nat, i = .int .i64 k ∧ k ≤ n ∧ Own wr w.heap.size N (fun j => RS (cpar A B j k) (P f)) ∧ Below w.heap.size w wr) (fun _ _ _ _ i _ => n - (intOf i).toNat)
  case atStart =>
    refine ⟨0, rfl, Nat.zero_le _, ?_, (Below.refl _ _).alloc (Nat.le_refl _) _⟩
    exact (World.rowIs_made w (.int .i64 0) N 3).congr fun j _ => by simp [cpar, sumN, RS]
  case round =>
    obtain ⟨i, rfl, hi, ho, hb⟩ := hrel
    by_cases h1 : i < n
    · have d1 : wr.cell? ⟨b, off + i, none⟩ = some (.int .i64 (A i)) := (hb.cell (p := ⟨b, off + i, none⟩) hlt).trans (HC.out i h1)
      have bA := HA.out i
      have HO := Lib.hid (own_congr ho rfl (fun k _ => prw_zero f A B i k))
      clear ho
      go_wp2_with fail
      go_loopw [10, 11, 37] (fun _ _ i2 wr => ∃ j : Nat, i2 = .int .i64 j ∧ j ≤ m ∧ Own wr w.heap.size N (prw f A B i j) ∧ Below w.heap.size w wr) (fun _ _ i2 _ => m - (intOf i2).toNat)
      case atStart => exact ⟨0, rfl, Nat.zero_le _, HO.out, hb⟩
      case round =>
        clear HO d1 hb
        obtain ⟨j, rfl, hj, ho, hb⟩ := hrel
        by_cases h2 : j < m
        · have d2 : wr.cell? ⟨b2, off2 + j, none⟩ = some (.int .i64 (B j)) := (hb.cell (p := ⟨b2, off2 + j, none⟩) hlt2).trans (HC2.out j h2)
          have hij : i + j < N := by omega
          have c2 := World.rowIs.cell ho hij
          rw [prw_at] at c2
          have c3 := World.rowIs.frozen ho (i + j)
          have HT := Lib.hid (ht.below hb)
          have bB := HB.out j
          have pb := prod_bd h0 h8 bA.1 bA.2 bB.1 bB.2
          have pr := RS_bd (x := cpar A B (i + j) i) (m := P f) (by omega)
          have HS := Lib.hid (prw_set ho)
          have HE := Lib.hid (prw_new f A B i j)
          clear ho
          generalize RS (cpar A B (i + j) i) (P f) = X at *
          go_wp2_with fail
          refine (reduce_c f (X + A i * B j) wr HT.out h0 h8).mono ?_
          rintro e w' ⟨rfl, rfl⟩
          rw [HE.out]
          go_wp2
          go_roundw
          case rel => exact ⟨j + 1, by go_num, by omega, HS.out, hb.setCell (Nat.le_refl _) _⟩
          case measure => simp [intOf]; omega
        · have hd2 : decide (j < m) = false := by simpa using h2
          obtain rfl : j = m := by omega
          have HO := Lib.hid (own_congr ho rfl (fun k _ => prw_end HB2.out i k))
          clear ho
          go_wp2
          go_roundw
          case rel => exact ⟨i + 1, by go_num, by omega, HO.out, hb⟩
          case measure => simp [intOf]; omega
    · have hd : decide (i < n) = false := by simpa using h1
      obtain rfl : i = n := by omega
      have HO := Lib.hid ho
      clear ho
      go_wp2
      go_ret
      exact ⟨rfl, HO.out, hb⟩
theorem product_none (f : Int) (a a2 : Option Addr) (n m cap cap2 : Nat) (w : World) (hz : n = 0 ∨ m = 0) :
    Calls Tryd.prog 78 #[.int .i64 f, .slice a n cap, .slice a2 m cap2] w (OwnG w []) := by
  have HP := poly_none none 0 (fun _ => 0) w
  rw [show cutL 0 (fun _ => 0) = [] from rfl] at HP
  by_cases h1 : n = 0
  · subst h1
    go_enter Tryd.func78, Tryd.ntmps78
    go_wp2_with fail
    refine HP.mono ?_
    rintro e w2 ⟨g, rfl, hg, hO, hB⟩
    have HO := Lib.hid hO
    clear hO
    go_wp2
    go_ret
    exact ⟨g, rfl, hg, HO.out, hB⟩
  · obtain rfl : m = 0 := by omega
    have z1 : ((n : Int) == 0) = false := by simp; omega
    go_enter Tryd.func78, Tryd.ntmps78
    go_wp2_with fail
    refine HP.mono ?_
    rintro e w2 ⟨g, rfl, hg, hO, hB⟩
    have HO := Lib.hid hO
    clear hO
    go_wp2
    go_ret
    exact ⟨g, rfl, hg, HO.out, hB⟩
theorem product_c (f : Int) (a a2 : Option Addr) (l m : List Int) (cap cap2 : Nat) (w : World) (ht : Tab w) (h0 : 0 ≤ f) (h8 : f ≤ 8) (hn : l.length ≤ 4096) (hm : m.length ≤ 4096) (hl : Pol f l) (hm2 : Pol f m) (hs : Src w a l.length (lf l)) (hs2 : Src w a2 m.length (lf m)) :
    Calls Tryd.prog 78 #[.int .i64 f, .slice a l.length cap, .slice a2 m.length cap2] w (OwnG w (mulL f l m)) := by
  by_cases hz : l.length = 0 ∨ m.length = 0
  · have e : mulL f l m = [] := by
      rcases hz with h | h
      · rw [List.eq_nil_of_length_eq_zero h, mulL_nil_l]
      · rw [List.eq_nil_of_length_eq_zero h, mulL_nil_r]
    rw [e]
    exact product_none f a a2 l.length m.length cap cap2 w hz
  · rcases hs with h | ⟨b, off, rfl, hlt, hc⟩
    · exact absurd (.inl h) hz
    · rcases hs2 with h | ⟨b2, off2, rfl, hlt2, hc2⟩
      · exact absurd (.inr h) hz
      · refine (product_some f b off b2 off2 l.length m.length cap cap2 (l.length + m.length - 1) (lf l) (lf m) w ht h0 h8 hn hm (by omega) (by omega) (by omega) hl.1 hm2.1 (fun j hj => lf_out m hj) hlt hlt2 hc hc2).mono ?_
        rintro e w' ⟨rfl, ho, hb⟩
        refine OwnG.of_own ho (mulL_len h0 h8 hl hm2 (by omega) (by omega)).symm (Nat.le_refl _) (fun j hj => ?_) hb
        rw [lf_mulL, cpar_end j (fun i hi => lf_out l hi)]; rfl
/-- The specification's sum for one coefficient. -/
theorem mul_step {f : Int} (A B : Nat → Int) (k j : Nat) (h : j ≤ k) : RS (RS (cpar A B k j) (P f) + A j * B (k - j)) (P f) = RS (cpar A B k (j + 1)) (P f) := by
  rw [cpar_succ, if_pos h]
  unfold RS
  exact emod_add_congr (by simp) rfl
theorem mul_skip {f : Int} {A B : Nat → Int} {m : Nat} (hB : ∀ j, m ≤ j → B j = 0) {k j : Nat} (h : j ≤ k) (h2 : m ≤ k - j) : RS (cpar A B k j) (P f) = RS (cpar A B k (j + 1)) (P f) := by
  rw [cpar_succ, if_pos h, hB _ h2, Int.mul_zero, Int.add_zero]
/-- At the end of the inner loop all that counts has been added. -/
theorem mul_done {f : Int} {A B : Nat → Int} {n : Nat} (hA : ∀ j, n ≤ j → A j = 0) {k j : Nat} (h : k < j ∨ n ≤ j) : RS (cpar A B k j) (P f) = RS (cv k A B) (P f) := by
  rcases h with h | h
  · rw [cv_sum]
    congr 1
    unfold cpar
    rw [sumN_congr (f := fun i => A i * B (k - i)) (g := fun j => if j ≤ k then A j * B (k - j) else 0) (fun i hi => by simp [show i ≤ k by omega])]
    exact sumN_more (by omega) (fun i h1 h2 => by simp [show ¬ i ≤ k by omega])
  · rw [← cpar_end k hA]
    congr 1
    unfold cpar
    exact sumN_more h (fun i h1 _ => by simp [hA i h1])
set_option maxRecDepth 100000 in
set_option maxHeartbeats 3200000 in
theorem lmul_some (f : Int) (b off b2 off2 n m cap cap2 N : Nat) (A B : Nat → Int) (w : World) (h0 : 0 ≤ f) (h8 : f ≤ 8) (hn : n ≤ 4096) (hm : m ≤ 4096) (n0 : 0 < n) (m0 : 0 < m) (hN : n + m = N + 1)
    (hA : ∀ j, 0 ≤ A j ∧ A j < P f) (hB : ∀ j, 0 ≤ B j ∧ B j < P f) (hA2 : ∀ j, n ≤ j → A j = 0) (hB2 : ∀ j, m ≤ j → B j = 0) (hlt : b < w.heap.size) (hlt2 : b2 < w.heap.size)
    (hc : ∀ j, j < n → w.cell? ⟨b, off + j, none⟩ = some (.int .i64 (A j))) (hc2 : ∀ j, j < m → w.cell? ⟨b2, off2 + j, none⟩ = some (.int .i64 (B j))) :
    Calls Tryd.prog 82 #[.int .i64 f, .slice (some ⟨b, off, none⟩) n cap, .slice (some ⟨b2, off2, none⟩) m cap2] w (OwnsL w (cutL N (fun k => RS (cv k A B) (P f)))) := by
  have HC := Lib.hid hc
  have HC2 := Lib.hid hc2
  have HA := Lib.hid hA
  have HB := Lib.hid hB
  have HB2 := Lib.hid hB2
  have HA2 := Lib.hid hA2
  clear hc hc2 hA hB hB2 hA2
  have hp := P_bd h0 h8
  have z1 : ((n : Int) == 0) = false := by simp; omega
  have z2 : ((m : Int) == 0) = false := by simp; omega
  obtain ⟨i0, hi, hz0, hz1, hz2⟩ := info_parts info3
  have HI := Lib.hid hi
  have HZ0 := Lib.hid hz0
  have HZ1 := Lib.hid hz1
  have HZ2 := Lib.hid hz2
  clear hi hz0 hz1 hz2
  go_enter Tryd.func82, Tryd.ntmps82
  go_wp2_with fail
  refine (sModulus f w).mono ?_
  rintro e w' ⟨rfl, rfl⟩
  go_wp2_with fail
  go_loopw [8, 9, 10, 11] (fun v i _ _ wr => ∃ k : Nat, i = .int .i64 k ∧ k ≤ N ∧ wr.ownsRow w.heap.size 3 1 v k (xsF (fun k => RS (cv k A B) (P f)) k) ∧ Below w.heap.size w wr) (fun _ i _ _ _ => N - (intOf i).toNat)
  case atStart => exact ⟨0, rfl, Nat.zero_le _, own_empty w _, (Below.refl _ _).alloc (Nat.le_refl _) _⟩
  case round =>
    obtain ⟨k, rfl, hk, hown, hnx⟩ := hrel
    by_cases h1 : k < N
    · have hd1 : decide ((k : Int) < (n : Int) + m - 1) = true := by simp; omega
      have HOWN := Lib.hid hown
      clear hown
      go_wp2_with fail
      go_loopw [10, 11] (fun s j wr2 => ∃ i : Nat, j = .int .i64 i ∧ i ≤ n ∧ i ≤ k + 1 ∧ s = .int .i64 (RS (cpar A B k i) (P f)) ∧ ∃ q, wr2 = wr.drewN q) (fun _ j _ => n - (intOf j).toNat)
      case atStart => exact ⟨0, rfl, Nat.zero_le _, Nat.zero_le _, by simp [cpar, sumN, RS], 0, rfl⟩
      case round =>
        obtain ⟨i, rfl, hin, hik, rfl, q, rfl⟩ := hrel
        have hbq := below_drewN hnx q
        by_cases h2 : i ≤ k
        · by_cases h3 : i < n
          · have d1 : wr.cell? ⟨b, off + i, none⟩ = some (.int .i64 (A i)) := (hnx.cell (p := ⟨b, off + i, none⟩) hlt).trans (HC.out i h3)
            by_cases h4 : k - i < m
            · have d2 : wr.cell? ⟨b2, off2 + (k - i), none⟩ = some (.int .i64 (B (k - i))) := (hnx.cell (p := ⟨b2, off2 + (k - i), none⟩) hlt2).trans (HC2.out _ h4)
              have hd4 : decide ((k : Int) - i < m) = true := by simp; omega
              have bA := HA.out i
              have bB := HB.out (k - i)
              have pb := prod_bd h0 h8 bA.1 bA.2 bB.1 bB.2
              have pr := RS_bd (x := cpar A B k i) (m := P f) (by omega)
              have HS := Lib.hid (mul_step (f := f) A B k i h2)
              have q1 : IntKind.i64.wrap ((k : Int) - i) = (k : Int) - i := IntWalk.i64_in _ (by omega)
              have q2 : ((k : Int) - i).toNat = k - i := by omega
              have q3 : (0 : Int) ≤ (k : Int) - i := by omega
              have q4 : (k : Int) - i < m := by omega
              have q5 : IntKind.i64.wrap (A i * B (k - i)) = A i * B (k - i) := IntWalk.i64_in _ (by omega)
              generalize RS (cpar A B k i) (P f) = X at *
              have q6 : IntKind.i64.wrap (X + A i * B (k - i)) = X + A i * B (k - i) := IntWalk.i64_in _ (by omega)
              have q7 : ¬ P f = 0 := by omega
              go_wp2
              go_quiet (fail)
              go_wp2
              go_roundw
              case rel => exact ⟨i + 1, by go_num, by omega, by omega, vint HS.out, _, rfl⟩
              case measure => simp [intOf]; omega
            · have hd4 : decide ((k : Int) - i < m) = false := by simp; omega
              have HS := Lib.hid (mul_skip (f := f) (A := A) HB2.out h2 (by omega))
              go_wp2
              go_roundw
              case rel => exact ⟨i + 1, by go_num, by omega, by omega, vint HS.out, q, rfl⟩
              case measure => simp [intOf]; omega
          · have hd3 : decide ((i : Int) < n) = false := by simp; omega
            have HE := Lib.hid (mul_done (f := f) (B := B) HA2.out (k := k) (j := i) (.inr (by omega)))
            have hown : (wr.drewN q).ownsRow w.heap.size 3 1 _ k (xsF (fun k => RS (cv k A B) (P f)) k) := HOWN.out
            have hs := hbq.size
            have hqs : (wr.drewN q).heap.size = wr.heap.size := rfl
            go_wp2_with (at_builtin; refine wpList_append_own _ rfl _ _ 22 rfl w.heap.size 3 i0 (.int .i64 0) 1 8 Tryd.underlying22 HI.out HZ0.out HZ1.out HZ2.out rfl (by decide) _ _ _ rfl (hown.alloc _) ⟨(wr.drewN q).heap.size, 0, none⟩ 1 1 [.int .i64 (RS (cpar A B k i) (P f))] rfl rfl ?c1 ?c2 ?c3 ?c4 ?c5 ?_)
            case c1 => exact cell_one_new _ _ _
            case c2 => intro u hu; simp at hu; subst hu; rfl
            case c3 => unfold maxLen; omega
            case c4 => omega
            case c5 => simp; omega
            intro v' w1 hown' hgrow _
            have hbel : Below w.heap.size w w1 := (hbq.alloc hs _).grown hgrow (by simp; omega) (own_ge hown)
            rw [vint HE.out, xsF_succ (fun k => RS (cv k A B) (P f))] at hown'
            clear hgrow hown HOWN
            go_wp2
            go_roundw
            case rel => exact ⟨k + 1, by go_num, by omega, hown', hbel⟩
            case measure => simp [intOf]; omega
        · have hd2 : decide ((i : Int) ≤ k) = false := by simp; omega
          have HE := Lib.hid (mul_done (f := f) (B := B) HA2.out (k := k) (j := i) (.inl (by omega)))
          have hown : (wr.drewN q).ownsRow w.heap.size 3 1 _ k (xsF (fun k => RS (cv k A B) (P f)) k) := HOWN.out
          have hs := hbq.size
          have hqs : (wr.drewN q).heap.size = wr.heap.size := rfl
          go_wp2_with (at_builtin; refine wpList_append_own _ rfl _ _ 22 rfl w.heap.size 3 i0 (.int .i64 0) 1 8 Tryd.underlying22 HI.out HZ0.out HZ1.out HZ2.out rfl (by decide) _ _ _ rfl (hown.alloc _) ⟨(wr.drewN q).heap.size, 0, none⟩ 1 1 [.int .i64 (RS (cpar A B k i) (P f))] rfl rfl ?d1 ?d2 ?d3 ?d4 ?d5 ?_)
          case d1 => exact cell_one_new _ _ _
          case d2 => intro u hu; simp at hu; subst hu; rfl
          case d3 => unfold maxLen; omega
          case d4 => omega
          case d5 => simp; omega
          intro v' w1 hown' hgrow _
          have hbel : Below w.heap.size w w1 := (hbq.alloc hs _).grown hgrow (by simp; omega) (own_ge hown)
          rw [vint HE.out, xsF_succ (fun k => RS (cv k A B) (P f))] at hown'
          clear hgrow hown HOWN
          go_wp2
          go_roundw
          case rel => exact ⟨k + 1, by go_num, by omega, hown', hbel⟩
          case measure => simp [intOf]; omega
    · have hd : decide ((k : Int) < (n : Int) + m - 1) = false := by simp; omega
      obtain rfl : k = N := by omega
      have HO := Lib.hid (cut_own (by omega) hown)
      clear hown
      go_wp2_with fail
      refine HO.out.mono ?_
      rintro e w2 ho
      obtain ⟨v2, rfl, ho2, hb2⟩ := ho.up hnx hnx.size
      have HO2 := Lib.hid ho2
      clear ho ho2 HO
      go_wp2
      go_ret
      exact ⟨_, rfl, HO2.out, hb2⟩
theorem lmul_none (f : Int) (a a2 : Option Addr) (n m cap cap2 : Nat) (w : World) (hz : n = 0 ∨ m = 0) :
    Calls Tryd.prog 82 #[.int .i64 f, .slice a n cap, .slice a2 m cap2] w (OwnsL w []) := by
  by_cases h1 : n = 0
  · subst h1
    go_enter Tryd.func82, Tryd.ntmps82
    go_wp2_with fail
    refine (sModulus f w).mono ?_
    rintro e w' ⟨rfl, rfl⟩
    go_wp2
    go_ret
    exact ⟨_, rfl, own_empty w _, (Below.refl _ _).alloc (Nat.le_refl _) _⟩
  · obtain rfl : m = 0 := by omega
    have z1 : ((n : Int) == 0) = false := by simp; omega
    go_enter Tryd.func82, Tryd.ntmps82
    go_wp2_with fail
    refine (sModulus f w).mono ?_
    rintro e w' ⟨rfl, rfl⟩
    go_wp2
    go_ret
    exact ⟨_, rfl, own_empty w _, (Below.refl _ _).alloc (Nat.le_refl _) _⟩
theorem lmul_c (f : Int) (a a2 : Option Addr) (l m : List Int) (cap cap2 : Nat) (w : World) (h0 : 0 ≤ f) (h8 : f ≤ 8) (hn : l.length ≤ 4096) (hm : m.length ≤ 4096) (hl : Pol f l) (hm2 : Pol f m) (hs : Src w a l.length (lf l)) (hs2 : Src w a2 m.length (lf m)) :
    Calls Tryd.prog 82 #[.int .i64 f, .slice a l.length cap, .slice a2 m.length cap2] w (OwnsL w (mulL f l m)) := by
  by_cases hz : l.length = 0 ∨ m.length = 0
  · have e : mulL f l m = [] := by
      rcases hz with h | h
      · rw [List.eq_nil_of_length_eq_zero h, mulL_nil_l]
      · rw [List.eq_nil_of_length_eq_zero h, mulL_nil_r]
    rw [e]
    exact lmul_none f a a2 l.length m.length cap cap2 w hz
  · rcases hs with h | ⟨b, off, rfl, hlt, hc⟩
    · exact absurd (.inl h) hz
    · rcases hs2 with h | ⟨b2, off2, rfl, hlt2, hc2⟩
      · exact absurd (.inr h) hz
      · exact lmul_some f b off b2 off2 l.length m.length cap cap2 (l.length + m.length - 1) (lf l) (lf m) w h0 h8 hn hm (by omega) (by omega) (by omega) hl.1 hm2.1 (fun j hj => lf_out l hj) (fun j hj => lf_out m hj) hlt hlt2 hc hc2
end Go.Proofs.YtnipffmookkkdabDoor
namespace Go.Proofs.YtnipffmookkkdabDoor
open Go.RowKit
/-- A row with room: the first n cells are known. -/
def OwnV (w : World) (g n cap : Nat) (F : Nat → Int) : Prop := ∃ V, w.rowIs g 3 cap V ∧ n ≤ cap ∧ ∀ j, j < n → V j = .int .i64 (F j)
theorem OwnV.cell {w : World} {g n cap : Nat} {F : Nat → Int} (h : OwnV w g n cap F) {j : Nat} (hj : j < n) : w.cell? ⟨g, j, none⟩ = some (.int .i64 (F j)) := by
  obtain ⟨V, h1, h2, h3⟩ := h
  rw [← h3 j hj]
  exact World.rowIs.cell h1 (by omega)
theorem OwnV.frozen {w : World} {g n cap : Nat} {F : Nat → Int} (h : OwnV w g n cap F) (j : Nat) : w.frozen? ⟨g, j, none⟩ = false := by
  obtain ⟨V, h1, h2, h3⟩ := h
  exact World.rowIs.frozen h1 j
theorem OwnV.lt {w : World} {g n cap : Nat} {F : Nat → Int} (h : OwnV w g n cap F) : g < w.heap.size := by
  obtain ⟨V, h1, _⟩ := h
  exact World.rowIs.lt h1
theorem OwnV.set {w : World} {g n cap s : Nat} {F : Nat → Int} {x : Int} (h : OwnV w g n cap F) : OwnV (w.setCell ⟨g, s, none⟩ (.int .i64 x)) g n cap (upd F s x) := by
  obtain ⟨V, h1, h2, h3⟩ := h
  refine ⟨_, World.rowIs.set h1 s (.int .i64 x), h2, fun j hj => ?_⟩
  unfold upd
  by_cases e : j = s
  · simp [e]
  · simp [e, h3 j hj]
theorem OwnV.other {w : World} {g g2 n cap s : Nat} {F : Nat → Int} {v : Value} (h : OwnV w g n cap F) (hne : g ≠ g2) : OwnV (w.setCell ⟨g2, s, none⟩ v) g n cap F := by
  obtain ⟨V, h1, h2, h3⟩ := h
  exact ⟨V, World.rowIs.setOther h1 (a := ⟨g2, s, none⟩) hne v, h2, h3⟩
theorem OwnV.keep {w w' : World} {g n cap : Nat} {F : Nat → Int} (h : OwnV w g n cap F) (hb : Below w.heap.size w w') : OwnV w' g n cap F := by
  obtain ⟨V, h1, h2, h3⟩ := h
  exact ⟨V, World.rowIs.of_block h1 (hb.block g (World.rowIs.lt h1)), h2, h3⟩
theorem OwnV.congr {w : World} {g n cap : Nat} {F G : Nat → Int} (h : OwnV w g n cap F) (e : ∀ j, j < n → F j = G j) : OwnV w g n cap G := by
  obtain ⟨V, h1, h2, h3⟩ := h
  exact ⟨V, h1, h2, fun j hj => by rw [h3 j hj, e j hj]⟩
theorem OwnV.src {w : World} {g n cap : Nat} {F : Nat → Int} (h : OwnV w g n cap F) : Src w (some ⟨g, 0, none⟩) n F :=
  .inr ⟨g, 0, rfl, h.lt, fun j hj => by rw [Nat.zero_add]; exact h.cell hj⟩
theorem OwnV.of_owns {w : World} {base n : Nat} {v : Value} {F : Nat → Int} (h : w.ownsRow base 3 1 v n (xsF F n)) (hn : n ≠ 0) : ∃ g cap, v = .slice (some ⟨g, 0, none⟩) n cap ∧ base ≤ g ∧ OwnV w g n cap F := by
  obtain ⟨hl, h⟩ := h
  rcases h with ⟨h1, h2⟩ | ⟨g, cap, cur, h1, hg, hh, hc, hm, hs, ht⟩
  · exact absurd h2 hn
  · refine ⟨g, cap, h1, hg, fun j => (cur[j]?).getD .nilIface, ⟨cur, hh, by omega, fun j hj => ?_⟩, hc, fun j hj => ?_⟩
    · have : j < cur.size := by omega
      simp [this]
    · have hx : (xsF F n)[j]? = some (.int .i64 (F j)) := by simp [xsF, hj]
      rw [← ht, List.getElem?_take_of_lt (by omega)] at hx
      have : cur[j]? = some (.int .i64 (F j)) := by simpa using hx
      show (cur[j]?).getD .nilIface = _
      rw [this]; rfl
end Go.Proofs.YtnipffmookkkdabDoor
namespace Go.Proofs.YtnipffmookkkdabDoor
open Go.RowKit
def NilB (w : World) (e : Ending) (w' : World) : Prop := e = .returned (.tuple #[.slice none 0 0, .bool false]) ∧ Below w.heap.size w w'
theorem NilB.list {w w' : World} {l : List Int} {b : Bool} {e : Ending} (hl : l = []) (hb : b = false) (h : NilB w e w') : ListLB w l b e w' := by
  subst hl; subst hb
  obtain ⟨rfl, hb⟩ := h
  exact ⟨none, 0, rfl, .inl rfl, hb⟩
theorem NilB.own {w w' : World} {l : List Int} {b : Bool} {e : Ending} (hl : l = []) (hb : b = false) (h : NilB w e w') : OwnLB w l b e w' := by
  subst hl; subst hb
  obtain ⟨rfl, hb⟩ := h
  exact ⟨none, 0, rfl, OwnA.nil rfl, hb⟩
theorem OwnG.finishB {w w' : World} {l : List Int} {g : Nat} (hg : w.heap.size ≤ g) (ho : Own w' g l.length (lf l)) (hb : Below w.heap.size w w') : OwnLB w l true (.returned (.tuple #[.slice (some ⟨g, 0, none⟩) l.length l.length, .bool true])) w' := ⟨_, _, rfl, .inr ⟨g, rfl, rfl, hg, ho⟩, hb⟩
set_option maxRecDepth 100000 in
set_option maxHeartbeats 1600000 in
theorem iMulPoly_on (f : Int) (a : Option Addr) (l : List Int) (cap : Nat) (a2 : Option Addr) (m : List Int) (cap2 : Nat) (w : World) (hn : l.length ≤ 1048576) (hn2 : m.length ≤ 1048576) (hs : Src w a l.length (lf l)) (hs2 : Src w a2 m.length (lf m)) (ht : Tab w) (hl : PolOk f l) (hm : PolOk f m) (hlen : l.length + m.length ≤ 401) :
    Calls Tryd.prog 40 #[.int .i64 f, .slice a l.length cap, .slice a2 m.length cap2] w (OwnLB w (mulL f l m) true) := by
  have HS := Lib.hid hs
  have HS2 := Lib.hid hs2
  have BA : Hid (∀ o, Below w.heap.size w (w.alloc o)) := Lib.hid fun o => (Below.refl _ _).alloc (Nat.le_refl _) o
  clear hs hs2
  have HB : Hid ((mPolyOk f l && mPolyOk f m) = true) := Lib.hid (by rw [pok_iff.2 hl, pok_iff.2 hm]; rfl)
  have h0 := hl.1.1
  have h8 := hl.1.2
  have HL := Lib.hid hl
  have HM := Lib.hid hm
  clear hl hm
  have hd : decide ((400 : Int) < (l.length : Int) + m.length - 1) = false := by simp; omega
  have l4 := HL.out.2.1
  have m4 := HM.out.2.1
  go_enter Tryd.func40, Tryd.ntmps40
  go_wp2_with fail
  refine (arePolys_c f w.heap.size a a2 l m cap cap2 _ hn hn2 (HS.out.keep (BA.out _)) (HS2.out.keep (BA.out _)) (ht.below (BA.out _)) (cell_two _ _ _ _).1 (cell_two _ _ _ _).2).mono ?_
  rintro e w' ⟨rfl, rfl⟩
  rw [HB.out]
  go_wp2_with fail
  refine (product_c f a a2 l m cap cap2 _ (ht.below (BA.out _)) h0 h8 (by omega) (by omega) HL.out.2.2 HM.out.2.2 (HS.out.keep (BA.out _)) (HS2.out.keep (BA.out _))).mono ?_
  rintro e w2 ho
  obtain ⟨g, rfl, hg, hO, hB⟩ := ho.up (BA.out _)
  have HO := Lib.hid hO
  clear hO ho
  go_wp2
  go_ret2
  exact OwnG.finishB hg HO.out hB
set_option maxRecDepth 100000 in
set_option maxHeartbeats 1600000 in
theorem sMulPoly_on (f : Int) (a : Option Addr) (l : List Int) (cap : Nat) (a2 : Option Addr) (m : List Int) (cap2 : Nat) (w : World) (hn : l.length ≤ 1048576) (hn2 : m.length ≤ 1048576) (hs : Src w a l.length (lf l)) (hs2 : Src w a2 m.length (lf m)) (hk : okMul f l m) :
    Calls Tryd.prog 44 #[.int .i64 f, .slice a l.length cap, .slice a2 m.length cap2] w (ListLB w (mulL f l m) true) := by
  have R1 := sPolyOk f a l cap w hn hs
  have R2 := sPolyOk f a2 m cap2 w hn2 hs2
  obtain ⟨h1, h2, h3⟩ := hk
  have HM := Lib.hid (lmul_c f a a2 l m cap cap2 w h1.1.1 h1.1.2 (by have := h1.2.1; omega) (by have := h2.2.1; omega) h1.2.2 h2.2.2 hs hs2)
  rw [pok_iff.2 h1] at R1
  rw [pok_iff.2 h2] at R2
  clear h1 h2 hs hs2
  have hd : decide ((400 : Int) < (l.length : Int) + m.length - 1) = false := by simp; omega
  have E : Hid (∀ e w2, OwnsL w (mulL f l m) e w2 → ∃ a3 cap3, e = .returned (.slice a3 (mulL f l m).length cap3) ∧ Src w2 a3 (mulL f l m).length (lf (mulL f l m)) ∧ Below w.heap.size w w2) := Lib.hid fun e w2 h => h.list
  generalize mulL f l m = s at *
  by_cases z1 : 0 < l.length
  · by_cases z2 : 0 < m.length
    · go_enter Tryd.func44, Tryd.ntmps44
      go_wp2_with fail
      refine R1.mono ?_
      rintro e w' ⟨rfl, rfl⟩
      go_wp2_with fail
      refine R2.mono ?_
      rintro e w' ⟨rfl, rfl⟩
      go_wp2_with fail
      refine HM.out.mono ?_
      rintro e w2 ho
      obtain ⟨a3, cap3, rfl, hs3, hb3⟩ := E.out _ _ ho
      have HS3 := Lib.hid hs3
      clear hs3 ho
      go_wp2
      go_ret2
      exact ⟨a3, cap3, rfl, HS3.out, hb3⟩
    · have hz2 : decide ((0 : Int) < m.length) = false := decide_eq_false (by omega)
      go_enter Tryd.func44, Tryd.ntmps44
      go_wp2_with fail
      refine R1.mono ?_
      rintro e w' ⟨rfl, rfl⟩
      go_wp2_with fail
      refine R2.mono ?_
      rintro e w' ⟨rfl, rfl⟩
      go_wp2_with fail
      refine HM.out.mono ?_
      rintro e w2 ho
      obtain ⟨a3, cap3, rfl, hs3, hb3⟩ := E.out _ _ ho
      have HS3 := Lib.hid hs3
      clear hs3 ho
      go_wp2
      go_ret2
      exact ⟨a3, cap3, rfl, HS3.out, hb3⟩
  · have hz1 : decide ((0 : Int) < l.length) = false := decide_eq_false (by omega)
    go_enter Tryd.func44, Tryd.ntmps44
    go_wp2_with fail
    refine R1.mono ?_
    rintro e w' ⟨rfl, rfl⟩
    go_wp2_with fail
    refine R2.mono ?_
    rintro e w' ⟨rfl, rfl⟩
    go_wp2_with fail
    refine HM.out.mono ?_
    rintro e w2 ho
    obtain ⟨a3, cap3, rfl, hs3, hb3⟩ := E.out _ _ ho
    have HS3 := Lib.hid hs3
    clear hs3 ho
    go_wp2
    go_ret2
    exact ⟨a3, cap3, rfl, HS3.out, hb3⟩
set_option maxRecDepth 100000 in
theorem sMulPoly_off (f : Int) (a : Option Addr) (l : List Int) (cap : Nat) (a2 : Option Addr) (m : List Int) (cap2 : Nat) (w : World) (hn : l.length ≤ 1048576) (hn2 : m.length ≤ 1048576) (hs : Src w a l.length (lf l)) (hs2 : Src w a2 m.length (lf m)) (hk : ¬ okMul f l m) :
    Calls Tryd.prog 44 #[.int .i64 f, .slice a l.length cap, .slice a2 m.length cap2] w (NilB w) := by
  have R1 := sPolyOk f a l cap w hn hs
  have R2 := sPolyOk f a2 m cap2 w hn2 hs2
  clear hs hs2
  by_cases h1 : PolOk f l
  · rw [pok_iff.2 h1] at R1
    by_cases h2 : PolOk f m
    · rw [pok_iff.2 h2] at R2
      have hlen : ¬ l.length + m.length ≤ 401 := fun h => hk ⟨h1, h2, h⟩
      have l4 := h1.2.1
      have m4 := h2.2.1
      have z1 : 0 < l.length := by omega
      have z2 : 0 < m.length := by omega
      have hd : decide ((400 : Int) < (l.length : Int) + m.length - 1) = true := by simp; omega
      clear hk h1 h2
      go_enter Tryd.func44, Tryd.ntmps44
      go_wp2_with fail
      refine R1.mono ?_
      rintro e w' ⟨rfl, rfl⟩
      go_wp2_with fail
      refine R2.mono ?_
      rintro e w' ⟨rfl, rfl⟩
      go_wp2
      go_ret2
      exact ⟨rfl, Below.refl _ _⟩
    · rw [pok_not.2 h2] at R2
      clear hk h1 h2
      go_enter Tryd.func44, Tryd.ntmps44
      go_wp2_with fail
      refine R1.mono ?_
      rintro e w' ⟨rfl, rfl⟩
      go_wp2_with fail
      refine R2.mono ?_
      rintro e w' ⟨rfl, rfl⟩
      go_wp2
      go_ret2
      exact ⟨rfl, Below.refl _ _⟩
  · rw [pok_not.2 h1] at R1
    clear hk h1
    go_enter Tryd.func44, Tryd.ntmps44
    go_wp2_with fail
    refine R1.mono ?_
    rintro e w' ⟨rfl, rfl⟩
    go_wp2
    go_ret2
    exact ⟨rfl, Below.refl _ _⟩
/-- Horner's sums. -/
def hz (f x : Int) (A : Nat → Int) (n : Nat) : Nat → Int
  | 0 => 0
  | t + 1 => RS (RS (hz f x A n t * x) (P f) + A (n - (t + 1))) (P f)
end Go.Proofs.YtnipffmookkkdabDoor
namespace Go.Proofs.YtnipffmookkkdabDoor
open Go.RowKit
set_option maxHeartbeats 800000 in
theorem sameZ_some (b off b2 off2 n cap cap2 : Nat) (F : Nat → Int) (w : World) (hn : n ≤ 1048576) (hlt : b < w.heap.size) (hlt2 : b2 < w.heap.size) (hc : ∀ j, j < n → w.cell? ⟨b, off + j, none⟩ = some (.int .i64 (F j))) (hc2 : ∀ j, j < n → w.cell? ⟨b2, off2 + j, none⟩ = some (.int .i64 (F j))) :
    Calls Tryd.prog 19 #[.slice (some ⟨b, off, none⟩) n cap, .slice (some ⟨b2, off2, none⟩) n cap2] w (TrueP w) := by
  have HC := Lib.hid hc
  have HC2 := Lib.hid hc2
  clear hc hc2
  go_enter Tryd.func19, Tryd.ntmps19
  go_wp2_with fail
  go_loopw [5] (fun i wr => ∃ k : Nat, i = .int .i64 k ∧ k ≤ n ∧ Below w.heap.size w wr) (fun i _ => n - (intOf i).toNat)
  case atStart => exact ⟨0, rfl, Nat.zero_le _, Below.refl _ _⟩
  case round =>
    obtain ⟨k, rfl, hk, hb⟩ := hrel
    by_cases h1 : k < n
    · have c1 : wr.cell? ⟨b, off + k, none⟩ = some (.int .i64 (F k)) := (hb.cell (p := ⟨b, off + k, none⟩) hlt).trans (HC.out k h1)
      have c2 : wr.cell? ⟨b2, off2 + k, none⟩ = some (.int .i64 (F k)) := (hb.cell (p := ⟨b2, off2 + k, none⟩) hlt2).trans (HC2.out k h1)
      go_wp2
      go_quiet (fail)
      go_wp2
      go_roundw
      case rel => exact ⟨k + 1, by go_num, by omega, below_drewN hb _⟩
      case measure => simp [intOf]; omega
    · have hd : decide (k < n) = false := by simpa using h1
      go_wp2
      go_ret
      exact ⟨rfl, hb⟩
theorem sameZ_none (a a2 : Option Addr) (cap cap2 : Nat) (w : World) : Calls Tryd.prog 19 #[.slice a 0 cap, .slice a2 0 cap2] w (TrueP w) := by
  go_enter Tryd.func19, Tryd.ntmps19
  go_wp2
  refine wp_loop_rounds 1 ?_
  rw [rounds_succ]
  go_wp2
  go_ret
  exact ⟨rfl, Below.refl _ _⟩
theorem sameZ (a a2 : Option Addr) (l : List Int) (cap cap2 : Nat) (w : World) (hn : l.length ≤ 1048576) (hs : Src w a l.length (lf l)) (hs2 : Src w a2 l.length (lf l)) : Calls Tryd.prog 19 #[.slice a l.length cap, .slice a2 l.length cap2] w (TrueP w) := by
  rcases hs with h | ⟨b, off, rfl, hlt, hc⟩
  · rw [h]; exact sameZ_none a a2 cap cap2 w
  · rcases hs2 with h | ⟨b2, off2, rfl, hlt2, hc2⟩
    · rw [h]; exact sameZ_none _ a2 cap cap2 w
    · exact sameZ_some b off b2 off2 l.length cap cap2 (lf l) w hn hlt hlt2 hc hc2
/-- The state of the loop that draws a list: the cursor's block is g. -/
def ZAt (g : Nat) (w wr : World) (v : Value) (k : Nat) : Prop := (∃ F, wr.ownsRow w.heap.size 3 1 v k (xsF F k)) ∧ Cur g wr ∧ w.grownBy wr (some g) ∧ w.heap.size ≤ wr.heap.size
theorem zxs_more (F : Nat → Int) (k : Nat) (x : Int) : xsF F k ++ [.int .i64 x] = xsF (fun j => if j < k then F j else x) (k + 1) := by
  rw [← xsF_succ, xsF_congr (F := F) (G := fun j => if j < k then F j else x) (fun j hj => by simp [hj])]
  simp
theorem zown_ne {wr : World} {B g : Nat} {v : Value} {k : Nat} {xs : List Value} (hB : g < B) (h : wr.ownsRow B 3 1 v k xs) : v.ownBlock = none ∨ v.ownBlock ≠ some g := by
  refine .inr fun e => ?_
  have := own_ge h g e
  omega
/-- Growth that writes only into a block made since is growth that writes only into g. -/
theorem grown_new {w w1 w2 : World} {g : Nat} {row : Option Nat} (h1 : w.grownBy w1 (some g)) (h2 : w1.grownBy w2 row) (hr : ∀ k, row = some k → w.heap.size ≤ k) : w.grownBy w2 (some g) :=
  ⟨h2.os.trans h1.os, h2.tape.trans h1.tape, h2.output.trans h1.output, Nat.le_trans h1.size h2.size, fun i hi hne => (h2.block i (Nat.lt_of_lt_of_le hi h1.size) (fun e => by have := hr i e.symm; omega)).trans (h1.block i hi hne)⟩
theorem zdraw_step {g : Nat} {w w1 w2 : World} {v v' : Value} {k : Nat} {x : Int} {F : Nat → Int} {o : Obj} (hB : g < w.heap.size) (g1 : w.grownBy w1 (some g)) (c1 : Cur g w1) (hown1 : w1.ownsRow w.heap.size 3 1 v k (xsF F k))
    (hown' : w2.ownsRow w.heap.size 3 1 v' (k + 1) (xsF F k ++ [.int .i64 x])) (hgrow : (w1.alloc o).grownBy w2 v.ownBlock) : ZAt g w w2 v' (k + 1) := by
  have hge := own_ge hown1
  have hg := grown_new (g1.trans (World.grownBy_alloc w1 o (some g))) hgrow hge
  exact ⟨⟨_, by rw [zxs_more] at hown'; exact hown'⟩, (c1.alloc o).other hgrow (fun r hr => by have := hge r hr; omega), hg, hg.size⟩
def ZRow (g : Nat) (w : World) (n : Nat) (e : Ending) (w' : World) : Prop := ∃ v, e = .returned v ∧ ZAt g w w' v n
set_option maxRecDepth 100000 in
set_option maxHeartbeats 1600000 in
theorem drawList_c (g : Nat) (f : Int) (n : Nat) (w : World) (hc : Cur g w) (hn : n ≤ 4096) : Calls Tryd.prog 92 #[.pointer (some ⟨g, 0, none⟩), .int .i64 f, .int .i64 n] w (ZRow g w n) := by
  obtain ⟨i0, hi, hz0, hz1, hz2⟩ := info_parts info3
  have HI := Lib.hid hi
  have HZ0 := Lib.hid hz0
  have HZ1 := Lib.hid hz1
  have HZ2 := Lib.hid hz2
  clear hi hz0 hz1 hz2
  have hB : g < w.heap.size := hc.lt
  go_enter Tryd.func92, Tryd.ntmps92
  go_wp2_with fail
  go_loopw [7, 8] (fun v i wr => ∃ k : Nat, i = .int .i64 k ∧ k ≤ n ∧ ZAt g w wr v k) (fun _ i _ => n - (intOf i).toNat)
  case atStart => exact ⟨0, rfl, by omega, ⟨fun _ => 0, own_empty w (fun _ => 0)⟩, hc.alloc _, World.grownBy_alloc _ _ _, by simp⟩
  case round =>
    obtain ⟨k, rfl, hk, ⟨F, hown⟩, hcur, hbel, hsz⟩ := hrel
    by_cases hlt : k < n
    · have hd : decide ((k : Int) < n) = true := decide_eq_true (by omega)
      go_wp2_with fail
      refine (element_c g f wr hcur).mono ?_
      rintro e w9 ⟨x9, _, rfl, g9, c9⟩
      have hown9 := hown.kept g9 (zown_ne hB hown)
      have hb9 := hbel.trans g9
      have hs9 : w.heap.size ≤ w9.heap.size := Nat.le_trans hsz g9.size
      clear hown hcur hbel g9
      go_wp2_with (at_builtin; refine wpList_append_own _ rfl _ _ 22 rfl w.heap.size 3 i0 (.int .i64 0) 1 8 Tryd.underlying22 HI.out HZ0.out HZ1.out HZ2.out rfl (by decide) _ _ _ rfl (hown9.alloc _) ⟨w9.heap.size, 0, none⟩ 1 1 [.int .i64 x9] rfl rfl ?c1 ?c2 ?c3 ?c4 ?c5 ?_)
      case c1 => exact cell_one_new _ _ _
      case c2 => intro u hu; simp at hu; subst hu; rfl
      case c3 => unfold maxLen; omega
      case c4 => omega
      case c5 => simp; omega
      intro v' w10 hown' hgrow _
      have hst := zdraw_step hB hb9 c9 hown9 hown' hgrow
      clear hgrow hown' hown9 c9 hb9
      go_wp2
      go_roundw
      case rel => exact ⟨k + 1, by go_num, by omega, hst⟩
      case measure => simp [intOf]; omega
    · have hd : decide ((k : Int) < n) = false := decide_eq_false (by omega)
      obtain rfl : k = n := by omega
      go_wp2
      go_ret
      exact ⟨_, rfl, ⟨F, hown⟩, hcur, hbel, hsz⟩
/-- A list apart from the cursor. -/
def SrcO (g : Nat) (w : World) (a : Option Addr) (n : Nat) (F : Nat → Int) : Prop :=
  n = 0 ∨ ∃ b off, a = some ⟨b, off, none⟩ ∧ b ≠ g ∧ b < w.heap.size ∧ ∀ j, j < n → w.cell? ⟨b, off + j, none⟩ = some (.int .i64 (F j))
theorem SrcO.src {g : Nat} {w : World} {a : Option Addr} {n : Nat} {F : Nat → Int} (h : SrcO g w a n F) : Src w a n F := by
  refine h.imp id ?_
  rintro ⟨b, off, e, _, hlt, hc⟩
  exact ⟨b, off, e, hlt, hc⟩
theorem SrcO.grown {g : Nat} {w w' : World} {a : Option Addr} {n : Nat} {F : Nat → Int} (h : SrcO g w a n F) (hg : w.grownBy w' (some g)) : SrcO g w' a n F := by
  refine h.imp id ?_
  rintro ⟨b, off, e, hne, hlt, hc⟩
  exact ⟨b, off, e, hne, Nat.lt_of_lt_of_le hlt hg.size, fun j hj => hg.cell (hc j hj) (fun e => by injection e with e; exact hne e)⟩
theorem SrcO.of {B g : Nat} {w : World} {v : Value} {n : Nat} {F : Nat → Int} (h : w.ownsRow B 3 1 v n (xsF F n)) (hB : g < B) : ∃ a cap, v = .slice a n cap ∧ n ≤ cap ∧ SrcO g w a n F := by
  by_cases hn : n = 0
  · obtain ⟨a, cap, hv, hc, _⟩ := src_of_owns2 h
    exact ⟨a, cap, hv, hc, .inl hn⟩
  · obtain ⟨g2, cap, hv, hg, ho⟩ := OwnV.of_owns h hn
    have hcap : n ≤ cap := by obtain ⟨_, _, h, _⟩ := ho; exact h
    exact ⟨_, cap, hv, hcap, .inr ⟨g2, 0, rfl, by omega, ho.lt, fun j hj => by rw [Nat.zero_add]; exact ho.cell hj⟩⟩
theorem grown_of_below {w w' : World} (g : Nat) (hb : Below w.heap.size w w') : w.grownBy w' (some g) :=
  ⟨hb.os, hb.tape, hb.output, hb.size, fun i hi _ => hb.block i hi⟩
theorem Cur.below {g : Nat} {w w' : World} (h : Cur g w) (hb : Below w.heap.size w w') : Cur g w' :=
  h.other (row := none) ⟨hb.os, hb.tape, hb.output, hb.size, fun i hi _ => hb.block i hi⟩ (fun _ h => by cases h)
/-- The drawn list, in a row of the draw's own. -/
def ZPol (g : Nat) (w : World) (n : Nat) (e : Ending) (w' : World) : Prop := ∃ (l : List Int) (a : Option Addr) (cap : Nat), e = .returned (.slice a l.length cap) ∧ l.length ≤ n ∧ l.length ≤ cap ∧ SrcO g w' a l.length (lf l) ∧ Cur g w' ∧ w.grownBy w' (some g)
theorem ZPol.of {g : Nat} {w w' : World} {v : Value} {n : Nat} {l : List Int} (h : w'.ownsRow w.heap.size 3 1 v l.length (xsF (lf l) l.length)) (hB : g < w.heap.size) (hl : l.length ≤ n) (hc : Cur g w') (hg : w.grownBy w' (some g)) : ZPol g w n (.returned v) w' := by
  obtain ⟨a, cap, rfl, hcap, hs⟩ := SrcO.of h hB
  exact ⟨l, a, cap, rfl, hl, hcap, hs, hc, hg⟩
theorem lf_tabF (n : Nat) (F : Nat → Int) : xsF (lf (tab n F)) n = xsF F n := xsF_congr fun j hj => by rw [lf_tab, if_pos hj]
/-- The row, its last number written anew. -/
theorem owns_to_tab {w : World} {B n : Nat} {v : Value} {F : Nat → Int} (h : w.ownsRow B 3 1 v n (xsF F n)) : w.ownsRow B 3 1 v (tab n F).length (xsF (lf (tab n F)) (tab n F).length) := by
  rw [tab_len, lf_tabF]
  exact h
end Go.Proofs.YtnipffmookkkdabDoor
namespace Go.Proofs.YtnipffmookkkdabDoor
open Go.RowKit
theorem vok_iff {f : Int} {l : List Int} : mVectorOk f l = true ↔ VecOk f l := by unfold mVectorOk; simp
theorem vok_not {f : Int} {l : List Int} : mVectorOk f l = false ↔ ¬ VecOk f l := by unfold mVectorOk; simp
set_option maxHeartbeats 800000 in
theorem sVectorOk (f : Int) (a : Option Addr) (l : List Int) (cap : Nat) (w : World) (hn : l.length ≤ 1048576) (hs : Src w a l.length (lf l)) : Calls Tryd.prog 18 #[.int .i64 f, .slice a l.length cap] w (SameB w (mVectorOk f l)) := by
  have HL := Lib.hid (show mVectorOk f l = decide ((0 ≤ mLog l.length ∧ mLog l.length ≤ T f) ∧ ∀ j, j < l.length → 0 ≤ lf l j ∧ lf l j < P f) by unfold mVectorOk VecOk; congr)
  by_cases h0 : 0 ≤ mLog l.length
  · by_cases h1 : mLog l.length ≤ T f
    · have h08 : 0 ≤ f ∧ f ≤ 8 := by
        have := (hasK_iff f (mLog l.length)).2 ⟨h0, h1⟩
        exact this.1
      have HE := Lib.hid (elements_c f a l.length cap (lf l) w h08.1 h08.2 hn hs)
      have d0 : decide (0 ≤ mLog l.length) = true := decide_eq_true h0
      have d1 : decide (mLog l.length ≤ T f) = true := decide_eq_true h1
      have HB : Hid (∀ B, elemsB f l.length (lf l) B → mVectorOk f l = B) := Lib.hid fun B hB => by
        cases B
        · obtain ⟨k, hk, hbad⟩ := hB.2 rfl
          exact vok_not.2 fun h => by have := h.2 k hk; omega
        · exact vok_iff.2 ⟨⟨h0, h1⟩, hB.1 rfl⟩
      clear hs HL
      go_enter Tryd.func18, Tryd.ntmps18
      go_wp2_with fail
      refine (sLogOf l.length w).mono ?_
      rintro e w' ⟨rfl, rfl⟩
      go_wp2_with fail
      refine (sTwoPower f w).mono ?_
      rintro e w' ⟨rfl, rfl⟩
      go_wp2_with fail
      refine HE.out.mono ?_
      rintro e w' ⟨B, hB, rfl, rfl⟩
      have HB2 := Lib.hid (HB.out B hB)
      clear hB HE HB
      go_wp2
      go_ret
      exact ⟨by rw [HB2.out]; rfl, rfl⟩
    · have d0 : decide (0 ≤ mLog l.length) = true := decide_eq_true h0
      have d1 : decide (mLog l.length ≤ T f) = false := decide_eq_false h1
      have HB := Lib.hid (vok_not.2 fun h : VecOk f l => h1 h.1.2)
      clear hs HL
      go_enter Tryd.func18, Tryd.ntmps18
      go_wp2_with fail
      refine (sLogOf l.length w).mono ?_
      rintro e w' ⟨rfl, rfl⟩
      go_wp2_with fail
      refine (sTwoPower f w).mono ?_
      rintro e w' ⟨rfl, rfl⟩
      go_wp2
      go_ret
      exact ⟨by rw [HB.out]; rfl, rfl⟩
  · have d0 : decide (0 ≤ mLog l.length) = false := decide_eq_false h0
    have HB := Lib.hid (vok_not.2 fun h : VecOk f l => h0 h.1.1)
    clear hs HL
    go_enter Tryd.func18, Tryd.ntmps18
    go_wp2_with fail
    refine (sLogOf l.length w).mono ?_
    rintro e w' ⟨rfl, rfl⟩
    go_wp2
    go_ret
    exact ⟨by rw [HB.out]; rfl, rfl⟩
open Classical in
noncomputable def mTwo (f : Int) (a b : List Int) : Bool := decide (TwoOk f a b)
theorem two_iff {f : Int} {a b : List Int} : mTwo f a b = true ↔ TwoOk f a b := by unfold mTwo; simp
theorem two_not {f : Int} {a b : List Int} : mTwo f a b = false ↔ ¬ TwoOk f a b := by unfold mTwo; simp
theorem sum_step (S x p : Int) : RS (RS S p + x) p = RS (S + x) p := by
  unfold RS
  exact emod_add_congr (Int.emod_emod_of_dvd _ (Int.dvd_refl _)) rfl
/-- The powers of w, reduced. -/
def pwF (f w : Int) (t : Nat) : Int := w ^ t % P f
theorem pw_bd {f w : Int} (hp : 0 < P f) (t : Nat) : 0 ≤ pwF f w t ∧ pwF f w t < P f := ⟨Int.emod_nonneg _ (by omega), Int.emod_lt_of_pos _ hp⟩
theorem pw_step (f w : Int) (t : Nat) : RS (pwF f w t * w) (P f) = pwF f w (t + 1) := by
  unfold RS pwF
  rw [Int.pow_succ, Int.mul_emod, Int.emod_emod_of_dvd _ (Int.dvd_refl _), ← Int.mul_emod]
theorem pw_zero {f w : Int} (h0 : 0 ≤ f) (h8 : f ≤ 8) : pwF f w 0 = 1 := by
  unfold pwF
  rw [Int.pow_zero, one_p h0 h8]
/-- The sum so far, with the powers taken at the exponents modulo n. -/
theorem ft_step {f w v : Int} {n : Nat} (h : Rt f w v n) (A : Nat → Int) (i j : Nat) : RS (RS (sumN (fun j => A j * w ^ (i * j)) j) (P f) + A j * pwF f w (i * j % n)) (P f) = RS (sumN (fun j => A j * w ^ (i * j)) (j + 1)) (P f) := by
  rw [sum_step]
  show RS _ _ = RS (sumN (fun j => A j * w ^ (i * j)) j + A j * w ^ (i * j)) (P f)
  unfold RS pwF
  refine emod_add_congr rfl (emod_mul_congr rfl ?_)
  rw [Int.emod_emod_of_dvd _ (Int.dvd_refl _)]
  exact h.exp (Nat.mod_mod _ _)
set_option maxRecDepth 100000 in
set_option maxHeartbeats 3200000 in
theorem sSum (f x v : Int) (b off n cap : Nat) (A : Nat → Int) (w : World) (hr : Rt f x v n) (x0 : 0 ≤ x) (x1 : x < P f) (hn : n ≤ 512) (hA : ∀ j, 0 ≤ A j ∧ A j < P f) (hlt : b < w.heap.size)
    (hc : ∀ j, j < n → w.cell? ⟨b, off + j, none⟩ = some (.int .i64 (A j))) :
    Calls Tryd.prog 64 #[.int .i64 f, .slice (some ⟨b, off, none⟩) n cap, .int .i64 x] w (OwnsL w (tab n fun i => RS (ftF x n A i) (P f))) := by
  have HC := Lib.hid hc
  have HA := Lib.hid hA
  have HR := Lib.hid hr
  have h0 := hr.h0
  have h8 := hr.h8
  have n0 := hr.n0
  have hp := P_bd h0 h8
  have q7 : ¬ P f = 0 := by omega
  have HPZ := Lib.hid (pw_zero (w := x) h0 h8)
  clear hc hA hr
  obtain ⟨i0, hi, hz0, hz1, hz2⟩ := info_parts info3
  have HI := Lib.hid hi
  have HZ0 := Lib.hid hz0
  have HZ1 := Lib.hid hz1
  have HZ2 := Lib.hid hz2
  clear hi hz0 hz1 hz2
  go_enter Tryd.func64, Tryd.ntmps64
  go_wp2_with fail
  refine (sModulus f w).mono ?_
  rintro e w' ⟨rfl, rfl⟩
  go_wp2_with fail
  go_loopw [9, 10, 11] (fun v y i wr => ∃ k : Nat, i = .int .i64 k ∧ k ≤ n ∧ y = .int .i64 (pwF f x k) ∧ wr.ownsRow w.heap.size 3 1 v k (xsF (pwF f x) k) ∧ Below w.heap.size w wr) (fun _ _ i _ => n - (intOf i).toNat)
  case atStart => exact ⟨0, rfl, Nat.zero_le _, by rw [HPZ.out], own_empty w _, (Below.refl _ _).alloc (Nat.le_refl _) _⟩
  case round =>
    obtain ⟨k, rfl, hk, rfl, hown, hnx⟩ := hrel
    have hs := hnx.size
    have pb := pw_bd (f := f) (w := x) (by omega) k
    by_cases h1 : k < n
    · have hd1 : decide ((k : Int) < n) = true := decide_eq_true (by omega)
      have HST := Lib.hid (pw_step f x k)
      have pbm := prod_bd h0 h8 pb.1 pb.2 x0 x1
      go_wp2_with (at_builtin; refine wpList_append_own _ rfl _ _ 22 rfl w.heap.size 3 i0 (.int .i64 0) 1 8 Tryd.underlying22 HI.out HZ0.out HZ1.out HZ2.out rfl (by decide) _ _ _ rfl (hown.alloc _) ⟨wr.heap.size, 0, none⟩ 1 1 [.int .i64 (pwF f x k)] rfl rfl ?c1 ?c2 ?c3 ?c4 ?c5 ?_)
      case c1 => exact cell_one_new _ _ _
      case c2 => intro u hu; simp at hu; subst hu; rfl
      case c3 => unfold maxLen; omega
      case c4 => omega
      case c5 => simp; omega
      intro v' w1 hown' hgrow _
      have hbel : Below w.heap.size w w1 := (hnx.alloc hs _).grown hgrow (by simp; omega) (own_ge hown)
      rw [xsF_succ] at hown'
      clear hgrow hown
      generalize pwF f x k = X at *
      go_wp2
      go_roundw
      case rel => exact ⟨k + 1, by go_num, by omega, vint (by have := HST.out; unfold RS at this; exact this), hown', hbel⟩
      case measure => simp [intOf]; omega
    · have hd1 : decide ((k : Int) < n) = false := decide_eq_false (by omega)
      obtain rfl : k = n := by omega
      obtain ⟨W0, rfl⟩ : ∃ W0, W0 = wr := ⟨wr, rfl⟩
      obtain ⟨ap, capp, rfl, _, hsp⟩ := src_of_owns2 hown
      rcases hsp with hz | ⟨bp, offp, rfl, hltp, hcp⟩
      · omega
      have HCP := Lib.hid hcp
      have HPB : Hid (∀ t, 0 ≤ pwF f x t ∧ pwF f x t < P f) := Lib.hid fun t => pw_bd (by omega) t
      clear hown hcp HPZ pb
      go_wp2_with fail
      go_loopw [12, 13, 14, 15] (fun v i _ _ wr => ∃ k2 : Nat, i = .int .i64 k2 ∧ k2 ≤ k ∧ wr.ownsRow W0.heap.size 3 1 v k2 (xsF (fun i => RS (ftF x k A i) (P f)) k2) ∧ Below W0.heap.size W0 wr) (fun _ i _ _ _ => k - (intOf i).toNat)
      case atStart => exact ⟨0, rfl, Nat.zero_le _, own_empty W0 _, (Below.refl _ _).alloc (Nat.le_refl _) _⟩
      case round =>
        obtain ⟨i, rfl, hik, hown, hb2⟩ := hrel
        have hs2 := hb2.size
        by_cases h2 : i < k
        · have hd2 : decide ((i : Int) < k) = true := decide_eq_true (by omega)
          have HOWN := Lib.hid hown
          clear hown
          go_wp2_with fail
          go_loopw [14, 15] (fun s j W2 => ∃ m : Nat, j = .int .i64 m ∧ m ≤ k ∧ s = .int .i64 (RS (sumN (fun j => A j * x ^ (i * j)) m) (P f)) ∧ ∃ q, W2 = wr.drewN q) (fun _ j _ => k - (intOf j).toNat)
          case atStart => exact ⟨0, rfl, Nat.zero_le _, by simp [sumN, RS], 0, rfl⟩
          case round =>
            obtain ⟨m, rfl, hm, rfl, q, rfl⟩ := hrel
            by_cases h3 : m < k
            · have hd3 : decide ((m : Int) < k) = true := decide_eq_true (by omega)
              have hbw := below_up hnx hb2 hnx.size
              have d1 : wr.cell? ⟨b, off + m, none⟩ = some (.int .i64 (A m)) := (hbw.cell (p := ⟨b, off + m, none⟩) hlt).trans (HC.out m h3)
              have hlk : i * m % k < k := Nat.mod_lt _ (by omega)
              have d2 : wr.cell? ⟨bp, offp + i * m % k, none⟩ = some (.int .i64 (pwF f x (i * m % k))) := (hb2.cell (p := ⟨bp, offp + i * m % k, none⟩) hltp).trans (HCP.out _ hlk)
              have bA := HA.out m
              have bB := HPB.out (i * m % k)
              have pb := prod_bd h0 h8 bA.1 bA.2 bB.1 bB.2
              have pr := RS_bd (x := sumN (fun j => A j * x ^ (i * j)) m) (m := P f) (by omega)
              have HS := Lib.hid (ft_step HR.out A i m)
              have im : (i : Int) * m = ((i * m : Nat) : Int) := by rw [Int.natCast_mul]
              have imb : i * m ≤ 512 * 512 := Nat.mul_le_mul (by omega) (by omega)
              have tm : ((i : Int) * m).tmod k = ((i * m % k : Nat) : Int) := by rw [im, Int.tmod_eq_emod_of_nonneg (by omega), Int.natCast_emod]
              have q1 : IntKind.i64.wrap ((i : Int) * m) = (i : Int) * m := IntWalk.i64_in _ (by omega)
              have q2 : (((i * m % k : Nat) : Int)).toNat = i * m % k := by omega
              have q3 : (0 : Int) ≤ ((i * m % k : Nat) : Int) := by omega
              have q4 : ((i * m % k : Nat) : Int) < k := by omega
              have kz : ((k : Int) == 0) = false := by rw [beq_eq_false_iff_ne]; omega
              have kz2 : ¬ (k : Int) = 0 := by omega
              clear im imb
              generalize pwF f x (i * m % k) = Y at *
              generalize i * m % k = U at *
              have q5 : IntKind.i64.wrap (A m * Y) = A m * Y := IntWalk.i64_in _ (by omega)
              generalize RS (sumN (fun j => A j * x ^ (i * j)) m) (P f) = X at *
              have q6 : IntKind.i64.wrap (X + A m * Y) = X + A m * Y := IntWalk.i64_in _ (by omega)
              go_wp2
              go_quiet (fail)
              go_wp2
              go_roundw
              case rel => exact ⟨m + 1, by go_num, by omega, vint HS.out, _, rfl⟩
              case measure => simp [intOf]; omega
            · have hd3 : decide ((m : Int) < k) = false := decide_eq_false (by omega)
              obtain rfl : m = k := by omega
              have hown : (wr.drewN q).ownsRow W0.heap.size 3 1 _ i (xsF (fun i => RS (ftF x m A i) (P f)) i) := HOWN.out
              have hbq := below_drewN hb2 q
              have hqs : (wr.drewN q).heap.size = wr.heap.size := rfl
              go_wp2_with (at_builtin; refine wpList_append_own _ rfl _ _ 22 rfl W0.heap.size 3 i0 (.int .i64 0) 1 8 Tryd.underlying22 HI.out HZ0.out HZ1.out HZ2.out rfl (by decide) _ _ _ rfl (hown.alloc _) ⟨(wr.drewN q).heap.size, 0, none⟩ 1 1 [.int .i64 (RS (sumN (fun j => A j * x ^ (i * j)) m) (P f))] rfl rfl ?d1 ?d2 ?d3 ?d4 ?d5 ?_)
              case d1 => exact cell_one_new _ _ _
              case d2 => intro u hu; simp at hu; subst hu; rfl
              case d3 => unfold maxLen; omega
              case d4 => omega
              case d5 => simp; omega
              intro v' w1 hown' hgrow _
              have hbel : Below W0.heap.size W0 w1 := (hbq.alloc (by omega) _).grown hgrow (by simp; omega) (own_ge hown)
              have hown2 : w1.ownsRow W0.heap.size 3 1 v' (i + 1) (xsF (fun i => RS (ftF x m A i) (P f)) (i + 1)) := by rw [← xsF_succ]; exact hown'
              clear hgrow hown hown' HOWN
              go_wp2
              go_roundw
              case rel => exact ⟨i + 1, by go_num, by omega, hown2, hbel⟩
              case measure => simp [intOf]; omega
        · have hd2 : decide ((i : Int) < k) = false := decide_eq_false (by omega)
          obtain rfl : i = k := by omega
          have HO := Lib.hid (owns_to (w := W0) (l := tab i fun j => RS (ftF x i A j) (P f)) hown (by rw [tab_len]) (fun j hj => by rw [lf_tab, if_pos hj]) hb2)
          clear hown
          go_wp2
          go_ret
          exact HO.out.up hnx hnx.size
theorem vec_some {w : World} {a : Option Addr} {n : Nat} {F : Nat → Int} (h : Src w a n F) (hn : 0 < n) : ∃ b off, a = some ⟨b, off, none⟩ ∧ b < w.heap.size ∧ ∀ j, j < n → w.cell? ⟨b, off + j, none⟩ = some (.int .i64 (F j)) := by
  rcases h with hz | h
  · omega
  · exact h
theorem rootL_bd {f : Int} {l : List Int} (h : VecOk f l) : 0 ≤ rootL f l ∧ rootL f l < P f := by
  obtain ⟨k, _, _, hl, hk⟩ := h.log
  have := root_bd hk
  unfold rootL
  rw [hl]
  omega
theorem sSum_l (f x v : Int) (a : Option Addr) (l : List Int) (cap : Nat) (w : World) (h : VecOk f l) (hr : Rt f x v l.length) (x0 : 0 ≤ x) (x1 : x < P f) (hs : Src w a l.length (lf l)) :
    Calls Tryd.prog 64 #[.int .i64 f, .slice a l.length cap, .int .i64 x] w (OwnsL w (tab l.length fun i => RS (ftF x l.length (lf l) i) (P f))) := by
  obtain ⟨b, off, rfl, hlt, hc⟩ := vec_some hs h.pos.1
  exact sSum f x v b off l.length cap (lf l) w hr x0 x1 h.pos.2 h.lt hlt hc
set_option maxHeartbeats 800000 in
theorem sForward (f : Int) (a : Option Addr) (l : List Int) (cap : Nat) (w : World) (hn : l.length ≤ 1048576) (hs : Src w a l.length (lf l)) : Calls Tryd.prog 31 #[.int .i64 f, .slice a l.length cap] w (ListL w (mForward f l)) := by
  have R1 := sVectorOk f a l cap w hn hs
  by_cases h : VecOk f l
  · rw [vok_iff.2 h] at R1
    rw [show mForward f l = fwdL f l by unfold mForward; rw [if_pos h]]
    have HR1 := Lib.hid R1
    have HSUM := Lib.hid (sSum_l f (rootL f l) (invRL f l) a l cap w h h.rt (rootL_bd h).1 (rootL_bd h).2 hs)
    clear R1 hs h
    go_enter Tryd.func31, Tryd.ntmps31
    go_wp2_with fail
    refine HR1.out.mono ?_
    rintro e w' ⟨rfl, rfl⟩
    go_wp2_with fail
    refine (sLogOf l.length w).mono ?_
    rintro e w' ⟨rfl, rfl⟩
    go_wp2_with fail
    refine (sRootOf f (mLog l.length) w).mono ?_
    rintro e w' ⟨rfl, rfl⟩
    go_wp2_with fail
    refine HSUM.out.mono ?_
    intro e w1 ho
    obtain ⟨a1, cap1, rfl, s1, b1⟩ := ho.list
    have HS1 := Lib.hid s1
    clear ho s1 HSUM HR1
    have e0 : (tab l.length fun i => RS (ftF (rootL f l) l.length (lf l) i) (P f)) = fwdL f l := rfl
    rw [e0] at HS1 ⊢
    go_wp2
    go_ret
    exact ⟨a1, cap1, rfl, HS1.out, b1⟩
  · rw [vok_not.2 h] at R1
    rw [show mForward f l = [] by unfold mForward; rw [if_neg h]]
    have HR1 := Lib.hid R1
    clear R1 hs h
    go_enter Tryd.func31, Tryd.ntmps31
    go_wp2_with fail
    refine HR1.out.mono ?_
    rintro e w' ⟨rfl, rfl⟩
    go_wp2
    go_ret
    exact ⟨none, 0, rfl, .inl rfl, Below.refl _ _⟩
end Go.Proofs.YtnipffmookkkdabDoor
namespace Go.Proofs.YtnipffmookkkdabDoor
open Go.RowKit
theorem mRev_on {x : Nat} {k : Nat} (hk : k ≤ 9) (hx : x < 2 ^ k) : mRev x k = (rv x k : Nat) := by
  unfold mRev
  rw [if_pos ⟨⟨by omega, by omega⟩, by omega, by rw [two_cast]; exact_mod_cast hx⟩]
  simp
theorem mRev_off {x k : Int} (h : ¬ ((0 ≤ k ∧ k ≤ 9) ∧ 0 ≤ x ∧ x < two k)) : mRev x k = -1 := if_neg h
theorem rv_bd {x j k : Nat} (hj : j ≤ k) (hk : k ≤ 9) : rv x j < 512 := by
  have := rv_lt x j
  have : 2 ^ j ≤ 2 ^ 9 := Nat.pow_le_pow_right (by omega) (by omega)
  omega
theorem two_512 {k : Nat} (hk : k ≤ 9) : two (k : Int) ≤ 512 := by
  rcases ten hk with rfl | rfl | rfl | rfl | rfl | rfl | rfl | rfl | rfl | rfl <;> decide
theorem ofInt_nat {x : Nat} (h : x < 1073741824) : (BitVec.ofInt 64 (x : Int)).toNat = x := by
  rw [BitVec.toNat_ofInt]
  have : ((x : Int) % ((2 ^ 64 : Nat) : Int)).toNat = x := by rw [Int.emod_eq_of_lt (by omega) (by omega)]; rfl
  exact this
theorem bits_and1 {x : Nat} (h : x < 1073741824) : bits .and .i64 (x : Int) 1 = ((x % 2 : Nat) : Int) := by
  unfold bits
  show IntKind.i64.wrap ((BitVec.ofInt 64 (x : Int) &&& BitVec.ofInt 64 ((1 : Nat) : Int)).toNat : Int) = _
  rw [BitVec.toNat_and, ofInt_nat h, ofInt_nat (by omega), Nat.and_one_is_mod, IntWalk.i64_in _ (by omega)]
theorem bits_or1 {r b : Nat} (hr : r < 1000000) (hb : b < 2) : bits .or .i64 ((r : Int) * 2) (b : Int) = ((2 * r + b : Nat) : Int) := by
  unfold bits
  show IntKind.i64.wrap ((BitVec.ofInt 64 ((r : Int) * 2) ||| BitVec.ofInt 64 (b : Int)).toNat : Int) = _
  have e : 2 * r + b = 2 * r ||| b := by
    have := Nat.two_pow_add_eq_or_of_lt (b := b) (i := 1) (by omega) r
    simpa using this
  rw [BitVec.toNat_or, show (r : Int) * 2 = ((2 * r : Nat) : Int) by omega, ofInt_nat (by omega), ofInt_nat (by omega), ← e, IntWalk.i64_in _ (by omega)]
theorem half_more (x j : Nat) : x / 2 ^ j / 2 = x / 2 ^ (j + 1) := by rw [Nat.div_div_eq_div_mul, Nat.pow_succ]
theorem rv_step {x j : Nat} (hx : x / 2 ^ j < 1073741824) (hr : rv x j < 1000000) : bits .or .i64 (((rv x j : Nat) : Int) * 2) (bits .and .i64 (((x / 2 ^ j : Nat)) : Int) 1) = ((rv x (j + 1) : Nat) : Int) := by
  rw [bits_and1 hx, bits_or1 hr (by omega), rv]
set_option maxHeartbeats 400000 in
theorem iReverse_on (x k : Nat) (w : World) (hk : k ≤ 9) (hx : x < 2 ^ k) : Calls Tryd.prog 62 #[.int .i64 x, .int .i64 k] w fun e w' => e = .returned (.int .i64 (rv x k : Nat)) ∧ w = w' := by
  have ek := shl_nat (k := k) (by omega)
  have hx2 : (x : Int) < two k := by rw [two_cast]; exact_mod_cast hx
  have hd : decide (two k ≤ (x : Int)) = false := by simpa using hx2
  have tb := two_bd (k := (k : Int)) (by omega) (by omega)
  have t9 := two_512 hk
  have x9 : x < 512 := by omega
  clear hx
  go_enter Tryd.func62, Tryd.ntmps62
  go_wp2_with fail
  clear ek hd tb
  go_loop [0, 5, 23] (fun u v i => ∃ j : Nat, i = .int .i64 j ∧ u = .int .i64 ((x / 2 ^ j : Nat) : Int) ∧ v = .int .i64 ((rv x j : Nat) : Int) ∧ j ≤ k) (fun _ _ i => k - (intOf i).toNat)
  case atStart => exact ⟨0, rfl, by simp, rfl, by omega⟩
  case round =>
    obtain ⟨j, rfl, rfl, rfl, hj⟩ := hrel
    have rb := rv_bd (x := x) hj hk
    have xb : x / 2 ^ j ≤ x := Nat.div_le_self _ _
    by_cases hlt : j < k
    · have H1 := Lib.hid (rv_step (x := x) (j := j) (by omega) (by omega))
      go_wp2
      go_round
      case rel => exact ⟨j + 1, by go_num, vint (by rw [← half_more]; simp), vint (by rw [← H1.out]; simp), by omega⟩
      case measure => simp [intOf]; omega
    · have hd : decide (j < k) = false := by simpa using hlt
      obtain rfl : j = k := by omega
      go_wp2
      go_ret
      exact ⟨rfl, rfl⟩
theorem iReverse_off (x k : Int) (w : World) (h : ¬ ((0 ≤ k ∧ k ≤ 9) ∧ 0 ≤ x ∧ x < two k)) : Calls Tryd.prog 62 #[.int .i64 x, .int .i64 k] w fun e w' => e = .returned (.int .i64 (-1)) ∧ w = w' := by
  by_cases k0 : k < 0
  · go_enter Tryd.func62, Tryd.ntmps62
    go_wp2
    go_ret
    exact ⟨rfl, rfl⟩
  · by_cases k9 : 9 < k
    · go_enter Tryd.func62, Tryd.ntmps62
      go_wp2
      go_ret
      exact ⟨rfl, rfl⟩
    · by_cases x0 : x < 0
      · clear h
        go_enter Tryd.func62, Tryd.ntmps62
        go_wp2
        go_ret
        exact ⟨rfl, rfl⟩
      · obtain ⟨k, rfl⟩ := Int.eq_ofNat_of_zero_le (show 0 ≤ k by omega)
        have ek := shl_nat (k := k) (by omega)
        have hx2 : two k ≤ x := by omega
        have hd : decide (two k ≤ x) = true := by simpa using hx2
        clear h
        go_enter Tryd.func62, Tryd.ntmps62
        go_wp2
        go_ret
        exact ⟨rfl, rfl⟩
theorem iReverse (x k : Int) (w : World) : Calls Tryd.prog 62 #[.int .i64 x, .int .i64 k] w fun e w' => e = .returned (.int .i64 (mRev x k)) ∧ w = w' := by
  by_cases h : (0 ≤ k ∧ k ≤ 9) ∧ 0 ≤ x ∧ x < two k
  · obtain ⟨⟨k0, k1⟩, x0, x1⟩ := h
    obtain ⟨k, rfl⟩ := Int.eq_ofNat_of_zero_le k0
    obtain ⟨x, rfl⟩ := Int.eq_ofNat_of_zero_le x0
    have hx : x < 2 ^ k := by rw [two_cast] at x1; exact_mod_cast x1
    rw [mRev_on (by omega) hx]
    exact iReverse_on x k w (by omega) hx
  · rw [mRev_off h]
    exact iReverse_off x k w h
end Go.Proofs.YtnipffmookkkdabDoor
namespace Go.Proofs.YtnipffmookkkdabDoor
open Go.RowKit
theorem perm_set {wr : World} {g n k i : Nat} {F : Nat → Int} (hk : k ≤ 9) (hn : n = 2 ^ k) (hi : i < n) (h : Own wr g n (fun j => if rv j k < i then F (rv j k) else 0)) :
    Own (wr.setCell ⟨g, rv i k, none⟩ (.int .i64 (F i))) g n (fun j => if rv j k < i + 1 then F (rv j k) else 0) := by
  subst hn
  refine (World.rowIs.set h (rv i k) (.int .i64 (F i))).congr fun j hj => ?_
  have e1 := rv_twice hk hi
  have e2 := rv_twice hk hj
  by_cases h1 : j = rv i k
  · subst h1; simp [e1]
  · have h2 : rv j k ≠ i := fun e => h1 (by rw [← e, e2])
    by_cases h3 : rv j k < i
    · simp [h1, h3, show rv j k < i + 1 by omega]
    · simp [h1, h3, show ¬ rv j k < i + 1 by omega]
theorem perm_log {n k : Nat} (hk : k ≤ 9) (hn : n = 2 ^ k) : mLog n = k := by
  rw [hn]
  have := log_two hk
  rw [two_cast] at this
  exact_mod_cast this
set_option maxRecDepth 100000 in
set_option maxHeartbeats 800000 in
theorem iPermute_on (b off n cap k : Nat) (F : Nat → Int) (w : World) (hk : k ≤ 9) (hn : n = 2 ^ k) (hlt : b < w.heap.size) (hc : ∀ j, j < n → w.cell? ⟨b, off + j, none⟩ = some (.int .i64 (F j))) :
    Calls Tryd.prog 28 #[.slice (some ⟨b, off, none⟩) n cap] w (CopyP w n (fun j => F (rv j k))) := by
  have HC := Lib.hid hc
  clear hc
  have HN := Lib.hid hn
  have n9 : n ≤ 512 := by
    have : 2 ^ k ≤ 2 ^ 9 := Nat.pow_le_pow_right (by omega) hk
    omega
  have HL := Lib.hid (perm_log hk hn)
  clear hn
  have hmk := run_make_row' (P := Tryd.prog) 22 3 (.int .i64 0) 8 Tryd.underlying22 info3 rfl .i64 .i64 n (by omega) (by omega)
  go_enter Tryd.func28, Tryd.ntmps28
  go_wp2_with fail
  refine (iLogOf n w).mono ?_
  rintro e w' ⟨rfl, rfl⟩
  rw [HL.out]
  go_wp2_with fail
  clear hmk
  go_loopw [5, 6, 17] (fun _ _ i wr => ∃ j : Nat, i = .int .i64 j ∧ j ≤ n ∧ Own wr w.heap.size n (fun x => if rv x k < j then F (rv x k) else 0) ∧ Below w.heap.size w wr) (fun _ _ i _ => n - (intOf i).toNat)
  case atStart =>
    refine ⟨0, rfl, Nat.zero_le _, ?_, (Below.refl _ _).alloc (Nat.le_refl _) _⟩
    exact (World.rowIs_made w (.int .i64 0) n 3).congr fun j _ => by simp
  case round =>
    obtain ⟨j, rfl, hj, ho, hb⟩ := hrel
    by_cases h1 : j < n
    · have c1 : wr.cell? ⟨b, off + j, none⟩ = some (.int .i64 (F j)) := (hb.cell (p := ⟨b, off + j, none⟩) hlt).trans (HC.out j h1)
      have hr : rv j k < n := by rw [HN.out]; exact rv_lt j k
      have c2 := World.rowIs.cell ho hr
      have c3 := World.rowIs.frozen ho (rv j k)
      have HS := Lib.hid (perm_set hk HN.out h1 ho)
      have HR := Lib.hid (mRev_on hk (show j < 2 ^ k by rw [← HN.out]; exact h1))
      go_wp2_with fail
      refine (iReverse j k wr).mono ?_
      rintro e w' ⟨rfl, rfl⟩
      rw [HR.out]
      go_wp2
      go_roundw
      case rel => exact ⟨j + 1, by go_num, by omega, HS.out, hb.setCell (Nat.le_refl _) _⟩
      case measure => simp [intOf]; omega
    · have hd : decide (j < n) = false := by simpa using h1
      obtain rfl : j = n := by omega
      go_wp2
      go_ret
      exact ⟨rfl, World.rowIs.congr ho (fun x _ => by simp [show rv x k < j by rw [HN.out]; exact rv_lt x k]), hb⟩
theorem src_on {w : World} {a : Option Addr} {n : Nat} {F : Nat → Int} (h : Src w a n F) (hn : n ≠ 0) : ∃ b off, a = some ⟨b, off, none⟩ ∧ b < w.heap.size ∧ ∀ j, j < n → w.cell? ⟨b, off + j, none⟩ = some (.int .i64 (F j)) := by
  rcases h with h | h
  · exact absurd h hn
  · exact h
theorem iPermute (a : Option Addr) (n cap k : Nat) (F : Nat → Int) (w : World) (hk : k ≤ 9) (hn : n = 2 ^ k) (hs : Src w a n F) : Calls Tryd.prog 28 #[.slice a n cap] w (CopyP w n (fun j => F (rv j k))) := by
  have h0 : n ≠ 0 := by have : 0 < 2 ^ k := Nat.pow_pos (by omega); omega
  obtain ⟨b, off, rfl, hlt, hc⟩ := src_on hs h0
  exact iPermute_on b off n cap k F w hk hn hlt hc
theorem Src.congr {w : World} {a : Option Addr} {n : Nat} {F G : Nat → Int} (h : Src w a n F) (e : ∀ j, j < n → F j = G j) : Src w a n G := by
  refine h.imp id ?_
  rintro ⟨b, off, e1, hlt, hc⟩
  exact ⟨b, off, e1, hlt, fun j hj => by rw [hc j hj, e j hj]⟩
end Go.Proofs.YtnipffmookkkdabDoor
namespace Go.Proofs.YtnipffmookkkdabDoor
open Mth
theorem mod_2 {n x : Nat} (h : n ≤ x) (h2 : x < n + n) : x % n = x - n := by
  rw [Nat.mod_eq_sub_mod h, Nat.mod_eq_of_lt (by omega)]
theorem turn_inv {n c t k : Nat} (hc : c < n) (ht : t < n) (hk : k < n) : (t + (n - c)) % n = k ↔ t = (k + c) % n := by
  by_cases h1 : c ≤ t
  · rw [mod_2 (n := n) (x := t + (n - c)) (by omega) (by omega)]
    by_cases h2 : k + c < n
    · rw [Nat.mod_eq_of_lt h2]; omega
    · rw [mod_2 (n := n) (x := k + c) (by omega) (by omega)]; omega
  · rw [Nat.mod_eq_of_lt (show t + (n - c) < n by omega)]
    by_cases h2 : k + c < n
    · rw [Nat.mod_eq_of_lt h2]; omega
    · rw [mod_2 (n := n) (x := k + c) (by omega) (by omega)]; omega
/-- Within one level: the blocks below B done, and of block B the first j pairs. -/
def stDone (h B j t : Nat) : Prop := t < B * (2 * h) ∨ (t < B * (2 * h) + 2 * h ∧ t % (2 * h) % h < j)
instance (h B j t : Nat) : Decidable (stDone h B j t) := inferInstanceAs (Decidable (_ ∨ _))
def stp (f w : Int) (h d : Nat) (V : Nat → Int) (B j t : Nat) : Int := if stDone h B j t then stgF f w h d V t else V t
theorem stp_start (f w : Int) (h d : Nat) (V : Nat → Int) (t : Nat) : stp f w h d V 0 0 t = V t := if_neg (by unfold stDone; omega)
theorem stp_next (f w : Int) {h : Nat} (d : Nat) (V : Nat → Int) (B t : Nat) (h0 : 0 < h) : stp f w h d V B h t = stp f w h d V (B + 1) 0 t := by
  unfold stp
  have e : stDone h B h t ↔ stDone h (B + 1) 0 t := by
    unfold stDone
    have := Nat.mod_lt (t % (2 * h)) h0
    rw [Nat.add_mul, Nat.one_mul]
    omega
  by_cases h1 : stDone h B h t
  · rw [if_pos h1, if_pos (e.1 h1)]
  · rw [if_neg h1, if_neg fun h2 => h1 (e.2 h2)]
theorem blk_mod {h B r : Nat} (hr : r < 2 * h) : (B * (2 * h) + r) % (2 * h) = r := by
  rw [Nat.add_comm, Nat.add_mul_mod_self_right, Nat.mod_eq_of_lt hr]
theorem stp_low {f w : Int} {h d : Nat} {V : Nat → Int} {B j : Nat} (hj : j < h) : stgF f w h d V (B * (2 * h) + j) = RS (V (B * (2 * h) + j) + RS (V (B * (2 * h) + j + h) * w ^ (j * d)) (P f)) (P f) := by
  unfold stgF
  rw [blk_mod (show j < 2 * h by omega), if_pos hj]
theorem stp_high {f w : Int} {h d : Nat} {V : Nat → Int} {B j : Nat} (hj : j < h) : stgF f w h d V (B * (2 * h) + j + h) = RS (V (B * (2 * h) + j) - RS (V (B * (2 * h) + j + h) * w ^ (j * d)) (P f)) (P f) := by
  unfold stgF
  rw [Nat.add_assoc, blk_mod (show j + h < 2 * h by omega), if_neg (by omega), Nat.add_sub_cancel, ← Nat.add_assoc, Nat.add_sub_cancel]
theorem stDone_step {h B j t : Nat} (hj : j < h) : stDone h B (j + 1) t ↔ stDone h B j t ∨ t = B * (2 * h) + j ∨ t = B * (2 * h) + j + h := by
  unfold stDone
  constructor
  · rintro (h1 | ⟨h1, h2⟩)
    · exact .inl (.inl h1)
    · by_cases h3 : t < B * (2 * h)
      · exact .inl (.inl h3)
      · obtain ⟨r, rfl⟩ : ∃ r, t = B * (2 * h) + r := ⟨t - B * (2 * h), by omega⟩
        have hr : r < 2 * h := by omega
        rw [blk_mod hr] at h2 ⊢
        by_cases h4 : r < h
        · rw [Nat.mod_eq_of_lt h4] at h2 ⊢; omega
        · rw [mod_2 (n := h) (x := r) (by omega) (by omega)] at h2 ⊢; omega
  · rintro ((h1 | ⟨h1, h2⟩) | rfl | rfl)
    · exact .inl h1
    · exact .inr ⟨h1, by omega⟩
    · refine .inr ⟨by omega, ?_⟩
      rw [blk_mod (show j < 2 * h by omega), Nat.mod_eq_of_lt hj]; omega
    · refine .inr ⟨by omega, ?_⟩
      rw [Nat.add_assoc, blk_mod (show j + h < 2 * h by omega), Nat.add_mod_right, Nat.mod_eq_of_lt hj]; omega
theorem stp_step {f w : Int} {h d : Nat} {V : Nat → Int} {B j : Nat} (hj : j < h) (t : Nat) :
    (if t = B * (2 * h) + j + h then stgF f w h d V (B * (2 * h) + j + h) else if t = B * (2 * h) + j then stgF f w h d V (B * (2 * h) + j) else stp f w h d V B j t) = stp f w h d V B (j + 1) t := by
  have e := stDone_step (B := B) (t := t) hj
  unfold stp
  by_cases h1 : t = B * (2 * h) + j + h
  · rw [if_pos h1, if_pos (e.2 (.inr (.inr h1))), h1]
  · rw [if_neg h1]
    by_cases h2 : t = B * (2 * h) + j
    · rw [if_pos h2, if_pos (e.2 (.inr (.inl h2))), h2]
    · rw [if_neg h2]
      by_cases h3 : stDone h B j t
      · rw [if_pos h3, if_pos (e.2 (.inl h3))]
      · rw [if_neg h3, if_neg fun h4 => by rcases e.1 h4 with h5 | h5 | h5 <;> contradiction]
/-- What is read within a level has not been written yet. -/
theorem stp_read {f w : Int} {h d : Nat} {V : Nat → Int} {B j : Nat} (hj : j < h) : stp f w h d V B j (B * (2 * h) + j) = V (B * (2 * h) + j) ∧ stp f w h d V B j (B * (2 * h) + j + h) = V (B * (2 * h) + j + h) := by
  constructor
  · refine if_neg fun hd => ?_
    rcases hd with h1 | ⟨_, h1⟩
    · omega
    · rw [blk_mod (show j < 2 * h by omega), Nat.mod_eq_of_lt hj] at h1; omega
  · refine if_neg fun hd => ?_
    rcases hd with h1 | ⟨_, h1⟩
    · omega
    · rw [Nat.add_assoc, blk_mod (show j + h < 2 * h by omega), Nat.add_mod_right, Nat.mod_eq_of_lt hj] at h1; omega
theorem stp_end {f w : Int} {h d n B : Nat} (hn : n = B * (2 * h)) (V : Nat → Int) {t : Nat} (ht : t < n) : stp f w h d V B 0 t = stgF f w h d V t := if_pos (.inl (by omega))
/-- The list of a level is a vector. -/
theorem stgF_bd {f w : Int} {h d : Nat} {V : Nat → Int} (hp : 0 < P f) (t : Nat) : 0 ≤ stgF f w h d V t ∧ stgF f w h d V t < P f := by
  unfold stgF
  split <;> exact RS_bd hp
theorem VecOk.stg {f : Int} {l : List Int} (h : VecOk f l) (s : Nat) : VecOk f (stgL f l s) := h.tab rfl _ fun _ _ => stgF_bd (P_pos h.f08.1 h.f08.2) _
theorem stgL_len (f : Int) (l : List Int) (s : Nat) : (stgL f l s).length = l.length := tab_len _ _
theorem pow_half {k s : Nat} (h : s < k) : 2 ^ k = 2 ^ (k - s - 1) * (2 * 2 ^ s) := by
  have : k = k - s - 1 + (s + 1) := by omega
  conv => lhs; rw [this]
  rw [Nat.pow_add, Nat.pow_succ, Nat.mul_comm (2 ^ s) 2]
/-- One level of the list. -/
theorem stage_lev {f : Int} {l : List Int} {k s : Nat} {X : Nat → Int} (h : VecOk f l) (hk : l.length = 2 ^ k) (hs : s < k) (hl : Lev f (rootL f l) k s X (lf l)) : Lev f (rootL f l) k (s + 1) X (lf (stgL f l s)) := by
  have hr := h.rt
  rw [hk] at hr
  have g0 : 0 < 2 ^ s := Nat.pow_pos (by omega)
  have ed : l.length / (2 * 2 ^ s) = 2 ^ (k - s - 1) := by rw [hk, pow_half hs, Nat.mul_div_cancel _ (by omega)]
  have e2 : (2 : Nat) ^ (s + 1) = 2 * 2 ^ s := by rw [Nat.pow_succ, Nat.mul_comm]
  have hin : ∀ b t, b < 2 ^ (k - s - 1) → t < 2 ^ s → b * (2 * 2 ^ s) + t + 2 ^ s < l.length := fun b t hb ht => by
    rw [hk, pow_half hs]
    have := Nat.mul_le_mul_right (2 * 2 ^ s) (show b + 1 ≤ 2 ^ (k - s - 1) by omega)
    rw [Nat.add_mul, Nat.one_mul] at this
    omega
  have key : ∀ t, t < l.length → lf (stgL f l s) t = stgF f (rootL f l) (2 ^ s) (2 ^ (k - s - 1)) (lf l) t := fun t ht => by
    unfold stgL
    rw [lf_tab, if_pos ht, ed]
  refine hl.step hr hs (fun b t hb ht => ?_) (fun b t hb ht => ?_)
  · rw [e2, key _ (by have := hin b t hb ht; omega), stp_low ht]
    unfold RS
    rw [Int.emod_emod_of_dvd _ (Int.dvd_refl _)]
    exact emod_add_congr rfl (Int.emod_emod_of_dvd _ (Int.dvd_refl _))
  · rw [e2, key _ (hin b t hb ht), stp_high ht]
    unfold RS
    rw [Int.emod_emod_of_dvd _ (Int.dvd_refl _)]
    exact emod_sub_congr rfl (Int.emod_emod_of_dvd _ (Int.dvd_refl _))
/-- A vector that has gone through all levels is the transform. -/
theorem lev_fwd {f : Int} {l v : List Int} {k : Nat} (_h : VecOk f l) (hv : VecOk f v) (hk : l.length = 2 ^ k) (hl : v.length = l.length) (hlev : Lev f (rootL f l) k k (lf l) (lf v)) : v = fwdL f l := by
  refine list_ext (by rw [fwdL_len, hl]) fun i hi => ?_
  rw [hl] at hi
  have := hlev.last (t := i) (by omega)
  rw [lf_fwdL hi, hk, ← this]
  have b := hv.lt i
  rw [Int.emod_eq_of_lt b.1 b.2]
end Go.Proofs.YtnipffmookkkdabDoor
namespace Go.Proofs.YtnipffmookkkdabDoor
open Mth
theorem trim_eq {f : Int} {l : List Int} (h : VecOk f l) : mTrim f l = trimL f l.length (lf l) ∨ 400 < l.length := by
  by_cases hl : l.length ≤ 400
  · left
    unfold mTrim
    rw [if_pos ⟨h.f08, hl⟩]
  · right; omega
/-- The trimmed vector has the vector's numbers, and zeros behind. -/
theorem lf_trim {f : Int} {l : List Int} (h : VecOk f l) (j : Nat) : lf (trimL f l.length (lf l)) j = lf l j := by
  unfold trimL
  rw [lf_cutL]
  by_cases hj : j < l.length
  · rw [if_pos hj]
    have b := h.lt j
    exact RS_self b.1 b.2
  · rw [if_neg hj, lf_out l (by omega)]
/-- What FnTwistedFold asks of one place. -/
theorem twisted_at {f : Int} {a b : List Int} (h : TwoOk f a b) {i : Nat} (hi : i < a.length) :
    lf (twiL f a b) i = RS (lf (mulL f (trimL f a.length (lf a)) (trimL f b.length (lf b))) i - lf (mulL f (trimL f a.length (lf a)) (trimL f b.length (lf b))) (i + a.length)) (P f) := by
  obtain ⟨hab, ha, hb⟩ := h
  unfold twiL
  rw [lf_tab, if_pos hi, twi_fold hi (fun j hj => lf_out a hj) (fun j hj => lf_out b (by omega)), lf_mulL, lf_mulL]
  unfold RS
  rw [← Int.sub_emod]
  have e : ∀ k, cv k (lf a) (lf b) = cv k (lf (trimL f a.length (lf a))) (lf (trimL f b.length (lf b))) := fun k => cv_congr (fun j _ => (lf_trim ha j).symm) (fun j _ => (lf_trim hb j).symm)
  rw [e i, e (i + a.length)]
theorem trim_ok {f : Int} {l : List Int} (h : VecOk f l) (hl : l.length ≤ 400) : PolOk f (trimL f l.length (lf l)) ∧ (trimL f l.length (lf l)).length ≤ l.length := by
  have hle : (trimL f l.length (lf l)).length ≤ l.length := by unfold trimL; exact cutL_le _ _
  exact ⟨⟨h.f08, by omega, pol_trimL h.f08.1 h.f08.2 _ _⟩, hle⟩
/-- Powers of the root with any exponent. -/
theorem power_any {f : Int} {l : List Int} (h : VecOk f l) (e : Int) (m : Nat) (he : e % (l.length : Int) = ((m % l.length : Nat) : Int)) : mPower f (rootL f l) e = rootL f l ^ m % P f := by
  obtain ⟨k, hk9, hn, hl, hk⟩ := h.log
  have h08 := h.f08
  have hp := P_bd h08.1 h08.2
  have hrb : 0 < rootL f l ∧ rootL f l < P f := by unfold rootL; rw [hl]; exact root_bd hk
  have hrs : RS (rootL f l) (P f) = rootL f l := RS_self (by omega) hrb.2
  have hpos := h.pos
  unfold mPower
  rw [if_pos h08, hrs, if_neg (by omega)]
  have e0 : 0 ≤ RS e (P f - 1) := (RS_bd (by omega)).1
  obtain ⟨t, ht⟩ : ∃ t : Nat, RS e (P f - 1) = (t : Int) := ⟨(RS e (P f - 1)).toNat, by omega⟩
  rw [ht, PW_pow h08.1 h08.2 (by omega)]
  refine h.rt.exp ?_
  -- t = e mod (p - 1), and n divides p - 1
  have hd := two_dvd hk
  have e1 : two (k : Int) = (l.length : Int) := by unfold two; rw [hn, Int.toNat_natCast, Int.natCast_pow]; rfl
  rw [e1] at hd
  have e2 : (t : Int) % (l.length : Int) = e % (l.length : Int) := by
    rw [← ht]
    unfold RS
    exact Int.emod_emod_of_dvd e hd
  have e3 : ((t % l.length : Nat) : Int) = ((m % l.length : Nat) : Int) := by rw [Int.natCast_emod, e2, he]
  omega
/-- The exponent of FnRotate. -/
theorem rot_exp {n : Nat} (hn : 0 < n) (i : Nat) (r : Int) : ((i : Int) * r) % (n : Int) = ((i * turnN n r % n : Nat) : Int) := by
  rw [Int.natCast_emod, Int.natCast_mul]
  unfold turnN
  rw [Int.toNat_of_nonneg (Int.emod_nonneg _ (by omega)), Int.mul_emod, Int.mul_emod (i : Int) (r % n), Int.emod_emod_of_dvd r (Int.dvd_refl _)]
/-- What FnRotate asks of one place. -/
theorem rotate_at {f : Int} {l : List Int} (h : VecOk f l) (r : Int) {i : Nat} (hi : i < l.length) : lf (fwdL f (rotL l r)) i = mMul f (lf (fwdL f l) i) (mPower f (rootL f l) ((i : Int) * r)) := by
  rw [fwd_rot h r hi, power_any h ((i : Int) * r) (i * turnN l.length r) (rot_exp h.pos.1 i r), mMul, if_pos h.f08]
  unfold RS
  rw [Int.mul_emod, Int.mul_emod (lf (fwdL f l) i) (rootL f l ^ (i * turnN l.length r) % P f), Int.emod_emod_of_dvd (rootL f l ^ (i * turnN l.length r)) (Int.dvd_refl _)]
theorem VecOk.rot {f : Int} {l : List Int} (h : VecOk f l) (r : Int) : VecOk f (rotL l r) := h.tab rfl _ fun _ _ => h.lt _
theorem rotL_len (l : List Int) (r : Int) : (rotL l r).length = l.length := tab_len _ _
end Go.Proofs.YtnipffmookkkdabDoor
namespace Go.Proofs.YtnipffmookkkdabDoor
open Mth
/-- n levels from level s on. -/
def lvL (f : Int) (l : List Int) (s : Nat) : Nat → List Int
  | 0 => l
  | n + 1 => stgL f (lvL f l s n) (s + n)
theorem lvL_len (f : Int) (l : List Int) (s n : Nat) : (lvL f l s n).length = l.length := by
  induction n with
  | zero => rfl
  | succ n ih => show (stgL f _ _).length = _; rw [stgL_len, ih]
theorem VecOk.lv {f : Int} {l : List Int} (h : VecOk f l) (s n : Nat) : VecOk f (lvL f l s n) := by
  induction n with
  | zero => exact h
  | succ n ih => exact ih.stg _
theorem lv_lev {f : Int} {l : List Int} {k s : Nat} {X : Nat → Int} (h : VecOk f l) (hk : l.length = 2 ^ k) (hl : Lev f (rootL f l) k s X (lf l)) : ∀ n, s + n ≤ k → Lev f (rootL f l) k (s + n) X (lf (lvL f l s n))
  | 0, _ => hl
  | n + 1, hn => by
    have h1 := lv_lev h hk hl n (by omega)
    have e : rootL f (lvL f l s n) = rootL f l := rootL_len (lvL_len f l s n)
    rw [← e] at h1 ⊢
    exact stage_lev (h.lv s n) (by rw [lvL_len, hk]) (show s + n < k by omega) h1
/-- A level, written place by place, is the list of the level. -/
theorem stp_list {f : Int} {l : List Int} {k q : Nat} (hk : l.length = 2 ^ k) (hq : q < k) (j : Nat) : stp f (rootL f l) (2 ^ q) (2 ^ (k - q - 1)) (lf l) (2 ^ (k - q - 1)) 0 j = lf (stgL f l q) j := by
  have g0 : 0 < 2 ^ q := Nat.pow_pos (by omega)
  have hn : l.length = 2 ^ (k - q - 1) * (2 * 2 ^ q) := by rw [hk, pow_half hq]
  unfold stgL
  rw [lf_tab]
  by_cases hj : j < l.length
  · rw [if_pos hj, stp_end hn _ hj]
    rw [hn, Nat.mul_div_cancel _ (by omega)]
  · rw [if_neg hj]
    unfold stp
    rw [if_neg, lf_out l (by omega)]
    rintro (h1 | ⟨_, h1⟩)
    · omega
    · omega
def permL (l : List Int) (k : Nat) : List Int := tab l.length fun j => lf l (rv j k)
theorem permL_len (l : List Int) (k : Nat) : (permL l k).length = l.length := tab_len _ _
theorem VecOk.perm {f : Int} {l : List Int} (h : VecOk f l) (k : Nat) : VecOk f (permL l k) := h.tab rfl _ fun _ _ => h.lt _
/-- Reversed bits, then all levels: the transform. -/
theorem lv_fwd {f : Int} {l : List Int} {k : Nat} (h : VecOk f l) (hk : l.length = 2 ^ k) : lvL f (permL l k) 0 k = fwdL f l := by
  have hp := permL_len l k
  have hlev : Lev f (rootL f (permL l k)) k 0 (lf l) (lf (permL l k)) := Lev.start fun j hj => by unfold permL; rw [lf_tab, if_pos (by omega)]
  have h1 := lv_lev (h.perm k) (by rw [hp, hk]) hlev k (by omega)
  rw [Nat.zero_add, rootL_len hp] at h1
  exact lev_fwd h ((h.perm k).lv 0 k) hk (by rw [lvL_len, hp]) h1
/-- The numbers at the negated places. -/
def mirL (l : List Int) : List Int := tab l.length fun j => lf l ((l.length - j) % l.length)
theorem mirL_len (l : List Int) : (mirL l).length = l.length := tab_len _ _
theorem lf_mirL {l : List Int} {j : Nat} (h : j < l.length) : lf (mirL l) j = lf l ((l.length - j) % l.length) := by unfold mirL; rw [lf_tab, if_pos h]
theorem VecOk.mir {f : Int} {l : List Int} (h : VecOk f l) : VecOk f (mirL l) := h.tab rfl _ fun _ _ => h.lt _
theorem mir_inv {n i : Nat} (hi : i < n) : (n - (n - i) % n) % n = i := by
  by_cases h : i = 0
  · subst h; rw [Nat.sub_zero, Nat.mod_self, Nat.sub_zero, Nat.mod_self]
  · rw [Nat.mod_eq_of_lt (show n - i < n by omega), show n - (n - i) = i by omega, Nat.mod_eq_of_lt hi]
theorem mir_at {n j k : Nat} (hj : j < n) (hk : k < n) : (n - j) % n = k ↔ j = (n - k) % n := by
  constructor
  · intro h; rw [← h, mir_inv hj]
  · intro h; rw [h, mir_inv hk]
/-- A transform at a negated place is the transform by the inverse root. -/
theorem ft_mirror {f w v : Int} {n : Nat} (h : Rt f w v n) (A : Nat → Int) {j : Nat} (hj : j < n) : ftF w n A ((n - j) % n) % P f = ftF v n A j % P f := by
  unfold ftF
  refine sumN_mod fun t _ => emod_mul_congr rfl ?_
  have e4 : w ^ ((n - j) % n * t) % P f = w ^ ((n - j) * t) % P f := h.exp (by rw [Nat.mul_mod, Nat.mod_mod, ← Nat.mul_mod])
  rw [e4]
  have e5 : (v ^ (j * t) * (v ^ ((n - j) * t) * w ^ ((n - j) * t))) % P f = (v ^ (j * t) * 1) % P f := emod_mul_congr rfl (h.swap.wv _)
  have e6 : v ^ (j * t) * (v ^ ((n - j) * t) * w ^ ((n - j) * t)) = v ^ (n * t) * w ^ ((n - j) * t) := by
    rw [← Int.mul_assoc, ← Int.pow_add, ← Nat.add_mul, Nat.add_sub_cancel' (Nat.le_of_lt hj)]
  have e7 : (v ^ (n * t) * w ^ ((n - j) * t)) % P f = (1 * w ^ ((n - j) * t)) % P f := emod_mul_congr ((h.swap.ord _).2 (Nat.dvd_mul_right n t)) rfl
  rw [Int.mul_one] at e5
  rw [Int.one_mul] at e7
  rw [← e5, e6, e7]
/-- The transform back, as the program makes it. -/
theorem bwd_by_fwd {f : Int} {l : List Int} (h : VecOk f l) {i : Nat} (hi : i < l.length) : RS (lf (mirL (fwdL f l)) i * mPower f l.length (-1)) (P f) = lf (bwdL f l) i := by
  have hf := fwdL_len f l
  rw [lf_mirL (by rw [hf]; exact hi), hf, lf_fwdL (Nat.mod_lt _ (by omega)), lf_bwdL hi, RS]
  have e := ft_mirror h.rt (lf l) hi
  rw [e]
  exact emod_mul_congr (Int.emod_emod_of_dvd _ (Int.dvd_refl _)) rfl
/-- The cyclic product, as the program makes it. -/
theorem cyc_by_fwd {f : Int} {a b : List Int} (h : TwoOk f a b) : bwdL f (ptwL f (fwdL f a) (fwdL f b)) = cycL f a b := by
  obtain ⟨e, _, e1, e2, e3⟩ := fwd_cyc h
  have hc : VecOk f (cycL f a b) := h.2.1.tab rfl _ fun _ _ => RS_bd (P_pos h.2.1.f08.1 h.2.1.f08.2)
  have hp : TwoOk f (fwdL f a) (fwdL f b) := ⟨by rw [fwdL_len, fwdL_len, h.1], h.2.1.fwd, h.2.2.fwd⟩
  have h1 := back_fwd hc
  have hv : VecOk f (ptwL f (fwdL f a) (fwdL f b)) := hp.2.1.tab rfl _ fun _ _ => RS_bd (P_pos h.2.1.f08.1 h.2.1.f08.2)
  rw [e1, e2, e3] at e
  rw [e] at h1
  unfold mPointwise at h1
  rw [if_pos hp] at h1
  unfold mBackward at h1
  rw [if_pos hv] at h1
  exact h1
theorem sumN_rev (G : Nat → Int) : ∀ m, sumN (fun j => G (m - 1 - j)) m = sumN G m
  | 0 => rfl
  | m + 1 => by
    rw [sumN_first]
    have : sumN (fun i => G (m + 1 - 1 - (i + 1))) m = sumN (fun j => G (m - 1 - j)) m := sumN_congr fun i _ => by rw [show m + 1 - 1 - (i + 1) = m - 1 - i by omega]
    rw [this, sumN_rev G m]
    show G (m + 1 - 1 - 0) + _ = sumN G m + G m
    rw [show m + 1 - 1 - 0 = m by omega]
    omega
theorem sumN_mirror (F : Nat → Int) : ∀ n, sumN (fun j => F ((n - j) % n)) n = sumN F n
  | 0 => rfl
  | m + 1 => by
    rw [sumN_first, sumN_first]
    have e0 : (m + 1 - 0) % (m + 1) = 0 := by rw [Nat.sub_zero, Nat.mod_self]
    rw [e0]
    congr 1
    rw [← sumN_rev (fun i => F (i + 1)) m]
    exact sumN_congr fun i hi => by rw [Nat.mod_eq_of_lt (by omega), show m + 1 - (i + 1) = m - 1 - i + 1 by omega]
/-- A correlation is a cyclic product with the first vector mirrored. -/
theorem cor_by_cyc {f : Int} {a b : List Int} (_h : TwoOk f a b) : cycL f (mirL a) b = corL f a b := by
  unfold cycL corL
  rw [mirL_len]
  refine tab_congr fun i hi => ?_
  congr 1
  unfold cycF corF
  rw [← sumN_mirror (fun j => lf a j * lf b ((j + i) % a.length)) a.length]
  refine sumN_congr fun j hj => ?_
  rw [lf_mirL hj]
  congr 2
  by_cases hz : j = 0
  · subst hz
    rw [Nat.sub_zero, Nat.sub_zero, Nat.mod_self, Nat.zero_add, Nat.add_mod_right]
  · rw [Nat.mod_eq_of_lt (show a.length - j < a.length by omega), show i + a.length - j = a.length - j + i by omega]
/-- Zeros behind. -/
def padL (l : List Int) (n : Nat) : List Int := tab n (lf l)
theorem padL_len (l : List Int) (n : Nat) : (padL l n).length = n := tab_len _ _
theorem lf_padL (l : List Int) {n : Nat} (h : l.length ≤ n) (j : Nat) : lf (padL l n) j = lf l j := by
  unfold padL
  rw [lf_tab]
  by_cases hj : j < n
  · rw [if_pos hj]
  · rw [if_neg hj, lf_out l (by omega)]
theorem pad_ok {f : Int} {a : List Int} {k : Nat} (ha : PolOk f a) (hk : hasK f k) (k9 : k ≤ 9) : VecOk f (padL a (2 ^ k)) := by
  refine ⟨?_, fun j hj => ?_⟩
  · rw [padL_len]
    have e : ((2 ^ k : Nat) : Int) = 2 ^ k := by rw [Int.natCast_pow]; rfl
    rw [e, log_at k9]
    exact ⟨by omega, hk.2.2⟩
  · rw [padL_len] at hj
    unfold padL
    rw [lf_tab, if_pos hj]
    exact ha.2.2.1 j
/-- Where nothing wraps round, a cyclic product is the product. -/
theorem cyc_conv {A B : Nat → Int} {n la lb i : Nat} (hA : ∀ j, la ≤ j → A j = 0) (hB : ∀ j, lb ≤ j → B j = 0) (hn : la + lb ≤ n + 1) (hi : i < n) : cycF n A B i = cv i A B := by
  unfold cycF
  rw [cv_sum]
  have e : sumN (fun j => A j * B ((i + n - j) % n)) n = sumN (fun j => if j ≤ i then A j * B (i - j) else 0) n := sumN_congr fun j hj => by
    by_cases hji : j ≤ i
    · rw [if_pos hji, show i + n - j = i - j + n by omega, Nat.add_mod_right, Nat.mod_eq_of_lt (by omega)]
    · rw [if_neg hji, Nat.mod_eq_of_lt (by omega)]
      by_cases hjl : j < la
      · rw [hB _ (by omega), Int.mul_zero]
      · rw [hA _ (by omega), Int.zero_mul]
  rw [e, sumN_more (n := i + 1) (by omega) (fun j hj _ => by rw [if_neg (by omega)])]
  exact sumN_congr fun j hj => by rw [if_pos (by omega)]
/-- What ConvPoly makes of its cyclic product. -/
theorem conv_cut {f : Int} {a b : List Int} {n : Nat} (ha : PolOk f a) (hab : a.length + b.length ≤ n + 1) (hla : a.length ≤ n) (hlb : b.length ≤ n) : cutL n (lf (cycL f (padL a n) (padL b n))) = mulL f a b := by
  have hp := P_pos ha.1.1 ha.1.2
  have key : ∀ j, j < n → lf (cycL f (padL a n) (padL b n)) j = RS (cv j (lf a) (lf b)) (P f) := fun j hj => by
    unfold cycL
    rw [lf_tab, padL_len, if_pos hj, cyc_conv (la := a.length) (lb := b.length) (fun t ht => by rw [lf_padL a hla, lf_out a ht]) (fun t ht => by rw [lf_padL b hlb, lf_out b ht]) hab hj]
    congr 1
    exact cv_congr (fun t _ => lf_padL a hla t) (fun t _ => lf_padL b hlb t)
  rw [cutL_congr key]
  refine Pol.eq (f := f) (Pol.cut hp fun j _ => RS_bd hp) (pol_mulL ha.1.1 ha.1.2 a b) fun j => ?_
  congr 1
  rw [lf_cutL, lf_mulL]
  by_cases hj : j < n
  · rw [if_pos hj]; rfl
  · rw [if_neg hj, cv_out (n := a.length) (m := b.length) (fun t ht => lf_out a ht) (fun t ht => lf_out b ht) (by omega)]; rfl
end Go.Proofs.YtnipffmookkkdabDoor
namespace Go.Proofs.YtnipffmookkkdabDoor
open Go.RowKit
theorem mLog_le (n : Int) : mLog n ≤ 9 := by
  rcases log_cases n with ⟨k, hk, _, hl⟩ | ⟨_, hl⟩ <;> omega
set_option maxHeartbeats 800000 in
theorem iVectorOk (f : Int) (a : Option Addr) (l : List Int) (cap : Nat) (w : World) (hn : l.length ≤ 1048576) (hs : Src w a l.length (lf l)) (ht : Tab w) : Calls Tryd.prog 54 #[.int .i64 f, .slice a l.length cap] w (SameB w (mVectorOk f l)) := by
  have hl9 := mLog_le l.length
  by_cases hk : hasK f (mLog l.length)
  · have H1 := Lib.hid (hasRoots_yes f (mLog l.length) w ht hk hl9)
    obtain ⟨h0, h8⟩ := hk.1
    have hv : mVectorOk f l = true ↔ AllIn f l := by
      rw [vok_iff]
      exact ⟨fun h => h.2, fun h => ⟨(hasK_iff f _).1 hk, h⟩⟩
    have H2 := Lib.hid (hasAll_c f a l cap w ht h0 h8 hn hs (mVectorOk f l) hv)
    clear hs hv hk hl9
    have H3 := Lib.hid (iLogOf l.length w)
    generalize mLog l.length = L at *
    go_enter Tryd.func54, Tryd.ntmps54
    go_wp2_with fail
    refine H3.out.mono ?_
    rintro e w' ⟨rfl, rfl⟩
    go_wp2_with fail
    refine H1.out.mono ?_
    rintro e w' ⟨rfl, rfl⟩
    go_wp2_with fail
    refine H2.out.mono ?_
    rintro e w' ⟨rfl, rfl⟩
    go_wp2
    go_ret
    exact ⟨rfl, rfl⟩
  · have H1 := Lib.hid (hasRoots_no f (mLog l.length) w ht (fun h => hk h.1))
    have HB := Lib.hid (vok_not.2 fun h : VecOk f l => hk ((hasK_iff f _).2 h.1))
    clear hs hk hl9
    have H3 := Lib.hid (iLogOf l.length w)
    generalize mLog l.length = L at *
    go_enter Tryd.func54, Tryd.ntmps54
    go_wp2_with fail
    refine H3.out.mono ?_
    rintro e w' ⟨rfl, rfl⟩
    go_wp2_with fail
    refine H1.out.mono ?_
    rintro e w' ⟨rfl, rfl⟩
    go_wp2
    go_ret
    exact ⟨by rw [HB.out]; rfl, rfl⟩
set_option maxHeartbeats 800000 in
theorem areVectors_c (f : Int) (a a2 : Option Addr) (l m : List Int) (cap cap2 : Nat) (w : World) (hn : l.length ≤ 1048576) (hn2 : m.length ≤ 1048576) (hs : Src w a l.length (lf l)) (hs2 : Src w a2 m.length (lf m)) (ht : Tab w) : Calls Tryd.prog 58 #[.int .i64 f, .slice a l.length cap, .slice a2 m.length cap2] w (SameB w (mTwo f l m)) := by
  by_cases he : l.length = m.length
  · have hd : ((l.length : Int) == m.length) = true := by rw [beq_iff_eq]; omega
    have R1 := iVectorOk f a l cap w hn hs ht
    have R2 := iVectorOk f a2 m cap2 w hn2 hs2 ht
    by_cases h1 : VecOk f l
    · rw [vok_iff.2 h1] at R1
      have HM : Hid (mTwo f l m = mVectorOk f m) := Lib.hid (by
        by_cases h2 : VecOk f m
        · rw [vok_iff.2 h2, two_iff.2 ⟨he, h1, h2⟩]
        · rw [vok_not.2 h2, two_not.2 fun h => h2 h.2.2])
      have HR1 := Lib.hid R1
      have HR2 := Lib.hid R2
      clear R1 R2 hs hs2 h1 he
      go_enter Tryd.func58, Tryd.ntmps58
      go_wp2_with fail
      refine HR1.out.mono ?_
      rintro e w' ⟨rfl, rfl⟩
      go_wp2_with fail
      refine HR2.out.mono ?_
      rintro e w' ⟨rfl, rfl⟩
      go_wp2
      go_ret
      exact ⟨by rw [HM.out]; rfl, rfl⟩
    · rw [vok_not.2 h1] at R1
      have HM := Lib.hid (two_not.2 fun h : TwoOk f l m => h1 h.2.1)
      have HR1 := Lib.hid R1
      clear R1 R2 hs hs2 h1 he
      go_enter Tryd.func58, Tryd.ntmps58
      go_wp2_with fail
      refine HR1.out.mono ?_
      rintro e w' ⟨rfl, rfl⟩
      go_wp2
      go_ret
      exact ⟨by rw [HM.out]; rfl, rfl⟩
  · have hd : ((l.length : Int) == m.length) = false := by rw [beq_eq_false_iff_ne]; omega
    have HM := Lib.hid (two_not.2 fun h : TwoOk f l m => he h.1)
    clear hs hs2 he
    go_enter Tryd.func58, Tryd.ntmps58
    go_wp2
    go_ret
    exact ⟨by rw [HM.out]; rfl, rfl⟩
/-- A list of n numbers of which the first k have been put at their places, by a map of places that is one to one. -/
theorem place_set {wr : World} {g n k : Nat} {F : Nat → Int} (q : Nat → Nat) (u : Nat) (hq : ∀ j, j < n → (q j = k ↔ j = u)) (h : Own wr g n (fun j => if q j < k then F (q j) else 0)) :
    Own (wr.setCell ⟨g, u, none⟩ (.int .i64 (F k))) g n (fun j => if q j < k + 1 then F (q j) else 0) := by
  refine (World.rowIs.set h u (.int .i64 (F k))).congr fun j hj => ?_
  by_cases h1 : j = u
  · have := (hq j hj).2 h1
    simp [h1]
    rw [← h1, this]
    simp
  · have h2 : q j ≠ k := fun e => h1 ((hq j hj).1 e)
    by_cases h3 : q j < k
    · simp [h1, h3, show q j < k + 1 by omega]
    · simp [h1, h3, show ¬ q j < k + 1 by omega]
set_option maxRecDepth 100000 in
set_option maxHeartbeats 800000 in
theorem mirrored_some (b off n cap : Nat) (F : Nat → Int) (w : World) (n0 : 0 < n) (hn : n ≤ 1048576) (hlt : b < w.heap.size) (hc : ∀ j, j < n → w.cell? ⟨b, off + j, none⟩ = some (.int .i64 (F j))) :
    Calls Tryd.prog 60 #[.slice (some ⟨b, off, none⟩) n cap] w (CopyP w n (fun j => F ((n - j) % n))) := by
  have HC := Lib.hid hc
  clear hc
  have hmk := made_n n hn
  have kz : ((n : Int) == 0) = false := by rw [beq_eq_false_iff_ne]; omega
  go_enter Tryd.func60, Tryd.ntmps60
  go_wp2_with fail
  clear hmk
  go_loopw [4, 5, 11] (fun _ _ i wr => ∃ j : Nat, i = .int .i64 j ∧ j ≤ n ∧ Own wr w.heap.size n (fun x => if (n - x) % n < j then F ((n - x) % n) else 0) ∧ Below w.heap.size w wr) (fun _ _ i _ => n - (intOf i).toNat)
  case atStart =>
    refine ⟨0, rfl, Nat.zero_le _, ?_, (Below.refl _ _).alloc (Nat.le_refl _) _⟩
    exact (World.rowIs_made w (.int .i64 0) n 3).congr fun j _ => by simp
  case round =>
    obtain ⟨j, rfl, hj, ho, hb⟩ := hrel
    by_cases h1 : j < n
    · have c1 : wr.cell? ⟨b, off + j, none⟩ = some (.int .i64 (F j)) := (hb.cell (p := ⟨b, off + j, none⟩) hlt).trans (HC.out j h1)
      have hd1 : decide ((j : Int) < n) = true := decide_eq_true (by omega)
      have HS := Lib.hid (place_set (fun x => (n - x) % n) ((n - j) % n) (fun x hx => mir_at hx h1) ho)
      have hU : (n - j) % n < n := Nat.mod_lt _ n0
      have c2 := World.rowIs.cell ho hU
      have c3 := World.rowIs.frozen ho ((n - j) % n)
      have tm : ((n : Int) - j).tmod n = (((n - j) % n : Nat) : Int) := by rw [show (n : Int) - j = ((n - j : Nat) : Int) by omega, Int.tmod_eq_emod_of_nonneg (by omega), Int.natCast_emod]
      have qc : IntKind.i64.wrap ((n : Int) - j) = (n : Int) - j := IntWalk.i64_in _ (by omega)
      clear ho
      generalize (n - j) % n = U at *
      go_wp2
      go_roundw
      case rel => exact ⟨j + 1, by go_num, by omega, HS.out, hb.setCell (Nat.le_refl _) _⟩
      case measure => simp [intOf]; omega
    · have hd : decide (j < n) = false := by simpa using h1
      obtain rfl : j = n := by omega
      go_wp2
      go_ret
      exact ⟨rfl, World.rowIs.congr ho (fun x _ => by simp [show (j - x) % j < j from Nat.mod_lt _ n0]), hb⟩
theorem mirrored_c (a : Option Addr) (l : List Int) (cap : Nat) (w : World) (n0 : 0 < l.length) (hn : l.length ≤ 1048576) (hs : Src w a l.length (lf l)) : Calls Tryd.prog 60 #[.slice a l.length cap] w (OwnG w (mirL l)) := by
  obtain ⟨b, off, rfl, hlt, hc⟩ := vec_some hs n0
  refine (mirrored_some b off l.length cap (lf l) w n0 hn hlt hc).mono ?_
  rintro e w' ⟨rfl, ho, hb⟩
  exact OwnG.of_own ho (mirL_len l).symm (Nat.le_refl _) (fun j hj => (lf_mirL hj).symm) hb
set_option maxRecDepth 100000 in
set_option maxHeartbeats 800000 in
theorem rotated_some (b off n cap c : Nat) (F : Nat → Int) (w : World) (n0 : 0 < n) (hn : n ≤ 1048576) (hcn : c < n) (hlt : b < w.heap.size) (hc : ∀ j, j < n → w.cell? ⟨b, off + j, none⟩ = some (.int .i64 (F j))) :
    Calls Tryd.prog 74 #[.slice (some ⟨b, off, none⟩) n cap, .int .i64 c] w (CopyP w n (rotF n c F)) := by
  have HC := Lib.hid hc
  clear hc
  have hmk := made_n n hn
  have kz : ((n : Int) == 0) = false := by rw [beq_eq_false_iff_ne]; omega
  go_enter Tryd.func74, Tryd.ntmps74
  go_wp2_with fail
  clear hmk
  go_loopw [6, 7, 13] (fun _ _ i wr => ∃ j : Nat, i = .int .i64 j ∧ j ≤ n ∧ Own wr w.heap.size n (fun x => if (x + (n - c)) % n < j then F ((x + (n - c)) % n) else 0) ∧ Below w.heap.size w wr) (fun _ _ i _ => n - (intOf i).toNat)
  case atStart =>
    refine ⟨0, rfl, Nat.zero_le _, ?_, (Below.refl _ _).alloc (Nat.le_refl _) _⟩
    exact (World.rowIs_made w (.int .i64 0) n 3).congr fun j _ => by simp
  case round =>
    obtain ⟨j, rfl, hj, ho, hb⟩ := hrel
    by_cases h1 : j < n
    · have c1 : wr.cell? ⟨b, off + j, none⟩ = some (.int .i64 (F j)) := (hb.cell (p := ⟨b, off + j, none⟩) hlt).trans (HC.out j h1)
      have hd1 : decide ((j : Int) < n) = true := decide_eq_true (by omega)
      have HS := Lib.hid (place_set (fun x => (x + (n - c)) % n) ((j + c) % n) (fun x hx => turn_inv hcn hx h1) ho)
      have hU : (j + c) % n < n := Nat.mod_lt _ n0
      have c2 := World.rowIs.cell ho hU
      have c3 := World.rowIs.frozen ho ((j + c) % n)
      have tm : ((j : Int) + c).tmod n = (((j + c) % n : Nat) : Int) := by rw [show (j : Int) + c = ((j + c : Nat) : Int) by omega, Int.tmod_eq_emod_of_nonneg (by omega), Int.natCast_emod]
      have qc : IntKind.i64.wrap ((j : Int) + c) = (j : Int) + c := IntWalk.i64_in _ (by omega)
      clear ho
      generalize (j + c) % n = U at *
      go_wp2
      go_roundw
      case rel => exact ⟨j + 1, by go_num, by omega, HS.out, hb.setCell (Nat.le_refl _) _⟩
      case measure => simp [intOf]; omega
    · have hd : decide (j < n) = false := by simpa using h1
      obtain rfl : j = n := by omega
      go_wp2
      go_ret
      exact ⟨rfl, World.rowIs.congr ho (fun x _ => by simp [rotF, show (x + (j - c)) % j < j from Nat.mod_lt _ n0]), hb⟩
set_option maxRecDepth 100000 in
set_option maxHeartbeats 1600000 in
theorem pointwise_some (f : Int) (b off b2 off2 n cap cap2 : Nat) (A B : Nat → Int) (w : World) (ht : Tab w) (h0 : 0 ≤ f) (h8 : f ≤ 8) (hn : n ≤ 1048576) (hA : ∀ j, 0 ≤ A j ∧ A j < P f) (hB : ∀ j, 0 ≤ B j ∧ B j < P f) (hlt : b < w.heap.size) (hlt2 : b2 < w.heap.size)
    (hc : ∀ j, j < n → w.cell? ⟨b, off + j, none⟩ = some (.int .i64 (A j))) (hc2 : ∀ j, j < n → w.cell? ⟨b2, off2 + j, none⟩ = some (.int .i64 (B j))) :
    Calls Tryd.prog 59 #[.int .i64 f, .slice (some ⟨b, off, none⟩) n cap, .slice (some ⟨b2, off2, none⟩) n cap2] w (CopyP w n (fun j => RS (A j * B j) (P f))) := by
  have HC := Lib.hid hc
  have HC2 := Lib.hid hc2
  have HA := Lib.hid hA
  have HB := Lib.hid hB
  clear hc hc2 hA hB
  have hmk := made_n n hn
  go_enter Tryd.func59, Tryd.ntmps59
  go_wp2_with fail
  clear hmk
  go_loopw [8, 9, 15] (fun _ _ i wr => ∃ j : Nat, i = .int .i64 j ∧ j ≤ n ∧ Own wr w.heap.size n (fun x => if x < j then RS (A x * B x) (P f) else 0) ∧ Below w.heap.size w wr) (fun _ _ i _ => n - (intOf i).toNat)
  case atStart =>
    refine ⟨0, rfl, Nat.zero_le _, ?_, (Below.refl _ _).alloc (Nat.le_refl _) _⟩
    exact (World.rowIs_made w (.int .i64 0) n 3).congr fun j _ => by simp
  case round =>
    obtain ⟨j, rfl, hj, ho, hb⟩ := hrel
    by_cases h1 : j < n
    · have c1 : wr.cell? ⟨b, off + j, none⟩ = some (.int .i64 (A j)) := (hb.cell (p := ⟨b, off + j, none⟩) hlt).trans (HC.out j h1)
      have c2 : wr.cell? ⟨b2, off2 + j, none⟩ = some (.int .i64 (B j)) := (hb.cell (p := ⟨b2, off2 + j, none⟩) hlt2).trans (HC2.out j h1)
      have hd1 : decide ((j : Int) < n) = true := decide_eq_true (by omega)
      have HS := Lib.hid (copy_set (w := w) (F := fun x => RS (A x * B x) (P f)) ho)
      have c3 := World.rowIs.cell ho h1
      have c4 := World.rowIs.frozen ho j
      have hAj := HA.out j
      have hBj := HB.out j
      clear ho
      go_wp2_with fail
      refine (mul_c f (A j) (B j) wr (ht.below hb) h0 h8 hAj.1 hAj.2 hBj.1 hBj.2).mono ?_
      rintro e w' ⟨rfl, rfl⟩
      go_wp2
      go_roundw
      case rel => exact ⟨j + 1, by go_num, by omega, HS.out, hb.setCell (Nat.le_refl _) _⟩
      case measure => simp [intOf]; omega
    · have hd : decide (j < n) = false := by simpa using h1
      obtain rfl : j = n := by omega
      go_wp2
      go_ret
      exact ⟨rfl, World.rowIs.congr ho (fun x hx => by simp [hx]), hb⟩
theorem pointwise_c (f : Int) (a : Option Addr) (l : List Int) (cap : Nat) (a2 : Option Addr) (m : List Int) (cap2 : Nat) (w : World) (hs : Src w a l.length (lf l)) (hs2 : Src w a2 m.length (lf m)) (ht : Tab w) (h : TwoOk f l m) : Calls Tryd.prog 59 #[.int .i64 f, .slice a l.length cap, .slice a2 m.length cap2] w (OwnG w (ptwL f l m)) := by
  obtain ⟨hlm, hl, hm⟩ := h
  have hp := hl.pos
  obtain ⟨b, off, rfl, hlt, hc⟩ := vec_some hs hp.1
  obtain ⟨b2, off2, rfl, hlt2, hc2⟩ := vec_some hs2 hm.pos.1
  rw [← hlm] at hc2 ⊢
  refine (pointwise_some f b off b2 off2 l.length cap cap2 (lf l) (lf m) w ht hl.f08.1 hl.f08.2 (by omega) hl.lt hm.lt hlt hlt2 hc hc2).mono ?_
  rintro e w' ⟨rfl, ho, hb⟩
  exact OwnG.of_own ho (tab_len _ _).symm (Nat.le_refl _) (fun j hj => by unfold ptwL; rw [lf_tab, if_pos hj]) hb
end Go.Proofs.YtnipffmookkkdabDoor
namespace Go.Proofs.YtnipffmookkkdabDoor
open Go.RowKit Go.Shelf
attribute [local go_sem] Oper.semAt_some
/-- The first c powers of r. -/
def pws (f r : Int) (c : Nat) : List Int := (List.range c).map fun (j : Nat) => PW (P f) r (j : Int)
theorem pws_len (f r : Int) (c : Nat) : (pws f r c).length = c := by simp [pws]
theorem pws_succ (f r : Int) (c : Nat) : pws f r (c + 1) = pws f r c ++ [PW (P f) r c] := by simp [pws, List.range_succ]
theorem pws_pre (f r : Int) {j c : Nat} (h : j ≤ c) : pws f r j <+: pws f r c := by
  refine ⟨((List.range c).drop j).map fun (j : Nat) => PW (P f) r (j : Int), ?_⟩
  unfold pws
  rw [← List.map_append]
  congr 1
  conv => rhs; rw [← List.take_append_drop j (List.range c)]
  rw [List.take_range, Nat.min_eq_left h]
/-- What a round keeps: whatever lay below n₀, and the two boxes that the iterator reads again. -/
def KeepsBoxes (n₀ Bn Ba : Nat) (W W' : World) : Prop := Below n₀ W W' ∧ W'.heap[Bn]? = W.heap[Bn]? ∧ W'.heap[Ba]? = W.heap[Ba]?
theorem cell_same {W W' : World} {B : Nat} (h : W'.heap[B]? = W.heap[B]?) (o : Nat) : W'.cell? ⟨B, o, none⟩ = W.cell? ⟨B, o, none⟩ := by
  unfold World.cell?
  simp only [h]
theorem Tab.from {n₀ : Nat} {w w' : World} (h : Tab w) (h0 : 0 < n₀) (hb : Below n₀ w w') : Tab w' := h.keep fun o => hb.cell (p := ⟨0, o, none⟩) h0
set_option maxRecDepth 100000 in
set_option maxHeartbeats 1000000 in
theorem powers1_in (n : Nat) (hn : 1 ≤ n) (l Bc Bn Ba n₀ : Nat) (f r : Int) (c : Nat) (h0 : 0 ≤ f) (h8 : f ≤ 8) (r0 : 0 ≤ r) (r1 : r < P f) (c9 : c ≤ 1048576) (hn0 : 0 < n₀) (J Jx : List Int → World → Prop)
    (hY : ∀ pre x W, J pre W → pre.length < c → YieldAt Fence.wide (n - 1) Tryd.prog l #[.int .i64 x] W fun e W' =>
      (e = .returned (.bool true) ∧ J (pre ++ [x]) W' ∧ KeepsBoxes n₀ Bn Ba W W') ∨ (e = .returned (.bool false) ∧ Jx (pre ++ [x]) W'))
    (W : World) (ht : Tab W) (hc : W.cell? ⟨Bc, 0, none⟩ = some (.int .i64 c)) (hf : W.cell? ⟨Bn, 0, none⟩ = some (.int .i64 f)) (hr : W.cell? ⟨Ba, 0, none⟩ = some (.int .i64 r)) (hj : J [] W) :
    CallsIn Fence.wide n Tryd.prog 110 #[.func (.yield l) #[] #[], .pointer (some ⟨Bc, 0, none⟩), .pointer (some ⟨Bn, 0, none⟩), .pointer (some ⟨Ba, 0, none⟩)] W fun e W' => (∃ v, e = .returned v) ∧
      ((∃ ys, ys = pws f r c ∧ J ys W') ∨ (∃ pre, pre <+: pws f r c ∧ Jx pre W')) := by
  have hp := P_bd h0 h8
  refine callsIn_of_wp Tryd.func110 rfl trivial ?_ rfl
  simp only [Tryd.ntmps110, List.size_toArray, List.length_cons, List.length_nil, Nat.reduceAdd, Nat.reduceSub, Array.replicate_succ, Array.replicate_zero, List.push_toArray, List.append_toArray, List.nil_append, List.cons_append]
  gi_wp2
  gi_loopw [5, 7] (fun x i wr => ∃ j : Nat, i = .int .i64 j ∧ j ≤ c ∧ x = .int .i64 (PW (P f) r j) ∧ J (pws f r j) wr ∧ Tab wr ∧ wr.cell? ⟨Bn, 0, none⟩ = some (.int .i64 f) ∧ wr.cell? ⟨Ba, 0, none⟩ = some (.int .i64 r)) (fun _ i _ => c - (intOf i).toNat)
  case atStart =>
    exact ⟨0, rfl, Nat.zero_le _, by rw [show ((0 : Nat) : Int) = 0 from rfl, PW_zero h0 h8], hj, ht, hf, hr⟩
  case round =>
    obtain ⟨j, rfl, hjc, rfl, hJ, htr, hfr, hrr⟩ := hrel
    by_cases hlt : j < c
    · obtain ⟨fn, tmps, assign, body, hy, hR⟩ := hY (pws f r j) (PW (P f) r j) wr hJ (by rw [pws_len]; exact hlt)
      have bj := PW_bd (m := P f) (x := r) (e := (j : Int)) (by omega)
      have HS := Lib.hid (PW_succ h0 h8 r0 j)
      gi_wp2
      refine hR.mono ?_
      rintro e W3 (⟨rfl, hJ3, hk3⟩ | ⟨rfl, hJx3⟩)
      · have ht3 := htr.from hn0 hk3.1
        have hf3 : W3.cell? ⟨Bn, 0, none⟩ = some (.int .i64 f) := (cell_same hk3.2.1 0).trans hfr
        have hr3 : W3.cell? ⟨Ba, 0, none⟩ = some (.int .i64 r) := (cell_same hk3.2.2 0).trans hrr
        rw [← pws_succ] at hJ3
        clear hR hy hk3
        gi_wp2_with (refine ⟨trivial, ?_⟩; gi_at_call 67; refine (callsIn_wide.2 (mul_c f (PW (P f) r j) r W3 ht3 h0 h8 bj.1 bj.2 r0 r1)).mono ?_; rintro e w' ⟨rfl, rfl⟩)
        go_roundw
        case rel => exact ⟨j + 1, by go_num, by omega, vint HS.out, hJ3, ht3, hf3, hr3⟩
        case measure => simp [intOf]; omega
      · rw [← pws_succ] at hJx3
        gi_wp2
        refine bodyPost_ret (results_none rfl _ _ _) rfl ?_
        exact ⟨⟨_, rfl⟩, .inr ⟨_, pws_pre f r (by omega), hJx3⟩⟩
    · have hd : decide (j < c) = false := by simpa using hlt
      obtain rfl : j = c := by omega
      gi_wp2
      go_end0
      exact ⟨⟨_, rfl⟩, .inl ⟨_, rfl, hJ⟩⟩
theorem powers_stops (n : Nat) (hn : 1 ≤ n) (Bc Bn Ba n₀ : Nat) (f r : Int) (c : Nat) (h0 : 0 ≤ f) (h8 : f ≤ 8) (r0 : 0 ≤ r) (r1 : r < P f) (c9 : c ≤ 1048576) (hn0 : 0 < n₀) (w : World) (hsz : 0 < w.heap.size) (ht : Tab w)
    (hBc : Bc < w.heap.size) (hBn : Bn < w.heap.size) (hBa : Ba < w.heap.size) (hc : w.cell? ⟨Bc, 0, none⟩ = some (.int .i64 c)) (hf : w.cell? ⟨Bn, 0, none⟩ = some (.int .i64 f)) (hr : w.cell? ⟨Ba, 0, none⟩ = some (.int .i64 r)) :
    SeqStopsK Fence.wide n Tryd.prog 110 #[.pointer (some ⟨Bc, 0, none⟩), .pointer (some ⟨Bn, 0, none⟩), .pointer (some ⟨Ba, 0, none⟩)] (fun x : Int => #[Value.int .i64 x]) (KeepsBoxes n₀ Bn Ba) (fun ys => ys = pws f r c) (fun pre => pre <+: pws f r c) c w :=
  fun l J Jx W hW _ _ hY hj => powers1_in n hn l Bc Bn Ba n₀ f r c h0 h8 r0 r1 c9 hn0 J Jx hY W (ht.from hsz hW)
    ((hW.cell (p := ⟨Bc, 0, none⟩) hBc).trans hc) ((hW.cell (p := ⟨Bn, 0, none⟩) hBn).trans hf) ((hW.cell (p := ⟨Ba, 0, none⟩) hBa).trans hr) hj
theorem powers_c (f r x : Int) (w : World) : Calls Tryd.prog 108 #[.int .i64 f, .int .i64 r, .int .i64 x] w fun e w' =>
    e = .returned (.func (.func 110) #[] #[.pointer (some ⟨w.heap.size + 2, 0, none⟩), .pointer (some ⟨w.heap.size, 0, none⟩), .pointer (some ⟨w.heap.size + 1, 0, none⟩)]) ∧
    w' = ((w.alloc (.cells #[.int .i64 f] 52)).alloc (.cells #[.int .i64 r] 3)).alloc (.cells #[.int .i64 x] 3) := by
  go_enter Tryd.func108, Tryd.ntmps108
  go_wp2
  go_ret
  exact ⟨rfl, rfl⟩
theorem made_cap (n : Nat) (hn : n ≤ 1048576) (w : World) : (Instr.makeSlice 22 (.int .i64 0) (.int .i64 (n : Int))).run Tryd.prog w = .ok (.slice (some ⟨w.heap.size, 0, none⟩) 0 n) (w.alloc (.cells (madeCells #[.int .i64 0] n) 3)) := by
  obtain ⟨i, hi, hzz⟩ := Option.map_eq_some_iff.1 info3
  simp only [Prod.mk.injEq] at hzz
  obtain ⟨hz, hs, hb⟩ := hzz
  have hr := run_make (P := Tryd.prog) w 22 3 i (.int .i64 0) Tryd.underlying22 hi hz .i64 .i64 0 n (Int.le_refl _) (by omega) (by rw [hb]; omega) (by omega)
  simp only [Int.toNat_natCast, hs, Nat.mul_one] at hr
  exact hr
theorem own_of_owns {w' : World} {base g n : Nat} {F : Nat → Int} (h : w'.ownsRow base 3 1 (.slice (some ⟨g, 0, none⟩) n n) n (xsF F n)) : Own w' g n F := by
  obtain ⟨hl, h⟩ := h
  rcases h with ⟨hv, _⟩ | ⟨g', cap, cur, hv, hg, hh, hc, hm, hs, ht⟩
  · cases hv
  · cases hv
    refine ⟨cur, hh, by omega, fun j hj => ?_⟩
    have hx : (xsF F n)[j]? = some (.int .i64 (F j)) := by simp [xsF, hj]
    rw [← ht, List.getElem?_take_of_lt (by omega)] at hx
    simpa using hx
theorem block_same {W w1 : World} {tmp : Obj} {g Bl B : Nat} {v : Value} (hgrow : (W.alloc tmp).grownBy w1 (some g)) (h1 : B < W.heap.size) (h2 : B ≠ g) (h3 : B ≠ Bl) : (w1.setCell ⟨Bl, 0, none⟩ v).heap[B]? = W.heap[B]? :=
  (Below.heap_setCell w1 ⟨Bl, 0, none⟩ v B (fun e => h3 e)).trans ((hgrow.block B (by simp; omega) (fun e => by injection e with e; exact h2 e)).trans (Below.heap_alloc W tmp B h1))
theorem pws_roots (f k : Int) (n : Nat) : (pws f (mRoot f k) n).map (Value.int .i64) = xsF (rootsF f k) n := by
  simp [pws, xsF, rootsF]
theorem keepsBoxes_b {w WL : World} (hz : w.heap.size + 5 ≤ WL.heap.size) (W : World) (l : Nat) (o o' : Obj) (hl : WL.heap.size ≤ l) (ho : W.heap[l]? = some o) (hc : o.isCells = false) (hw : o.isWalk = false) :
    KeepsBoxes w.heap.size (w.heap.size + 2) (w.heap.size + 2 + 1) W (W.putObj l o') :=
  ⟨belowK_b (w := w) (Nat.le_refl _) W l o o' (by omega) ho hc hw, World.putObj_heap_other (by omega), World.putObj_heap_other (by omega)⟩
set_option maxRecDepth 100000 in
set_option maxHeartbeats 2000000 in
theorem iRoots_on (f : Int) (k n : Nat) (w : World) (ht : Tab w) (h : hasK f k) (k9 : k ≤ 9) (hn : n = 2 ^ k) : Calls Tryd.prog 103 #[.int .i64 f, .int .i64 k] w (CopyP w n (rootsF f k)) := by
  have n9 : n ≤ 512 := by
    have : 2 ^ k ≤ 2 ^ 9 := Nat.pow_le_pow_right (by omega) k9
    omega
  have HN : Hid (wrap64 (2 ^ k) = (n : Int)) := Lib.hid (by
    rw [hn]
    have := shl_at (k := (k : Int)) (by omega) (by omega)
    rw [Int.toNat_natCast] at this
    rw [this, two_nat (by omega), Int.toNat_natCast])
  have hmk : ∀ w, (Instr.makeSlice 22 (.int .i64 0) (.int .i64 (wrap64 (2 ^ k)))).run Tryd.prog w = .ok (.slice (some ⟨w.heap.size, 0, none⟩) 0 n) (w.alloc (.cells (madeCells #[.int .i64 0] n) 3)) := fun w => by
    rw [HN.out]; exact made_cap n (by omega) w
  clear hn
  have HR := Lib.hid h
  refine (callsIn_wide (n := 6)).1 ?_
  refine callsIn_of_wp_marks Tryd.func103 rfl trivial ?_ rfl
  simp only [Tryd.ntmps103, List.size_toArray, List.length_cons, List.length_nil, Nat.reduceAdd, Nat.reduceSub, Array.replicate_succ, Array.replicate_zero, List.push_toArray, List.append_toArray, List.nil_append, List.cons_append]
  refine wpIn_wide.2 ?_
  go_wp2_with fail
  refine (hasRoots_yes f k w ht h (by omega)).mono ?_
  rintro e w' ⟨rfl, rfl⟩
  go_wp2
  obtain ⟨W0, hW0⟩ : ∃ W0, (w.alloc (.cells (madeCells #[.int .i64 0] n) 3)).alloc (.cells #[.slice (some ⟨w.heap.size, 0, none⟩) 0 n] 22) = W0 := ⟨_, rfl⟩
  have z0 : W0.heap.size = w.heap.size + 2 := by rw [← hW0]; simp
  have x0 : Boxed W0 (w.heap.size + 1) 22 (.slice (some ⟨w.heap.size, 0, none⟩) 0 n) := by
    rw [← hW0]
    have := Boxed.new (w.alloc (.cells (madeCells #[.int .i64 0] n) 3)) 22 (.slice (some ⟨w.heap.size, 0, none⟩) 0 n)
    rwa [World.size_alloc] at this
  have o0 : W0.ownsRow w.heap.size 3 1 (.slice (some ⟨w.heap.size, 0, none⟩) 0 n) 0 [] := by
    rw [← hW0]
    exact (World.ownsRow_made w (madeCells #[.int .i64 0] n) n (Nat.le_refl _) (by unfold maxLen; omega) (by rw [size_madeCells]; omega)).alloc _
  have b0 : Below w.heap.size w W0 := by rw [← hW0]; exact ((Below.refl _ _).alloc (Nat.le_refl _) _).alloc (by simp) _
  have t0 : Tab W0 := ht.below b0
  rw [hW0]
  clear hW0 hmk
  refine wp_region_still_tail 6 (by kernel_rfl) (by kernel_rfl) ?_
  simp only [List.take_succ_cons, List.take_zero, List.drop_succ_cons, List.drop_zero]
  still_step
  still_step
  still_step
  still_call ((rootk_c f k W0.drew (t0.keep fun _ => rfl) HR.out).mono fun _ _ h => ⟨h.1, h.2.symm⟩)
  still_step
  still_step
  refine wpStill_nil ?_
  change wpList _ _ _ _ _ W0.drew
  obtain ⟨W1, hW1⟩ : ∃ W1, W0.drew = W1 := ⟨_, rfl⟩
  have z1 : W1.heap.size = w.heap.size + 2 := by rw [← hW1]; exact z0
  have x1 : Boxed W1 (w.heap.size + 1) 22 (.slice (some ⟨w.heap.size, 0, none⟩) 0 n) := by rw [← hW1]; exact x0
  have o1 : W1.ownsRow w.heap.size 3 1 (.slice (some ⟨w.heap.size, 0, none⟩) 0 n) 0 [] := by rw [← hW1]; exact o0
  have b1 : Below w.heap.size w W1 := by rw [← hW1]; exact ⟨b0.os, b0.tape, b0.output, b0.size, b0.block⟩
  have t1 : Tab W1 := ht.below b1
  rw [hW1]
  clear hW1 z0 x0 o0 b0 t0
  go_wp2_with fail
  refine (powers_c f (mRoot f k) (wrap64 (2 ^ k)) W1).mono ?_
  rintro e w' ⟨rfl, rfl⟩
  go_wp2
  obtain ⟨WL, hWL⟩ : ∃ WL, ((W1.alloc (.cells #[.int .i64 f] 52)).alloc (.cells #[.int .i64 (mRoot f k)] 3)).alloc (.cells #[.int .i64 (wrap64 (2 ^ k))] 3) = WL := ⟨_, rfl⟩
  have zL : WL.heap.size = w.heap.size + 5 := by rw [← hWL]; simp; omega
  have xL : Boxed WL (w.heap.size + 1) 22 (.slice (some ⟨w.heap.size, 0, none⟩) 0 n) := by rw [← hWL]; exact ((x1.alloc _).alloc _).alloc _
  have oL : WL.ownsRow w.heap.size 3 1 (.slice (some ⟨w.heap.size, 0, none⟩) 0 n) 0 [] := by rw [← hWL]; exact ((o1.alloc _).alloc _).alloc _
  have nL : Boxed WL (w.heap.size + 2) 52 (.int .i64 f) := by
    rw [← hWL, ← z1]; exact ((Boxed.new W1 _ _).alloc _).alloc _
  have aL : Boxed WL (w.heap.size + 2 + 1) 3 (.int .i64 (mRoot f k)) := by
    have := (Boxed.new (W1.alloc (.cells #[.int .i64 f] 52)) 3 (.int .i64 (mRoot f k))).alloc (.cells #[.int .i64 (wrap64 (2 ^ k))] 3)
    rw [World.size_alloc, z1] at this
    rw [← hWL]; exact this
  have cL : Boxed WL (w.heap.size + 2 + 2) 3 (.int .i64 n) := by
    have := Boxed.new ((W1.alloc (.cells #[.int .i64 f] 52)).alloc (.cells #[.int .i64 (mRoot f k)] 3)) 3 (.int .i64 (wrap64 (2 ^ k)))
    rw [World.size_alloc, World.size_alloc, z1] at this
    rw [← hWL, ← HN.out]; exact this
  have bL : Below w.heap.size w WL := by rw [← hWL]; exact ((b1.alloc (by omega) _).alloc (by simp; omega) _).alloc (by simp; omega) _
  have tL : Tab WL := ht.below bL
  rw [hWL]
  clear hWL z1 x1 o1 b1 t1
  have rb := root_bd HR.out
  have f0 := HR.out.1.1
  have f8 := HR.out.1.2
  have w0 : 0 < w.heap.size := (cell_some (ht 0 (by omega) (by omega)).1).2
  obtain ⟨i0, hi, hz0, hz1, hz2⟩ := info_parts info3
  refine (wpIn_wide (n := 6)).1 ?_
  refine wpIn_rangeFunc_ownG (F := Fence.wide) (n := 6) rfl (by omega) (gf := 110) (lb := #[.pointer (some ⟨w.heap.size + 2 + 2, 0, none⟩), .pointer (some ⟨w.heap.size + 2, 0, none⟩), .pointer (some ⟨w.heap.size + 2 + 1, 0, none⟩)]) rfl trivial (enters_of Tryd.func110 (by kernel_rfl) rfl)
    (powers_stops 5 (by omega) (w.heap.size + 2 + 2) (w.heap.size + 2) (w.heap.size + 2 + 1) w.heap.size f (mRoot f k) n f0 f8 (by omega) rb.2 (by omega) w0 WL (by omega) tL (by omega) (by omega) (by omega) cL.cell nL.cell aL.cell)
    (fun h k => ⟨h.1.trans k.1, k.2.1.trans h.2.1, k.2.2.trans h.2.2⟩) (fun W l o o' hl ho hc hw => keepsBoxes_b (by omega) W l o o' hl ho hc hw) (Below.refl _ _) (fun _ => rfl)
    (fun pre W => (∃ v, Boxed W (w.heap.size + 1) 22 v ∧ W.ownsRow w.heap.size 3 1 v pre.length (pre.map (Value.int .i64)) ∧ v = .slice (some ⟨w.heap.size, 0, none⟩) pre.length n) ∧ Below w.heap.size w W ∧ w.heap.size + 5 ≤ W.heap.size)
    (fun _ _ _ => False)
    (OwnFrom.and (Own.from (holdsRow_own w.heap.size (w.heap.size + 1) 22 3 1 (fun (pre : List Int) => pre.length) (fun (pre : List Int) => pre.map (Value.int .i64)) (fun (pre : List Int) v => v = .slice (some ⟨w.heap.size, 0, none⟩) pre.length n)) _) (OwnFrom.and (ownFrom_below (Nat.le_refl _) (by omega)) (fun s A B row hs hg hr => Nat.le_trans hs hg.size)))
    (fun _ _ _ _ _ hs _ _ => hs)
    ⟨⟨_, xL, oL, rfl⟩, bL, by omega⟩
    (fun x => { tmps := #[.int .i64 f, .int .i64 k, undef, undef, .slice none 0 0, .int .i64 f, .pointer (some ⟨w.heap.size + 1, 0, none⟩), .int .i64 x, .int .i64 f, .int .i64 k, .bool true, .bool false, .int .i64 f, .int .i64 k, .int .i64 (wrap64 (2 ^ k)), .slice (some ⟨w.heap.size, 0, none⟩) 0 n, .int .i64 f, .int .i64 f, .int .i64 k, .int .i64 (mRoot f k), .int .i64 k, .int .i64 (wrap64 (2 ^ k)), .func (.func 110) #[] #[.pointer (some ⟨w.heap.size + 2 + 2, 0, none⟩), .pointer (some ⟨w.heap.size + 2, 0, none⟩), .pointer (some ⟨w.heap.size + 2 + 1, 0, none⟩)], .int .i64 x, undef, undef, undef, undef, undef], defers := [] }) ?assign ?body ?done ?stop
  case assign =>
    intro l x W K hK
    gi_wp2
    exact hK
  case body =>
    rintro l pre x W ⟨⟨v, hv, hrow, rfl⟩, hB, hz⟩ hlt
    have hc := hv.cell
    gi_wp2_with (gi_at_builtin; refine wpListIn_append_fits _ rfl _ _ 22 rfl w.heap.size 3 i0 1 Tryd.underlying22 hi hz1 w.heap.size pre.length n _ rfl (hrow.alloc _) ⟨W.heap.size, 0, none⟩ 1 1 [.int .i64 x] rfl rfl (cell_one_new _ _ _) (by simp [Value.oneCell']) (by omega) ?_; intro w1 hown' hgrow; obtain ⟨hv1, hv2, hr2, hk2, hb2⟩ := hv.appended (by decide) hrow hB.size (by omega) hown' hgrow; have hc1 := hv1.cell; have hf1 := hv1.frozen)
    exact ⟨hk2.from _, ⟨hb2, block_same hgrow (by omega) (by omega) (by omega), block_same hgrow (by omega) (by omega) (by omega)⟩, ⟨_, hv2, by simpa using hr2, by simp⟩, hB.trans hb2, Nat.le_trans hz hk2.size⟩
  case done =>
    rintro D ys W hD rfl ⟨⟨v, hv, hrow, rfl⟩, hB, hz⟩ hK
    rw [pws_len] at hv hrow
    rw [pws_roots] at hrow
    have hc := hv.cell
    go_wp2
    refine ⟨by simp, .inl ⟨_, _, rfl, run_takeDeferred hK, ?_⟩⟩
    exact ⟨_, results_tmp rfl _ _ _, rfl, own_of_owns (ownsRow_putObj hrow _ hK rfl), hB.trans (belowK_b (w := w) (Nat.le_refl _) W D _ _ (by omega) hK rfl rfl)⟩
  case stop =>
    rintro D c pre W _ _ h _
    exact h.elim
end Go.Proofs.YtnipffmookkkdabDoor
