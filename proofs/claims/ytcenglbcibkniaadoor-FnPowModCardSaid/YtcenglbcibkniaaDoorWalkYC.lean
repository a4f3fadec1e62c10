/-
  Lists that grow, of the specification: copy, cut, sums and multiples of polynomials, the derivative.
-/
import Derived.Test.YtcenglbcibkniaaDoorWalkYB
namespace Go.Proofs.YtcenglbcibkniaaDoor
open Go.RowKit
theorem src_of_owns2 {w' : World} {base : Nat} {v : Value} {n : Nat} {F : Nat → Int} (h : w'.ownsRow base 3 1 v n (xsF F n)) : ∃ a cap, v = .slice a n cap ∧ n ≤ cap ∧ Src w' a n F := by
  obtain ⟨a, cap, hv, hs⟩ := src_of_owns h
  refine ⟨a, cap, hv, ?_, hs⟩
  obtain ⟨hl, h⟩ := h
  rcases h with ⟨h1, h2⟩ | ⟨g, cap', cur, h1, hg, hh, hc, hm, hs, ht⟩
  · rw [hv] at h1; cases h1; exact Nat.le_refl _
  · rw [hv] at h1; cases h1; exact hc
/-- A list that the call made, in a row of its own that may have room. -/
def OwnsL (w : World) (l : List Int) (e : Ending) (w' : World) : Prop := ∃ v, e = .returned v ∧ w'.ownsRow w.heap.size 3 1 v l.length (xsF (lf l) l.length) ∧ Below w.heap.size w w'
theorem OwnsL.list {w w' : World} {l : List Int} {e : Ending} (h : OwnsL w l e w') : ListL w l e w' := by
  obtain ⟨v, rfl, ho, hb⟩ := h
  obtain ⟨a, cap, rfl, _, hs⟩ := src_of_owns2 ho
  exact ⟨a, cap, rfl, hs, hb⟩
theorem owns_to {w w' : World} {n : Nat} {F : Nat → Int} {l : List Int} {v : Value} (h : w'.ownsRow w.heap.size 3 1 v n (xsF F n)) (hn : n = l.length) (e : ∀ j, j < n → F j = lf l j) (hb : Below w.heap.size w w') : OwnsL w l (.returned v) w' := by
  subst hn
  exact ⟨v, rfl, by rw [← xsF_congr e]; exact h, hb⟩
set_option maxHeartbeats 1600000 in
theorem copy_some (b off n cap : Nat) (F : Nat → Int) (w : World) (hn : n ≤ 1048576) (hlt : b < w.heap.size) (hc : ∀ j, j < n → w.cell? ⟨b, off + j, none⟩ = some (.int .i64 (F j))) :
    Calls Tryd.prog 37 #[.slice (some ⟨b, off, none⟩) n cap] w fun e w' => ∃ v, e = .returned v ∧ w'.ownsRow w.heap.size 3 1 v n (xsF F n) ∧ Below w.heap.size w w' := by
  have HC := Lib.hid hc
  clear hc
  obtain ⟨i0, hi, hz0, hz1, hz2⟩ := info_parts info3
  have HI := Lib.hid hi
  have HZ0 := Lib.hid hz0
  have HZ1 := Lib.hid hz1
  have HZ2 := Lib.hid hz2
  clear hi hz0 hz1 hz2
  go_enter Tryd.func37, Tryd.ntmps37
  go_wp2_with fail
  go_loopw [3, 4] (fun v i wr => ∃ k : Nat, i = .int .i64 k ∧ k ≤ n ∧ wr.ownsRow w.heap.size 3 1 v k (xsF F k) ∧ Below w.heap.size w wr) (fun _ i _ => n - (intOf i).toNat)
  case atStart => exact ⟨0, rfl, Nat.zero_le _, own_empty w F, (Below.refl _ _).alloc (Nat.le_refl _) _⟩
  case round =>
    obtain ⟨k, rfl, hk, hown, hnx⟩ := hrel
    by_cases h1 : k < n
    · have hc2 : wr.cell? ⟨b, off + k, none⟩ = some (.int .i64 (F k)) := (hnx.cell (p := ⟨b, off + k, none⟩) hlt).trans (HC.out k h1)
      have hs := hnx.size
      go_wp2_with (at_builtin; refine wpList_append_own _ rfl _ _ 24 rfl w.heap.size 3 i0 (.int .i64 0) 1 8 Tryd.underlying24 HI.out HZ0.out HZ1.out HZ2.out rfl (by decide) _ _ _ rfl (hown.alloc _) ⟨wr.heap.size, 0, none⟩ 1 1 [.int .i64 (F k)] rfl rfl ?c1 ?c2 ?c3 ?c4 ?c5 ?_)
      case c1 => exact cell_one_new _ _ _
      case c2 => intro u hu; simp at hu; subst hu; rfl
      case c3 => unfold maxLen; omega
      case c4 => omega
      case c5 => simp; omega
      intro v' w1 hown' hgrow _
      have hbel : Below w.heap.size w w1 := (hnx.alloc hs _).grown hgrow (by simp; omega) (own_ge hown)
      rw [xsF_succ] at hown'
      clear hgrow hown hc2
      go_wp2
      go_roundw
      case rel => exact ⟨k + 1, by go_num, by omega, hown', hbel⟩
      case measure => simp [intOf]; omega
    · have hd : decide (k < n) = false := by simpa using h1
      obtain rfl : k = n := by omega
      have HO := Lib.hid hown
      clear hown
      go_wp2
      go_ret
      exact ⟨_, rfl, HO.out, hnx⟩
theorem copy_none (a : Option Addr) (cap : Nat) (F : Nat → Int) (w : World) : Calls Tryd.prog 37 #[.slice a 0 cap] w fun e w' => ∃ v, e = .returned v ∧ w'.ownsRow w.heap.size 3 1 v 0 (xsF F 0) ∧ Below w.heap.size w w' := by
  go_enter Tryd.func37, Tryd.ntmps37
  go_wp2
  refine wp_loop_rounds 1 ?_
  rw [rounds_succ]
  go_wp2
  go_ret
  exact ⟨_, rfl, own_empty w F, (Below.refl _ _).alloc (Nat.le_refl _) _⟩
theorem copy_c (a : Option Addr) (n cap : Nat) (F : Nat → Int) (w : World) (hn : n ≤ 1048576) (hs : Src w a n F) : Calls Tryd.prog 37 #[.slice a n cap] w fun e w' => ∃ v, e = .returned v ∧ w'.ownsRow w.heap.size 3 1 v n (xsF F n) ∧ Below w.heap.size w w' := by
  rcases hs with rfl | ⟨b, off, rfl, hlt, hc⟩
  · exact copy_none a cap F w
  · exact copy_some b off n cap F w hn hlt hc
set_option maxRecDepth 100000 in
set_option maxHeartbeats 1600000 in
theorem cut_some (b off n cap : Nat) (F : Nat → Int) (w : World) (hn : n ≤ 1048576) (hcap : n ≤ cap) (hlt : b < w.heap.size) (hc : ∀ j, j < n → w.cell? ⟨b, off + j, none⟩ = some (.int .i64 (F j))) :
    Calls Tryd.prog 54 #[.slice (some ⟨b, off, none⟩) n cap] w (OwnsL w (cutL n F)) := by
  have HC := Lib.hid hc
  clear hc
  have HT : Hid (∀ k : Nat, k ≤ n → cutN F n = k → ∀ (v : Value) (w2 : World), w2.ownsRow w.heap.size 3 1 v k (xsF F k) → Below w.heap.size w w2 → OwnsL w (cutL n F) (.returned v) w2) := Lib.hid (fun k hk e v w2 ho hb => by
    subst e
    exact owns_to ho (cutL_len n F).symm (fun j hj => cutL_at hj) hb)
  go_enter Tryd.func54, Tryd.ntmps54
  go_wp2_with fail
  go_loop [3] (fun i => ∃ k : Nat, i = .int .i64 k ∧ k ≤ n ∧ Hid (cutN F n = cutN F k)) (fun i => (intOf i).toNat)
  case atStart => exact ⟨n, rfl, Nat.le_refl _, Lib.hid rfl⟩
  case round =>
    obtain ⟨k, rfl, hk, HK⟩ := hrel
    have hkc : k ≤ cap := by omega
    by_cases h1 : 0 < k
    · obtain ⟨m, rfl⟩ : ∃ m, k = m + 1 := ⟨k - 1, by omega⟩
      have c1 : w.cell? ⟨b, off + m, none⟩ = some (.int .i64 (F m)) := HC.out m (by omega)
      by_cases h2 : F m = 0
      · have HK2 : Hid (cutN F n = cutN F m) := Lib.hid (HK.out.trans (by rw [cutN, if_pos h2]))
        have e2 : (F m == 0) = true := by simp [h2]
        clear h2 HK
        go_wp2
        go_round
        case rel => exact ⟨m, by go_num, by omega, HK2⟩
        case measure => simp [intOf] <;> omega
      · have HK2 : Hid (cutN F n = m + 1) := Lib.hid (HK.out.trans (by rw [cutN, if_neg h2]))
        have e2 : (F m == 0) = false := by simp [h2]
        clear h2 HK
        go_wp2_with fail
        refine (copy_some b off (m + 1) cap F w (by omega) hlt (fun j hj => HC.out j (by omega))).mono ?_
        rintro e w2 ⟨v, rfl, ho, hb⟩
        have HO := Lib.hid ho
        clear ho
        go_wp2
        go_ret
        exact HT.out (m + 1) hk HK2.out _ w2 HO.out hb
    · obtain rfl : k = 0 := by omega
      have HK2 : Hid (cutN F n = 0) := Lib.hid (HK.out.trans rfl)
      clear HK h1
      go_wp2_with fail
      refine (copy_none (some ⟨b, off, none⟩) cap F w).mono ?_
      rintro e w2 ⟨v, rfl, ho, hb⟩
      have HO := Lib.hid ho
      clear ho
      go_wp2
      go_ret
      exact HT.out 0 (Nat.zero_le _) HK2.out _ w2 HO.out hb
theorem cut_none (a : Option Addr) (cap : Nat) (F : Nat → Int) (w : World) : Calls Tryd.prog 54 #[.slice a 0 cap] w (OwnsL w (cutL 0 F)) := by
  rcases a with _ | x
  · go_enter Tryd.func54, Tryd.ntmps54
    go_wp2
    refine wp_loop_rounds 1 ?_
    rw [rounds_succ]
    go_wp2_with fail
    refine (copy_none _ _ F w).mono ?_
    rintro e w2 ⟨v, rfl, ho, hb⟩
    have HO := Lib.hid ho
    clear ho
    go_wp2
    go_ret
    exact owns_to HO.out (cutL_len 0 F).symm (fun j hj => by omega) hb
  · go_enter Tryd.func54, Tryd.ntmps54
    go_wp2
    refine wp_loop_rounds 1 ?_
    rw [rounds_succ]
    go_wp2_with fail
    refine (copy_none _ _ F w).mono ?_
    rintro e w2 ⟨v, rfl, ho, hb⟩
    have HO := Lib.hid ho
    clear ho
    go_wp2
    go_ret
    exact owns_to HO.out (cutL_len 0 F).symm (fun j hj => by omega) hb
theorem cut_c (a : Option Addr) (n cap : Nat) (F : Nat → Int) (w : World) (hn : n ≤ 1048576) (hcap : n ≤ cap) (hs : Src w a n F) : Calls Tryd.prog 54 #[.slice a n cap] w (OwnsL w (cutL n F)) := by
  rcases hs with rfl | ⟨b, off, rfl, hlt, hc⟩
  · exact cut_none a cap F w
  · exact cut_some b off n cap F w hn hcap hlt hc
/-- The last step of a function that cuts the list which it has made. -/
theorem cut_own {base n : Nat} {F : Nat → Int} {v : Value} {w : World} (hn : n ≤ 1048576) (h : w.ownsRow base 3 1 v n (xsF F n)) : Calls Tryd.prog 54 #[v] w (OwnsL w (cutL n F)) := by
  obtain ⟨a, cap, rfl, hcap, hs⟩ := src_of_owns2 h
  exact cut_c a n cap F w hn hcap hs
theorem OwnsL.up {u w w' : World} {l : List Int} {e : Ending} (h : OwnsL w l e w') (hb : Below u.heap.size u w) (hs : u.heap.size ≤ w.heap.size) : OwnsL u l e w' := by
  obtain ⟨v, rfl, ho, h2⟩ := h
  refine ⟨v, rfl, ?_, below_up hb h2 hs⟩
  obtain ⟨hl, h⟩ := ho
  refine ⟨hl, ?_⟩
  rcases h with h | ⟨g, cap, cur, h1, hg, hr⟩
  · exact .inl h
  · exact .inr ⟨g, cap, cur, h1, Nat.le_trans hs hg, hr⟩
end Go.Proofs.YtcenglbcibkniaaDoor
