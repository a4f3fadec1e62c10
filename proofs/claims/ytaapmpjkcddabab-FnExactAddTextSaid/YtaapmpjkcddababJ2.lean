/-
  Texts of the proofs of this seat, joined (part 2).
-/
import Derived.Test.YtaapmpjkcddababJ1
namespace Go.Proofs.Ytaapmpjkcddabab
open Go.RowKit
def TxtP (w : World) (v : Int) (e : Ending) (w' : World) : Prop := e = .returned (.string (txtOf v)) ∧ Below w.heap.size w w' ∧ TxtOf v (txtOf v)
/-- The row of a sum: the first k places have both terms. -/
def smF5 (A B : Nat → Int) (k j : Nat) : Int := if j < k then A j + B j else A j
theorem sm_set5 {W : World} {g n k : Nat} {A B : Nat → Int} (h : Own W g n (smF5 A B k)) : Own (W.setCell ⟨g, k, none⟩ (.int .i64 (A k + B k))) g n (smF5 A B (k + 1)) := by
  refine (World.rowIs.set h k (.int .i64 (A k + B k))).congr fun j _ => ?_
  unfold smF5
  by_cases e : j = k
  · subst e; simp
  · by_cases h2 : j < k
    · simp [e, h2, show j < k + 1 by omega]
    · simp [e, h2, show ¬ j < k + 1 by omega]
set_option maxRecDepth 100000 in
set_option maxHeartbeats 1600000 in
theorem sumText_n {u v : Int} (a b : ByteArray) (n m N : Nat) (w : World) (ha : TxtOf u a) (hb : TxtOf v b) (sa : a.size ≤ 600) (sb : b.size ≤ 600) (hna : tmN a = n) (hnb : tmN b = m) (hN : max n m = N) (bx : Bool) (hd : decide ((n : Int) < m) = bx) :
    Calls Try.prog 11 #[.string a, .string b] w (TxtP w (u + v)) := by
  have la := tmL_len a
  have lb := tmL_len b
  rw [hna] at la
  rw [hnb] at lb
  have R1 : Hid (Calls Try.prog 13 #[.string a] w fun e w' => ∃ g, e = .returned (.slice (some ⟨g, 0, none⟩) n n) ∧ w.heap.size ≤ g ∧ Own w' g n (lf (tmL a)) ∧ Below w.heap.size w w') := Lib.hid ((termsOf_c a w ha (by omega)).mono fun e w' h => by
    obtain ⟨g, h1, h2, h3, h4⟩ := h
    rw [la] at h1 h3
    exact ⟨g, h1, h2, h3, h4⟩)
  have R2 : Hid (∀ W, Calls Try.prog 13 #[.string b] W fun e w' => ∃ g, e = .returned (.slice (some ⟨g, 0, none⟩) m m) ∧ W.heap.size ≤ g ∧ Own w' g m (lf (tmL b)) ∧ Below W.heap.size W w') := Lib.hid fun W => ((termsOf_c b W hb (by omega)).mono fun e w' h => by
    obtain ⟨g, h1, h2, h3, h4⟩ := h
    rw [lb] at h1 h3
    exact ⟨g, h1, h2, h3, h4⟩)
  have n1 : 0 < n := by have := ha.pos; rw [← hna]; unfold tmN; omega
  have n3 : n ≤ 100 := by rw [← hna]; unfold tmN; omega
  have n4 : m ≤ 100 := by rw [← hnb]; unfold tmN; omega
  have R3 : Hid (∀ (g : Nat) (x : Int) (W : World), Own W g n (lf (tmL a)) → x = N → Calls Try.prog 14 #[.slice (some ⟨g, 0, none⟩) n n, .int .i64 x] W fun e w' => ∃ g, e = .returned (.slice (some ⟨g, 0, none⟩) N N) ∧ W.heap.size ≤ g ∧ Own w' g N (lf (tmL a)) ∧ Below W.heap.size W w') := Lib.hid fun g x W ho hx => by
    have := padded_c (some ⟨g, 0, none⟩) (tmL a) n N W (by omega) (by omega) (by rw [la]; exact ho.src)
    rw [la] at this
    rw [hx]
    refine this.mono fun e w' h => ?_
    obtain ⟨g, h1, h2, h3, h4⟩ := h
    rw [padL_len] at h1 h3
    exact ⟨g, h1, h2, own_congr h3 rfl (fun j hj => lf_padL (tmL a) (by omega) j), h4⟩
  have HE : Hid (∀ j, smF5 (lf (tmL a)) (lf (tmL b)) m j = tmF (digF a) j + tmF (digF b) j) := Lib.hid fun j => by
    unfold smF5
    rw [lf_tmL, lf_tmL]
    by_cases h : j < m
    · rw [if_pos h]
    · rw [if_neg h, tmF_out (D := digF b) (n := b.size) (fun i hi => digF_out hi) (by rw [← hnb] at h; unfold tmN at h; omega), Int.add_zero]
  have R4 : Hid (∀ (g : Nat) (W : World), Own W g N (smF5 (lf (tmL a)) (lf (tmL b)) m) → Calls Try.prog 15 #[.slice (some ⟨g, 0, none⟩) N N] W (TxtP W (u + v))) := Lib.hid fun g W ho => by
    have hl : (smL a b).length = N := by unfold smL; rw [tab_len, hna, hnb, hN]
    have ho2 : Own W g (smL a b).length (lf (smL a b)) := own_congr ho hl.symm (fun j hj => by
      rw [HE.out]
      unfold smL
      rw [lf_tab, hna, hnb, hN, if_pos hj])
    have := numeral_c (some ⟨g, 0, none⟩) (smL a b) N W (by omega) (by omega) (sm_bd ha.dig9 hb.dig9) ho2.src
    rw [hl] at this
    refine this.mono fun e w' h => ?_
    have h2 := h.txt
    rw [← hl, nm_spread, nm_sum, ha.2, hb.2] at h2
    exact h2
  have HA : Hid (∀ j, 0 ≤ lf (tmL a) j ∧ lf (tmL a) j < 1000000) := Lib.hid fun j => by rw [lf_tmL]; exact tmF_bd ha.dig9 j
  have HB : Hid (∀ j, 0 ≤ lf (tmL b) j ∧ lf (tmL b) j < 1000000) := Lib.hid fun j => by rw [lf_tmL]; exact tmF_bd hb.dig9 j
  clear ha hb HE la lb hna hnb
  generalize lf (tmL a) = A at *
  generalize lf (tmL b) = B at *
  have hmN : m ≤ N := by omega
  have hn8 : N ≤ 100 := by omega
  cases bx
  all_goals
    simp only [decide_eq_true_eq, decide_eq_false_iff_not] at hd
  · have d0 : decide ((n : Int) < m) = false := decide_eq_false hd
    have HX : Hid ((n : Int) = N) := Lib.hid (by omega)
    go_enter Try.func11, Try.ntmps11
    go_wp2_with fail
    refine R1.out.mono ?_
    rintro e w1 ⟨g1, rfl, q1, o1, b1⟩
    go_wp2_with fail
    refine (R2.out _).mono ?_
    rintro e w2 ⟨g2, rfl, q2, o2, b2⟩
    have b3 := below_up b1 b2 b1.size
    have o3 := o1.keep b2
    clear o1 b1 b2
    go_wp2_with fail
    refine (R3.out g1 _ _ o3 HX.out).mono ?_
    rintro e w4 ⟨g4, rfl, q4, o4, b4⟩
    have b5 := below_up b3 b4 b3.size
    have o5 := o2.keep b4
    have q5 : w.heap.size ≤ g4 := by have := b3.size; omega
    have q6 : g2 ≠ g4 := by have := o2.lt; omega
    have HO : Hid (Own w4 g4 N (smF5 A B 0)) := Lib.hid (own_congr o4 rfl (fun j _ => by unfold smF5; rw [if_neg (by omega)]))
    clear o3 o2 b3 b4 o4
    go_wp2_with fail
    go_loopw [8, 9, 23] (fun _ _ i wr => ∃ k : Nat, i = .int .i64 k ∧ k ≤ m ∧ Own wr g4 N (smF5 A B k) ∧ Own wr g2 m B ∧ Below w.heap.size w wr) (fun _ _ i _ => m - (intOf i).toNat)
    case atStart => exact ⟨0, rfl, Nat.zero_le _, HO.out, o5, b5⟩
    case round =>
      clear HO o5 b5
      obtain ⟨k, rfl, hk, ho, ho2, hb⟩ := hrel
      by_cases h1 : k < m
      · have hd1 : decide ((k : Int) < m) = true := decide_eq_true (by omega)
        have hkN : (k : Int) < N := by omega
        have c1 := World.rowIs.cell ho (show k < N by omega)
        have c2 := World.rowIs.cell ho2 h1
        have f1 := World.rowIs.frozen ho k
        have HS := Lib.hid (sm_set5 ho)
        have HS2 := Lib.hid (own_other (k := k) (v := .int .i64 (A k + B k)) ho2 q6)
        have e1 : smF5 A B k k = A k := by unfold smF5; rw [if_neg (by omega)]
        rw [e1] at c1
        have xa := HA.out k
        have xb := HB.out k
        clear ho ho2 e1
        go_wp2
        go_roundw
        case rel => exact ⟨k + 1, by go_num, by omega, HS.out, HS2.out, hb.setCell (p := ⟨g4, k, none⟩) q5 _⟩
        case measure => simp [intOf]; omega
      · have hd1 : decide ((k : Int) < m) = false := decide_eq_false (by omega)
        obtain rfl : k = m := by omega
        have HO := Lib.hid ho
        clear ho ho2
        go_wp2_with fail
        refine (R4.out g4 _ HO.out).mono ?_
        rintro e w6 ⟨rfl, b6, hT⟩
        have HT := Lib.hid hT
        have b7 := below_up hb b6 hb.size
        clear b6 hT
        go_wp2
        go_ret
        exact ⟨rfl, b7, HT.out⟩
  · have d0 : decide ((n : Int) < m) = true := decide_eq_true hd
    have HX : Hid ((m : Int) = N) := Lib.hid (by omega)
    go_enter Try.func11, Try.ntmps11
    go_wp2_with fail
    refine R1.out.mono ?_
    rintro e w1 ⟨g1, rfl, q1, o1, b1⟩
    go_wp2_with fail
    refine (R2.out _).mono ?_
    rintro e w2 ⟨g2, rfl, q2, o2, b2⟩
    have b3 := below_up b1 b2 b1.size
    have o3 := o1.keep b2
    clear o1 b1 b2
    go_wp2_with fail
    refine (R3.out g1 _ _ o3 HX.out).mono ?_
    rintro e w4 ⟨g4, rfl, q4, o4, b4⟩
    have b5 := below_up b3 b4 b3.size
    have o5 := o2.keep b4
    have q5 : w.heap.size ≤ g4 := by have := b3.size; omega
    have q6 : g2 ≠ g4 := by have := o2.lt; omega
    have HO : Hid (Own w4 g4 N (smF5 A B 0)) := Lib.hid (own_congr o4 rfl (fun j _ => by unfold smF5; rw [if_neg (by omega)]))
    clear o3 o2 b3 b4 o4
    go_wp2_with fail
    go_loopw [8, 9, 23] (fun _ _ i wr => ∃ k : Nat, i = .int .i64 k ∧ k ≤ m ∧ Own wr g4 N (smF5 A B k) ∧ Own wr g2 m B ∧ Below w.heap.size w wr) (fun _ _ i _ => m - (intOf i).toNat)
    case atStart => exact ⟨0, rfl, Nat.zero_le _, HO.out, o5, b5⟩
    case round =>
      clear HO o5 b5
      obtain ⟨k, rfl, hk, ho, ho2, hb⟩ := hrel
      by_cases h1 : k < m
      · have hd1 : decide ((k : Int) < m) = true := decide_eq_true (by omega)
        have hkN : (k : Int) < N := by omega
        have c1 := World.rowIs.cell ho (show k < N by omega)
        have c2 := World.rowIs.cell ho2 h1
        have f1 := World.rowIs.frozen ho k
        have HS := Lib.hid (sm_set5 ho)
        have HS2 := Lib.hid (own_other (k := k) (v := .int .i64 (A k + B k)) ho2 q6)
        have e1 : smF5 A B k k = A k := by unfold smF5; rw [if_neg (by omega)]
        rw [e1] at c1
        have xa := HA.out k
        have xb := HB.out k
        clear ho ho2 e1
        go_wp2
        go_roundw
        case rel => exact ⟨k + 1, by go_num, by omega, HS.out, HS2.out, hb.setCell (p := ⟨g4, k, none⟩) q5 _⟩
        case measure => simp [intOf]; omega
      · have hd1 : decide ((k : Int) < m) = false := decide_eq_false (by omega)
        obtain rfl : k = m := by omega
        have HO := Lib.hid ho
        clear ho ho2
        go_wp2_with fail
        refine (R4.out g4 _ HO.out).mono ?_
        rintro e w6 ⟨rfl, b6, hT⟩
        have HT := Lib.hid hT
        have b7 := below_up hb b6 hb.size
        clear b6 hT
        go_wp2
        go_ret
        exact ⟨rfl, b7, HT.out⟩
theorem sumText_c {u v : Int} (a b : ByteArray) (w : World) (ha : TxtOf u a) (hb : TxtOf v b) (sa : a.size ≤ 600) (sb : b.size ≤ 600) :
    Calls Try.prog 11 #[.string a, .string b] w (TxtP w (u + v)) := sumText_n a b _ _ _ w ha hb sa sb rfl rfl rfl _ rfl
theorem iAddText (a b : ByteArray) (w : World) (hna : a.size ≤ 1048576) (hnb : b.size ≤ 1048576) :
    Calls Try.prog 5 #[.string a, .string b] w (TextB w (mAddText0 a b) (mAddText1 a b)) := by
  have G1 := iDigitsOk a w hna
  have G2 := iDigitsOk b w hnb
  by_cases ha : DigOk a
  · rw [dig_iff.2 ha] at G1
    by_cases hb : DigOk b
    · rw [dig_iff.2 hb] at G2
      rw [show mAddText0 a b = txtOf (numV a + numV b) by unfold mAddText0; rw [if_pos ⟨ha, hb⟩], show mAddText1 a b = true by unfold mAddText1; simp [ha, hb]]
      have G3 := sumText_c a b w ha.txt hb.txt (by have := ha.1; omega) (by have := hb.1; omega)
      clear ha hb
      go_enter Try.func5, Try.ntmps5
      go_wp2_with fail
      refine G1.mono ?_
      rintro e w' ⟨rfl, rfl⟩
      go_wp2_with fail
      refine G2.mono ?_
      rintro e w' ⟨rfl, rfl⟩
      go_wp2_with fail
      refine G3.mono ?_
      rintro e w1 ⟨rfl, b1, _⟩
      go_wp2
      go_ret2
      exact ⟨rfl, b1⟩
    · rw [dig_not.2 hb] at G2
      rw [show mAddText0 a b = ⟨#[]⟩ by unfold mAddText0; rw [if_neg fun h => hb h.2], show mAddText1 a b = false by unfold mAddText1; simp [hb]]
      clear ha hb
      go_enter Try.func5, Try.ntmps5
      go_wp2_with fail
      refine G1.mono ?_
      rintro e w' ⟨rfl, rfl⟩
      go_wp2_with fail
      refine G2.mono ?_
      rintro e w' ⟨rfl, rfl⟩
      go_wp2
      go_ret2
      exact ⟨rfl, Below.refl _ _⟩
  · rw [dig_not.2 ha] at G1
    rw [show mAddText0 a b = ⟨#[]⟩ by unfold mAddText0; rw [if_neg fun h => ha h.1], show mAddText1 a b = false by unfold mAddText1; simp [ha]]
    clear ha G2
    go_enter Try.func5, Try.ntmps5
    go_wp2_with fail
    refine G1.mono ?_
    rintro e w' ⟨rfl, rfl⟩
    go_wp2
    go_ret2
    exact ⟨rfl, Below.refl _ _⟩
end Go.Proofs.Ytaapmpjkcddabab
