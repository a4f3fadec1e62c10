/-
  Texts of the proofs of this seat, joined (part 4).
-/
import Derived.Test.YtmgggdibbhameabDoorJ3
namespace Go.Proofs.YtmgggdibbhameabDoor
open Go.RowKit
set_option maxRecDepth 100000 in
set_option maxHeartbeats 6400000 in
theorem logExp_walk (iSeriesLog : ∀ (f : Int) (a : Option Addr) (l : List Int) (cap : Nat) (w : World), l.length ≤ 1048576 → SrcC w a l.length cap (lf l) → Tab w → Calls Tryd.prog 26 #[.int .i64 f, .slice a l.length cap] w (OwnLB w (mSeriesLog0 f l) (mSeriesLog1 f l))) (iSeriesExp : ∀ (f : Int) (a : Option Addr) (l : List Int) (cap : Nat) (w : World), l.length ≤ 1048576 → SrcC w a l.length cap (lf l) → Tab w → Calls Tryd.prog 28 #[.int .i64 f, .slice a l.length cap] w (OwnLB w (mSeriesExp0 f l) (mSeriesExp1 f l))) (a0 : Option Addr) (len0 cap0 : Nat) (w : World) (hl2 : len0 ≤ 1048576) (hcode : Code w a0 len0) (ht : Tab w) : Calls Tryd.prog 6 #[.slice a0 len0 cap0] w fun e w' => e = .returned (.bool true) ∧ Below w.heap.size w w' := by
  have IL := Lib.hid iSeriesLog
  have IE := Lib.hid iSeriesExp
  have HT := Lib.hid ht
  have HCO := Lib.hid hcode
  clear iSeriesLog iSeriesExp ht hcode
  go_enter Tryd.func6, Tryd.ntmps6
  go_wp2_with fail
  refine (big_no a0 len0 cap0 w hl2).mono ?_
  rintro e w' ⟨rfl, rfl⟩
  go_wp2_with fail
  refine (drawSeriesLog_c a0 len0 cap0 w HCO.out).mono ?_
  rintro e w1 ⟨f, a, l, cap, rfl, n1, s1, b1⟩
  have HA_1 := Lib.hid s1.src
  clear s1
  go_wp2_with fail
  refine (alt_c a0 len0 cap0 5 w1 (by omega) (by omega) hl2 (HCO.out.keep b1)).mono ?_
  rintro e w2 ⟨a9, len9, cap9, rfl, b2, hc9⟩
  have c2 := below_step b1 b2
  have HA_2 := Lib.hid (HA_1.out.keep b2)
  clear HA_1 b1 b2
  go_wp2_with fail
  refine (drawSeriesExp_c a9 len9 cap9 w2 hc9).mono ?_
  rintro e w3 ⟨f2, a2, m, cap2, rfl, n2, s3, b3⟩
  have c3 := below_step c2 b3
  have HA_3 := Lib.hid (HA_2.out.keep b3)
  have HB_3 := Lib.hid s3.src
  clear s3 b3 hc9 c2 HA_2
  by_cases k1 : LogOk f l
  · have RSA := sSeriesLog f a l cap w3 (by omega) HA_3.out
    rw [show mSeriesLog0 f l = logL f l by unfold mSeriesLog0; rw [if_pos k1], show mSeriesLog1 f l = true by unfold mSeriesLog1; simp [k1]] at RSA
    have HRA := Lib.hid RSA
    have QA := exp_log k1
    have HXA1 : Hid (∀ a c w, SrcC w a l.length c (lf l) → Tab w → Calls Tryd.prog 26 #[.int .i64 f, .slice a l.length c] w (OwnLB w (logL f l) true)) := Lib.hid fun a c w h1 h2 => by
      have := IL.out f a l c w (by omega) h1 h2
      rwa [show mSeriesLog0 f l = logL f l by unfold mSeriesLog0; rw [if_pos k1], show mSeriesLog1 f l = true by unfold mSeriesLog1; simp [k1]] at this
    have HXA2 : Hid (∀ a c w, SrcC w a (logL f l).length c (lf (logL f l)) → Tab w → Calls Tryd.prog 28 #[.int .i64 f, .slice a (logL f l).length c] w (OwnLB w l true)) := Lib.hid fun a c w h1 h2 => by
      have := IE.out f a (logL f l) c w (by have := QA.1.1.1.2.1; omega) h1 h2
      rwa [show mSeriesExp0 f (logL f l) = l by unfold mSeriesExp0; rw [if_pos QA.1]; exact QA.2, show mSeriesExp1 f (logL f l) = true by unfold mSeriesExp1; simp [QA.1]] at this
    clear RSA QA k1
    generalize logL f l = XA at *
    go_wp2_with fail
    refine (HRA.out).mono ?_
    rintro e w4 ⟨_, _, rfl, _, b4⟩
    have c4 := below_step c3 b4
    have HA_4 := Lib.hid (HA_3.out.keep b4)
    have HB_4 := Lib.hid (HB_3.out.keep b4)
    clear HA_3 HB_3 b4 c3
    go_wp2_with fail
    refine (cp_lc a l cap w4 (by omega) HA_4.out).mono ?_
    rintro e w5 ⟨pA, pcA, rfl, spA, b5⟩
    have c5 := below_step c4 b5
    have HA_5 := Lib.hid (HA_4.out.keep b5)
    have HB_5 := Lib.hid (HB_4.out.keep b5)
    clear HA_4 HB_4 b5 c4
    have HPA_5 := Lib.hid spA
    clear spA
    go_wp2_with fail
    refine (HXA1.out _ _ w5 HPA_5.out (HT.out.below c5)).mono ?_
    rintro e w6 ⟨qA, qcA, rfl, sqA, b6⟩
    have c6 := below_step c5 b6
    have HA_6 := Lib.hid (HA_5.out.keep b6)
    have HB_6 := Lib.hid (HB_5.out.keep b6)
    have HPA_6 := Lib.hid (HPA_5.out.keep b6)
    clear HA_5 HB_5 HPA_5 b6 c5
    have HQA_6 := Lib.hid sqA.srcC
    clear sqA
    go_wp2_with fail
    refine (HXA2.out _ _ w6 HQA_6.out (HT.out.below c6)).mono ?_
    rintro e w7 ⟨rA, rcA, rfl, srA, b7⟩
    have c7 := below_step c6 b7
    have HA_7 := Lib.hid (HA_6.out.keep b7)
    have HB_7 := Lib.hid (HB_6.out.keep b7)
    have HPA_7 := Lib.hid (HPA_6.out.keep b7)
    have HQA_7 := Lib.hid (HQA_6.out.keep b7)
    clear HA_6 HB_6 HPA_6 HQA_6 b7 c6
    have HWA_7 := Lib.hid srA.src
    clear srA
    go_wp2_with fail
    refine (sameZ _ _ l _ _ w7 (by omega) HWA_7.out HA_7.out).mono ?_
    rintro e w8 ⟨rfl, b8⟩
    have c8 := below_step c7 b8
    have HA_8 := Lib.hid (HA_7.out.keep b8)
    have HB_8 := Lib.hid (HB_7.out.keep b8)
    have HPA_8 := Lib.hid (HPA_7.out.keep b8)
    have HQA_8 := Lib.hid (HQA_7.out.keep b8)
    have HWA_8 := Lib.hid (HWA_7.out.keep b8)
    clear HA_7 HB_7 HPA_7 HQA_7 HWA_7 b8 c7
    clear HPA_8 HQA_8 HWA_8
    clear HA_8
    go_wp2_with fail
    refine (alt_c a0 len0 cap0 5 w8 (by omega) (by omega) hl2 (HCO.out.keep c8)).mono ?_
    rintro e w9 ⟨a8, len8, cap8, rfl, b9, hc8⟩
    have c9 := below_step c8 b9
    have HB_9 := Lib.hid (HB_8.out.keep b9)
    clear b9 c8 HB_8
    go_wp2_with fail
    refine (drawSeriesExp_c a8 len8 cap8 w9 hc8).mono ?_
    rintro e w10 ⟨g, a7, m7, cap7, rfl, n7, s7, b10⟩
    have c10 := below_step c9 b10
    have HB_10 := Lib.hid (HB_9.out.keep b10)
    clear b10 c9 HB_9 s7 hc8
    by_cases k2 : ExpOk g m
    · have RSB := sSeriesExp g a2 m cap2 w10 (by omega) HB_10.out
      rw [show mSeriesExp0 g m = expL g m by unfold mSeriesExp0; rw [if_pos k2], show mSeriesExp1 g m = true by unfold mSeriesExp1; simp [k2]] at RSB
      have HRB := Lib.hid RSB
      have QB := log_exp k2
      have HXB1 : Hid (∀ a c w, SrcC w a m.length c (lf m) → Tab w → Calls Tryd.prog 28 #[.int .i64 g, .slice a m.length c] w (OwnLB w (expL g m) true)) := Lib.hid fun a c w h1 h2 => by
        have := IE.out g a m c w (by omega) h1 h2
        rwa [show mSeriesExp0 g m = expL g m by unfold mSeriesExp0; rw [if_pos k2], show mSeriesExp1 g m = true by unfold mSeriesExp1; simp [k2]] at this
      have HXB2 : Hid (∀ a c w, SrcC w a (expL g m).length c (lf (expL g m)) → Tab w → Calls Tryd.prog 26 #[.int .i64 g, .slice a (expL g m).length c] w (OwnLB w m true)) := Lib.hid fun a c w h1 h2 => by
        have := IL.out g a (expL g m) c w (by have := QB.1.1.1.2.1; omega) h1 h2
        rwa [show mSeriesLog0 g (expL g m) = m by unfold mSeriesLog0; rw [if_pos QB.1]; exact QB.2, show mSeriesLog1 g (expL g m) = true by unfold mSeriesLog1; simp [QB.1]] at this
      clear RSB QB k2
      generalize expL g m = XB at *
      go_wp2_with fail
      refine (HRB.out).mono ?_
      rintro e w11 ⟨_, _, rfl, _, b11⟩
      have c11 := below_step c10 b11
      have HB_11 := Lib.hid (HB_10.out.keep b11)
      clear HB_10 b11 c10
      go_wp2_with fail
      refine (cp_lc a2 m cap2 w11 (by omega) HB_11.out).mono ?_
      rintro e w12 ⟨pB, pcB, rfl, spB, b12⟩
      have c12 := below_step c11 b12
      have HB_12 := Lib.hid (HB_11.out.keep b12)
      clear HB_11 b12 c11
      have HPB_12 := Lib.hid spB
      clear spB
      go_wp2_with fail
      refine (HXB1.out _ _ w12 HPB_12.out (HT.out.below c12)).mono ?_
      rintro e w13 ⟨qB, qcB, rfl, sqB, b13⟩
      have c13 := below_step c12 b13
      have HB_13 := Lib.hid (HB_12.out.keep b13)
      have HPB_13 := Lib.hid (HPB_12.out.keep b13)
      clear HB_12 HPB_12 b13 c12
      have HQB_13 := Lib.hid sqB.srcC
      clear sqB
      go_wp2_with fail
      refine (HXB2.out _ _ w13 HQB_13.out (HT.out.below c13)).mono ?_
      rintro e w14 ⟨rB, rcB, rfl, srB, b14⟩
      have c14 := below_step c13 b14
      have HB_14 := Lib.hid (HB_13.out.keep b14)
      have HPB_14 := Lib.hid (HPB_13.out.keep b14)
      have HQB_14 := Lib.hid (HQB_13.out.keep b14)
      clear HB_13 HPB_13 HQB_13 b14 c13
      have HWB_14 := Lib.hid srB.src
      clear srB
      go_wp2_with fail
      refine (sameZ _ _ m _ _ w14 (by omega) HWB_14.out HB_14.out).mono ?_
      rintro e w15 ⟨rfl, b15⟩
      have c15 := below_step c14 b15
      have HB_15 := Lib.hid (HB_14.out.keep b15)
      have HPB_15 := Lib.hid (HPB_14.out.keep b15)
      have HQB_15 := Lib.hid (HQB_14.out.keep b15)
      have HWB_15 := Lib.hid (HWB_14.out.keep b15)
      clear HB_14 HPB_14 HQB_14 HWB_14 b15 c14
      clear HPB_15 HQB_15 HWB_15
      go_wp2
      go_ret
      exact ⟨rfl, c15⟩
    · have RSB := sSeriesExp g a2 m cap2 w10 (by omega) HB_10.out
      rw [show mSeriesExp0 g m = [] by unfold mSeriesExp0; rw [if_neg k2], show mSeriesExp1 g m = false by unfold mSeriesExp1; simp [k2]] at RSB
      have HRB := Lib.hid RSB
      clear RSB k2
      go_wp2_with fail
      refine HRB.out.mono ?_
      rintro e w11 ⟨_, _, rfl, _, b11⟩
      have c11 := below_step c10 b11
      clear b11 c10 HB_10
      go_wp2
      go_ret
      exact ⟨rfl, c11⟩
  · have RSA := sSeriesLog f a l cap w3 (by omega) HA_3.out
    rw [show mSeriesLog0 f l = [] by unfold mSeriesLog0; rw [if_neg k1], show mSeriesLog1 f l = false by unfold mSeriesLog1; simp [k1]] at RSA
    have HRA := Lib.hid RSA
    clear RSA k1
    go_wp2_with fail
    refine HRA.out.mono ?_
    rintro e w4 ⟨_, _, rfl, _, b4⟩
    have c4 := below_step c3 b4
    have HB_4 := Lib.hid (HB_3.out.keep b4)
    clear b4 c3 HB_3 HA_3 HRA
    go_wp2_with fail
    refine (alt_c a0 len0 cap0 5 w4 (by omega) (by omega) hl2 (HCO.out.keep c4)).mono ?_
    rintro e w5 ⟨a8, len8, cap8, rfl, b5, hc8⟩
    have c5 := below_step c4 b5
    have HB_5 := Lib.hid (HB_4.out.keep b5)
    clear b5 c4 HB_4
    go_wp2_with fail
    refine (drawSeriesExp_c a8 len8 cap8 w5 hc8).mono ?_
    rintro e w6 ⟨g, a7, m7, cap7, rfl, n7, s7, b6⟩
    have c6 := below_step c5 b6
    have HB_6 := Lib.hid (HB_5.out.keep b6)
    clear b6 c5 HB_5 s7 hc8
    by_cases k2 : ExpOk g m
    · have RSB := sSeriesExp g a2 m cap2 w6 (by omega) HB_6.out
      rw [show mSeriesExp0 g m = expL g m by unfold mSeriesExp0; rw [if_pos k2], show mSeriesExp1 g m = true by unfold mSeriesExp1; simp [k2]] at RSB
      have HRB := Lib.hid RSB
      have QB := log_exp k2
      have HXB1 : Hid (∀ a c w, SrcC w a m.length c (lf m) → Tab w → Calls Tryd.prog 28 #[.int .i64 g, .slice a m.length c] w (OwnLB w (expL g m) true)) := Lib.hid fun a c w h1 h2 => by
        have := IE.out g a m c w (by omega) h1 h2
        rwa [show mSeriesExp0 g m = expL g m by unfold mSeriesExp0; rw [if_pos k2], show mSeriesExp1 g m = true by unfold mSeriesExp1; simp [k2]] at this
      have HXB2 : Hid (∀ a c w, SrcC w a (expL g m).length c (lf (expL g m)) → Tab w → Calls Tryd.prog 26 #[.int .i64 g, .slice a (expL g m).length c] w (OwnLB w m true)) := Lib.hid fun a c w h1 h2 => by
        have := IL.out g a (expL g m) c w (by have := QB.1.1.1.2.1; omega) h1 h2
        rwa [show mSeriesLog0 g (expL g m) = m by unfold mSeriesLog0; rw [if_pos QB.1]; exact QB.2, show mSeriesLog1 g (expL g m) = true by unfold mSeriesLog1; simp [QB.1]] at this
      clear RSB QB k2
      generalize expL g m = XB at *
      go_wp2_with fail
      refine (HRB.out).mono ?_
      rintro e w7 ⟨_, _, rfl, _, b7⟩
      have c7 := below_step c6 b7
      have HB_7 := Lib.hid (HB_6.out.keep b7)
      clear HB_6 b7 c6
      go_wp2_with fail
      refine (cp_lc a2 m cap2 w7 (by omega) HB_7.out).mono ?_
      rintro e w8 ⟨pB, pcB, rfl, spB, b8⟩
      have c8 := below_step c7 b8
      have HB_8 := Lib.hid (HB_7.out.keep b8)
      clear HB_7 b8 c7
      have HPB_8 := Lib.hid spB
      clear spB
      go_wp2_with fail
      refine (HXB1.out _ _ w8 HPB_8.out (HT.out.below c8)).mono ?_
      rintro e w9 ⟨qB, qcB, rfl, sqB, b9⟩
      have c9 := below_step c8 b9
      have HB_9 := Lib.hid (HB_8.out.keep b9)
      have HPB_9 := Lib.hid (HPB_8.out.keep b9)
      clear HB_8 HPB_8 b9 c8
      have HQB_9 := Lib.hid sqB.srcC
      clear sqB
      go_wp2_with fail
      refine (HXB2.out _ _ w9 HQB_9.out (HT.out.below c9)).mono ?_
      rintro e w10 ⟨rB, rcB, rfl, srB, b10⟩
      have c10 := below_step c9 b10
      have HB_10 := Lib.hid (HB_9.out.keep b10)
      have HPB_10 := Lib.hid (HPB_9.out.keep b10)
      have HQB_10 := Lib.hid (HQB_9.out.keep b10)
      clear HB_9 HPB_9 HQB_9 b10 c9
      have HWB_10 := Lib.hid srB.src
      clear srB
      go_wp2_with fail
      refine (sameZ _ _ m _ _ w10 (by omega) HWB_10.out HB_10.out).mono ?_
      rintro e w11 ⟨rfl, b11⟩
      have c11 := below_step c10 b11
      have HB_11 := Lib.hid (HB_10.out.keep b11)
      have HPB_11 := Lib.hid (HPB_10.out.keep b11)
      have HQB_11 := Lib.hid (HQB_10.out.keep b11)
      have HWB_11 := Lib.hid (HWB_10.out.keep b11)
      clear HB_10 HPB_10 HQB_10 HWB_10 b11 c10
      clear HPB_11 HQB_11 HWB_11
      go_wp2
      go_ret
      exact ⟨rfl, c11⟩
    · have RSB := sSeriesExp g a2 m cap2 w6 (by omega) HB_6.out
      rw [show mSeriesExp0 g m = [] by unfold mSeriesExp0; rw [if_neg k2], show mSeriesExp1 g m = false by unfold mSeriesExp1; simp [k2]] at RSB
      have HRB := Lib.hid RSB
      clear RSB k2
      go_wp2_with fail
      refine HRB.out.mono ?_
      rintro e w7 ⟨_, _, rfl, _, b7⟩
      have c7 := below_step c6 b7
      clear b7 c6 HB_6
      go_wp2
      go_ret
      exact ⟨rfl, c7⟩
end Go.Proofs.YtmgggdibbhameabDoor
namespace Go.Proofs.YtmgggdibbhameabDoor
open Go.RowKit
theorem wr_first {W : World} {B g n cap : Nat} {l : List Int} (_hB : B ≤ g) (_hn : l.length = n) (h : OwnV W g n cap (lf l)) : OwnV (W.setCell ⟨g, 0, none⟩ (.int .i64 1)) g n cap (lf (tab n (upd (lf l) 0 1))) := (OwnV.set (s := 0) (x := 1) h).congr fun j hj => by rw [lf_tab, if_pos hj]
set_option maxRecDepth 100000 in
set_option maxHeartbeats 6400000 in
theorem logProd_walk (iSeriesLog : ∀ (f : Int) (a : Option Addr) (l : List Int) (cap : Nat) (w : World), l.length ≤ 1048576 → SrcC w a l.length cap (lf l) → Tab w → Calls Tryd.prog 26 #[.int .i64 f, .slice a l.length cap] w (OwnLB w (mSeriesLog0 f l) (mSeriesLog1 f l))) (iSeriesMul : ∀ (f : Int) (a : Option Addr) (l : List Int) (cap : Nat) (a2 : Option Addr) (m : List Int) (cap2 : Nat) (w : World), l.length ≤ 1048576 → m.length ≤ 1048576 → SrcC w a l.length cap (lf l) → SrcC w a2 m.length cap2 (lf m) → Tab w → Calls Tryd.prog 32 #[.int .i64 f, .slice a l.length cap, .slice a2 m.length cap2] w (OwnL w (mSeriesMul f l m))) (a0 : Option Addr) (len0 cap0 : Nat) (w : World) (hl2 : len0 ≤ 1048576) (hcode : Code w a0 len0) (ht : Tab w) : Calls Tryd.prog 7 #[.slice a0 len0 cap0] w fun e w' => e = .returned (.bool true) ∧ Below w.heap.size w w' := by
  have IL := Lib.hid iSeriesLog
  have IM := Lib.hid iSeriesMul
  have HT := Lib.hid ht
  clear iSeriesLog iSeriesMul ht
  go_enter Tryd.func7, Tryd.ntmps7
  go_wp2_with fail
  refine (big_no a0 len0 cap0 w hl2).mono ?_
  rintro e w' ⟨rfl, rfl⟩
  go_wp2_with fail
  refine (drawSeriesMul_c a0 len0 cap0 w hcode).mono ?_
  rintro e w1 ⟨f, a, l, cap, a2, m, cap2, B, rfl, n1, n2, s1, k1, k2, s2, c1⟩
  clear hcode
  by_cases hlm : l.length = m.length
  rotate_left
  · have d1 : ((l.length : Int) != m.length) = true := by rw [bne_iff_ne]; omega
    clear s1 s2 k1
    go_wp2
    go_ret
    exact ⟨rfl, c1⟩
  have d1 : ((l.length : Int) != m.length) = false := by rw [bne_eq_false_iff_eq]; omega
  by_cases hz : l.length = 0
  · have d2 : ((l.length : Int) == 0) = true := by rw [beq_iff_eq]; omega
    have HLM := Lib.hid hlm
    clear s1 s2 k1 hlm hz
    go_wp2
    go_ret
    exact ⟨rfl, c1⟩
  have d2 : ((l.length : Int) == 0) = false := by rw [beq_eq_false_iff_ne]; omega
  rcases s1 with hq | ⟨g, rfl, hg, o1⟩
  · omega
  rcases s2 with hq | ⟨g2, rfl, hg2, o2⟩
  · omega
  have hgg : g < g2 := by
    rcases k1 with hq | ⟨q, hq, hq2⟩
    · omega
    · injection hq with hq
      injection hq with hq
      omega
  obtain ⟨L, hL⟩ : ∃ L, tab l.length (upd (lf l) 0 1) = L := ⟨_, rfl⟩
  obtain ⟨M, hM⟩ : ∃ M, tab m.length (upd (lf m) 0 1) = M := ⟨_, rfl⟩
  have lL : L.length = l.length := by rw [← hL, tab_len]
  have lM : M.length = m.length := by rw [← hM, tab_len]
  have p1 := wr_first (B := 0) (Nat.zero_le _) rfl o1
  rw [hL] at p1
  have p2 : OwnV (w1.setCell ⟨g, 0, none⟩ (.int .i64 1)) g2 m.length cap2 (lf m) := OwnV.other o2 (show g2 ≠ g by omega)
  have p3 := wr_first (B := 0) (Nat.zero_le _) rfl p2
  rw [hM] at p3
  have p4 := OwnV.other (s := 0) (v := .int .i64 1) p1 (show g ≠ g2 by omega)
  have HA_1 := Lib.hid p4.src
  have HB_1 := Lib.hid p3.src
  have HC_1 := Lib.hid ((c1.setCell (p := ⟨g, 0, none⟩) hg (.int .i64 1)).setCell (p := ⟨g2, 0, none⟩) (show w.heap.size ≤ g2 by omega) (.int .i64 1))
  have e1 := o1.cell (show 0 < l.length by omega)
  have e2 := o1.frozen 0
  have e3 := p2.cell (show 0 < m.length by omega)
  have e4 := p2.frozen 0
  have e5 : 0 < l.length := by omega
  have e6 : 0 < m.length := by omega
  have e7 : (0 : Int) < l.length := by omega
  have e8 : (0 : Int) < m.length := by omega
  have HLN : Hid (L.length = M.length) := Lib.hid (by omega)
  have HLL := Lib.hid lL
  have HLM := Lib.hid lM
  have HRU : Hid (∀ W, Src W (some ⟨g, 0, none⟩) l.length (lf L) → Calls Tryd.prog 25 #[.int .i64 f, .slice (some ⟨g, 0, none⟩) l.length cap] W (ListLB W (mSeriesLog0 f L) (mSeriesLog1 f L))) := Lib.hid fun W h => by
    have := sSeriesLog f (some ⟨g, 0, none⟩) L cap W (by omega) (by rw [lL]; exact h)
    rwa [lL] at this
  have HRV : Hid (∀ W, Src W (some ⟨g2, 0, none⟩) m.length (lf M) → Calls Tryd.prog 25 #[.int .i64 f, .slice (some ⟨g2, 0, none⟩) m.length cap2] W (ListLB W (mSeriesLog0 f M) (mSeriesLog1 f M))) := Lib.hid fun W h => by
    have := sSeriesLog f (some ⟨g2, 0, none⟩) M cap2 W (by omega) (by rw [lM]; exact h)
    rwa [lM] at this
  have HCL : Hid (∀ W, Src W (some ⟨g, 0, none⟩) l.length (lf L) → Calls Tryd.prog 27 #[.slice (some ⟨g, 0, none⟩) l.length cap] W (ListC W L)) := Lib.hid fun W h => by
    have := cp_lc (some ⟨g, 0, none⟩) L cap W (by omega) (by rw [lL]; exact h)
    rwa [lL] at this
  have HCM : Hid (∀ W, Src W (some ⟨g2, 0, none⟩) m.length (lf M) → Calls Tryd.prog 27 #[.slice (some ⟨g2, 0, none⟩) m.length cap2] W (ListC W M)) := Lib.hid fun W h => by
    have := cp_lc (some ⟨g2, 0, none⟩) M cap2 W (by omega) (by rw [lM]; exact h)
    rwa [lM] at this
  have nL : L.length ≤ 66 := by omega
  have nM : M.length ≤ 66 := by omega
  clear o1 o2 p1 p2 p3 p4 k1 hL hM lL lM c1 hlm hz hg hg2 hgg
  go_wp2_with fail
  generalize (w1.setCell ⟨g, 0, none⟩ (.int .i64 1)).setCell ⟨g2, 0, none⟩ (.int .i64 1) = W1 at *
  refine (HRU.out W1 HA_1.out).mono ?_
  rintro e w2 ⟨u, uc, rfl, su, b2⟩
  have HC_2 := Lib.hid (below_step HC_1.out b2)
  have HA_2 := Lib.hid (HA_1.out.keep b2)
  have HB_2 := Lib.hid (HB_1.out.keep b2)
  have HU_2 := Lib.hid su
  clear su b2 HC_1 HA_1 HB_1 HRU e1 e2 e3 e4
  go_wp2_with fail
  refine (HRV.out w2 HB_2.out).mono ?_
  rintro e w3 ⟨v, vc, rfl, sv, b3⟩
  have HC_3 := Lib.hid (below_step HC_2.out b3)
  have HA_3 := Lib.hid (HA_2.out.keep b3)
  have HB_3 := Lib.hid (HB_2.out.keep b3)
  have HU_3 := Lib.hid (HU_2.out.keep b3)
  have HV_3 := Lib.hid sv
  clear sv b3 HC_2 HA_2 HB_2 HU_2 HRV
  by_cases kU : LogOk f L
  rotate_left
  · have z : mSeriesLog1 f L = false := by unfold mSeriesLog1; simp [kU]
    clear kU
    go_wp2
    go_ret
    exact ⟨rfl, HC_3.out⟩
  have zU : mSeriesLog1 f L = true := by unfold mSeriesLog1; simp [kU]
  by_cases kV : LogOk f M
  rotate_left
  · have z : mSeriesLog1 f M = false := by unfold mSeriesLog1; simp [kV]
    clear kU kV
    go_wp2
    go_ret
    exact ⟨rfl, HC_3.out⟩
  have zV : mSeriesLog1 f M = true := by unfold mSeriesLog1; simp [kV]
  have fU : mSeriesLog0 f L = logL f L := by unfold mSeriesLog0; rw [if_pos kU]
  have fV : mSeriesLog0 f M = logL f M := by unfold mSeriesLog0; rw [if_pos kV]
  rw [fU] at HU_3 ⊢
  rw [fV] at HV_3 ⊢
  have QQ := log_mul kU kV HLN.out
  have qU := logL_is kU.1 kU.2
  have qV := logL_is kV.1 kV.2
  have hf := kU.1.1.1
  have HXM : Hid (∀ p pc q qc W, SrcC W p L.length pc (lf L) → SrcC W q M.length qc (lf M) → Tab W → Calls Tryd.prog 32 #[.int .i64 f, .slice p L.length pc, .slice q M.length qc] W (OwnL W (smulL f L M))) := Lib.hid fun p pc q qc W h1 h2 h3 => by
    have := IM.out f p L pc q M qc W (by omega) (by omega) h1 h2 h3
    rwa [show mSeriesMul f L M = smulL f L M by unfold mSeriesMul; rw [if_pos ⟨HLN.out, kU.1.1, kV.1.1⟩]] at this
  have HXL : Hid (∀ p pc W, SrcC W p (smulL f L M).length pc (lf (smulL f L M)) → Tab W → Calls Tryd.prog 26 #[.int .i64 f, .slice p (smulL f L M).length pc] W (OwnLB W (logL f (smulL f L M)) true)) := Lib.hid fun p pc W h1 h2 => by
    have := IL.out f p (smulL f L M) pc W (by have := QQ.1.1.1.2.1; omega) h1 h2
    rwa [show mSeriesLog0 f (smulL f L M) = logL f (smulL f L M) by unfold mSeriesLog0; rw [if_pos QQ.1], show mSeriesLog1 f (smulL f L M) = true by unfold mSeriesLog1; simp [QQ.1]] at this
  have lX : (logL f (smulL f L M)).length = L.length := by rw [QQ.2]; exact elL_len _ _ _
  have HAT : Hid (∀ i, i < L.length → lf (logL f (smulL f L M)) i = RS (lf (logL f L) i + lf (logL f M) i) (P f)) := Lib.hid fun i hi => by
    rw [QQ.2, lf_elL, if_pos hi]
    rfl
  have dX : (((logL f (smulL f L M)).length : Int) != l.length) = false := by rw [bne_eq_false_iff_eq]; have := HLL.out; omega
  have HNX := Lib.hid lX
  have HNU := Lib.hid qU.1.1
  have HNV : Hid ((logL f M).length = L.length) := Lib.hid (by have := HLN.out; have := qV.1.1; omega)
  have HAD : Hid (∀ x y w, Calls Tryd.prog 33 #[.int .i64 f, .int .i64 x, .int .i64 y] w fun e w' => e = .returned (.int .i64 (RS (x + y) (P f))) ∧ w = w') := Lib.hid fun x y w => by have := sAdd f x y w; rwa [mAdd, if_pos hf] at this
  clear QQ qU qV kU kV lX fU fV hf
  generalize logL f (smulL f L M) = XL at *
  generalize smulL f L M = SM at *
  generalize logL f L = UL at *
  generalize logL f M = VL at *
  go_wp2_with fail
  refine (HCL.out w3 HA_3.out).mono ?_
  rintro e w4 ⟨p, pc, rfl, sp, b4⟩
  have HC_4 := Lib.hid (below_step HC_3.out b4)
  have HB_4 := Lib.hid (HB_3.out.keep b4)
  have HU_4 := Lib.hid (HU_3.out.keep b4)
  have HV_4 := Lib.hid (HV_3.out.keep b4)
  have HP_4 := Lib.hid sp
  clear sp b4 HC_3 HA_3 HB_3 HU_3 HV_3 HCL
  go_wp2_with fail
  refine (HCM.out w4 HB_4.out).mono ?_
  rintro e w5 ⟨q, qc, rfl, sq, b5⟩
  have HC_5 := Lib.hid (below_step HC_4.out b5)
  have HU_5 := Lib.hid (HU_4.out.keep b5)
  have HV_5 := Lib.hid (HV_4.out.keep b5)
  have HP_5 := Lib.hid (HP_4.out.keep b5)
  have HQ_5 := Lib.hid sq
  clear sq b5 HC_4 HB_4 HU_4 HV_4 HP_4 HCM
  go_wp2_with fail
  refine (HXM.out _ _ _ _ w5 HP_5.out HQ_5.out (HT.out.below HC_5.out)).mono ?_
  rintro e w6 ⟨r, rc, rfl, sr, b6⟩
  have HC_6 := Lib.hid (below_step HC_5.out b6)
  have HU_6 := Lib.hid (HU_5.out.keep b6)
  have HV_6 := Lib.hid (HV_5.out.keep b6)
  have HR_6 := Lib.hid sr.srcC
  clear sr b6 HC_5 HU_5 HV_5 HP_5 HQ_5 HXM
  go_wp2_with fail
  refine (HXL.out _ _ w6 HR_6.out (HT.out.below HC_6.out)).mono ?_
  rintro e w7 ⟨x, xc, rfl, sx, b7⟩
  have HC_7 := Lib.hid (below_step HC_6.out b7)
  have HU_7 := Lib.hid (HU_6.out.keep b7)
  have HV_7 := Lib.hid (HV_6.out.keep b7)
  have HX_7 := Lib.hid sx.src
  clear sx b7 HC_6 HU_6 HV_6 HR_6 HXL
  have n9 : 0 < L.length := by have := HLL.out; omega
  rcases HU_7.out with hq | ⟨ub, uo, rfl, ult, ucell⟩
  · have := HNU.out; omega
  rcases HV_7.out with hq | ⟨vb, vo, rfl, vlt, vcell⟩
  · have := HNV.out; omega
  rcases HX_7.out with hq | ⟨xb, xo, rfl, xlt, xcell⟩
  · have := HNX.out; omega
  have HUC := Lib.hid ucell
  have HVC := Lib.hid vcell
  have HXC := Lib.hid xcell
  have HNX2 : Hid (XL.length ≤ 66) := Lib.hid (by have := HNX.out; omega)
  clear ucell vcell xcell HU_7 HV_7 HX_7
  go_wp2_with fail
  go_loopw [12] (fun i wr => ∃ k : Nat, i = .int .i64 k ∧ k ≤ XL.length ∧ ∃ q, wr = w7.drewN q) (fun i _ => XL.length - (intOf i).toNat)
  case atStart => exact ⟨0, rfl, Nat.zero_le _, 0, rfl⟩
  case round =>
    obtain ⟨k, rfl, hk, q, rfl⟩ := hrel
    have nX := HNX2.out
    by_cases h1 : k < XL.length
    · have hd1 : decide ((k : Int) < XL.length) = true := decide_eq_true (by omega)
      have hd2 : (k : Int) < XL.length := by omega
      have hd3 : (k : Int) < UL.length := by have := HNU.out; have := HNX.out; omega
      have hd4 : (k : Int) < VL.length := by have := HNV.out; have := HNX.out; omega
      have q1 : w7.cell? ⟨ub, uo + k, none⟩ = some (.int .i64 (lf UL k)) := HUC.out k (by omega)
      have q2 : w7.cell? ⟨vb, vo + k, none⟩ = some (.int .i64 (lf VL k)) := HVC.out k (by omega)
      have q3 : w7.cell? ⟨xb, xo + k, none⟩ = some (.int .i64 (lf XL k)) := HXC.out k h1
      have q4 := HAT.out k (by have := HNX.out; omega)
      have q5 : (lf XL k != RS (lf UL k + lf VL k) (P f)) = false := by rw [bne_eq_false_iff_eq]; exact q4
      clear q4
      have HAk : Hid (∀ p2 x y, Calls Tryd.prog 33 #[.int .i64 f, .int .i64 x, .int .i64 y] (w7.drewN (q + p2)) fun e w' => e = .returned (.int .i64 (RS (x + y) (P f))) ∧ ∃ n, w' = w7.drewN (q + n)) := Lib.hid fun p2 x y => (HAD.out x y _).mono fun _ _ h => ⟨h.1, p2, h.2.symm⟩
      go_wp2
      go_quiet ((go_at_call 33; exact HAk.out _ _ _))
      go_wp2
      go_roundw
      case rel => exact ⟨k + 1, by go_num, by omega, _, rfl⟩
      case measure => simp [intOf]; omega
    · have hd1 : decide ((k : Int) < XL.length) = false := decide_eq_false (by omega)
      have HBE := Lib.hid (below_drewN HC_7.out q)
      go_wp2
      go_ret
      exact ⟨rfl, HBE.out⟩
end Go.Proofs.YtmgggdibbhameabDoor
namespace Go.Proofs.YtmgggdibbhameabDoor
open Go.RowKit
theorem wr_put {W : World} {g n cap : Nat} {l : List Int} (x : Int) (h : OwnV W g n cap (lf l)) : OwnV (W.setCell ⟨g, 0, none⟩ (.int .i64 x)) g n cap (lf (tab n (upd (lf l) 0 x))) := (OwnV.set (s := 0) (x := x) h).congr fun j hj => by rw [lf_tab, if_pos hj]
set_option maxRecDepth 100000 in
set_option maxHeartbeats 1600000 in
theorem drawSeriesInv_c (a : Option Addr) (len cap : Nat) (w : World) (hc : Code w a len) : Calls Tryd.prog 34 #[.slice a len cap] w (D1W w) := by
  have hlen := hc.1
  go_enter Tryd.func34, Tryd.ntmps34
  go_wp2_with fail
  refine (drawOne6_c a len cap (-1) w hc).mono ?_
  rintro e w1 ⟨f, a1, l, cap1, rfl, h1, s1, b1⟩
  clear hc
  by_cases hz : l.length = 0
  · obtain rfl : l = [] := List.eq_nil_of_length_eq_zero hz
    have HS1 := Lib.hid s1
    clear s1 hz
    go_wp2
    go_ret2
    exact ⟨f, a1, [], cap1, rfl, h1, HS1.out, b1⟩
  have HS1 := Lib.hid s1
  rcases s1 with hq | ⟨g, rfl, hg, o1⟩
  · omega
  have d0 : decide ((0 : Int) < l.length) = true := decide_eq_true (by omega)
  have n0 : 0 < l.length := by omega
  have n0' : (0 : Int) < l.length := by omega
  have e1 := o1.cell n0
  have e2 := o1.frozen 0
  by_cases h0 : lf l 0 = 0
  · rw [h0] at e1
    by_cases h5 : len % 5 = 0
    · have d5 : decide ((0 : Int) < (len : Int) % 5) = false := decide_eq_false (by omega)
      clear o1 h0 hz
      go_wp2
      go_ret2
      exact ⟨f, _, l, cap1, rfl, h1, HS1.out, b1⟩
    · have d5 : decide ((0 : Int) < (len : Int) % 5) = true := decide_eq_true (by omega)
      have HO := Lib.hid (wr_put 3 o1)
      have HB := Lib.hid (b1.setCell (p := ⟨g, 0, none⟩) hg (.int .i64 3))
      have HW : Hid (∀ W, OwnV W g l.length cap1 (lf (tab l.length (upd (lf l) 0 3))) → WrB W w.heap.size (some ⟨g, 0, none⟩) (tab l.length (upd (lf l) 0 3)) cap1) := Lib.hid fun W h => .inr ⟨g, rfl, hg, by rw [tab_len]; exact h⟩
      have hlt := tab_len l.length (upd (lf l) 0 3)
      clear o1 h0 hz HS1
      go_wp2
      go_ret2
      exact ⟨f, _, tab l.length (upd (lf l) 0 3), cap1, by rw [hlt]; rfl, by rw [hlt]; exact h1, HW.out _ HO.out, HB.out⟩
  · have d1 : (lf l 0 == 0) = false := by rw [beq_eq_false_iff_ne]; exact h0
    clear o1 h0 hz
    go_wp2
    go_ret2
    exact ⟨f, _, l, cap1, rfl, h1, HS1.out, b1⟩
set_option maxRecDepth 100000 in
set_option maxHeartbeats 6400000 in
theorem powers_walk (iSeriesPow : ∀ (f : Int) (a : Option Addr) (l : List Int) (cap : Nat) (e : Int) (w : World), l.length ≤ 1048576 → SrcC w a l.length cap (lf l) → Tab w → Calls Tryd.prog 37 #[.int .i64 f, .slice a l.length cap, .int .i64 e] w (OwnLB w (mSeriesPow0 f l e) (mSeriesPow1 f l e)))
    (iSeriesMul : ∀ (f : Int) (a : Option Addr) (l : List Int) (cap : Nat) (a2 : Option Addr) (m : List Int) (cap2 : Nat) (w : World), l.length ≤ 1048576 → m.length ≤ 1048576 → SrcC w a l.length cap (lf l) → SrcC w a2 m.length cap2 (lf m) → Tab w → Calls Tryd.prog 32 #[.int .i64 f, .slice a l.length cap, .slice a2 m.length cap2] w (OwnL w (mSeriesMul f l m)))
    (iSeriesSqrt : ∀ (f : Int) (a : Option Addr) (l : List Int) (cap : Nat) (w : World), l.length ≤ 1048576 → SrcC w a l.length cap (lf l) → Tab w → Calls Tryd.prog 13 #[.int .i64 f, .slice a l.length cap] w (OwnLB w (mSeriesSqrt0 f l) (mSeriesSqrt1 f l)))
    (a0 : Option Addr) (len0 cap0 : Nat) (w : World) (hl2 : len0 ≤ 1048576) (hcode : Code w a0 len0) (ht : Tab w) : Calls Tryd.prog 8 #[.slice a0 len0 cap0] w fun e w' => e = .returned (.bool true) ∧ Below w.heap.size w w' := by
  have IP := Lib.hid iSeriesPow
  have IM := Lib.hid iSeriesMul
  have IS := Lib.hid iSeriesSqrt
  have HT := Lib.hid ht
  clear iSeriesPow iSeriesMul iSeriesSqrt ht
  go_enter Tryd.func8, Tryd.ntmps8
  go_wp2_with fail
  refine (big_no a0 len0 cap0 w hl2).mono ?_
  rintro e w' ⟨rfl, rfl⟩
  go_wp2_with fail
  refine (drawSeriesInv_c a0 len0 cap0 w hcode).mono ?_
  rintro e w1 ⟨f, a, l, cap, rfl, nl, s1, c1⟩
  have hcode1 := hcode.keep c1
  have HA_1 := Lib.hid s1.src
  clear hcode s1
  have R1 := sSeriesOk f a l cap w1 (by omega) HA_1.out
  by_cases k1 : SerOk f l
  rotate_left
  · rw [sok_not.2 k1] at R1
    have HR1 := Lib.hid R1
    clear R1 k1
    go_wp2_with fail
    refine HR1.out.mono ?_
    rintro e w' ⟨rfl, rfl⟩
    go_wp2
    go_ret
    exact ⟨rfl, c1⟩
  rw [sok_iff.2 k1] at R1
  have HR1 := Lib.hid R1
  have n1 := k1.2.1
  obtain ⟨b, off, rfl, c0⟩ : ∃ b off, a = some ⟨b, off, none⟩ ∧ w1.cell? ⟨b, off, none⟩ = some (.int .i64 (lf l 0)) := by
    rcases HA_1.out with hz | ⟨b, off, rfl, hlt, hc⟩
    · omega
    · exact ⟨b, off, rfl, by have := hc 0 (by omega); rwa [Nat.add_zero] at this⟩
  have n0 : 0 < l.length := by omega
  have n0' : (0 : Int) < l.length := by omega
  clear R1
  by_cases hz : lf l 0 = 0
  · rw [hz] at c0
    clear k1 hz
    go_wp2_with fail
    refine HR1.out.mono ?_
    rintro e w' ⟨rfl, rfl⟩
    go_wp2
    go_ret
    exact ⟨rfl, c1⟩
  have dz : (lf l 0 == 0) = false := by rw [beq_eq_false_iff_ne]; exact hz
  have HZ := Lib.hid hz
  have HK := Lib.hid k1
  clear hz k1
  go_wp2_with fail
  refine HR1.out.mono ?_
  rintro e w' ⟨rfl, rfl⟩
  clear HR1
  go_wp2_with fail
  refine (byteAt_c a0 len0 cap0 0 w1 hl2 (by omega) hcode1).mono ?_
  rintro e w' ⟨x, rfl, x0, x1, rfl⟩
  clear c0 dz
  go_wp2_with fail
  refine (byteAt_c a0 len0 cap0 1 w1 hl2 (by omega) hcode1).mono ?_
  rintro e w' ⟨y, rfl, y0, y1, rfl⟩
  clear hcode1
  by_cases hd : x * 8 - 1000 ≤ 1000
  rotate_left
  · have d1 : decide ((1000 : Int) < x * 8 - 1000) = true := decide_eq_true (by omega)
    go_wp2
    go_ret
    exact ⟨rfl, c1⟩
  by_cases he : y * 8 - 1000 ≤ 1000
  rotate_left
  · have d1 : decide ((1000 : Int) < x * 8 - 1000) = false := decide_eq_false (by omega)
    have d2 : decide ((1000 : Int) < y * 8 - 1000) = true := decide_eq_true (by omega)
    go_wp2
    go_ret
    exact ⟨rfl, c1⟩
  have d1 : decide ((1000 : Int) < x * 8 - 1000) = false := decide_eq_false (by omega)
  have d2 : decide ((1000 : Int) < y * 8 - 1000) = false := decide_eq_false (by omega)
  have qs : IntKind.i64.wrap (x * 8 - 1000 + (y * 8 - 1000)) = x * 8 - 1000 + (y * 8 - 1000) := IntWalk.i64_in _ (by omega)
  have k1 := HK.out
  have hf := k1.1
  have HPW : ∀ t : Int, -2000 ≤ t → t ≤ 2000 → Hid (∀ p pc W, SrcC W p l.length pc (lf l) → Tab W → Calls Tryd.prog 37 #[.int .i64 f, .slice p l.length pc, .int .i64 t] W (OwnLB W (spowL f l t) true)) := fun t t0 t1 => Lib.hid fun p pc W h1 h2 => by
    have ok : SPowOk f l t := ⟨k1, ⟨by omega, by omega⟩, fun _ => HZ.out⟩
    have := IP.out f p l pc t W (by omega) h1 h2
    rwa [show mSeriesPow0 f l t = spowL f l t by unfold mSeriesPow0; rw [if_pos ok], show mSeriesPow1 f l t = true by unfold mSeriesPow1; simp [ok]] at this
  have HX := HPW (x * 8 - 1000) (by omega) (by omega)
  have HY := HPW (y * 8 - 1000) (by omega) (by omega)
  have HS := HPW (x * 8 - 1000 + (y * 8 - 1000)) (by omega) (by omega)
  have sp : ∀ t : Int, Ser f l.length (spowL f l t) := fun t => elL_ser hf.1 hf.2 _ _
  have HM1 : Hid (∀ p pc q qc W, SrcC W p (spowL f l (x * 8 - 1000)).length pc (lf (spowL f l (x * 8 - 1000))) → SrcC W q (spowL f l (y * 8 - 1000)).length qc (lf (spowL f l (y * 8 - 1000))) → Tab W → Calls Tryd.prog 32 #[.int .i64 f, .slice p (spowL f l (x * 8 - 1000)).length pc, .slice q (spowL f l (y * 8 - 1000)).length qc] W (OwnL W (spowL f l (x * 8 - 1000 + (y * 8 - 1000))))) := Lib.hid fun p pc q qc W h1 h2 h3 => by
    have sx := sp (x * 8 - 1000)
    have sy := sp (y * 8 - 1000)
    have := IM.out f p _ pc q _ qc W (by have := sx.1; omega) (by have := sy.1; omega) h1 h2 h3
    rwa [show mSeriesMul f (spowL f l (x * 8 - 1000)) (spowL f l (y * 8 - 1000)) = spowL f l (x * 8 - 1000 + (y * 8 - 1000)) by unfold mSeriesMul; rw [if_pos ⟨by rw [sx.1, sy.1], sx.ok hf n1.1 n1.2, sy.ok hf n1.1 n1.2⟩]; exact pow_addL k1 HZ.out _ _] at this
  have lS : (spowL f l (x * 8 - 1000 + (y * 8 - 1000))).length = l.length := (sp _).1
  have dS : (((spowL f l (x * 8 - 1000 + (y * 8 - 1000))).length : Int) != l.length) = false := by rw [bne_eq_false_iff_eq]; omega
  have nS : (spowL f l (x * 8 - 1000 + (y * 8 - 1000))).length ≤ 66 := by omega
  obtain ⟨L, hL⟩ : ∃ L, tab l.length (upd (lf l) 0 1) = L := ⟨_, rfl⟩
  have lL : L.length = l.length := by rw [← hL, tab_len]
  have L0 : lf L 0 = 1 := by rw [← hL, lf_tab, if_pos n0]; rfl
  have hp := P_bd hf.1 hf.2
  have okL : SerOk f L := ⟨hf, by rw [lL]; exact n1, fun j hj => by
    rw [← hL, lf_tab, if_pos (by omega)]
    unfold upd
    split
    · omega
    · exact k1.all j⟩
  have QS := sqrt_sq okL L0
  have HM2 : Hid (∀ p pc q qc W, SrcC W p L.length pc (lf L) → SrcC W q L.length qc (lf L) → Tab W → Calls Tryd.prog 32 #[.int .i64 f, .slice p L.length pc, .slice q L.length qc] W (OwnL W (smulL f L L))) := Lib.hid fun p pc q qc W h1 h2 h3 => by
    have := IM.out f p L pc q L qc W (by omega) (by omega) h1 h2 h3
    rwa [show mSeriesMul f L L = smulL f L L by unfold mSeriesMul; rw [if_pos ⟨rfl, okL, okL⟩]] at this
  have HSQ : Hid (∀ p pc W, SrcC W p (smulL f L L).length pc (lf (smulL f L L)) → Tab W → Calls Tryd.prog 13 #[.int .i64 f, .slice p (smulL f L L).length pc] W (OwnLB W L true)) := Lib.hid fun p pc W h1 h2 => by
    have := IS.out f p (smulL f L L) pc W (by have := QS.1.1.2.1; omega) h1 h2
    rwa [show mSeriesSqrt0 f (smulL f L L) = L by unfold mSeriesSqrt0; rw [if_pos QS.1]; exact QS.2, show mSeriesSqrt1 f (smulL f L L) = true by unfold mSeriesSqrt1; simp [QS.1]] at this
  have HWR : Hid (∀ W g c, OwnV W g l.length c (lf l) → OwnV (W.setCell ⟨g, 0, none⟩ (.int .i64 1)) g L.length c (lf L)) := Lib.hid fun W g c h => by
    have := wr_put (l := l) 1 h
    rw [hL] at this
    rw [lL]
    exact this
  have HLL := Lib.hid lL
  have nL : L.length ≤ 66 := by omega
  clear HPW sp lS hL lL L0 hp okL QS k1 hf HZ HK IP IM IS
  generalize spowL f l (x * 8 - 1000 + (y * 8 - 1000)) = LS at *
  generalize spowL f l (x * 8 - 1000) = LX at *
  generalize spowL f l (y * 8 - 1000) = LY at *
  generalize smulL f L L = SM at *
  go_wp2_with fail
  refine (cp_lc _ l _ w1 (by omega) HA_1.out).mono ?_
  rintro e w2 ⟨pP1, pcP1, rfl, sP1, b2⟩
  have c2 := below_step c1 b2
  have HA_2 := Lib.hid (HA_1.out.keep b2)
  clear HA_1 b2 c1
  have HP1_2 := Lib.hid sP1
  clear sP1
  go_wp2_with fail
  refine (HX.out _ _ w2 HP1_2.out (HT.out.below c2)).mono ?_
  rintro e w3 ⟨u1, u2, rfl, su, b3⟩
  have c3 := below_step c2 b3
  have HA_3 := Lib.hid (HA_2.out.keep b3)
  have HP1_3 := Lib.hid (HP1_2.out.keep b3)
  clear HA_2 HP1_2 b3 c2
  have HU_3 := Lib.hid su.srcC
  clear su
  clear HP1_3
  go_wp2_with fail
  refine (cp_lc _ l _ w3 (by omega) HA_3.out).mono ?_
  rintro e w4 ⟨pP2, pcP2, rfl, sP2, b4⟩
  have c4 := below_step c3 b4
  have HA_4 := Lib.hid (HA_3.out.keep b4)
  have HU_4 := Lib.hid (HU_3.out.keep b4)
  clear HA_3 HU_3 b4 c3
  have HP2_4 := Lib.hid sP2
  clear sP2
  go_wp2_with fail
  refine (HY.out _ _ w4 HP2_4.out (HT.out.below c4)).mono ?_
  rintro e w5 ⟨v1, v2, rfl, sv, b5⟩
  have c5 := below_step c4 b5
  have HA_5 := Lib.hid (HA_4.out.keep b5)
  have HU_5 := Lib.hid (HU_4.out.keep b5)
  have HP2_5 := Lib.hid (HP2_4.out.keep b5)
  clear HA_4 HU_4 HP2_4 b5 c4
  have HV_5 := Lib.hid sv.srcC
  clear sv
  clear HP2_5
  go_wp2_with fail
  refine (cp_lc _ l _ w5 (by omega) HA_5.out).mono ?_
  rintro e w6 ⟨pP3, pcP3, rfl, sP3, b6⟩
  have c6 := below_step c5 b6
  have HA_6 := Lib.hid (HA_5.out.keep b6)
  have HU_6 := Lib.hid (HU_5.out.keep b6)
  have HV_6 := Lib.hid (HV_5.out.keep b6)
  clear HA_5 HU_5 HV_5 b6 c5
  have HP3_6 := Lib.hid sP3
  clear sP3
  go_wp2_with fail
  refine (HS.out _ _ w6 HP3_6.out (HT.out.below c6)).mono ?_
  rintro e w7 ⟨z1, z2, rfl, sz, b7⟩
  have c7 := below_step c6 b7
  have HA_7 := Lib.hid (HA_6.out.keep b7)
  have HU_7 := Lib.hid (HU_6.out.keep b7)
  have HV_7 := Lib.hid (HV_6.out.keep b7)
  have HP3_7 := Lib.hid (HP3_6.out.keep b7)
  clear HA_6 HU_6 HV_6 HP3_6 b7 c6
  have HZZ_7 := Lib.hid sz.src
  clear sz
  clear HP3_7
  go_wp2_with fail
  refine (HM1.out _ _ _ _ w7 HU_7.out HV_7.out (HT.out.below c7)).mono ?_
  rintro e w8 ⟨y1, y2, rfl, sy, b8⟩
  have c8 := below_step c7 b8
  have HA_8 := Lib.hid (HA_7.out.keep b8)
  have HU_8 := Lib.hid (HU_7.out.keep b8)
  have HV_8 := Lib.hid (HV_7.out.keep b8)
  have HZZ_8 := Lib.hid (HZZ_7.out.keep b8)
  clear HA_7 HU_7 HV_7 HZZ_7 b8 c7
  have HMM_8 := Lib.hid sy.src
  clear sy
  clear HU_8
  clear HV_8
  go_wp2_with fail
  refine (sameZ _ _ LS _ _ w8 (by omega) HMM_8.out HZZ_8.out).mono ?_
  rintro e w9 ⟨rfl, b9⟩
  have c9 := below_step c8 b9
  have HA_9 := Lib.hid (HA_8.out.keep b9)
  have HZZ_9 := Lib.hid (HZZ_8.out.keep b9)
  have HMM_9 := Lib.hid (HMM_8.out.keep b9)
  clear HA_8 HZZ_8 HMM_8 b9 c8
  clear HMM_9
  clear HZZ_9
  go_wp2_with fail
  refine (cp_v _ l _ w9 (by omega) n0 HA_9.out).mono ?_
  rintro e w10 ⟨g, cg, rfl, hg, og, b10⟩
  have c10 := below_step c9 b10
  have e1 := og.cell n0
  have e2 := og.frozen 0
  have HB := Lib.hid (HWR.out w10 g cg og)
  have hgw : w.heap.size ≤ g := Nat.le_trans c9.size hg
  have c11 := c10.setCell (p := ⟨g, 0, none⟩) hgw (.int .i64 1)
  have HB_11 := Lib.hid HB.out.src
  clear c9 c10 b10 og HB HA_9 HWR hg HX HY HS HM1
  generalize hW : w10.setCell ⟨g, 0, none⟩ (.int .i64 1) = w11 at *
  have HLE := HLL.out
  have HCP : Hid (∀ W, Src W (some ⟨g, 0, none⟩) L.length (lf L) → Calls Tryd.prog 27 #[.slice (some ⟨g, 0, none⟩) l.length cg] W (ListC W L)) := Lib.hid fun W h => by
    have := cp_lc (some ⟨g, 0, none⟩) L cg W (by omega) h
    rwa [HLE] at this
  have HSM : Hid (∀ p pc W, Src W p L.length (lf L) → Src W (some ⟨g, 0, none⟩) L.length (lf L) → Calls Tryd.prog 29 #[.slice p L.length pc, .slice (some ⟨g, 0, none⟩) l.length cg] W (TrueP W)) := Lib.hid fun p pc W h1 h2 => by
    have := sameZ p (some ⟨g, 0, none⟩) L pc cg W (by omega) h1 h2
    rw [HLE] at this ⊢
    exact this
  clear HLE
  go_wp2_with fail
  (try rw [hW])
  clear hW e1 e2
  refine (HCP.out w11 HB_11.out).mono ?_
  rintro e w12 ⟨q1, q2, rfl, sq1, b12⟩
  have c12 := below_step c11 b12
  have HB_12 := Lib.hid (HB_11.out.keep b12)
  clear HB_11 b12 c11
  have HQ1_12 := Lib.hid sq1
  clear sq1
  go_wp2_with fail
  refine (HCP.out w12 HB_12.out).mono ?_
  rintro e w13 ⟨q3, q4, rfl, sq2, b13⟩
  have c13 := below_step c12 b13
  have HB_13 := Lib.hid (HB_12.out.keep b13)
  have HQ1_13 := Lib.hid (HQ1_12.out.keep b13)
  clear HB_12 HQ1_12 b13 c12
  have HQ2_13 := Lib.hid sq2
  clear sq2
  go_wp2_with fail
  refine (HM2.out _ _ _ _ w13 HQ1_13.out HQ2_13.out (HT.out.below c13)).mono ?_
  rintro e w14 ⟨q5, q6, rfl, sq3, b14⟩
  have c14 := below_step c13 b14
  have HB_14 := Lib.hid (HB_13.out.keep b14)
  have HQ1_14 := Lib.hid (HQ1_13.out.keep b14)
  have HQ2_14 := Lib.hid (HQ2_13.out.keep b14)
  clear HB_13 HQ1_13 HQ2_13 b14 c13
  have HQ3_14 := Lib.hid sq3.srcC
  clear sq3
  clear HQ1_14
  clear HQ2_14
  go_wp2_with fail
  refine (HSQ.out _ _ w14 HQ3_14.out (HT.out.below c14)).mono ?_
  rintro e w15 ⟨q7, q8, rfl, sq4, b15⟩
  have c15 := below_step c14 b15
  have HB_15 := Lib.hid (HB_14.out.keep b15)
  have HQ3_15 := Lib.hid (HQ3_14.out.keep b15)
  clear HB_14 HQ3_14 b15 c14
  have HQ4_15 := Lib.hid sq4.src
  clear sq4
  clear HQ3_15
  go_wp2_with fail
  refine (HSM.out _ _ w15 HQ4_15.out HB_15.out).mono ?_
  rintro e w16 ⟨rfl, b16⟩
  have c16 := below_step c15 b16
  have HB_16 := Lib.hid (HB_15.out.keep b16)
  have HQ4_16 := Lib.hid (HQ4_15.out.keep b16)
  clear HB_15 HQ4_15 b16 c15
  go_wp2
  go_ret
  exact ⟨rfl, c16⟩
end Go.Proofs.YtmgggdibbhameabDoor
namespace Go.Proofs.YtmgggdibbhameabDoor
open Go.RowKit
set_option maxRecDepth 100000 in
set_option maxHeartbeats 6400000 in
theorem into_walk (iSeriesInto : ∀ (f : Int) (a : Option Addr) (l : List Int) (cap : Nat) (a2 : Option Addr) (m : List Int) (cap2 : Nat) (w : World), l.length ≤ 1048576 → m.length ≤ 1048576 → SrcC w a l.length cap (lf l) → SrcC w a2 m.length cap2 (lf m) → Tab w → Calls Tryd.prog 18 #[.int .i64 f, .slice a l.length cap, .slice a2 m.length cap2] w (OwnLB w (mSeriesInto0 f l m) (mSeriesInto1 f l m))) (iSeriesMul : ∀ (f : Int) (a : Option Addr) (l : List Int) (cap : Nat) (a2 : Option Addr) (m : List Int) (cap2 : Nat) (w : World), l.length ≤ 1048576 → m.length ≤ 1048576 → SrcC w a l.length cap (lf l) → SrcC w a2 m.length cap2 (lf m) → Tab w → Calls Tryd.prog 32 #[.int .i64 f, .slice a l.length cap, .slice a2 m.length cap2] w (OwnL w (mSeriesMul f l m))) (a0 : Option Addr) (len0 cap0 : Nat) (w : World) (hl2 : len0 ≤ 1048576) (hcode : Code w a0 len0) (ht : Tab w) : Calls Tryd.prog 9 #[.slice a0 len0 cap0] w fun e w' => e = .returned (.bool true) ∧ Below w.heap.size w w' := by
  have II := Lib.hid iSeriesInto
  have IM := Lib.hid iSeriesMul
  have HT := Lib.hid ht
  have HCO := Lib.hid hcode
  clear iSeriesInto iSeriesMul ht hcode
  obtain ⟨i0, hi, hz0, hz1, hz2⟩ := info_parts info3
  have HI := Lib.hid hi
  have HZ0 := Lib.hid hz0
  have HZ1 := Lib.hid hz1
  have HZ2 := Lib.hid hz2
  clear hi hz0 hz1 hz2
  go_enter Tryd.func9, Tryd.ntmps9
  go_wp2_with fail
  refine (big_no a0 len0 cap0 w hl2).mono ?_
  rintro e w' ⟨rfl, rfl⟩
  go_wp2_with fail
  refine (drawSeriesInto_c a0 len0 cap0 w HCO.out).mono ?_
  rintro e w1 ⟨f, a, l, cap, a2, x, cap2, B, rfl, n1, n2, s1, _, _, s2, c1⟩
  have HA_1 := Lib.hid s1.src
  have HX_1 := Lib.hid s2.src
  clear s1 s2
  go_wp2_with fail
  refine (alt_c a0 len0 cap0 9 w1 (by omega) (by omega) hl2 (HCO.out.keep c1)).mono ?_
  rintro e w2 ⟨a9, len9, cap9, rfl, b2, hc9⟩
  have c2 := below_step c1 b2
  have HA_2 := Lib.hid (HA_1.out.keep b2)
  have HX_2 := Lib.hid (HX_1.out.keep b2)
  clear HA_1 HX_1 b2 c1
  go_wp2_with fail
  refine (drawSeriesInto_c a9 len9 cap9 w2 hc9).mono ?_
  rintro e w3 ⟨f2, a3, m, cap3, a4, y, cap4, B2, rfl, n3, n4, s3, _, _, s4, b3⟩
  have c3 := below_step c2 b3
  have HA_3 := Lib.hid (HA_2.out.keep b3)
  have HX_3 := Lib.hid (HX_2.out.keep b3)
  have HB_3 := Lib.hid s3.src
  clear HA_2 HX_2 s3 s4 b3 hc9 c2 HCO
  by_cases hlx : l.length = x.length
  rotate_left
  · have d1 : ((l.length : Int) != x.length) = true := by rw [bne_iff_ne]; omega
    go_wp2
    go_ret
    exact ⟨rfl, c3⟩
  have d1 : ((l.length : Int) != x.length) = false := by rw [bne_eq_false_iff_eq]; omega
  have HLX := Lib.hid hlx
  clear hlx
  have R1 := sSeriesOk f a l cap w3 (by omega) HA_3.out
  by_cases k1 : SerOk f l
  rotate_left
  · rw [sok_not.2 k1] at R1
    have HR1 := Lib.hid R1
    clear R1 k1
    go_wp2_with fail
    refine HR1.out.mono ?_
    rintro e w' ⟨rfl, rfl⟩
    go_wp2
    go_ret
    exact ⟨rfl, c3⟩
  rw [sok_iff.2 k1] at R1
  have HR1 := Lib.hid R1
  have R2 := sSeriesOk f a2 x cap2 w3 (by omega) HX_3.out
  by_cases k2 : SerOk f x
  rotate_left
  · rw [sok_not.2 k2] at R2
    have HR2 := Lib.hid R2
    clear R1 R2 k1 k2
    go_wp2_with fail
    refine HR1.out.mono ?_
    rintro e w' ⟨rfl, rfl⟩
    go_wp2_with fail
    refine HR2.out.mono ?_
    rintro e w' ⟨rfl, rfl⟩
    go_wp2
    go_ret
    exact ⟨rfl, c3⟩
  rw [sok_iff.2 k2] at R2
  have HR2 := Lib.hid R2
  have nx := k2.2.1
  rcases HX_3.out with hq | ⟨xb, xo, rfl, xlt, xc⟩
  · omega
  have cx : w3.cell? ⟨xb, xo, none⟩ = some (.int .i64 (lf x 0)) := by have := xc 0 (by omega); rwa [Nat.add_zero] at this
  have x0 : (0 : Int) < (x.length : Int) := by omega
  clear xc R1 R2
  by_cases k3 : lf x 0 = 0
  rotate_left
  · have dz : (lf x 0 != 0) = true := by rw [bne_iff_ne]; exact k3
    clear k1 k2 k3
    go_wp2_with fail
    refine HR1.out.mono ?_
    rintro e w' ⟨rfl, rfl⟩
    go_wp2_with fail
    refine HR2.out.mono ?_
    rintro e w' ⟨rfl, rfl⟩
    go_wp2
    go_ret
    exact ⟨rfl, c3⟩
  rw [k3] at cx
  have KA : Hid (IntoOk f l x) := Lib.hid ⟨⟨HLX.out, k1, k2⟩, k3⟩
  have hf := k1.1
  have hp := P_bd hf.1 hf.2
  have HRE : Hid (∀ x w, Calls Tryd.prog 39 #[.int .i64 f, .int .i64 x] w fun e w' => e = .returned (.int .i64 (RS x (P f))) ∧ w = w') := Lib.hid fun x w => by have := sReduce f x w; rwa [mReduce, if_pos hf] at this
  have HBD : Hid (∀ x, 0 ≤ RS x (P f) ∧ RS x (P f) < P f) := Lib.hid fun x => RS_bd (by omega)
  have HFF := Lib.hid hf
  have nl := k1.2.1
  have HPP := Lib.hid hp
  clear k1 k2 k3 hf hp
  go_wp2_with fail
  refine HR1.out.mono ?_
  rintro e w' ⟨rfl, rfl⟩
  go_wp2_with fail
  refine HR2.out.mono ?_
  rintro e w' ⟨rfl, rfl⟩
  go_wp2_with fail
  clear HR1 HR2 cx
  go_loopw [9, 10, 11] (fun v i _ wr => ∃ k : Nat, i = .int .i64 k ∧ k ≤ l.length ∧ ∃ F : Nat → Int, (∀ j, 0 ≤ F j ∧ F j < P f) ∧ wr.ownsRow w3.heap.size 3 1 v k (xsF F k) ∧ Below w3.heap.size w3 wr) (fun _ i _ _ => l.length - (intOf i).toNat)
  case atStart => exact ⟨0, rfl, Nat.zero_le _, fun _ => 0, fun _ => by show (0 : Int) ≤ 0 ∧ (0 : Int) < P f; have := HPP.out; omega, own_empty w3 _, (Below.refl _ _).alloc (Nat.le_refl _) _⟩
  case round =>
    obtain ⟨k, rfl, hk, F, hF, hown, hnx⟩ := hrel
    have HF := Lib.hid hF
    have hs := hnx.size
    clear hF
    by_cases h1 : k < l.length
    · have hd1 : decide ((k : Int) < l.length) = true := decide_eq_true (by omega)
      by_cases h2 : k < m.length
      · have hd2 : decide ((k : Int) < m.length) = true := decide_eq_true (by omega)
        have hd3 : (k : Int) < m.length := by omega
        have mB := HB_3.out.keep hnx
        rcases mB with hq | ⟨mb, mo, rfl, mlt, mc⟩
        · omega
        have cm := mc k h2
        clear mc
        go_wp2_with fail
        refine (HRE.out _ wr).mono ?_
        rintro e w' ⟨rfl, rfl⟩
        have hx := HBD.out (lf m k)
        generalize RS (lf m k) (P f) = X at *
        go_wp2_with (at_builtin; refine wpList_append_own _ rfl _ _ 22 rfl w3.heap.size 3 i0 (.int .i64 0) 1 8 Tryd.underlying22 HI.out HZ0.out HZ1.out HZ2.out rfl (by decide) _ _ _ rfl (hown.alloc _) ⟨wr.heap.size, 0, none⟩ 1 1 [.int .i64 X] rfl rfl ?c1 ?c2 ?c3 ?c4 ?c5 ?_)
        case c1 => exact cell_one_new _ _ _
        case c2 => intro u hu; simp at hu; subst hu; rfl
        case c3 => unfold maxLen; omega
        case c4 => omega
        case c5 => simp; omega
        intro v' w8 hown' hgrow _
        have hbel : Below w3.heap.size w3 w8 := (hnx.alloc hs _).grown hgrow (by simp; omega) (own_ge hown)
        rw [xs_more F k X] at hown'
        have HREL := Lib.hid (more_bd (k := k) HF.out hx)
        clear hgrow hown hx
        go_wp2
        go_roundw
        case rel => exact ⟨k + 1, by go_num, by omega, _, HREL.out, hown', hbel⟩
        case measure => simp [intOf]; omega
      · have hd2 : decide ((k : Int) < m.length) = false := decide_eq_false (by omega)
        go_wp2_with fail
        refine (HRE.out _ wr).mono ?_
        rintro e w' ⟨rfl, rfl⟩
        have hx := HBD.out ((k : Int) + 1)
        generalize RS ((k : Int) + 1) (P f) = X at *
        go_wp2_with (at_builtin; refine wpList_append_own _ rfl _ _ 22 rfl w3.heap.size 3 i0 (.int .i64 0) 1 8 Tryd.underlying22 HI.out HZ0.out HZ1.out HZ2.out rfl (by decide) _ _ _ rfl (hown.alloc _) ⟨wr.heap.size, 0, none⟩ 1 1 [.int .i64 X] rfl rfl ?c1 ?c2 ?c3 ?c4 ?c5 ?_)
        case c1 => exact cell_one_new _ _ _
        case c2 => intro u hu; simp at hu; subst hu; rfl
        case c3 => unfold maxLen; omega
        case c4 => omega
        case c5 => simp; omega
        intro v' w8 hown' hgrow _
        have hbel : Below w3.heap.size w3 w8 := (hnx.alloc hs _).grown hgrow (by simp; omega) (own_ge hown)
        rw [xs_more F k X] at hown'
        have HREL := Lib.hid (more_bd (k := k) HF.out hx)
        clear hgrow hown hx
        go_wp2
        go_roundw
        case rel => exact ⟨k + 1, by go_num, by omega, _, HREL.out, hown', hbel⟩
        case measure => simp [intOf]; omega
    · have hd1 : decide ((k : Int) < l.length) = false := decide_eq_false (by omega)
      obtain rfl : k = l.length := by omega
      have hto := owns_to_tab hown
      obtain ⟨ca, cc, rfl, _, hsc⟩ := src_of_owns2 hto
      obtain ⟨C, hC⟩ : ∃ C, tab l.length F = C := ⟨_, rfl⟩
      have sC : Ser f l.length C := by rw [← hC]; exact tab_ser (by have := HPP.out; omega) HF.out
      rw [hC] at hsc
      rw [hC]
      have c4 := below_step c3 hnx
      have HA_4 := Lib.hid (HA_3.out.keep hnx)
      have HX_4 := Lib.hid (HX_3.out.keep hnx)
      have HC_4 := Lib.hid hsc
      have KC : Hid (IntoOk f C x) := Lib.hid ⟨⟨sC.1.trans HLX.out, sC.ok HFF.out nl.1 nl.2, KA.out.1.2.2⟩, KA.out.2⟩
      have sS := smulN_ser (X := C) HFF.out.1 HFF.out.2 KA.out.1.2.1.ser
      have KS : Hid (IntoOk f (smulL f l C) x) := Lib.hid ⟨⟨sS.1.trans HLX.out, sS.ok HFF.out nl.1 nl.2, KA.out.1.2.2⟩, KA.out.2⟩
      have nC : C.length ≤ 66 := by have := sC.1; omega
      have HI1 : ∀ L : List Int, IntoOk f L x → Hid (∀ p pc q qc W, SrcC W p L.length pc (lf L) → SrcC W q x.length qc (lf x) → Tab W → Calls Tryd.prog 18 #[.int .i64 f, .slice p L.length pc, .slice q x.length qc] W (OwnLB W (intoL f L x) true)) := fun L kk => Lib.hid fun p pc q qc W h1 h2 h3 => by
        have := II.out f p L pc q x qc W (by have := kk.1.2.1.2.1; omega) (by omega) h1 h2 h3
        rwa [show mSeriesInto0 f L x = intoL f L x by unfold mSeriesInto0; rw [if_pos kk], show mSeriesInto1 f L x = true by unfold mSeriesInto1; simp [kk]] at this
      have HJ1 := HI1 l KA.out
      have HJ2 := HI1 C KC.out
      have HJ3 := HI1 (smulL f l C) KS.out
      have HM1 : Hid (∀ p pc q qc W, SrcC W p l.length pc (lf l) → SrcC W q C.length qc (lf C) → Tab W → Calls Tryd.prog 32 #[.int .i64 f, .slice p l.length pc, .slice q C.length qc] W (OwnL W (smulL f l C))) := Lib.hid fun p pc q qc W h1 h2 h3 => by
        have := IM.out f p l pc q C qc W (by omega) (by omega) h1 h2 h3
        rwa [show mSeriesMul f l C = smulL f l C by unfold mSeriesMul; rw [if_pos ⟨sC.1.symm, KA.out.1.2.1, KC.out.1.2.1⟩]] at this
      have sU : Ser f l.length (intoL f l x) := elL_ser HFF.out.1 HFF.out.2 _ _
      have sV : Ser f C.length (intoL f C x) := elL_ser HFF.out.1 HFF.out.2 _ _
      have sW : Ser f (smulL f l C).length (intoL f (smulL f l C) x) := elL_ser HFF.out.1 HFF.out.2 _ _
      have HM2 : Hid (∀ p pc q qc W, SrcC W p (intoL f l x).length pc (lf (intoL f l x)) → SrcC W q (intoL f C x).length qc (lf (intoL f C x)) → Tab W → Calls Tryd.prog 32 #[.int .i64 f, .slice p (intoL f l x).length pc, .slice q (intoL f C x).length qc] W (OwnL W (intoL f (smulL f l C) x))) := Lib.hid fun p pc q qc W h1 h2 h3 => by
        have := IM.out f p (intoL f l x) pc q (intoL f C x) qc W (by have := sU.1; omega) (by have := sV.1; omega) h1 h2 h3
        rwa [show mSeriesMul f (intoL f l x) (intoL f C x) = intoL f (smulL f l C) x by unfold mSeriesMul; rw [if_pos ⟨by rw [sU.1, sV.1, sC.1], sU.ok HFF.out nl.1 nl.2, sV.ok HFF.out (by rw [sC.1]; exact nl.1) (by rw [sC.1]; exact nl.2)⟩]; exact into_mul KA.out KC.out] at this
      have nW : (intoL f (smulL f l C) x).length ≤ 66 := by have := sW.1; have := sS.1; omega
      have dW : (((intoL f (smulL f l C) x).length : Int) == l.length) = true := by rw [beq_iff_eq]; have := sW.1; have := sS.1; omega
      clear HI1 sC sS sU sV sW hC hsc hto hown hnx HF HA_3 HX_3 HB_3 c3 KA KC KS
      generalize intoL f (smulL f l C) x = WL at *
      generalize smulL f l C = SM at *
      generalize intoL f l x = UL at *
      generalize intoL f C x = VL at *
      go_wp2_with fail
      refine (cp_lc _ l _ wr (by omega) HA_4.out).mono ?_
      rintro e w5 ⟨pP1, pcP1, rfl, sP1, b5⟩
      have c5 := below_step c4 b5
      have HA_5 := Lib.hid (HA_4.out.keep b5)
      have HX_5 := Lib.hid (HX_4.out.keep b5)
      have HC_5 := Lib.hid (HC_4.out.keep b5)
      clear HA_4 HX_4 HC_4 b5 c4
      have HP1_5 := Lib.hid sP1
      clear sP1
      go_wp2_with fail
      refine (cp_lc _ x _ w5 (by omega) HX_5.out).mono ?_
      rintro e w6 ⟨pP2, pcP2, rfl, sP2, b6⟩
      have c6 := below_step c5 b6
      have HA_6 := Lib.hid (HA_5.out.keep b6)
      have HX_6 := Lib.hid (HX_5.out.keep b6)
      have HC_6 := Lib.hid (HC_5.out.keep b6)
      have HP1_6 := Lib.hid (HP1_5.out.keep b6)
      clear HA_5 HX_5 HC_5 HP1_5 b6 c5
      have HP2_6 := Lib.hid sP2
      clear sP2
      go_wp2_with fail
      refine (HJ1.out _ _ _ _ w6 HP1_6.out HP2_6.out (HT.out.below c6)).mono ?_
      rintro e w7 ⟨u1, u2, rfl, su, b7⟩
      have c7 := below_step c6 b7
      have HA_7 := Lib.hid (HA_6.out.keep b7)
      have HX_7 := Lib.hid (HX_6.out.keep b7)
      have HC_7 := Lib.hid (HC_6.out.keep b7)
      have HP1_7 := Lib.hid (HP1_6.out.keep b7)
      have HP2_7 := Lib.hid (HP2_6.out.keep b7)
      clear HA_6 HX_6 HC_6 HP1_6 HP2_6 b7 c6
      have HU_7 := Lib.hid su.srcC
      clear su
      clear HP1_7
      clear HP2_7
      go_wp2_with fail
      refine (cp_lc _ C _ w7 (by omega) HC_7.out).mono ?_
      rintro e w8 ⟨pP3, pcP3, rfl, sP3, b8⟩
      have c8 := below_step c7 b8
      have HA_8 := Lib.hid (HA_7.out.keep b8)
      have HX_8 := Lib.hid (HX_7.out.keep b8)
      have HC_8 := Lib.hid (HC_7.out.keep b8)
      have HU_8 := Lib.hid (HU_7.out.keep b8)
      clear HA_7 HX_7 HC_7 HU_7 b8 c7
      have HP3_8 := Lib.hid sP3
      clear sP3
      go_wp2_with fail
      refine (cp_lc _ x _ w8 (by omega) HX_8.out).mono ?_
      rintro e w9 ⟨pP4, pcP4, rfl, sP4, b9⟩
      have c9 := below_step c8 b9
      have HA_9 := Lib.hid (HA_8.out.keep b9)
      have HX_9 := Lib.hid (HX_8.out.keep b9)
      have HC_9 := Lib.hid (HC_8.out.keep b9)
      have HU_9 := Lib.hid (HU_8.out.keep b9)
      have HP3_9 := Lib.hid (HP3_8.out.keep b9)
      clear HA_8 HX_8 HC_8 HU_8 HP3_8 b9 c8
      have HP4_9 := Lib.hid sP4
      clear sP4
      go_wp2_with fail
      refine (HJ2.out _ _ _ _ w9 HP3_9.out HP4_9.out (HT.out.below c9)).mono ?_
      rintro e w10 ⟨v1, v2, rfl, sv, b10⟩
      have c10 := below_step c9 b10
      have HA_10 := Lib.hid (HA_9.out.keep b10)
      have HX_10 := Lib.hid (HX_9.out.keep b10)
      have HC_10 := Lib.hid (HC_9.out.keep b10)
      have HU_10 := Lib.hid (HU_9.out.keep b10)
      have HP3_10 := Lib.hid (HP3_9.out.keep b10)
      have HP4_10 := Lib.hid (HP4_9.out.keep b10)
      clear HA_9 HX_9 HC_9 HU_9 HP3_9 HP4_9 b10 c9
      have HV_10 := Lib.hid sv.srcC
      clear sv
      clear HP3_10
      clear HP4_10
      go_wp2_with fail
      refine (cp_lc _ l _ w10 (by omega) HA_10.out).mono ?_
      rintro e w11 ⟨pP5, pcP5, rfl, sP5, b11⟩
      have c11 := below_step c10 b11
      have HA_11 := Lib.hid (HA_10.out.keep b11)
      have HX_11 := Lib.hid (HX_10.out.keep b11)
      have HC_11 := Lib.hid (HC_10.out.keep b11)
      have HU_11 := Lib.hid (HU_10.out.keep b11)
      have HV_11 := Lib.hid (HV_10.out.keep b11)
      clear HA_10 HX_10 HC_10 HU_10 HV_10 b11 c10
      have HP5_11 := Lib.hid sP5
      clear sP5
      go_wp2_with fail
      refine (cp_lc _ C _ w11 (by omega) HC_11.out).mono ?_
      rintro e w12 ⟨pP6, pcP6, rfl, sP6, b12⟩
      have c12 := below_step c11 b12
      have HA_12 := Lib.hid (HA_11.out.keep b12)
      have HX_12 := Lib.hid (HX_11.out.keep b12)
      have HC_12 := Lib.hid (HC_11.out.keep b12)
      have HU_12 := Lib.hid (HU_11.out.keep b12)
      have HV_12 := Lib.hid (HV_11.out.keep b12)
      have HP5_12 := Lib.hid (HP5_11.out.keep b12)
      clear HA_11 HX_11 HC_11 HU_11 HV_11 HP5_11 b12 c11
      have HP6_12 := Lib.hid sP6
      clear sP6
      go_wp2_with fail
      refine (HM1.out _ _ _ _ w12 HP5_12.out HP6_12.out (HT.out.below c12)).mono ?_
      rintro e w13 ⟨z1, z2, rfl, sz, b13⟩
      have c13 := below_step c12 b13
      have HA_13 := Lib.hid (HA_12.out.keep b13)
      have HX_13 := Lib.hid (HX_12.out.keep b13)
      have HC_13 := Lib.hid (HC_12.out.keep b13)
      have HU_13 := Lib.hid (HU_12.out.keep b13)
      have HV_13 := Lib.hid (HV_12.out.keep b13)
      have HP5_13 := Lib.hid (HP5_12.out.keep b13)
      have HP6_13 := Lib.hid (HP6_12.out.keep b13)
      clear HA_12 HX_12 HC_12 HU_12 HV_12 HP5_12 HP6_12 b13 c12
      have HZ_13 := Lib.hid sz.srcC
      clear sz
      clear HP5_13
      clear HP6_13
      go_wp2_with fail
      refine (cp_lc _ x _ w13 (by omega) HX_13.out).mono ?_
      rintro e w14 ⟨pP7, pcP7, rfl, sP7, b14⟩
      have c14 := below_step c13 b14
      have HA_14 := Lib.hid (HA_13.out.keep b14)
      have HX_14 := Lib.hid (HX_13.out.keep b14)
      have HC_14 := Lib.hid (HC_13.out.keep b14)
      have HU_14 := Lib.hid (HU_13.out.keep b14)
      have HV_14 := Lib.hid (HV_13.out.keep b14)
      have HZ_14 := Lib.hid (HZ_13.out.keep b14)
      clear HA_13 HX_13 HC_13 HU_13 HV_13 HZ_13 b14 c13
      have HP7_14 := Lib.hid sP7
      clear sP7
      go_wp2_with fail
      refine (HJ3.out _ _ _ _ w14 HZ_14.out HP7_14.out (HT.out.below c14)).mono ?_
      rintro e w15 ⟨y1, y2, rfl, sy, b15⟩
      have c15 := below_step c14 b15
      have HA_15 := Lib.hid (HA_14.out.keep b15)
      have HX_15 := Lib.hid (HX_14.out.keep b15)
      have HC_15 := Lib.hid (HC_14.out.keep b15)
      have HU_15 := Lib.hid (HU_14.out.keep b15)
      have HV_15 := Lib.hid (HV_14.out.keep b15)
      have HZ_15 := Lib.hid (HZ_14.out.keep b15)
      have HP7_15 := Lib.hid (HP7_14.out.keep b15)
      clear HA_14 HX_14 HC_14 HU_14 HV_14 HZ_14 HP7_14 b15 c14
      have HY_15 := Lib.hid sy.src
      clear sy
      clear HZ_15
      clear HP7_15
      go_wp2_with fail
      refine (HM2.out _ _ _ _ w15 HU_15.out HV_15.out (HT.out.below c15)).mono ?_
      rintro e w16 ⟨t1, t2, rfl, st, b16⟩
      have c16 := below_step c15 b16
      have HA_16 := Lib.hid (HA_15.out.keep b16)
      have HX_16 := Lib.hid (HX_15.out.keep b16)
      have HC_16 := Lib.hid (HC_15.out.keep b16)
      have HU_16 := Lib.hid (HU_15.out.keep b16)
      have HV_16 := Lib.hid (HV_15.out.keep b16)
      have HY_16 := Lib.hid (HY_15.out.keep b16)
      clear HA_15 HX_15 HC_15 HU_15 HV_15 HY_15 b16 c15
      have HTT_16 := Lib.hid st.src
      clear st
      go_wp2_with fail
      refine (sameZ _ _ WL _ _ w16 (by omega) HTT_16.out HY_16.out).mono ?_
      rintro e w17 ⟨rfl, b17⟩
      have c17 := below_step c16 b17
      have HA_17 := Lib.hid (HA_16.out.keep b17)
      have HX_17 := Lib.hid (HX_16.out.keep b17)
      have HC_17 := Lib.hid (HC_16.out.keep b17)
      have HU_17 := Lib.hid (HU_16.out.keep b17)
      have HV_17 := Lib.hid (HV_16.out.keep b17)
      have HY_17 := Lib.hid (HY_16.out.keep b17)
      have HTT_17 := Lib.hid (HTT_16.out.keep b17)
      clear HA_16 HX_16 HC_16 HU_16 HV_16 HY_16 HTT_16 b17 c16
      go_wp2
      go_ret
      exact ⟨rfl, c17⟩
end Go.Proofs.YtmgggdibbhameabDoor
namespace Go.Proofs.YtmgggdibbhameabDoor
open Go.RowKit
/-- The coefficients of the product of the first i linear factors, as elements. -/
def elE (f : Int) (R : Nat → Int) (i : Nat) : Nat → Int := fun j => RS (elS R i j) (P f)
theorem elS_zero (R : Nat → Int) : ∀ i, elS R i 0 = 1
  | 0 => rfl
  | i + 1 => by
    show cv 0 (elS R i) (linS (R i)) = 1
    rw [cv_ipar, elS_zero R i]
    rfl
theorem elS_next (R : Nat → Int) (i j : Nat) : elS R (i + 1) (j + 1) = elS R i (j + 1) + R i * elS R i j := cv_lin (elS R i) (R i) j
theorem elS_high (R : Nat → Int) : ∀ i j, i < j → elS R i j = 0
  | 0, j, h => if_neg (by omega)
  | i + 1, j, h => by
    obtain ⟨k, rfl⟩ : ∃ k, j = k + 1 := ⟨j - 1, by omega⟩
    rw [elS_next, elS_high R i (k + 1) (by omega), elS_high R i k (by omega)]
    omega
/-- The row of a round: the first places turned. -/
def nxE (f : Int) (R : Nat → Int) (i j : Nat) : Nat → Int := fun k => if k ≤ j then elE f R (i + 1) k else elE f R i k
theorem nxE_start {f : Int} (R : Nat → Int) (i k : Nat) (hk : k < i + 2) : more (elE f R i) (i + 1) 0 k = nxE f R i 0 k := by
  unfold nxE
  by_cases h : k < i + 1
  · rw [more_lo h]
    by_cases h0 : k = 0
    · subst h0
      rw [if_pos (Nat.le_refl _)]
      unfold elE
      rw [elS_zero, elS_zero]
    · rw [if_neg (by omega)]
  · obtain rfl : k = i + 1 := by omega
    rw [more_at, if_neg (by omega)]
    unfold elE
    rw [elS_high R i (i + 1) (by omega)]
    simp [RS]
theorem nxE_step {f : Int} (R : Nat → Int) (i j k : Nat) : (if k = j + 1 then RS (elE f R i (j + 1) + RS (elE f R i j * R i) (P f)) (P f) else nxE f R i j k) = nxE f R i (j + 1) k := by
  unfold nxE
  by_cases h : k = j + 1
  · subst h
    rw [if_pos rfl, if_pos (Nat.le_refl _)]
    unfold elE
    rw [elS_next]
    unfold RS
    refine emod_add_congr (Int.emod_emod_of_dvd _ (Int.dvd_refl _)) ?_
    rw [Int.emod_emod_of_dvd _ (Int.dvd_refl _), Int.mul_comm (R i)]
    exact emod_mul_congr (Int.emod_emod_of_dvd _ (Int.dvd_refl _)) rfl
  · rw [if_neg h]
    by_cases h1 : k ≤ j
    · rw [if_pos h1, if_pos (by omega)]
    · rw [if_neg h1, if_neg (by omega)]
theorem nxE_end {f : Int} (R : Nat → Int) (i k : Nat) (hk : k < i + 2) : nxE f R i (i + 1) k = elE f R (i + 1) k := if_pos (by omega)
theorem IsNewt.congr {p : Int} {n : Nat} {E E' S S' : Nat → Int} (h : IsNewt p n E S) (hE : EqN p (n + 1) E' E) (hS : EqN p n S' S) : IsNewt p n E' S' := by
  unfold IsNewt at *
  have h1 : EqN p (n + 1) (sgnS S') (sgnS S) := fun i hi => by
    unfold sgnS
    by_cases hz : i = 0
    · rw [if_pos hz, if_pos hz]
    · rw [if_neg hz, if_neg hz]
      exact emod_mul_congr rfl (hS (i - 1) (by omega))
  exact (hE.th.trans h).trans (h1.mul hE).symm
/-- The elementary sums as a list. -/
def esL (f : Int) (R : Nat → Int) (m : Nat) : List Int := elL f m fun k => elS R m (k + 1)
theorem esL_ok {f : Int} (hf : 0 ≤ f ∧ f ≤ 8) (R : Nat → Int) {m : Nat} (m1 : 1 ≤ m) (m2 : m ≤ 20) : SerOk f (esL f R m) := (elL_ser hf.1 hf.2 m _).ok hf m1 (by omega)
theorem newt_es {f : Int} (hf : 0 ≤ f ∧ f ≤ 8) (R : Nat → Int) {m : Nat} (m1 : 1 ≤ m) (m2 : m ≤ 20) : newtL f (esL f R m) = elL f m (pwS R m) := by
  have hl : (esL f R m).length = m := elL_len _ _ _
  refine newtL_eq (esL_ok hf R m1 m2) ⟨by rw [hl]; exact elL_ser hf.1 hf.2 _ _, ?_⟩
  rw [hl]
  refine (newton_is (P f) m R m).congr (fun i hi => ?_) (elL_eq m _)
  unfold oneE
  by_cases hz : i = 0
  · subst hz
    rw [if_pos rfl, elS_zero]
  · obtain ⟨k, rfl⟩ : ∃ k, i = k + 1 := ⟨i - 1, by omega⟩
    rw [if_neg hz, Nat.add_sub_cancel]
    exact elL_eq m _ k (by omega)
def psE (f : Int) (R : Nat → Int) (k i : Nat) : Int := RS (sumN (fun j => R j ^ (k + 1)) i) (P f)
theorem psE_next {f : Int} (h0 : 0 ≤ f) (h8 : f ≤ 8) (R : Nat → Int) (k i : Nat) : RS (psE f R k i + mPower f (R i) ((k : Int) + 1)) (P f) = psE f R k (i + 1) := by
  have e : mPower f (R i) ((k : Int) + 1) = RS (R i ^ (k + 1)) (P f) := power_nat h0 h8 (R i) (k + 1)
  rw [e]
  unfold psE
  rw [rs_plus]
  rfl
set_option maxRecDepth 100000 in
set_option maxHeartbeats 6400000 in
theorem newton_walk (iNewton : ∀ (f : Int) (a : Option Addr) (l : List Int) (cap : Nat) (w : World), l.length ≤ 1048576 → SrcC w a l.length cap (lf l) → Tab w → Calls Tryd.prog 20 #[.int .i64 f, .slice a l.length cap] w (OwnLB w (mNewton0 f l) (mNewton1 f l)))
    (a0 : Option Addr) (len0 cap0 : Nat) (w : World) (hl2 : len0 ≤ 1048576) (hcode : Code w a0 len0) (ht : Tab w) : Calls Tryd.prog 10 #[.slice a0 len0 cap0] w fun e w' => e = .returned (.bool true) ∧ Below w.heap.size w w' := by
  have IN := Lib.hid iNewton
  have HT := Lib.hid ht
  clear iNewton ht
  obtain ⟨i0, hi, hz0, hz1, hz2⟩ := info_parts info3
  have HI := Lib.hid hi
  have HZ0 := Lib.hid hz0
  have HZ1 := Lib.hid hz1
  have HZ2 := Lib.hid hz2
  clear hi hz0 hz1 hz2
  go_enter Tryd.func10, Tryd.ntmps10
  go_wp2_with fail
  refine (big_no a0 len0 cap0 w hl2).mono ?_
  rintro e w' ⟨rfl, rfl⟩
  go_wp2_with fail
  refine (drawSeriesOk_c a0 len0 cap0 w hcode).mono ?_
  rintro e w1 ⟨f, a, l, cap, rfl, nl, s1, c1⟩
  have HA := Lib.hid s1.src
  clear hcode s1
  have R1 := sSeriesOk f a l cap w1 (by omega) HA.out
  by_cases k1 : SerOk f l
  rotate_left
  · rw [sok_not.2 k1] at R1
    have HR1 := Lib.hid R1
    clear R1 k1
    go_wp2_with fail
    refine HR1.out.mono ?_
    rintro e w' ⟨rfl, rfl⟩
    go_wp2
    go_ret
    exact ⟨rfl, c1⟩
  rw [sok_iff.2 k1] at R1
  have HR1 := Lib.hid R1
  clear R1
  by_cases h20 : l.length ≤ 20
  rotate_left
  · have d1 : decide ((20 : Int) < l.length) = true := decide_eq_true (by omega)
    clear k1
    go_wp2_with fail
    refine HR1.out.mono ?_
    rintro e w' ⟨rfl, rfl⟩
    go_wp2
    go_ret
    exact ⟨rfl, c1⟩
  have d1 : decide ((20 : Int) < l.length) = false := decide_eq_false (by omega)
  have hf := k1.1
  have n1 := k1.2.1.1
  have hp := P_bd hf.1 hf.2
  obtain ⟨ab, ao, rfl, alt, ac⟩ : ∃ b off, a = some ⟨b, off, none⟩ ∧ b < w1.heap.size ∧ ∀ j, j < l.length → w1.cell? ⟨b, off + j, none⟩ = some (.int .i64 (lf l j)) := by
    rcases HA.out with hq | hq
    · omega
    · exact hq
  have HAC := Lib.hid ac
  have HMU : Hid (∀ x y w, Calls Tryd.prog 41 #[.int .i64 f, .int .i64 x, .int .i64 y] w fun e w' => e = .returned (.int .i64 (RS (x * y) (P f))) ∧ w = w') := Lib.hid fun x y w => by have := sMul f x y w; rwa [mMul, if_pos hf] at this
  have HAD : Hid (∀ x y w, Calls Tryd.prog 33 #[.int .i64 f, .int .i64 x, .int .i64 y] w fun e w' => e = .returned (.int .i64 (RS (x + y) (P f))) ∧ w = w') := Lib.hid fun x y w => by have := sAdd f x y w; rwa [mAdd, if_pos hf] at this
  have HPO := Lib.hid (sPower f)
  have HPS := Lib.hid (psE_next hf.1 hf.2 (lf l))
  have HNS := Lib.hid (nxE_start (f := f) (lf l))
  have HNE := Lib.hid (nxE_end (f := f) (lf l))
  have HNT := Lib.hid (nxE_step (f := f) (lf l))
  have HEB : Hid (∀ i j, 0 ≤ elE f (lf l) i j ∧ elE f (lf l) i j < P f) := Lib.hid fun i j => RS_bd (by omega)
  have hes := esL_ok hf (lf l) n1 h20
  have les : (esL f (lf l) l.length).length = l.length := elL_len _ _ _
  have HNW : Hid (∀ p pc W, SrcC W p l.length pc (lf (esL f (lf l) l.length)) → Tab W → Calls Tryd.prog 20 #[.int .i64 f, .slice p l.length pc] W (OwnLB W (elL f l.length (pwS (lf l) l.length)) true)) := Lib.hid fun p pc W h1 h2 => by
    have := IN.out f p (esL f (lf l) l.length) pc W (by omega) (by rw [les]; exact h1) h2
    rwa [les, show mNewton0 f (esL f (lf l) l.length) = elL f l.length (pwS (lf l) l.length) by unfold mNewton0; rw [if_pos hes]; exact newt_es hf (lf l) n1 h20, show mNewton1 f (esL f (lf l) l.length) = true by unfold mNewton1; simp [hes]] at this
  have HPL : Hid ((elL f l.length (pwS (lf l) l.length)).length = l.length) := Lib.hid (elL_len _ _ _)
  have HPA : Hid (∀ k, k < l.length → lf (elL f l.length (pwS (lf l) l.length)) k = psE f (lf l) k l.length) := Lib.hid fun k hk => by rw [lf_elL, if_pos hk]; rfl
  have HES : Hid (∀ k, k < l.length → lf (esL f (lf l) l.length) k = elE f (lf l) l.length (k + 1)) := Lib.hid fun k hk => by unfold esL; rw [lf_elL, if_pos hk]; rfl
  have HP0 : Hid (∀ k, (0 : Int) = psE f (lf l) k 0) := Lib.hid fun k => by unfold psE; simp [sumN, RS]
  have dPL : (((elL f l.length (pwS (lf l) l.length)).length : Int) != l.length) = false := by rw [bne_eq_false_iff_eq]; have := HPL.out; omega
  have hE1 : Src (w1.alloc (.cells #[.int .i64 1] 3)) (some ⟨w1.heap.size, 0, none⟩) 1 (elE f (lf l) 0) := by
    have h := src_one w1 1
    rcases h with hq | ⟨b, off, e, hlt, hc⟩
    · omega
    · refine .inr ⟨b, off, e, hlt, fun j hj => ?_⟩
      obtain rfl : j = 0 := by omega
      have h1 : elE f (lf l) 0 0 = 1 := one_p hf.1 hf.2
      rw [h1]
      exact hc 0 hj
  have HE1 := Lib.hid hE1
  have BA : Hid (Below w1.heap.size w1 (w1.alloc (.cells #[.int .i64 1] 3))) := Lib.hid ((Below.refl _ _).alloc (Nat.le_refl _) _)
  clear k1 ac hf hes les hE1 HA IN
  generalize elL f l.length (pwS (lf l) l.length) = PL at *
  generalize esL f (lf l) l.length = ES at *
  generalize lf l = R at *
  generalize l.length = m at *
  go_wp2_with fail
  refine HR1.out.mono ?_
  rintro e w' ⟨rfl, rfl⟩
  clear HR1
  go_wp2_with fail
  go_loopw [5, 6, 7, 8] (fun ev iv _ _ wr => ∃ (i eb eo c : Nat), iv = .int .i64 i ∧ i ≤ m ∧ ev = .slice (some ⟨eb, eo, none⟩) (i + 1) c ∧ i + 1 ≤ c ∧ eb < wr.heap.size ∧ Hid (∀ j, j < i + 1 → wr.cell? ⟨eb, eo + j, none⟩ = some (.int .i64 (elE f R i j))) ∧ Below w1.heap.size w1 wr) (fun _ iv _ _ _ => m - (intOf iv).toNat)
  case atStart =>
    obtain ⟨b, off, e, hlt, hc⟩ : ∃ b off, (some ⟨w1.heap.size, 0, none⟩ : Option Addr) = some ⟨b, off, none⟩ ∧ b < (w1.alloc (.cells #[.int .i64 1] 3)).heap.size ∧ ∀ j, j < 1 → (w1.alloc (.cells #[.int .i64 1] 3)).cell? ⟨b, off + j, none⟩ = some (.int .i64 (elE f R 0 j)) := by
      rcases HE1.out with hq | hq
      · omega
      · exact hq
    injection e with e
    injection e with e1 e2
    subst e1
    subst e2
    exact ⟨0, w1.heap.size, 0, 1, rfl, Nat.zero_le _, rfl, Nat.le_refl _, hlt, Lib.hid hc, BA.out⟩
  case round =>
    clear HE1 BA
    obtain ⟨i, eb, eo, c, rfl, him, rfl, hcap, helt, HEC, hb⟩ := hrel
    generalize wr = W0 at *
    by_cases h1 : i < m
    · have hd1 : decide ((i : Int) < m) = true := decide_eq_true (by omega)
      have HCPO := Lib.hid (cpO_some eb eo (i + 1) c (elE f R i) W0 (by omega) helt HEC.out)
      have hs := hb.size
      go_wp2_with fail
      refine HCPO.out.mono ?_
      rintro e w2 ⟨v, rfl, hown, b2⟩
      clear HCPO
      have hs2 := b2.size
      go_wp2_with (at_builtin; refine wpList_append_own _ rfl _ _ 22 rfl W0.heap.size 3 i0 (.int .i64 0) 1 8 Tryd.underlying22 HI.out HZ0.out HZ1.out HZ2.out rfl (by decide) _ _ _ rfl (hown.alloc _) ⟨w2.heap.size, 0, none⟩ 1 1 [.int .i64 0] rfl rfl ?c1 ?c2 ?c3 ?c4 ?c5 ?_)
      case c1 => exact cell_one_new _ _ _
      case c2 => intro u hu; simp at hu; subst hu; rfl
      case c3 => unfold maxLen; omega
      case c4 => omega
      case c5 => simp; omega
      intro v' w3 hown' hgrow _
      have b3 : Below W0.heap.size W0 w3 := (b2.alloc hs2 _).grown hgrow (by simp; omega) (own_ge hown)
      rw [xs_more] at hown'
      obtain ⟨g, cg, rfl, hg, hov⟩ := OwnV.of_owns hown' (by omega)
      have hcg : i + 2 ≤ cg := by obtain ⟨_, _, h, _⟩ := hov; exact h
      have HOV : Hid (OwnV w3 g (i + 2) cg (nxE f R i 0)) := Lib.hid (hov.congr fun j hj => HNS.out i j hj)
      clear hgrow hown hown' hov b2 hs2
      go_wp2_with fail
      go_loopw [8] (fun jv wr2 => ∃ j : Nat, jv = .int .i64 j ∧ j ≤ i + 1 ∧ OwnV wr2 g (i + 2) cg (nxE f R i j) ∧ Below W0.heap.size W0 wr2) (fun jv _ => i + 1 - (intOf jv).toNat)
      case atStart => exact ⟨0, rfl, Nat.zero_le _, HOV.out, b3⟩
      case round =>
        clear HOV b3
        obtain ⟨j, rfl, hj, ho, hb4⟩ := hrel
        by_cases h2 : j < i + 1
        · have hd2 : decide ((j : Int) < ((i + 1 : Nat) : Int)) = true := decide_eq_true (by omega)
          have hd3 : decide ((j : Int) < (i : Int) + 1) = true := decide_eq_true (by omega)
          have hb5 : Below W0.heap.size W0 wr.drew := hb4.drew
          have hb6 := below_up hb hb5 hb.size
          have d2 : wr.drew.cell? ⟨eb, eo + j, none⟩ = some (.int .i64 (elE f R i j)) := (hb5.cell (p := ⟨eb, eo + j, none⟩) helt).trans (HEC.out j h2)
          have d3 : wr.drew.cell? ⟨ab, ao + i, none⟩ = some (.int .i64 (R i)) := (hb6.cell (p := ⟨ab, ao + i, none⟩) alt).trans (HAC.out i h1)
          have d4 : wr.drew.cell? ⟨g, j + 1, none⟩ = some (.int .i64 (elE f R i (j + 1))) := by
            have hx := ho.cell (show j + 1 < i + 2 by omega)
            have e : nxE f R i j (j + 1) = elE f R i (j + 1) := if_neg (by omega)
            rw [e] at hx
            exact hx
          have d5 : wr.drew.frozen? ⟨g, j + 1, none⟩ = false := ho.frozen (j + 1)
          have HM := Lib.hid (HMU.out (elE f R i j) (R i) wr.drew)
          have HD := Lib.hid (HAD.out (elE f R i (j + 1)) (RS (elE f R i j * R i) (P f)) wr.drew)
          have hw : IntKind.i64.wrap ((j : Int) + 1) = (j : Int) + 1 := IntWalk.i64_in _ (by omega)
          have i1 : (0 : Int) ≤ (j : Int) + 1 := by omega
          have i2 : (j : Int) + 1 < (i : Int) + 2 := by omega
          have i3 : ((j : Int) + 1).toNat = j + 1 := by omega
          have i4 : (0 : Int) ≤ (j : Int) := by omega
          have i5 : (j : Int) < (i : Int) + 1 := by omega
          have i6 : (0 : Int) ≤ (i : Int) := by omega
          have i7 : (i : Int) < m := by omega
          obtain ⟨V, hV⟩ : ∃ V, RS (elE f R i (j + 1) + RS (elE f R i j * R i) (P f)) (P f) = V := ⟨_, rfl⟩
          have HVV := Lib.hid hV
          have HS : Hid (OwnV (wr.drew.setCell ⟨g, j + 1, none⟩ (.int .i64 V)) g (i + 2) cg (nxE f R i (j + 1))) := Lib.hid ((OwnV.set (s := j + 1) (x := V) (show OwnV wr.drew g (i + 2) cg (nxE f R i j) from ho)).congr fun k _ => by
            rw [← HNT.out i j k, ← hV]
            rfl)
          have HB5 := Lib.hid (hb5.setCell (p := ⟨g, j + 1, none⟩) hg (.int .i64 V))
          clear ho hV hb6
          go_wp2
          refine wp_region_still_tail 21 (by kernel_rfl) (by kernel_rfl) ?_
          simp only [List.take_succ_cons, List.take_zero, List.drop_succ_cons, List.drop_zero]
          iterate 18 still_step
          still_call (HM.out.mono fun _ _ h => ⟨h.1, h.2.symm⟩)
          still_call (HD.out.mono fun _ _ h => ⟨h.1, h.2.symm⟩)
          still_step
          refine wpStill_nil ?_
          change wpList _ _ _ _ _ wr.drew
          rw [HVV.out]
          clear d2 d3 hw i1 i2 i3 HM HD HVV hb4 hb5
          generalize wr.drew = W5 at *
          go_wp2
          go_roundw
          case rel => exact ⟨j + 1, by go_num, by omega, HS.out, HB5.out⟩
          case measure => simp [intOf]; omega
        · have hd2 : decide ((j : Int) < ((i + 1 : Nat) : Int)) = false := decide_eq_false (by omega)
          have hd3 : decide ((j : Int) < (i : Int) + 1) = false := decide_eq_false (by omega)
          obtain rfl : j = i + 1 := by omega
          have HC2 : Hid (∀ k, k < i + 1 + 1 → wr.cell? ⟨g, 0 + k, none⟩ = some (.int .i64 (elE f R (i + 1) k))) := Lib.hid fun k hk => by
            have hx := ho.cell (show k < i + 2 by omega)
            rw [HNE.out i k hk] at hx
            rw [Nat.zero_add]
            exact hx
          have hgl := ho.lt
          have hbn := below_up hb hb4 hb.size
          clear ho hb4
          go_wp2
          go_roundw
          case rel => exact ⟨i + 1, g, 0, cg, by go_num, by omega, rfl, by omega, hgl, HC2, hbn⟩
          case measure => simp [intOf]; omega
    · have hd1 : decide ((i : Int) < m) = false := decide_eq_false (by omega)
      obtain rfl : i = m := by omega
      have hsl : ∀ w, (Instr.slice 22 (.slice (some ⟨eb, eo, none⟩) (i + 1) c) (some (.int .i64 1)) none none).run Tryd.prog w = .ok (.slice (some ⟨eb, eo + 1, none⟩) i (c - 1)) w := fun w => by
        obtain ⟨q, hq, hzz⟩ := Option.map_eq_some_iff.1 info3
        simp only [Prod.mk.injEq] at hzz
        have e2 : ¬ c = 1 := by omega
        have e3 : (1 : Int) ≤ (i : Int) + 1 := by omega
        simp [Instr.slice, run_underlying Tryd.underlying22, Instr.sliceBounds, Instr.sliceBound, asIntOf, sizeOf, typeInfo, hq, hzz.2.1, e2, e3, Addr.add_lit]
      have HCP : Hid (Calls Tryd.prog 27 #[.slice (some ⟨eb, eo + 1, none⟩) i (c - 1)] W0 (fun e w' => ∃ a cap, e = .returned (.slice a i cap) ∧ SrcC w' a i cap (lf ES) ∧ Below W0.heap.size W0 w')) := Lib.hid (cpC_some eb (eo + 1) i (c - 1) (lf ES) W0 (by omega) helt (fun k hk => by
        have := HEC.out (k + 1) (by omega)
        rw [HES.out k hk, show eo + 1 + k = eo + (k + 1) by omega]
        exact this))
      clear HEC
      go_wp2_with fail
      refine HCP.out.mono ?_
      rintro e w2 ⟨p, pc, rfl, sp, b2⟩
      have hb2 := below_up hb b2 hb.size
      have HSP := Lib.hid sp
      clear sp b2 hsl HCP
      go_wp2_with fail
      refine (HNW.out p pc w2 HSP.out (HT.out.below (below_step c1 hb2))).mono ?_
      rintro e w4 ⟨q, qc, rfl, sq, b4⟩
      have hb4 := below_up hb2 b4 hb2.size
      have hb5 := below_step c1 hb4
      have HQ := Lib.hid sq.src
      clear sq b4 hb2 HSP
      rcases HQ.out with hz | ⟨qb, qo, rfl, qlt, qcell⟩
      · have := HPL.out; omega
      have HQC := Lib.hid qcell
      have HAC2 : Hid (∀ j, j < i → w4.cell? ⟨ab, ao + j, none⟩ = some (.int .i64 (R j))) := Lib.hid fun j hj => (hb4.cell (p := ⟨ab, ao + j, none⟩) alt).trans (HAC.out j hj)
      clear qcell HQ hb hb4
      go_wp2_with fail
      go_loopw [11, 12, 13] (fun kv _ _ wr => ∃ k : Nat, kv = .int .i64 k ∧ k ≤ PL.length ∧ w4 = wr) (fun kv _ _ _ => PL.length - (intOf kv).toNat)
      case atStart => exact ⟨0, rfl, Nat.zero_le _, rfl⟩
      case round =>
        obtain ⟨k, rfl, hk, rfl⟩ := hrel
        by_cases h2 : k < PL.length
        · have hd2 : decide ((k : Int) < PL.length) = true := decide_eq_true (by omega)
          have hki : k < i := by have := HPL.out; omega
          go_wp2_with fail
          go_loopw [12, 13] (fun sv iv wr2 => ∃ j : Nat, iv = .int .i64 j ∧ j ≤ i ∧ sv = .int .i64 (psE f R k j) ∧ w4 = wr2) (fun _ iv _ => i - (intOf iv).toNat)
          case atStart => exact ⟨0, rfl, Nat.zero_le _, vint (HP0.out k), rfl⟩
          case round =>
            obtain ⟨j, rfl, hj, rfl, rfl⟩ := hrel
            by_cases h3 : j < i
            · have hd3 : decide ((j : Int) < i) = true := decide_eq_true (by omega)
              have d2 := HAC2.out j h3
              have j1 : (j : Int) < i := by omega
              have HP1 := Lib.hid (HPO.out (R j) ((k : Int) + 1))
              have HA1 := Lib.hid (HAD.out (psE f R k j) (mPower f (R j) ((k : Int) + 1)))
              have HE1 := Lib.hid (HPS.out k j)
              go_wp2_with fail
              refine (HP1.out _).mono ?_
              rintro e w' ⟨rfl, rfl⟩
              go_wp2_with fail
              refine (HA1.out _).mono ?_
              rintro e w' ⟨rfl, rfl⟩
              rw [HE1.out]
              go_wp2
              go_roundw
              case rel => exact ⟨j + 1, by go_num, by omega, rfl, trivial⟩
              case measure => simp [intOf]; omega
            · have hd3 : decide ((j : Int) < i) = false := decide_eq_false (by omega)
              obtain rfl : j = i := by omega
              have d2 := HQC.out k h2
              have d3 := HPA.out k hki
              have d4 : (lf PL k != psE f R k j) = false := by rw [bne_eq_false_iff_eq]; exact d3
              have k1 : (k : Int) < PL.length := by omega
              clear d3
              go_wp2
              go_roundw
              case rel => exact ⟨k + 1, by go_num, by omega, trivial⟩
              case measure => simp [intOf]; omega
        · have hd2 : decide ((k : Int) < PL.length) = false := decide_eq_false (by omega)
          go_wp2
          go_ret
          exact ⟨rfl, hb5⟩
end Go.Proofs.YtmgggdibbhameabDoor
