/-
  OddBack undoes OddValues, OddValues of a negacyclic product are the products, and its Norm is the product of the Norms, for every code that the law draws from; no condition but the card's own (the table of fields holds what its initialiser lays).
-/
import Derived.Test.YtoonpnfhcmghmaaDoorJ4
import Derived.ChangeOld
import Derived.Below
import Derived.Carry
namespace Go.Proofs.YtoonpnfhcmghmaaDoor
open Go.ChangeShapes Go.WideShapes Go.ChangeAt Go.RowKit
namespace OddProduct
set_option maxRecDepth 100000 in
set_option maxHeartbeats 1600000 in
theorem walk (a0 : Option Addr) (len0 cap0 : Nat) (z0 : List Int) (w : World) (hrow : IsRow .u8 w a0 len0 cap0 z0) (ht : Tab w) : Calls Tryd.prog 5 #[.slice a0 len0 cap0] w fun e w' => e = .returned (.bool true) ∧ Below w.heap.size w w' := by
  by_cases hl : 1048576 < len0
  · go_enter Tryd.func5, Tryd.ntmps5
    go_wp2_with fail
    refine (big_yes a0 len0 cap0 w hl).mono ?_
    rintro e w' ⟨rfl, rfl⟩
    go_wp2
    go_ret
    exact ⟨rfl, Below.refl _ _⟩
  have hl2 : len0 ≤ 1048576 := by omega
  have hcode := code_of_row hrow (by omega)
  clear hl hrow
  go_enter Tryd.func5, Tryd.ntmps5
  go_wp2_with fail
  refine (big_no a0 len0 cap0 w hl2).mono ?_
  rintro e w' ⟨rfl, rfl⟩
  go_wp2_with fail
  refine (drawTwisted_c a0 len0 cap0 w hl2 hcode).mono ?_
  rintro e w1 ⟨f, a, l, cap, a2, m, cap2, rfl, hln, hmn, hs, hs2, b1⟩
  clear hcode
  have c1 := b1
  have R1 := sVectorOk f a l cap w1 hln hs
  by_cases k1 : VecOk f l
  rotate_left
  · rw [vok_not.2 k1] at R1
    have HR := Lib.hid R1
    clear k1 hs hs2 R1
    go_wp2_with fail
    refine HR.out.mono ?_
    rintro e w' ⟨rfl, rfl⟩
    go_wp2
    go_ret
    exact ⟨rfl, b1⟩
  rw [vok_iff.2 k1] at R1
  have HR1 := Lib.hid R1
  clear R1
  have R2 := sVectorOk f a2 m cap2 w1 hmn hs2
  by_cases k2 : VecOk f m
  rotate_left
  · rw [vok_not.2 k2] at R2
    have HR2 := Lib.hid R2
    clear k1 k2 hs hs2 R2
    go_wp2_with fail
    refine HR1.out.mono ?_
    rintro e w' ⟨rfl, rfl⟩
    go_wp2_with fail
    refine HR2.out.mono ?_
    rintro e w' ⟨rfl, rfl⟩
    go_wp2
    go_ret
    exact ⟨rfl, b1⟩
  rw [vok_iff.2 k2] at R2
  have HR2 := Lib.hid R2
  have HV_1 := Lib.hid hs
  have HU_1 := Lib.hid hs2
  clear R2 hs hs2
  by_cases he : l.length = m.length
  rotate_left
  · have hne : ((l.length : Int) != m.length) = true := by
      rw [bne_iff_ne]
      omega
    clear k1 k2
    go_wp2_with fail
    refine HR1.out.mono ?_
    rintro e w' ⟨rfl, rfl⟩
    go_wp2_with fail
    refine HR2.out.mono ?_
    rintro e w' ⟨rfl, rfl⟩
    go_wp2
    go_ret
    exact ⟨rfl, b1⟩
  have hne : ((l.length : Int) != m.length) = false := by
    have : (l.length : Int) = m.length := by omega
    simp [this]
  have h9 : 0 ≤ mLog l.length ∧ mLog l.length ≤ 9 := by
    obtain ⟨k, hk, hq1, hl, hq2⟩ := k1.log
    omega
  have HLG := Lib.hid (fun W => sLogOf l.length W)
  by_cases hT : mLog l.length + 1 ≤ T f
  rotate_left
  · have dT : decide (T f < mLog l.length + 1) = true := decide_eq_true (by omega)
    have dT2 : T f < mLog l.length + 1 := by omega
    clear k1 k2 he hT
    generalize mLog l.length = L at *
    go_wp2_with fail
    refine HR1.out.mono ?_
    rintro e w' ⟨rfl, rfl⟩
    go_wp2_with fail
    refine HR2.out.mono ?_
    rintro e w' ⟨rfl, rfl⟩
    go_wp2_with fail
    refine (HLG.out w1).mono ?_
    rintro e w' ⟨rfl, rfl⟩
    go_wp2_with fail
    refine (sTwoPower f w1).mono ?_
    rintro e w' ⟨rfl, rfl⟩
    go_wp2
    go_ret
    exact ⟨rfl, b1⟩
  have dT : decide (T f < mLog l.length + 1) = false := decide_eq_false (by omega)
  obtain ⟨q1, q2, q3, q4⟩ := odd8_facts ⟨he, k1, k2⟩ hT
  have HQ1 := Lib.hid q1
  have HQ2 := Lib.hid q2
  have HQ3 := Lib.hid q3
  have HQ4 := Lib.hid q4
  have nT := len_mTwisted f l m hln hmn
  have nX := len_mOddValues f l hln
  have nY := len_mOddValues f m hmn
  have nZ := len_mOddValues f (mTwisted f l m) nT
  have dN : (mNorm f (mTwisted f l m) == mNorm f (mTwisted f l m)) = true := by simp
  clear k1 k2 he q1 q2 q3 q4
  generalize mLog l.length = L at *
  go_wp2_with fail
  refine HR1.out.mono ?_
  rintro e w' ⟨rfl, rfl⟩
  go_wp2_with fail
  refine HR2.out.mono ?_
  rintro e w' ⟨rfl, rfl⟩
  clear HR1 HR2 b1
  go_wp2_with fail
  refine (HLG.out w1).mono ?_
  rintro e w' ⟨rfl, rfl⟩
  go_wp2_with fail
  refine (sTwoPower f w1).mono ?_
  rintro e w' ⟨rfl, rfl⟩
  clear HLG
  go_wp2_with fail
  refine (cp_l a l cap w1 hln HV_1.out).mono ?_
  rintro e w2 ⟨a3, cap3, rfl, sa3, b2⟩
  have c2 := below_step c1 b2
  have HV_2 := Lib.hid (HV_1.out.keep b2)
  have HU_2 := Lib.hid (HU_1.out.keep b2)
  have H3_2 := Lib.hid sa3
  clear HV_1 HU_1 b2 c1 sa3
  go_wp2_with fail
  refine (iOddValues f a3 l cap3 w2 hln H3_2.out (ht.below c2)).mono ?_
  rintro e w3 ⟨a4, cap4, rfl, oa4, b3⟩
  have c3 := below_step c2 b3
  have HV_3 := Lib.hid (HV_2.out.keep b3)
  have HU_3 := Lib.hid (HU_2.out.keep b3)
  have H3_3 := Lib.hid (H3_2.out.keep b3)
  have H4_3 := Lib.hid oa4.src
  clear HV_2 HU_2 H3_2 b3 c2 oa4
  go_wp2_with fail
  refine (cp_l a2 m cap2 w3 hmn HU_3.out).mono ?_
  rintro e w4 ⟨a5, cap5, rfl, sa5, b4⟩
  have c4 := below_step c3 b4
  have HV_4 := Lib.hid (HV_3.out.keep b4)
  have HU_4 := Lib.hid (HU_3.out.keep b4)
  have H3_4 := Lib.hid (H3_3.out.keep b4)
  have H4_4 := Lib.hid (H4_3.out.keep b4)
  have H5_4 := Lib.hid sa5
  clear HV_3 HU_3 H3_3 H4_3 b4 c3 sa5
  go_wp2_with fail
  refine (iOddValues f a5 m cap5 w4 hmn H5_4.out (ht.below c4)).mono ?_
  rintro e w5 ⟨a6, cap6, rfl, oa6, b5⟩
  have c5 := below_step c4 b5
  have HV_5 := Lib.hid (HV_4.out.keep b5)
  have HU_5 := Lib.hid (HU_4.out.keep b5)
  have H3_5 := Lib.hid (H3_4.out.keep b5)
  have H4_5 := Lib.hid (H4_4.out.keep b5)
  have H5_5 := Lib.hid (H5_4.out.keep b5)
  have H6_5 := Lib.hid oa6.src
  clear HV_4 HU_4 H3_4 H4_4 H5_4 b5 c4 oa6
  go_wp2_with fail
  refine (cp_l a l cap w5 hln HV_5.out).mono ?_
  rintro e w6 ⟨a7, cap7, rfl, sa7, b6⟩
  have c6 := below_step c5 b6
  have HV_6 := Lib.hid (HV_5.out.keep b6)
  have HU_6 := Lib.hid (HU_5.out.keep b6)
  have H3_6 := Lib.hid (H3_5.out.keep b6)
  have H4_6 := Lib.hid (H4_5.out.keep b6)
  have H5_6 := Lib.hid (H5_5.out.keep b6)
  have H6_6 := Lib.hid (H6_5.out.keep b6)
  have H7_6 := Lib.hid sa7
  clear HV_5 HU_5 H3_5 H4_5 H5_5 H6_5 b6 c5 sa7
  go_wp2_with fail
  refine (cp_l a2 m cap2 w6 hmn HU_6.out).mono ?_
  rintro e w7 ⟨a8, cap8, rfl, sa8, b7⟩
  have c7 := below_step c6 b7
  have HV_7 := Lib.hid (HV_6.out.keep b7)
  have HU_7 := Lib.hid (HU_6.out.keep b7)
  have H3_7 := Lib.hid (H3_6.out.keep b7)
  have H4_7 := Lib.hid (H4_6.out.keep b7)
  have H5_7 := Lib.hid (H5_6.out.keep b7)
  have H6_7 := Lib.hid (H6_6.out.keep b7)
  have H7_7 := Lib.hid (H7_6.out.keep b7)
  have H8_7 := Lib.hid sa8
  clear HV_6 HU_6 H3_6 H4_6 H5_6 H6_6 H7_6 b7 c6 sa8
  go_wp2_with fail
  refine (iTwisted f a7 l cap7 a8 m cap8 w7 hln hmn H7_7.out H8_7.out (ht.below c7)).mono ?_
  rintro e w8 ⟨a9, cap9, rfl, oa9, b8⟩
  have c8 := below_step c7 b8
  have HV_8 := Lib.hid (HV_7.out.keep b8)
  have HU_8 := Lib.hid (HU_7.out.keep b8)
  have H3_8 := Lib.hid (H3_7.out.keep b8)
  have H4_8 := Lib.hid (H4_7.out.keep b8)
  have H5_8 := Lib.hid (H5_7.out.keep b8)
  have H6_8 := Lib.hid (H6_7.out.keep b8)
  have H7_8 := Lib.hid (H7_7.out.keep b8)
  have H8_8 := Lib.hid (H8_7.out.keep b8)
  have H9_8 := Lib.hid oa9.src
  clear HV_7 HU_7 H3_7 H4_7 H5_7 H6_7 H7_7 H8_7 b8 c7 oa9
  go_wp2_with fail
  refine (cp_l a9 (mTwisted f l m) cap9 w8 nT H9_8.out).mono ?_
  rintro e w9 ⟨a10, cap10, rfl, sa10, b9⟩
  have c9 := below_step c8 b9
  have HV_9 := Lib.hid (HV_8.out.keep b9)
  have HU_9 := Lib.hid (HU_8.out.keep b9)
  have H3_9 := Lib.hid (H3_8.out.keep b9)
  have H4_9 := Lib.hid (H4_8.out.keep b9)
  have H5_9 := Lib.hid (H5_8.out.keep b9)
  have H6_9 := Lib.hid (H6_8.out.keep b9)
  have H7_9 := Lib.hid (H7_8.out.keep b9)
  have H8_9 := Lib.hid (H8_8.out.keep b9)
  have H9_9 := Lib.hid (H9_8.out.keep b9)
  have H10_9 := Lib.hid sa10
  clear HV_8 HU_8 H3_8 H4_8 H5_8 H6_8 H7_8 H8_8 H9_8 b9 c8 sa10
  go_wp2_with fail
  refine (iOddValues f a10 (mTwisted f l m) cap10 w9 nT H10_9.out (ht.below c9)).mono ?_
  rintro e w10 ⟨a11, cap11, rfl, oa11, b10⟩
  have c10 := below_step c9 b10
  have HV_10 := Lib.hid (HV_9.out.keep b10)
  have HU_10 := Lib.hid (HU_9.out.keep b10)
  have H3_10 := Lib.hid (H3_9.out.keep b10)
  have H4_10 := Lib.hid (H4_9.out.keep b10)
  have H5_10 := Lib.hid (H5_9.out.keep b10)
  have H6_10 := Lib.hid (H6_9.out.keep b10)
  have H7_10 := Lib.hid (H7_9.out.keep b10)
  have H8_10 := Lib.hid (H8_9.out.keep b10)
  have H9_10 := Lib.hid (H9_9.out.keep b10)
  have H10_10 := Lib.hid (H10_9.out.keep b10)
  have H11_10 := Lib.hid oa11.src
  clear HV_9 HU_9 H3_9 H4_9 H5_9 H6_9 H7_9 H8_9 H9_9 H10_9 b10 c9 oa11
  have e3 : (((mOddValues f (mTwisted f l m)).length : Int) != l.length) = false := by rw [HQ1.out]; simp
  go_wp2_with fail
  refine (cp_l a4 (mOddValues f l) cap4 w10 nX H4_10.out).mono ?_
  rintro e w11 ⟨a12, cap12, rfl, sa12, b11⟩
  have c11 := below_step c10 b11
  have HV_11 := Lib.hid (HV_10.out.keep b11)
  have HU_11 := Lib.hid (HU_10.out.keep b11)
  have H3_11 := Lib.hid (H3_10.out.keep b11)
  have H4_11 := Lib.hid (H4_10.out.keep b11)
  have H5_11 := Lib.hid (H5_10.out.keep b11)
  have H6_11 := Lib.hid (H6_10.out.keep b11)
  have H7_11 := Lib.hid (H7_10.out.keep b11)
  have H8_11 := Lib.hid (H8_10.out.keep b11)
  have H9_11 := Lib.hid (H9_10.out.keep b11)
  have H10_11 := Lib.hid (H10_10.out.keep b11)
  have H11_11 := Lib.hid (H11_10.out.keep b11)
  have H12_11 := Lib.hid sa12
  clear HV_10 HU_10 H3_10 H4_10 H5_10 H6_10 H7_10 H8_10 H9_10 H10_10 H11_10 b11 c10 sa12
  go_wp2_with fail
  refine (iOddBack f a12 (mOddValues f l) cap12 w11 nX H12_11.out (ht.below c11)).mono ?_
  rw [HQ2.out]
  rintro e w12 ⟨a13, cap13, rfl, oa13, b12⟩
  have c12 := below_step c11 b12
  have HV_12 := Lib.hid (HV_11.out.keep b12)
  have HU_12 := Lib.hid (HU_11.out.keep b12)
  have H3_12 := Lib.hid (H3_11.out.keep b12)
  have H4_12 := Lib.hid (H4_11.out.keep b12)
  have H5_12 := Lib.hid (H5_11.out.keep b12)
  have H6_12 := Lib.hid (H6_11.out.keep b12)
  have H7_12 := Lib.hid (H7_11.out.keep b12)
  have H8_12 := Lib.hid (H8_11.out.keep b12)
  have H9_12 := Lib.hid (H9_11.out.keep b12)
  have H10_12 := Lib.hid (H10_11.out.keep b12)
  have H11_12 := Lib.hid (H11_11.out.keep b12)
  have H12_12 := Lib.hid (H12_11.out.keep b12)
  have H13_12 := Lib.hid oa13.src
  clear HV_11 HU_11 H3_11 H4_11 H5_11 H6_11 H7_11 H8_11 H9_11 H10_11 H11_11 H12_11 b12 c11 oa13
  go_wp2_with fail
  refine (sameZ a13 a l cap13 cap w12 hln H13_12.out HV_12.out).mono ?_
  rintro e w13 ⟨rfl, b13⟩
  have c13 := below_step c12 b13
  have HV_13 := Lib.hid (HV_12.out.keep b13)
  have HU_13 := Lib.hid (HU_12.out.keep b13)
  have H3_13 := Lib.hid (H3_12.out.keep b13)
  have H4_13 := Lib.hid (H4_12.out.keep b13)
  have H5_13 := Lib.hid (H5_12.out.keep b13)
  have H6_13 := Lib.hid (H6_12.out.keep b13)
  have H7_13 := Lib.hid (H7_12.out.keep b13)
  have H8_13 := Lib.hid (H8_12.out.keep b13)
  have H9_13 := Lib.hid (H9_12.out.keep b13)
  have H10_13 := Lib.hid (H10_12.out.keep b13)
  have H11_13 := Lib.hid (H11_12.out.keep b13)
  have H12_13 := Lib.hid (H12_12.out.keep b13)
  have H13_13 := Lib.hid (H13_12.out.keep b13)
  clear HV_12 HU_12 H3_12 H4_12 H5_12 H6_12 H7_12 H8_12 H9_12 H10_12 H11_12 H12_12 H13_12 b13 c12
  go_wp2_with fail
  refine (iPointwise f a4 (mOddValues f l) cap4 a6 (mOddValues f m) cap6 w13 nX nY H4_13.out H6_13.out (ht.below c13)).mono ?_
  rw [HQ3.out]
  rintro e w14 ⟨a14, cap14, rfl, oa14, b14⟩
  have c14 := below_step c13 b14
  have HV_14 := Lib.hid (HV_13.out.keep b14)
  have HU_14 := Lib.hid (HU_13.out.keep b14)
  have H3_14 := Lib.hid (H3_13.out.keep b14)
  have H4_14 := Lib.hid (H4_13.out.keep b14)
  have H5_14 := Lib.hid (H5_13.out.keep b14)
  have H6_14 := Lib.hid (H6_13.out.keep b14)
  have H7_14 := Lib.hid (H7_13.out.keep b14)
  have H8_14 := Lib.hid (H8_13.out.keep b14)
  have H9_14 := Lib.hid (H9_13.out.keep b14)
  have H10_14 := Lib.hid (H10_13.out.keep b14)
  have H11_14 := Lib.hid (H11_13.out.keep b14)
  have H12_14 := Lib.hid (H12_13.out.keep b14)
  have H13_14 := Lib.hid (H13_13.out.keep b14)
  have H14_14 := Lib.hid oa14.src
  clear HV_13 HU_13 H3_13 H4_13 H5_13 H6_13 H7_13 H8_13 H9_13 H10_13 H11_13 H12_13 H13_13 b14 c13 oa14
  go_wp2_with fail
  refine (sameZ a14 a11 (mOddValues f (mTwisted f l m)) cap14 cap11 w14 nZ H14_14.out H11_14.out).mono ?_
  rintro e w15 ⟨rfl, b15⟩
  have c15 := below_step c14 b15
  have HV_15 := Lib.hid (HV_14.out.keep b15)
  have HU_15 := Lib.hid (HU_14.out.keep b15)
  have H3_15 := Lib.hid (H3_14.out.keep b15)
  have H4_15 := Lib.hid (H4_14.out.keep b15)
  have H5_15 := Lib.hid (H5_14.out.keep b15)
  have H6_15 := Lib.hid (H6_14.out.keep b15)
  have H7_15 := Lib.hid (H7_14.out.keep b15)
  have H8_15 := Lib.hid (H8_14.out.keep b15)
  have H9_15 := Lib.hid (H9_14.out.keep b15)
  have H10_15 := Lib.hid (H10_14.out.keep b15)
  have H11_15 := Lib.hid (H11_14.out.keep b15)
  have H12_15 := Lib.hid (H12_14.out.keep b15)
  have H13_15 := Lib.hid (H13_14.out.keep b15)
  have H14_15 := Lib.hid (H14_14.out.keep b15)
  clear HV_14 HU_14 H3_14 H4_14 H5_14 H6_14 H7_14 H8_14 H9_14 H10_14 H11_14 H12_14 H13_14 H14_14 b15 c14
  go_wp2_with fail
  refine (iNorm f a9 (mTwisted f l m) cap9 w15 nT H9_15.out (ht.below c15)).mono ?_
  rintro e w16 ⟨rfl, b16⟩
  have c16 := below_step c15 b16
  have HV_16 := Lib.hid (HV_15.out.keep b16)
  have HU_16 := Lib.hid (HU_15.out.keep b16)
  have H3_16 := Lib.hid (H3_15.out.keep b16)
  have H4_16 := Lib.hid (H4_15.out.keep b16)
  have H5_16 := Lib.hid (H5_15.out.keep b16)
  have H6_16 := Lib.hid (H6_15.out.keep b16)
  have H7_16 := Lib.hid (H7_15.out.keep b16)
  have H8_16 := Lib.hid (H8_15.out.keep b16)
  have H9_16 := Lib.hid (H9_15.out.keep b16)
  have H10_16 := Lib.hid (H10_15.out.keep b16)
  have H11_16 := Lib.hid (H11_15.out.keep b16)
  have H12_16 := Lib.hid (H12_15.out.keep b16)
  have H13_16 := Lib.hid (H13_15.out.keep b16)
  have H14_16 := Lib.hid (H14_15.out.keep b16)
  clear HV_15 HU_15 H3_15 H4_15 H5_15 H6_15 H7_15 H8_15 H9_15 H10_15 H11_15 H12_15 H13_15 H14_15 b16 c15
  go_wp2_with fail
  refine (cp_l a l cap w16 hln HV_16.out).mono ?_
  rintro e w17 ⟨a15, cap15, rfl, sa15, b17⟩
  have c17 := below_step c16 b17
  have HV_17 := Lib.hid (HV_16.out.keep b17)
  have HU_17 := Lib.hid (HU_16.out.keep b17)
  have H3_17 := Lib.hid (H3_16.out.keep b17)
  have H4_17 := Lib.hid (H4_16.out.keep b17)
  have H5_17 := Lib.hid (H5_16.out.keep b17)
  have H6_17 := Lib.hid (H6_16.out.keep b17)
  have H7_17 := Lib.hid (H7_16.out.keep b17)
  have H8_17 := Lib.hid (H8_16.out.keep b17)
  have H9_17 := Lib.hid (H9_16.out.keep b17)
  have H10_17 := Lib.hid (H10_16.out.keep b17)
  have H11_17 := Lib.hid (H11_16.out.keep b17)
  have H12_17 := Lib.hid (H12_16.out.keep b17)
  have H13_17 := Lib.hid (H13_16.out.keep b17)
  have H14_17 := Lib.hid (H14_16.out.keep b17)
  have H15_17 := Lib.hid sa15
  clear HV_16 HU_16 H3_16 H4_16 H5_16 H6_16 H7_16 H8_16 H9_16 H10_16 H11_16 H12_16 H13_16 H14_16 b17 c16 sa15
  go_wp2_with fail
  refine (iNorm f a15 l cap15 w17 hln H15_17.out (ht.below c17)).mono ?_
  rintro e w18 ⟨rfl, b18⟩
  have c18 := below_step c17 b18
  have HV_18 := Lib.hid (HV_17.out.keep b18)
  have HU_18 := Lib.hid (HU_17.out.keep b18)
  have H3_18 := Lib.hid (H3_17.out.keep b18)
  have H4_18 := Lib.hid (H4_17.out.keep b18)
  have H5_18 := Lib.hid (H5_17.out.keep b18)
  have H6_18 := Lib.hid (H6_17.out.keep b18)
  have H7_18 := Lib.hid (H7_17.out.keep b18)
  have H8_18 := Lib.hid (H8_17.out.keep b18)
  have H9_18 := Lib.hid (H9_17.out.keep b18)
  have H10_18 := Lib.hid (H10_17.out.keep b18)
  have H11_18 := Lib.hid (H11_17.out.keep b18)
  have H12_18 := Lib.hid (H12_17.out.keep b18)
  have H13_18 := Lib.hid (H13_17.out.keep b18)
  have H14_18 := Lib.hid (H14_17.out.keep b18)
  have H15_18 := Lib.hid (H15_17.out.keep b18)
  clear HV_17 HU_17 H3_17 H4_17 H5_17 H6_17 H7_17 H8_17 H9_17 H10_17 H11_17 H12_17 H13_17 H14_17 H15_17 b18 c17
  go_wp2_with fail
  refine (cp_l a2 m cap2 w18 hmn HU_18.out).mono ?_
  rintro e w19 ⟨a16, cap16, rfl, sa16, b19⟩
  have c19 := below_step c18 b19
  have HV_19 := Lib.hid (HV_18.out.keep b19)
  have HU_19 := Lib.hid (HU_18.out.keep b19)
  have H3_19 := Lib.hid (H3_18.out.keep b19)
  have H4_19 := Lib.hid (H4_18.out.keep b19)
  have H5_19 := Lib.hid (H5_18.out.keep b19)
  have H6_19 := Lib.hid (H6_18.out.keep b19)
  have H7_19 := Lib.hid (H7_18.out.keep b19)
  have H8_19 := Lib.hid (H8_18.out.keep b19)
  have H9_19 := Lib.hid (H9_18.out.keep b19)
  have H10_19 := Lib.hid (H10_18.out.keep b19)
  have H11_19 := Lib.hid (H11_18.out.keep b19)
  have H12_19 := Lib.hid (H12_18.out.keep b19)
  have H13_19 := Lib.hid (H13_18.out.keep b19)
  have H14_19 := Lib.hid (H14_18.out.keep b19)
  have H15_19 := Lib.hid (H15_18.out.keep b19)
  have H16_19 := Lib.hid sa16
  clear HV_18 HU_18 H3_18 H4_18 H5_18 H6_18 H7_18 H8_18 H9_18 H10_18 H11_18 H12_18 H13_18 H14_18 H15_18 b19 c18 sa16
  go_wp2_with fail
  refine (iNorm f a16 m cap16 w19 hmn H16_19.out (ht.below c19)).mono ?_
  rintro e w20 ⟨rfl, b20⟩
  have c20 := below_step c19 b20
  have HV_20 := Lib.hid (HV_19.out.keep b20)
  have HU_20 := Lib.hid (HU_19.out.keep b20)
  have H3_20 := Lib.hid (H3_19.out.keep b20)
  have H4_20 := Lib.hid (H4_19.out.keep b20)
  have H5_20 := Lib.hid (H5_19.out.keep b20)
  have H6_20 := Lib.hid (H6_19.out.keep b20)
  have H7_20 := Lib.hid (H7_19.out.keep b20)
  have H8_20 := Lib.hid (H8_19.out.keep b20)
  have H9_20 := Lib.hid (H9_19.out.keep b20)
  have H10_20 := Lib.hid (H10_19.out.keep b20)
  have H11_20 := Lib.hid (H11_19.out.keep b20)
  have H12_20 := Lib.hid (H12_19.out.keep b20)
  have H13_20 := Lib.hid (H13_19.out.keep b20)
  have H14_20 := Lib.hid (H14_19.out.keep b20)
  have H15_20 := Lib.hid (H15_19.out.keep b20)
  have H16_20 := Lib.hid (H16_19.out.keep b20)
  clear HV_19 HU_19 H3_19 H4_19 H5_19 H6_19 H7_19 H8_19 H9_19 H10_19 H11_19 H12_19 H13_19 H14_19 H15_19 H16_19 b20 c19
  go_wp2_with fail
  refine (sMul f (mNorm f l) (mNorm f m) w20).mono ?_
  rintro e w' ⟨rfl, rfl⟩
  rw [← HQ4.out]
  go_wp2
  go_ret
  exact ⟨rfl, c20⟩
set_option maxRecDepth 100000 in
theorem contract (H : Type) (enc : TypeId × Value → H) (W : World) (base : Nat) (args : Array Value) (ds gs : List (DataW H)) (before : List MemPlace)
    (hval : ∀ (j : Nat) t v, Tryd.f5.params[j]? = some t → args[j]? = some v → Value.okWide Tryd.prog W .any base t v)
    (hW : DataW.Whole enc Tryd.prog Tryd.f5.params.toList Rows.fnOddProductSpec.vars false W args.toList ds gs before) (hL : laidMetH Tryd.prog Rows.fnOddProductRow.laid W) :
    Calls Tryd.prog 5 args W fun e W' => ∃ v, e = .returned v ∧ Rows.fnOddProductSpec.post enc Tryd.prog Tryd.f5 false true false false W args v W' := by
  have hvar := table_var hL
  have hW' := hW
  obtain ⟨p, q, hA0, hV, rfl, hfz, hnd⟩ := hW
  have hA : DataW.TrodAll enc Tryd.prog W 0 (fun _ => true) true Tryd.f5.params.toList args.toList ds p := hA0
  rw [Tryd.params5] at hA hval
  obtain ⟨v0, vs0, d0, ds0, p0, q0, hargs, rfl, rfl, h0, r0⟩ := trodAll_cons hA
  obtain ⟨rfl, rfl, rfl⟩ := trodAll_nil r0
  obtain rfl : args = #[v0] := by cases args; simp_all
  obtain ⟨rfl, rfl⟩ := DataW.TrodVars.unique hV (tab_vars enc (fun _ => true) hvar)
  obtain ⟨a0, len0, cap0, rfl⟩ := okWide_slice Tryd.underlying22 (hval 0 22 v0 rfl rfl)
  have k0 := h0
  have lt0 : ∀ x ∈ p0, x.block < W.heap.size := by obtain ⟨m, hm⟩ := k0; exact DataW.trod_lt m _ _ _ hm
  obtain ⟨z0, w0⟩ : ∃ zs, IsRow .u8 W a0 len0 cap0 zs := by
    obtain ⟨fuel, hf⟩ := h0
    rcases open_ints Tryd.underlying22 Tryd.underlying5 (by kernel_rfl) hf with ⟨hcs, _⟩ | ⟨x, l, c, zs, hcs, _, hl, hm, hz, _, hcell, hwz⟩
    · simp [Value.cells] at hcs
      obtain ⟨rfl, rfl, rfl⟩ := hcs
      exact ⟨[], .inl ⟨rfl, rfl, rfl, rfl⟩⟩
    · simp [Value.cells] at hcs
      obtain ⟨rfl, rfl, rfl⟩ := hcs
      exact ⟨zs, .inr ⟨_, rfl, hl, hm, by simpa using hz, hcell, hwz⟩⟩
  clear hA0
  refine (walk a0 len0 cap0 z0 W w0 (tab_of hvar)).mono fun e W' ⟨he, bel⟩ => ?_
  subst he
  exact ⟨_, rfl, _, _, _, [], _, _, hW', trodAll_mk1 (shut_bool Tryd.underlying4 _), (trodAll_cons_mk (Below.trod f_laidOut (by kernel_rfl) (of_decide_eq_true (by kernel_rfl)) k0 bel lt0) trodAll_mk0), tab_vars enc _ (below_var bel hvar), bel.frame _, fun h => by cases h⟩
theorem laid_met (os : Os) : laidMet Tryd.prog Rows.fnOddProductRow.laid ((laidWorld os).forCall (fun _ _ => 0) ⟨#[], #[.slice none 0 0], []⟩).memory :=
  laidMet_of_run' 8 (by kernel_rfl) (by kernel_rfl)
theorem reads (os : Os) {H : Type} (enc : TypeId × Value → H) : ∃ places, DataW.whole enc Tryd.prog ((laidWorld os).forCall (fun _ _ => 0) ⟨#[], #[.slice none 0 0], []⟩).memory Tryd.f5.params.toList Rows.fnOddProductSpec.vars false #[Value.slice none 0 0].toList 8 = some ([.nil], [Rows.laid_loop_example_g00710_impl_fieldTable], places) :=
  ⟨MemPlace.row ⟨0, 0, none⟩ 27, by kernel_rfl⟩
set_option maxRecDepth 100000 in
theorem lifted (os : Os) (started : os.Started) (H : Type) (enc : TypeId × Value → H) (F : Stop.Interp) :
    ReturnsInHanded {} Tryd.checked os 5 .any ((OpenSpec.ofChange Rows.fnOddProductSpec).preRow enc Tryd.prog Tryd.f5 Rows.fnOddProductRow.domain false Rows.fnOddProductRow.laid) (((OpenSpec.ofChange Rows.fnOddProductSpec).at F).post enc Tryd.prog Tryd.f5 false true false false) := by
  obtain ⟨places, hx⟩ := reads os enc
  refine returnsInHanded_of_row (C := Tryd.checked) (s := OpenSpec.ofChange Rows.fnOddProductSpec) own started (by kernel_rfl) Tryd.func5
    (witness_row_at (enc := enc) (C := Tryd.checked) false (laidWorld os) #[.slice none 0 0] rfl (by kernel_rfl) (by kernel_rfl) (by kernel_rfl)
      (OpenSpec.preRow_of_cond 8 hx (by kernel_rfl) (fun k hk => by cases hk) (by kernel_rfl) (laid_met os))) ?_
  intro W base args ds gs before hval hW _ _ _ hL _ _
  exact contract H enc W base args ds gs before hval hW hL
theorem closed : joinedFacts Tryd.prog 5 Tryd.f5 (OpenSpec.ofChange Rows.fnOddProductSpec).bare Rows.fnOddProductRow = true := by
  unfold joinedFacts
  exact both (both (both (both (both (both (both (both (both (both (both (both (both (both (both (both (both (both (both (both (both (both (both (both (both (both (both (both (both (both (both (by as_aux_lemma => kernel_rfl) f_laidOut) f_mapsRowed) (by as_aux_lemma => kernel_rfl)) (by as_aux_lemma => kernel_rfl)) (by as_aux_lemma => kernel_rfl)) f_stops) (by as_aux_lemma => kernel_rfl)) f_knobs) (by as_aux_lemma => kernel_rfl)) (by as_aux_lemma => kernel_rfl)) (by as_aux_lemma => kernel_rfl)) (by as_aux_lemma => kernel_rfl)) (by as_aux_lemma => kernel_rfl)) (by as_aux_lemma => kernel_rfl)) (by as_aux_lemma => kernel_rfl)) (by as_aux_lemma => kernel_rfl)) (by as_aux_lemma => kernel_rfl)) (by as_aux_lemma => kernel_rfl)) (by as_aux_lemma => kernel_rfl)) (by as_aux_lemma => kernel_rfl)) (by as_aux_lemma => kernel_rfl)) f_keys) (by as_aux_lemma => kernel_rfl)) f_heard) f_enter) f_lifts) f_make) (by as_aux_lemma => kernel_rfl)) (by as_aux_lemma => kernel_rfl)) (by as_aux_lemma => kernel_rfl)) (by as_aux_lemma => kernel_rfl)
theorem said : Rows.FnOddProductSaid :=
  OpenClaim.holds_of_cond 5 Tryd.f5 rfl rfl rfl rfl rfl rfl rfl ⟨rfl, rfl, rfl, rfl, rfl⟩ rfl rfl rfl rfl rfl (by as_aux_lemma => kernel_rfl) Tryd.func5 closed
    (of_decide_eq_true (by as_aux_lemma => kernel_rfl)) (by unfold Func.isWrapper; rw [if_neg (by decide +kernel)]; exact ⟨rfl, rfl⟩)
    (fun os started H enc _ F => by rw [OpenClaim.pre_eq_preRow]; exact lifted os started H enc F)
theorem plain (f : FuncId) (fn : Func) (hf : Tryd.pinned.checked.prog.funcNamed "loop.example/g00710/laws.FnOddProduct" = some f) (hfn : Tryd.pinned.checked.prog.funcs[f]? = some fn) :
    false = Tryd.pinned.checked.prog.looks [] ∧ ∀ (j : Nat) t, fn.params[j]? = some t → Tryd.pinned.checked.prog.wantsStandIn t = false := by
  obtain rfl : f = 5 := Option.some.inj ((show Tryd.prog.funcNamed "loop.example/g00710/laws.FnOddProduct" = some 5 by kernel_rfl).symm.trans hf) |>.symm
  obtain rfl : fn = Tryd.f5 := (Option.some.inj (Tryd.func5.symm.trans hfn)).symm
  refine ⟨f_looks, fun j t ht => ?_⟩
  rw [Tryd.params5] at ht
  obtain rfl : t = 22 := by simpa using Array.mem_of_getElem? ht
  exact (show Tryd.prog.wantsStandIn 22 = false by kernel_rfl)
end OddProduct
theorem fnOddProduct_card : Rows.FnOddProductCardSaid :=
  Claim7.holds_tied_plain_at .later [] _ _ _ _ OddProduct.said (fun _ h => by cases h) (by as_aux_lemma => kernel_rfl) (fun _ h => by cases h) fnOddProduct_row_tie rfl ⟨rfl, rfl⟩ f_main rfl OddProduct.plain (by as_aux_lemma => kernel_rfl)
end Go.Proofs.YtoonpnfhcmghmaaDoor
