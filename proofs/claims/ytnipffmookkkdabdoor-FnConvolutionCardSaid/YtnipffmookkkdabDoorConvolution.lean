/-
  Forward of a Cyclic convolution is the Pointwise product of the transforms, and Correlate with 1, 0, 0, .. ahead answers its second argument, for every code that the law draws from; no condition but the card's own (the table of fields holds what its initialiser lays).
-/
import Derived.Test.YtnipffmookkkdabDoorJ3
import Derived.ChangeOld
import Derived.Below
import Derived.Carry
namespace Go.Proofs.YtnipffmookkkdabDoor
open Go.ChangeShapes Go.WideShapes Go.ChangeAt Go.RowKit
namespace Convolution
set_option maxRecDepth 100000 in
set_option maxHeartbeats 1600000 in
theorem walk (a0 : Option Addr) (len0 cap0 : Nat) (z0 : List Int) (w : World) (hrow : IsRow .u8 w a0 len0 cap0 z0) (ht : Tab w) : Calls Tryd.prog 5 #[.slice a0 len0 cap0] w fun e w' => e = .returned (.bool true) ∧ Below w.heap.size w w' := by
  by_cases hl : 1048576 < len0
  · go_enter Tryd.func5, Tryd.ntmps5
    go_wp2_with fail
    refine (big_yes a0 len0 cap0 w hl).mono ?_
    rintro e w' ⟨rfl, rfl⟩
    go_wp2
    go_ret
    exact ⟨rfl, Below.refl _ _⟩
  have hl2 : len0 ≤ 1048576 := by omega
  have hcode := code_of_row hrow (by omega)
  clear hl hrow
  go_enter Tryd.func5, Tryd.ntmps5
  go_wp2_with fail
  refine (big_no a0 len0 cap0 w hl2).mono ?_
  rintro e w' ⟨rfl, rfl⟩
  go_wp2_with fail
  refine (drawCyclic_c a0 len0 cap0 w hl2 hcode).mono ?_
  rintro e w1 ⟨f, a, l, cap, a2, m, cap2, rfl, hln, hmn, hs, hs2, b1⟩
  clear hcode
  have c1 := b1
  have R1 := sVectorOk f a l cap w1 hln hs
  by_cases k1 : VecOk f l
  rotate_left
  · rw [vok_not.2 k1] at R1
    have HR := Lib.hid R1
    clear k1 hs hs2 R1
    go_wp2_with fail
    refine HR.out.mono ?_
    rintro e w' ⟨rfl, rfl⟩
    go_wp2
    go_ret
    exact ⟨rfl, b1⟩
  rw [vok_iff.2 k1] at R1
  have HR1 := Lib.hid R1
  clear R1
  have R2 := sVectorOk f a2 m cap2 w1 hmn hs2
  by_cases k2 : VecOk f m
  rotate_left
  · rw [vok_not.2 k2] at R2
    have HR2 := Lib.hid R2
    clear k1 k2 hs hs2 R2
    go_wp2_with fail
    refine HR1.out.mono ?_
    rintro e w' ⟨rfl, rfl⟩
    go_wp2_with fail
    refine HR2.out.mono ?_
    rintro e w' ⟨rfl, rfl⟩
    go_wp2
    go_ret
    exact ⟨rfl, b1⟩
  rw [vok_iff.2 k2] at R2
  have HR2 := Lib.hid R2
  have HV_1 := Lib.hid hs
  have HU_1 := Lib.hid hs2
  clear R2 hs hs2
  by_cases he : l.length = m.length
  rotate_left
  · have hne : ((l.length : Int) != m.length) = true := by
      rw [bne_iff_ne]
      omega
    clear k1 k2
    go_wp2_with fail
    refine HR1.out.mono ?_
    rintro e w' ⟨rfl, rfl⟩
    go_wp2_with fail
    refine HR2.out.mono ?_
    rintro e w' ⟨rfl, rfl⟩
    go_wp2
    go_ret
    exact ⟨rfl, b1⟩
  have hne : ((l.length : Int) != m.length) = false := by
    have : (l.length : Int) = m.length := by omega
    simp [this]
  obtain ⟨q1, q2, q3, q4, q5⟩ := fwd_cyc ⟨he, k1, k2⟩
  obtain ⟨o1, o2⟩ := oneL_ok k2
  obtain ⟨kk, hk9, hkn, hkl, hkh⟩ := k2.log
  have hpos := k2.pos
  have HQ1 := Lib.hid q1
  have HQ2 := Lib.hid q2
  have HO2 := Lib.hid o2
  have nC := len_mCyclic f l m hln hmn
  have nFl := len_mForward f l hln
  have nFm := len_mForward f m hmn
  have nL : (mForward f (mCyclic f l m)).length ≤ 1048576 := len_mForward f _ nC
  have nO : (oneL m.length).length ≤ 1048576 := by unfold oneL; rw [tab_len]; exact hmn
  have HR1N := Lib.hid (fun w2 => sRingOne_on f m.length kk w2 hpos.1 hpos.2 hkl hkh.2.2)
  have e1 : ((l.length : Int) == l.length) = true := by simp
  clear k1 k2 q1 q2 q3 q4 q5 o1 o2 hkh hkl hkn he
  go_wp2_with fail
  refine HR1.out.mono ?_
  rintro e w' ⟨rfl, rfl⟩
  go_wp2_with fail
  refine HR2.out.mono ?_
  rintro e w' ⟨rfl, rfl⟩
  clear HR1 HR2 b1
  go_wp2_with fail
  refine (cp_l a l cap w1 hln HV_1.out).mono ?_
  rintro e w2 ⟨a3, cap3, rfl, sa3, b2⟩
  have c2 := below_step c1 b2
  have HV_2 := Lib.hid (HV_1.out.keep b2)
  have HU_2 := Lib.hid (HU_1.out.keep b2)
  have H3_2 := Lib.hid sa3
  clear HV_1 HU_1 b2 c1 sa3
  go_wp2_with fail
  refine (cp_l a2 m cap2 w2 hmn HU_2.out).mono ?_
  rintro e w3 ⟨a4, cap4, rfl, sa4, b3⟩
  have c3 := below_step c2 b3
  have HV_3 := Lib.hid (HV_2.out.keep b3)
  have HU_3 := Lib.hid (HU_2.out.keep b3)
  have H3_3 := Lib.hid (H3_2.out.keep b3)
  have H4_3 := Lib.hid sa4
  clear HV_2 HU_2 H3_2 b3 c2 sa4
  go_wp2_with fail
  refine (iCyclic f a3 l cap3 a4 m cap4 w3 hln hmn H3_3.out H4_3.out (ht.below c3)).mono ?_
  rintro e w4 ⟨a5, cap5, rfl, oa5, b4⟩
  have c4 := below_step c3 b4
  have HV_4 := Lib.hid (HV_3.out.keep b4)
  have HU_4 := Lib.hid (HU_3.out.keep b4)
  have H3_4 := Lib.hid (H3_3.out.keep b4)
  have H4_4 := Lib.hid (H4_3.out.keep b4)
  have H5_4 := Lib.hid oa5.src
  clear HV_3 HU_3 H3_3 H4_3 b4 c3 oa5
  go_wp2_with fail
  refine (iForward f a5 (mCyclic f l m) cap5 w4 nC H5_4.out (ht.below c4)).mono ?_
  rintro e w5 ⟨a6, cap6, rfl, oa6, b5⟩
  have c5 := below_step c4 b5
  have HV_5 := Lib.hid (HV_4.out.keep b5)
  have HU_5 := Lib.hid (HU_4.out.keep b5)
  have H3_5 := Lib.hid (H3_4.out.keep b5)
  have H4_5 := Lib.hid (H4_4.out.keep b5)
  have H5_5 := Lib.hid (H5_4.out.keep b5)
  have H6_5 := Lib.hid oa6.src
  clear HV_4 HU_4 H3_4 H4_4 H5_4 b5 c4 oa6
  go_wp2_with fail
  refine (cp_l a l cap w5 hln HV_5.out).mono ?_
  rintro e w6 ⟨a7, cap7, rfl, sa7, b6⟩
  have c6 := below_step c5 b6
  have HV_6 := Lib.hid (HV_5.out.keep b6)
  have HU_6 := Lib.hid (HU_5.out.keep b6)
  have H3_6 := Lib.hid (H3_5.out.keep b6)
  have H4_6 := Lib.hid (H4_5.out.keep b6)
  have H5_6 := Lib.hid (H5_5.out.keep b6)
  have H6_6 := Lib.hid (H6_5.out.keep b6)
  have H7_6 := Lib.hid sa7
  clear HV_5 HU_5 H3_5 H4_5 H5_5 H6_5 b6 c5 sa7
  go_wp2_with fail
  refine (iForward f a7 l cap7 w6 hln H7_6.out (ht.below c6)).mono ?_
  rintro e w7 ⟨a8, cap8, rfl, oa8, b7⟩
  have c7 := below_step c6 b7
  have HV_7 := Lib.hid (HV_6.out.keep b7)
  have HU_7 := Lib.hid (HU_6.out.keep b7)
  have H3_7 := Lib.hid (H3_6.out.keep b7)
  have H4_7 := Lib.hid (H4_6.out.keep b7)
  have H5_7 := Lib.hid (H5_6.out.keep b7)
  have H6_7 := Lib.hid (H6_6.out.keep b7)
  have H7_7 := Lib.hid (H7_6.out.keep b7)
  have H8_7 := Lib.hid oa8.src
  clear HV_6 HU_6 H3_6 H4_6 H5_6 H6_6 H7_6 b7 c6 oa8
  go_wp2_with fail
  refine (cp_l a2 m cap2 w7 hmn HU_7.out).mono ?_
  rintro e w8 ⟨a9, cap9, rfl, sa9, b8⟩
  have c8 := below_step c7 b8
  have HV_8 := Lib.hid (HV_7.out.keep b8)
  have HU_8 := Lib.hid (HU_7.out.keep b8)
  have H3_8 := Lib.hid (H3_7.out.keep b8)
  have H4_8 := Lib.hid (H4_7.out.keep b8)
  have H5_8 := Lib.hid (H5_7.out.keep b8)
  have H6_8 := Lib.hid (H6_7.out.keep b8)
  have H7_8 := Lib.hid (H7_7.out.keep b8)
  have H8_8 := Lib.hid (H8_7.out.keep b8)
  have H9_8 := Lib.hid sa9
  clear HV_7 HU_7 H3_7 H4_7 H5_7 H6_7 H7_7 H8_7 b8 c7 sa9
  go_wp2_with fail
  refine (iForward f a9 m cap9 w8 hmn H9_8.out (ht.below c8)).mono ?_
  rintro e w9 ⟨a10, cap10, rfl, oa10, b9⟩
  have c9 := below_step c8 b9
  have HV_9 := Lib.hid (HV_8.out.keep b9)
  have HU_9 := Lib.hid (HU_8.out.keep b9)
  have H3_9 := Lib.hid (H3_8.out.keep b9)
  have H4_9 := Lib.hid (H4_8.out.keep b9)
  have H5_9 := Lib.hid (H5_8.out.keep b9)
  have H6_9 := Lib.hid (H6_8.out.keep b9)
  have H7_9 := Lib.hid (H7_8.out.keep b9)
  have H8_9 := Lib.hid (H8_8.out.keep b9)
  have H9_9 := Lib.hid (H9_8.out.keep b9)
  have H10_9 := Lib.hid oa10.src
  clear HV_8 HU_8 H3_8 H4_8 H5_8 H6_8 H7_8 H8_8 H9_8 b9 c8 oa10
  go_wp2_with fail
  refine (iPointwise f a8 (mForward f l) cap8 a10 (mForward f m) cap10 w9 nFl nFm H8_9.out H10_9.out (ht.below c9)).mono ?_
  rw [← HQ1.out]
  rintro e w10 ⟨a11, cap11, rfl, oa11, b10⟩
  have c10 := below_step c9 b10
  have HV_10 := Lib.hid (HV_9.out.keep b10)
  have HU_10 := Lib.hid (HU_9.out.keep b10)
  have H3_10 := Lib.hid (H3_9.out.keep b10)
  have H4_10 := Lib.hid (H4_9.out.keep b10)
  have H5_10 := Lib.hid (H5_9.out.keep b10)
  have H6_10 := Lib.hid (H6_9.out.keep b10)
  have H7_10 := Lib.hid (H7_9.out.keep b10)
  have H8_10 := Lib.hid (H8_9.out.keep b10)
  have H9_10 := Lib.hid (H9_9.out.keep b10)
  have H10_10 := Lib.hid (H10_9.out.keep b10)
  have H11_10 := Lib.hid oa11.src
  clear HV_9 HU_9 H3_9 H4_9 H5_9 H6_9 H7_9 H8_9 H9_9 H10_9 b10 c9 oa11
  have e3 : (((mForward f (mCyclic f l m)).length : Int) == l.length) = true := by rw [HQ2.out]; simp
  go_wp2_with fail
  refine (sameZ a6 a11 (mForward f (mCyclic f l m)) cap6 cap11 w10 nL H6_10.out H11_10.out).mono ?_
  rintro e w11 ⟨rfl, b11⟩
  have c11 := below_step c10 b11
  have HV_11 := Lib.hid (HV_10.out.keep b11)
  have HU_11 := Lib.hid (HU_10.out.keep b11)
  have H3_11 := Lib.hid (H3_10.out.keep b11)
  have H4_11 := Lib.hid (H4_10.out.keep b11)
  have H5_11 := Lib.hid (H5_10.out.keep b11)
  have H6_11 := Lib.hid (H6_10.out.keep b11)
  have H7_11 := Lib.hid (H7_10.out.keep b11)
  have H8_11 := Lib.hid (H8_10.out.keep b11)
  have H9_11 := Lib.hid (H9_10.out.keep b11)
  have H10_11 := Lib.hid (H10_10.out.keep b11)
  have H11_11 := Lib.hid (H11_10.out.keep b11)
  clear HV_10 HU_10 H3_10 H4_10 H5_10 H6_10 H7_10 H8_10 H9_10 H10_10 H11_10 b11 c10
  go_wp2_with fail
  refine (HR1N.out w11).mono ?_
  rintro e w12 ⟨a12, cap12, rfl, sa12, b12⟩
  have c12 := below_step c11 b12
  have HV_12 := Lib.hid (HV_11.out.keep b12)
  have HU_12 := Lib.hid (HU_11.out.keep b12)
  have H3_12 := Lib.hid (H3_11.out.keep b12)
  have H4_12 := Lib.hid (H4_11.out.keep b12)
  have H5_12 := Lib.hid (H5_11.out.keep b12)
  have H6_12 := Lib.hid (H6_11.out.keep b12)
  have H7_12 := Lib.hid (H7_11.out.keep b12)
  have H8_12 := Lib.hid (H8_11.out.keep b12)
  have H9_12 := Lib.hid (H9_11.out.keep b12)
  have H10_12 := Lib.hid (H10_11.out.keep b12)
  have H11_12 := Lib.hid (H11_11.out.keep b12)
  have H12_12 := Lib.hid sa12
  clear HV_11 HU_11 H3_11 H4_11 H5_11 H6_11 H7_11 H8_11 H9_11 H10_11 H11_11 b12 c11 sa12
  go_wp2_with fail
  refine (cp_l a2 m cap2 w12 hmn HU_12.out).mono ?_
  rintro e w13 ⟨a13, cap13, rfl, sa13, b13⟩
  have c13 := below_step c12 b13
  have HV_13 := Lib.hid (HV_12.out.keep b13)
  have HU_13 := Lib.hid (HU_12.out.keep b13)
  have H3_13 := Lib.hid (H3_12.out.keep b13)
  have H4_13 := Lib.hid (H4_12.out.keep b13)
  have H5_13 := Lib.hid (H5_12.out.keep b13)
  have H6_13 := Lib.hid (H6_12.out.keep b13)
  have H7_13 := Lib.hid (H7_12.out.keep b13)
  have H8_13 := Lib.hid (H8_12.out.keep b13)
  have H9_13 := Lib.hid (H9_12.out.keep b13)
  have H10_13 := Lib.hid (H10_12.out.keep b13)
  have H11_13 := Lib.hid (H11_12.out.keep b13)
  have H12_13 := Lib.hid (H12_12.out.keep b13)
  have H13_13 := Lib.hid sa13
  clear HV_12 HU_12 H3_12 H4_12 H5_12 H6_12 H7_12 H8_12 H9_12 H10_12 H11_12 H12_12 b13 c12 sa13
  go_wp2_with fail
  refine (iCorrelate f a12 (oneL m.length) cap12 a13 m cap13 w13 nO hmn H12_13.out H13_13.out (ht.below c13)).mono ?_
  rw [HO2.out]
  rintro e w14 ⟨a14, cap14, rfl, oa14, b14⟩
  have c14 := below_step c13 b14
  have HV_14 := Lib.hid (HV_13.out.keep b14)
  have HU_14 := Lib.hid (HU_13.out.keep b14)
  have H3_14 := Lib.hid (H3_13.out.keep b14)
  have H4_14 := Lib.hid (H4_13.out.keep b14)
  have H5_14 := Lib.hid (H5_13.out.keep b14)
  have H6_14 := Lib.hid (H6_13.out.keep b14)
  have H7_14 := Lib.hid (H7_13.out.keep b14)
  have H8_14 := Lib.hid (H8_13.out.keep b14)
  have H9_14 := Lib.hid (H9_13.out.keep b14)
  have H10_14 := Lib.hid (H10_13.out.keep b14)
  have H11_14 := Lib.hid (H11_13.out.keep b14)
  have H12_14 := Lib.hid (H12_13.out.keep b14)
  have H13_14 := Lib.hid (H13_13.out.keep b14)
  have H14_14 := Lib.hid oa14.src
  clear HV_13 HU_13 H3_13 H4_13 H5_13 H6_13 H7_13 H8_13 H9_13 H10_13 H11_13 H12_13 H13_13 b14 c13 oa14
  go_wp2_with fail
  refine (sameZ a14 a2 m cap14 cap2 w14 hmn H14_14.out HU_14.out).mono ?_
  rintro e w15 ⟨rfl, b15⟩
  have c15 := below_step c14 b15
  have HV_15 := Lib.hid (HV_14.out.keep b15)
  have HU_15 := Lib.hid (HU_14.out.keep b15)
  have H3_15 := Lib.hid (H3_14.out.keep b15)
  have H4_15 := Lib.hid (H4_14.out.keep b15)
  have H5_15 := Lib.hid (H5_14.out.keep b15)
  have H6_15 := Lib.hid (H6_14.out.keep b15)
  have H7_15 := Lib.hid (H7_14.out.keep b15)
  have H8_15 := Lib.hid (H8_14.out.keep b15)
  have H9_15 := Lib.hid (H9_14.out.keep b15)
  have H10_15 := Lib.hid (H10_14.out.keep b15)
  have H11_15 := Lib.hid (H11_14.out.keep b15)
  have H12_15 := Lib.hid (H12_14.out.keep b15)
  have H13_15 := Lib.hid (H13_14.out.keep b15)
  have H14_15 := Lib.hid (H14_14.out.keep b15)
  clear HV_14 HU_14 H3_14 H4_14 H5_14 H6_14 H7_14 H8_14 H9_14 H10_14 H11_14 H12_14 H13_14 H14_14 b15 c14
  go_wp2
  go_ret
  exact ⟨rfl, c15⟩
theorem contract (H : Type) (enc : TypeId × Value → H) (W : World) (base : Nat) (args : Array Value) (ds gs : List (DataW H)) (before : List MemPlace)
    (hval : ∀ (j : Nat) t v, Tryd.f5.params[j]? = some t → args[j]? = some v → Value.okWide Tryd.prog W .any base t v)
    (hW : DataW.Whole enc Tryd.prog Tryd.f5.params.toList Rows.fnConvolutionSpec.vars false W args.toList ds gs before) (hL : laidMetH Tryd.prog Rows.fnConvolutionRow.laid W) :
    Calls Tryd.prog 5 args W fun e W' => ∃ v, e = .returned v ∧ Rows.fnConvolutionSpec.post enc Tryd.prog Tryd.f5 false true false false W args v W' := by
  have hvar := table_var hL
  have hW' := hW
  obtain ⟨p, q, hA0, hV, rfl, hfz, hnd⟩ := hW
  have hA : DataW.TrodAll enc Tryd.prog W 0 (fun _ => true) true Tryd.f5.params.toList args.toList ds p := hA0
  rw [Tryd.params5] at hA hval
  obtain ⟨v0, vs0, d0, ds0, p0, q0, hargs, rfl, rfl, h0, r0⟩ := trodAll_cons hA
  obtain ⟨rfl, rfl, rfl⟩ := trodAll_nil r0
  obtain rfl : args = #[v0] := by cases args; simp_all
  obtain ⟨rfl, rfl⟩ := DataW.TrodVars.unique hV (tab_vars enc (fun _ => true) hvar)
  obtain ⟨a0, len0, cap0, rfl⟩ := okWide_slice Tryd.underlying29 (hval 0 29 v0 rfl rfl)
  have k0 := h0
  have lt0 : ∀ x ∈ p0, x.block < W.heap.size := by obtain ⟨m, hm⟩ := k0; exact DataW.trod_lt m _ _ _ hm
  obtain ⟨z0, w0⟩ : ∃ zs, IsRow .u8 W a0 len0 cap0 zs := by
    obtain ⟨fuel, hf⟩ := h0
    rcases open_ints Tryd.underlying29 Tryd.underlying5 (by kernel_rfl) hf with ⟨hcs, _⟩ | ⟨x, l, c, zs, hcs, _, hl, hm, hz, _, hcell, hwz⟩
    · simp [Value.cells] at hcs
      obtain ⟨rfl, rfl, rfl⟩ := hcs
      exact ⟨[], .inl ⟨rfl, rfl, rfl, rfl⟩⟩
    · simp [Value.cells] at hcs
      obtain ⟨rfl, rfl, rfl⟩ := hcs
      exact ⟨zs, .inr ⟨_, rfl, hl, hm, by simpa using hz, hcell, hwz⟩⟩
  clear hA0
  refine (walk a0 len0 cap0 z0 W w0 (tab_of hvar)).mono fun e W' ⟨he, bel⟩ => ?_
  subst he
  exact ⟨_, rfl, _, _, _, [], _, _, hW', trodAll_mk1 (shut_bool Tryd.underlying4 _), (trodAll_cons_mk (Below.trod f_laidOut (by kernel_rfl) (of_decide_eq_true (by kernel_rfl)) k0 bel lt0) trodAll_mk0), tab_vars enc _ (below_var bel hvar), bel.frame _, fun h => by cases h⟩
theorem laid_met (os : Os) : laidMet Tryd.prog Rows.fnConvolutionRow.laid ((laidWorld os).forCall (fun _ _ => 0) ⟨#[], #[.slice none 0 0], []⟩).memory :=
  laidMet_of_run' 8 (by kernel_rfl) (by kernel_rfl)
theorem reads (os : Os) {H : Type} (enc : TypeId × Value → H) : ∃ places, DataW.whole enc Tryd.prog ((laidWorld os).forCall (fun _ _ => 0) ⟨#[], #[.slice none 0 0], []⟩).memory Tryd.f5.params.toList Rows.fnConvolutionSpec.vars false #[Value.slice none 0 0].toList 8 = some ([.nil], [Rows.laid_loop_example_g00710_impl_fieldTable], places) :=
  ⟨MemPlace.row ⟨0, 0, none⟩ 27, by kernel_rfl⟩
set_option maxRecDepth 100000 in
theorem lifted (os : Os) (started : os.Started) (H : Type) (enc : TypeId × Value → H) (F : Stop.Interp) :
    ReturnsInHanded {} Tryd.checked os 5 .any ((OpenSpec.ofChange Rows.fnConvolutionSpec).preRow enc Tryd.prog Tryd.f5 Rows.fnConvolutionRow.domain false Rows.fnConvolutionRow.laid) (((OpenSpec.ofChange Rows.fnConvolutionSpec).at F).post enc Tryd.prog Tryd.f5 false true false false) := by
  obtain ⟨places, hx⟩ := reads os enc
  refine returnsInHanded_of_row (C := Tryd.checked) (s := OpenSpec.ofChange Rows.fnConvolutionSpec) own started (by kernel_rfl) Tryd.func5
    (witness_row_at (enc := enc) (C := Tryd.checked) false (laidWorld os) #[.slice none 0 0] rfl (by kernel_rfl) (by kernel_rfl) (by kernel_rfl)
      (OpenSpec.preRow_of_cond 8 hx (by kernel_rfl) (fun k hk => by cases hk) (by kernel_rfl) (laid_met os))) ?_
  intro W base args ds gs before hval hW _ _ _ hL _ _
  exact contract H enc W base args ds gs before hval hW hL
theorem closed : joinedFacts Tryd.prog 5 Tryd.f5 (OpenSpec.ofChange Rows.fnConvolutionSpec).bare Rows.fnConvolutionRow = true := by
  unfold joinedFacts
  exact both (both (both (both (both (both (both (both (both (both (both (both (both (both (both (both (both (both (both (both (both (both (both (both (both (both (both (both (both (both (both (by as_aux_lemma => kernel_rfl) f_laidOut) f_mapsRowed) (by as_aux_lemma => kernel_rfl)) (by as_aux_lemma => kernel_rfl)) (by as_aux_lemma => kernel_rfl)) f_stops) (by as_aux_lemma => kernel_rfl)) f_knobs) (by as_aux_lemma => kernel_rfl)) (by as_aux_lemma => kernel_rfl)) (by as_aux_lemma => kernel_rfl)) (by as_aux_lemma => kernel_rfl)) (by as_aux_lemma => kernel_rfl)) (by as_aux_lemma => kernel_rfl)) (by as_aux_lemma => kernel_rfl)) (by as_aux_lemma => kernel_rfl)) (by as_aux_lemma => kernel_rfl)) (by as_aux_lemma => kernel_rfl)) (by as_aux_lemma => kernel_rfl)) (by as_aux_lemma => kernel_rfl)) (by as_aux_lemma => kernel_rfl)) f_keys) (by as_aux_lemma => kernel_rfl)) f_heard) f_enter) f_lifts) f_make) (by as_aux_lemma => kernel_rfl)) (by as_aux_lemma => kernel_rfl)) (by as_aux_lemma => kernel_rfl)) (by as_aux_lemma => kernel_rfl)
theorem said : Rows.FnConvolutionSaid :=
  OpenClaim.holds_of_cond 5 Tryd.f5 rfl rfl rfl rfl rfl rfl rfl ⟨rfl, rfl, rfl, rfl, rfl⟩ rfl rfl rfl rfl rfl (by as_aux_lemma => kernel_rfl) Tryd.func5 closed
    (of_decide_eq_true (by as_aux_lemma => kernel_rfl)) (by unfold Func.isWrapper; rw [if_neg (by decide +kernel)]; exact ⟨rfl, rfl⟩)
    (fun os started H enc _ F => by rw [OpenClaim.pre_eq_preRow]; exact lifted os started H enc F)
theorem plain (f : FuncId) (fn : Func) (hf : Tryd.pinned.checked.prog.funcNamed "loop.example/g00710/laws.FnConvolution" = some f) (hfn : Tryd.pinned.checked.prog.funcs[f]? = some fn) :
    false = Tryd.pinned.checked.prog.looks [] ∧ ∀ (j : Nat) t, fn.params[j]? = some t → Tryd.pinned.checked.prog.wantsStandIn t = false := by
  obtain rfl : f = 5 := Option.some.inj ((show Tryd.prog.funcNamed "loop.example/g00710/laws.FnConvolution" = some 5 by kernel_rfl).symm.trans hf) |>.symm
  obtain rfl : fn = Tryd.f5 := (Option.some.inj (Tryd.func5.symm.trans hfn)).symm
  refine ⟨f_looks, fun j t ht => ?_⟩
  rw [Tryd.params5] at ht
  obtain rfl : t = 29 := by simpa using Array.mem_of_getElem? ht
  exact (show Tryd.prog.wantsStandIn 29 = false by kernel_rfl)
end Convolution
theorem fnConvolution_card : Rows.FnConvolutionCardSaid :=
  Claim7.holds_tied_plain_at .later [] _ _ _ _ Convolution.said (fun _ h => by cases h) (by as_aux_lemma => kernel_rfl) (fun _ h => by cases h) fnConvolution_row_tie rfl ⟨rfl, rfl⟩ f_main rfl Convolution.plain (by as_aux_lemma => kernel_rfl)
end Go.Proofs.YtnipffmookkkdabDoor
