/-
  A vector times its RingInverse is the one, and its third RingPower is the product of three, for every code that the law draws from; no condition but the card's own (the table of fields holds what its initialiser lays).
-/
import Derived.Test.YtoonpnfhcmghmaaDoorK4
import Derived.ChangeOld
import Derived.Below
import Derived.Carry
namespace Go.Proofs.YtoonpnfhcmghmaaDoor
open Go.ChangeShapes Go.WideShapes Go.ChangeAt Go.RowKit
namespace RingInverse
set_option maxRecDepth 100000 in
set_option maxHeartbeats 1600000 in
theorem walk (a0 : Option Addr) (len0 cap0 : Nat) (z0 : List Int) (w : World) (hrow : IsRow .u8 w a0 len0 cap0 z0) (ht : Tab w) : Calls Tryd.prog 6 #[.slice a0 len0 cap0] w fun e w' => e = .returned (.bool true) ∧ Below w.heap.size w w' := by
  by_cases hl : 1048576 < len0
  · go_enter Tryd.func6, Tryd.ntmps6
    go_wp2_with fail
    refine (big_yes a0 len0 cap0 w hl).mono ?_
    rintro e w' ⟨rfl, rfl⟩
    go_wp2
    go_ret
    exact ⟨rfl, Below.refl _ _⟩
  have hl2 : len0 ≤ 1048576 := by omega
  have hcode := code_of_row hrow (by omega)
  clear hl hrow
  go_enter Tryd.func6, Tryd.ntmps6
  go_wp2_with fail
  refine (big_no a0 len0 cap0 w hl2).mono ?_
  rintro e w' ⟨rfl, rfl⟩
  go_wp2_with fail
  refine (drawInverse_c a0 len0 cap0 w hl2 hcode).mono ?_
  rintro e w1 ⟨f, a, l, cap, rfl, hln, hs, b1⟩
  clear hcode
  have c1 := b1
  have R1 := sVectorOk f a l cap w1 hln hs
  by_cases k1 : VecOk f l
  rotate_left
  · rw [vok_not.2 k1] at R1
    have HR := Lib.hid R1
    clear k1 hs R1
    go_wp2_with fail
    refine HR.out.mono ?_
    rintro e w' ⟨rfl, rfl⟩
    go_wp2
    go_ret
    exact ⟨rfl, b1⟩
  rw [vok_iff.2 k1] at R1
  have HR1 := Lib.hid R1
  have HV_1 := Lib.hid hs
  clear R1 hs
  go_wp2_with fail
  refine HR1.out.mono ?_
  rintro e w' ⟨rfl, rfl⟩
  clear HR1 b1
  by_cases hN : mNorm f l < 1
  · have dN : decide (mNorm f l < 1) = true := decide_eq_true hN
    clear k1
    go_wp2_with fail
    refine (sNorm f a l cap w1 hln HV_1.out).mono ?_
    rintro e w2 ⟨rfl, b2⟩
    have c2 := below_step c1 b2
    go_wp2
    go_ret
    exact ⟨rfl, c2⟩
  have dN : decide (mNorm f l < 1) = false := decide_eq_false hN
  have hO : OpenOk f l := Classical.byContradiction fun h => hN (by unfold mNorm; rw [if_neg h]; decide)
  have hZ : nmL f l ≠ 0 := fun h => hN (by unfold mNorm; rw [if_pos hO, h]; decide)
  obtain ⟨q1, q2, q3, q4⟩ := inv_facts hO hZ
  have q5 : mRingOne f (l.length : Int) = oneL l.length := by
    obtain ⟨k, hk, hq1, hl, hq2⟩ := k1.log
    have h2 := hO.2
    unfold mRingOne
    rw [if_pos ⟨by omega, by omega⟩, Int.toNat_natCast]
  have HQ1 := Lib.hid q1
  have HQ2 := Lib.hid q2
  have HQ3 := Lib.hid q3
  have HQ4 := Lib.hid q4
  have HQ5 := Lib.hid q5
  have nI := len_mRingInverse0 f l hln
  have nP := len_mRingPower0 f l 3 hln
  have nO : (oneL l.length).length ≤ 1048576 := by rw [oneL_len]; exact hln
  have nT := len_mTwisted f l l hln hln
  clear k1 hO hZ hN q1 q2 q3 q4 q5
  go_wp2_with fail
  refine (sNorm f a l cap w1 hln HV_1.out).mono ?_
  rintro e w2 ⟨rfl, b2⟩
  have c2 := below_step c1 b2
  have HV_2 := Lib.hid (HV_1.out.keep b2)
  clear HV_1 b2 c1
  go_wp2_with fail
  refine (cp_l a l cap w2 hln HV_2.out).mono ?_
  rintro e w3 ⟨a3, cap3, rfl, sa3, b3⟩
  have c3 := below_step c2 b3
  have HV_3 := Lib.hid (HV_2.out.keep b3)
  have H3_3 := Lib.hid sa3
  clear HV_2 b3 c2 sa3
  go_wp2_with fail
  refine (iRingInverse f a3 l cap3 w3 hln H3_3.out (ht.below c3)).mono ?_
  rw [HQ1.out]
  rintro e w4 ⟨a4, cap4, rfl, oa4, b4⟩
  have c4 := below_step c3 b4
  have HV_4 := Lib.hid (HV_3.out.keep b4)
  have H3_4 := Lib.hid (H3_3.out.keep b4)
  have H4_4 := Lib.hid oa4.src
  clear HV_3 H3_3 b4 c3 oa4
  go_wp2_with fail
  refine (sRingOne f l.length w4).mono ?_
  rw [HQ5.out]
  rintro e w5 ⟨a5, cap5, rfl, sa5, b5⟩
  have c5 := below_step c4 b5
  have HV_5 := Lib.hid (HV_4.out.keep b5)
  have H3_5 := Lib.hid (H3_4.out.keep b5)
  have H4_5 := Lib.hid (H4_4.out.keep b5)
  have H5_5 := Lib.hid sa5
  clear HV_4 H3_4 H4_4 b5 c4 sa5
  go_wp2_with fail
  refine (cp_l a l cap w5 hln HV_5.out).mono ?_
  rintro e w6 ⟨a6, cap6, rfl, sa6, b6⟩
  have c6 := below_step c5 b6
  have HV_6 := Lib.hid (HV_5.out.keep b6)
  have H3_6 := Lib.hid (H3_5.out.keep b6)
  have H4_6 := Lib.hid (H4_5.out.keep b6)
  have H5_6 := Lib.hid (H5_5.out.keep b6)
  have H6_6 := Lib.hid sa6
  clear HV_5 H3_5 H4_5 H5_5 b6 c5 sa6
  go_wp2_with fail
  refine (iRingPower f a6 l cap6 3 w6 hln H6_6.out (ht.below c6)).mono ?_
  rw [HQ2.out]
  rintro e w7 ⟨a7, cap7, rfl, oa7, b7⟩
  have c7 := below_step c6 b7
  have HV_7 := Lib.hid (HV_6.out.keep b7)
  have H3_7 := Lib.hid (H3_6.out.keep b7)
  have H4_7 := Lib.hid (H4_6.out.keep b7)
  have H5_7 := Lib.hid (H5_6.out.keep b7)
  have H6_7 := Lib.hid (H6_6.out.keep b7)
  have H7_7 := Lib.hid oa7.src
  clear HV_6 H3_6 H4_6 H5_6 H6_6 b7 c6 oa7
  go_wp2_with fail
  refine (cp_l a l cap w7 hln HV_7.out).mono ?_
  rintro e w8 ⟨a8, cap8, rfl, sa8, b8⟩
  have c8 := below_step c7 b8
  have HV_8 := Lib.hid (HV_7.out.keep b8)
  have H3_8 := Lib.hid (H3_7.out.keep b8)
  have H4_8 := Lib.hid (H4_7.out.keep b8)
  have H5_8 := Lib.hid (H5_7.out.keep b8)
  have H6_8 := Lib.hid (H6_7.out.keep b8)
  have H7_8 := Lib.hid (H7_7.out.keep b8)
  have H8_8 := Lib.hid sa8
  clear HV_7 H3_7 H4_7 H5_7 H6_7 H7_7 b8 c7 sa8
  go_wp2_with fail
  refine (iTwisted f a8 l cap8 a4 (mRingInverse0 f l) cap4 w8 hln nI H8_8.out H4_8.out (ht.below c8)).mono ?_
  rw [HQ3.out]
  rintro e w9 ⟨a9, cap9, rfl, oa9, b9⟩
  have c9 := below_step c8 b9
  have HV_9 := Lib.hid (HV_8.out.keep b9)
  have H3_9 := Lib.hid (H3_8.out.keep b9)
  have H4_9 := Lib.hid (H4_8.out.keep b9)
  have H5_9 := Lib.hid (H5_8.out.keep b9)
  have H6_9 := Lib.hid (H6_8.out.keep b9)
  have H7_9 := Lib.hid (H7_8.out.keep b9)
  have H8_9 := Lib.hid (H8_8.out.keep b9)
  have H9_9 := Lib.hid oa9.src
  clear HV_8 H3_8 H4_8 H5_8 H6_8 H7_8 H8_8 b9 c8 oa9
  go_wp2_with fail
  refine (sameZ a9 a5 (oneL l.length) cap9 cap5 w9 nO H9_9.out H5_9.out).mono ?_
  rintro e w10 ⟨rfl, b10⟩
  have c10 := below_step c9 b10
  have HV_10 := Lib.hid (HV_9.out.keep b10)
  have H3_10 := Lib.hid (H3_9.out.keep b10)
  have H4_10 := Lib.hid (H4_9.out.keep b10)
  have H5_10 := Lib.hid (H5_9.out.keep b10)
  have H6_10 := Lib.hid (H6_9.out.keep b10)
  have H7_10 := Lib.hid (H7_9.out.keep b10)
  have H8_10 := Lib.hid (H8_9.out.keep b10)
  have H9_10 := Lib.hid (H9_9.out.keep b10)
  clear HV_9 H3_9 H4_9 H5_9 H6_9 H7_9 H8_9 H9_9 b10 c9
  go_wp2_with fail
  refine (sTwisted f a l cap a l cap w10 hln hln HV_10.out HV_10.out).mono ?_
  rintro e w11 ⟨a10, cap10, rfl, sa10, b11⟩
  have c11 := below_step c10 b11
  have HV_11 := Lib.hid (HV_10.out.keep b11)
  have H3_11 := Lib.hid (H3_10.out.keep b11)
  have H4_11 := Lib.hid (H4_10.out.keep b11)
  have H5_11 := Lib.hid (H5_10.out.keep b11)
  have H6_11 := Lib.hid (H6_10.out.keep b11)
  have H7_11 := Lib.hid (H7_10.out.keep b11)
  have H8_11 := Lib.hid (H8_10.out.keep b11)
  have H9_11 := Lib.hid (H9_10.out.keep b11)
  have H10_11 := Lib.hid sa10
  clear HV_10 H3_10 H4_10 H5_10 H6_10 H7_10 H8_10 H9_10 b11 c10 sa10
  go_wp2_with fail
  refine (sTwisted f a10 (mTwisted f l l) cap10 a l cap w11 nT hln H10_11.out HV_11.out).mono ?_
  rw [← HQ4.out]
  rintro e w12 ⟨a11, cap11, rfl, sa11, b12⟩
  have c12 := below_step c11 b12
  have HV_12 := Lib.hid (HV_11.out.keep b12)
  have H3_12 := Lib.hid (H3_11.out.keep b12)
  have H4_12 := Lib.hid (H4_11.out.keep b12)
  have H5_12 := Lib.hid (H5_11.out.keep b12)
  have H6_12 := Lib.hid (H6_11.out.keep b12)
  have H7_12 := Lib.hid (H7_11.out.keep b12)
  have H8_12 := Lib.hid (H8_11.out.keep b12)
  have H9_12 := Lib.hid (H9_11.out.keep b12)
  have H10_12 := Lib.hid (H10_11.out.keep b12)
  have H11_12 := Lib.hid sa11
  clear HV_11 H3_11 H4_11 H5_11 H6_11 H7_11 H8_11 H9_11 H10_11 b12 c11 sa11
  go_wp2_with fail
  refine (sameZ a7 a11 (mRingPower0 f l 3) cap7 cap11 w12 nP H7_12.out H11_12.out).mono ?_
  rintro e w13 ⟨rfl, b13⟩
  have c13 := below_step c12 b13
  have HV_13 := Lib.hid (HV_12.out.keep b13)
  have H3_13 := Lib.hid (H3_12.out.keep b13)
  have H4_13 := Lib.hid (H4_12.out.keep b13)
  have H5_13 := Lib.hid (H5_12.out.keep b13)
  have H6_13 := Lib.hid (H6_12.out.keep b13)
  have H7_13 := Lib.hid (H7_12.out.keep b13)
  have H8_13 := Lib.hid (H8_12.out.keep b13)
  have H9_13 := Lib.hid (H9_12.out.keep b13)
  have H10_13 := Lib.hid (H10_12.out.keep b13)
  have H11_13 := Lib.hid (H11_12.out.keep b13)
  clear HV_12 H3_12 H4_12 H5_12 H6_12 H7_12 H8_12 H9_12 H10_12 H11_12 b13 c12
  go_wp2
  go_ret
  exact ⟨rfl, c13⟩
set_option maxRecDepth 100000 in
theorem contract (H : Type) (enc : TypeId × Value → H) (W : World) (base : Nat) (args : Array Value) (ds gs : List (DataW H)) (before : List MemPlace)
    (hval : ∀ (j : Nat) t v, Tryd.f6.params[j]? = some t → args[j]? = some v → Value.okWide Tryd.prog W .any base t v)
    (hW : DataW.Whole enc Tryd.prog Tryd.f6.params.toList Rows.fnRingInverseSpec.vars false W args.toList ds gs before) (hL : laidMetH Tryd.prog Rows.fnRingInverseRow.laid W) :
    Calls Tryd.prog 6 args W fun e W' => ∃ v, e = .returned v ∧ Rows.fnRingInverseSpec.post enc Tryd.prog Tryd.f6 false true false false W args v W' := by
  have hvar := table_var hL
  have hW' := hW
  obtain ⟨p, q, hA0, hV, rfl, hfz, hnd⟩ := hW
  have hA : DataW.TrodAll enc Tryd.prog W 0 (fun _ => true) true Tryd.f6.params.toList args.toList ds p := hA0
  rw [Tryd.params6] at hA hval
  obtain ⟨v0, vs0, d0, ds0, p0, q0, hargs, rfl, rfl, h0, r0⟩ := trodAll_cons hA
  obtain ⟨rfl, rfl, rfl⟩ := trodAll_nil r0
  obtain rfl : args = #[v0] := by cases args; simp_all
  obtain ⟨rfl, rfl⟩ := DataW.TrodVars.unique hV (tab_vars enc (fun _ => true) hvar)
  obtain ⟨a0, len0, cap0, rfl⟩ := okWide_slice Tryd.underlying22 (hval 0 22 v0 rfl rfl)
  have k0 := h0
  have lt0 : ∀ x ∈ p0, x.block < W.heap.size := by obtain ⟨m, hm⟩ := k0; exact DataW.trod_lt m _ _ _ hm
  obtain ⟨z0, w0⟩ : ∃ zs, IsRow .u8 W a0 len0 cap0 zs := by
    obtain ⟨fuel, hf⟩ := h0
    rcases open_ints Tryd.underlying22 Tryd.underlying5 (by kernel_rfl) hf with ⟨hcs, _⟩ | ⟨x, l, c, zs, hcs, _, hl, hm, hz, _, hcell, hwz⟩
    · simp [Value.cells] at hcs
      obtain ⟨rfl, rfl, rfl⟩ := hcs
      exact ⟨[], .inl ⟨rfl, rfl, rfl, rfl⟩⟩
    · simp [Value.cells] at hcs
      obtain ⟨rfl, rfl, rfl⟩ := hcs
      exact ⟨zs, .inr ⟨_, rfl, hl, hm, by simpa using hz, hcell, hwz⟩⟩
  clear hA0
  refine (walk a0 len0 cap0 z0 W w0 (tab_of hvar)).mono fun e W' ⟨he, bel⟩ => ?_
  subst he
  exact ⟨_, rfl, _, _, _, [], _, _, hW', trodAll_mk1 (shut_bool Tryd.underlying4 _), (trodAll_cons_mk (Below.trod f_laidOut (by kernel_rfl) (of_decide_eq_true (by kernel_rfl)) k0 bel lt0) trodAll_mk0), tab_vars enc _ (below_var bel hvar), bel.frame _, fun h => by cases h⟩
theorem laid_met (os : Os) : laidMet Tryd.prog Rows.fnRingInverseRow.laid ((laidWorld os).forCall (fun _ _ => 0) ⟨#[], #[.slice none 0 0], []⟩).memory :=
  laidMet_of_run' 8 (by kernel_rfl) (by kernel_rfl)
theorem reads (os : Os) {H : Type} (enc : TypeId × Value → H) : ∃ places, DataW.whole enc Tryd.prog ((laidWorld os).forCall (fun _ _ => 0) ⟨#[], #[.slice none 0 0], []⟩).memory Tryd.f6.params.toList Rows.fnRingInverseSpec.vars false #[Value.slice none 0 0].toList 8 = some ([.nil], [Rows.laid_loop_example_g00710_impl_fieldTable], places) :=
  ⟨MemPlace.row ⟨0, 0, none⟩ 27, by kernel_rfl⟩
set_option maxRecDepth 100000 in
theorem lifted (os : Os) (started : os.Started) (H : Type) (enc : TypeId × Value → H) (F : Stop.Interp) :
    ReturnsInHanded {} Tryd.checked os 6 .any ((OpenSpec.ofChange Rows.fnRingInverseSpec).preRow enc Tryd.prog Tryd.f6 Rows.fnRingInverseRow.domain false Rows.fnRingInverseRow.laid) (((OpenSpec.ofChange Rows.fnRingInverseSpec).at F).post enc Tryd.prog Tryd.f6 false true false false) := by
  obtain ⟨places, hx⟩ := reads os enc
  refine returnsInHanded_of_row (C := Tryd.checked) (s := OpenSpec.ofChange Rows.fnRingInverseSpec) own started (by kernel_rfl) Tryd.func6
    (witness_row_at (enc := enc) (C := Tryd.checked) false (laidWorld os) #[.slice none 0 0] rfl (by kernel_rfl) (by kernel_rfl) (by kernel_rfl)
      (OpenSpec.preRow_of_cond 8 hx (by kernel_rfl) (fun k hk => by cases hk) (by kernel_rfl) (laid_met os))) ?_
  intro W base args ds gs before hval hW _ _ _ hL _ _
  exact contract H enc W base args ds gs before hval hW hL
theorem closed : joinedFacts Tryd.prog 6 Tryd.f6 (OpenSpec.ofChange Rows.fnRingInverseSpec).bare Rows.fnRingInverseRow = true := by
  unfold joinedFacts
  exact both (both (both (both (both (both (both (both (both (both (both (both (both (both (both (both (both (both (both (both (both (both (both (both (both (both (both (both (both (both (both (by as_aux_lemma => kernel_rfl) f_laidOut) f_mapsRowed) (by as_aux_lemma => kernel_rfl)) (by as_aux_lemma => kernel_rfl)) (by as_aux_lemma => kernel_rfl)) f_stops) (by as_aux_lemma => kernel_rfl)) f_knobs) (by as_aux_lemma => kernel_rfl)) (by as_aux_lemma => kernel_rfl)) (by as_aux_lemma => kernel_rfl)) (by as_aux_lemma => kernel_rfl)) (by as_aux_lemma => kernel_rfl)) (by as_aux_lemma => kernel_rfl)) (by as_aux_lemma => kernel_rfl)) (by as_aux_lemma => kernel_rfl)) (by as_aux_lemma => kernel_rfl)) (by as_aux_lemma => kernel_rfl)) (by as_aux_lemma => kernel_rfl)) (by as_aux_lemma => kernel_rfl)) (by as_aux_lemma => kernel_rfl)) f_keys) (by as_aux_lemma => kernel_rfl)) f_heard) f_enter) f_lifts) f_make) (by as_aux_lemma => kernel_rfl)) (by as_aux_lemma => kernel_rfl)) (by as_aux_lemma => kernel_rfl)) (by as_aux_lemma => kernel_rfl)
theorem said : Rows.FnRingInverseSaid :=
  OpenClaim.holds_of_cond 6 Tryd.f6 rfl rfl rfl rfl rfl rfl rfl ⟨rfl, rfl, rfl, rfl, rfl⟩ rfl rfl rfl rfl rfl (by as_aux_lemma => kernel_rfl) Tryd.func6 closed
    (of_decide_eq_true (by as_aux_lemma => kernel_rfl)) (by unfold Func.isWrapper; rw [if_neg (by decide +kernel)]; exact ⟨rfl, rfl⟩)
    (fun os started H enc _ F => by rw [OpenClaim.pre_eq_preRow]; exact lifted os started H enc F)
theorem plain (f : FuncId) (fn : Func) (hf : Tryd.pinned.checked.prog.funcNamed "loop.example/g00710/laws.FnRingInverse" = some f) (hfn : Tryd.pinned.checked.prog.funcs[f]? = some fn) :
    false = Tryd.pinned.checked.prog.looks [] ∧ ∀ (j : Nat) t, fn.params[j]? = some t → Tryd.pinned.checked.prog.wantsStandIn t = false := by
  obtain rfl : f = 6 := Option.some.inj ((show Tryd.prog.funcNamed "loop.example/g00710/laws.FnRingInverse" = some 6 by kernel_rfl).symm.trans hf) |>.symm
  obtain rfl : fn = Tryd.f6 := (Option.some.inj (Tryd.func6.symm.trans hfn)).symm
  refine ⟨f_looks, fun j t ht => ?_⟩
  rw [Tryd.params6] at ht
  obtain rfl : t = 22 := by simpa using Array.mem_of_getElem? ht
  exact (show Tryd.prog.wantsStandIn 22 = false by kernel_rfl)
end RingInverse
theorem fnRingInverse_card : Rows.FnRingInverseCardSaid :=
  Claim7.holds_tied_plain_at .later [] _ _ _ _ RingInverse.said (fun _ h => by cases h) (by as_aux_lemma => kernel_rfl) (fun _ h => by cases h) fnRingInverse_row_tie rfl ⟨rfl, rfl⟩ f_main rfl RingInverse.plain (by as_aux_lemma => kernel_rfl)
end Go.Proofs.YtoonpnfhcmghmaaDoor
