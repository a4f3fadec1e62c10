/-
  The transform of a rotated vector has at each place what the transform has there times the root to the place times the rotation, for every code that the law draws from; no condition but the card's own (the table of fields holds what its initialiser lays).
-/
import Derived.Test.YtnipffmookkkdabDoorJ3
import Derived.ChangeOld
import Derived.Below
import Derived.Carry
namespace Go.Proofs.YtnipffmookkkdabDoor
open Go.ChangeShapes Go.WideShapes Go.ChangeAt Go.RowKit
namespace Rotate
set_option maxRecDepth 100000 in
set_option maxHeartbeats 1600000 in
theorem walk (a0 : Option Addr) (len0 cap0 : Nat) (z0 : List Int) (w : World) (hrow : IsRow .u8 w a0 len0 cap0 z0) (ht : Tab w) : Calls Tryd.prog 8 #[.slice a0 len0 cap0] w fun e w' => e = .returned (.bool true) ∧ Below w.heap.size w w' := by
  by_cases hl : 1048576 < len0
  · go_enter Tryd.func8, Tryd.ntmps8
    go_wp2_with fail
    refine (big_yes a0 len0 cap0 w hl).mono ?_
    rintro e w' ⟨rfl, rfl⟩
    go_wp2
    go_ret
    exact ⟨rfl, Below.refl _ _⟩
  have hl2 : len0 ≤ 1048576 := by omega
  have hcode := code_of_row hrow (by omega)
  clear hl hrow
  go_enter Tryd.func8, Tryd.ntmps8
  go_wp2_with fail
  refine (big_no a0 len0 cap0 w hl2).mono ?_
  rintro e w' ⟨rfl, rfl⟩
  go_wp2_with fail
  refine (drawRotate_c a0 len0 cap0 w hl2 hcode).mono ?_
  rintro e w1 ⟨f, a, l, cap, r, rfl, hln, hs, b1⟩
  clear hcode
  have c1 := b1
  have R1 := sVectorOk f a l cap w1 hln hs
  by_cases k1 : VecOk f l
  rotate_left
  · rw [vok_not.2 k1] at R1
    have HR := Lib.hid R1
    clear k1 hs R1
    go_wp2_with fail
    refine HR.out.mono ?_
    rintro e w' ⟨rfl, rfl⟩
    go_wp2
    go_ret
    exact ⟨rfl, b1⟩
  rw [vok_iff.2 k1] at R1
  have HR1 := Lib.hid R1
  have HV_1 := Lib.hid hs
  clear R1 hs
  by_cases hr1 : 1099511627776 < r
  · have d1 : decide (1099511627776 < r) = true := decide_eq_true hr1
    clear k1
    go_wp2_with fail
    refine HR1.out.mono ?_
    rintro e w' ⟨rfl, rfl⟩
    go_wp2
    go_ret
    exact ⟨rfl, b1⟩
  have d1 : decide (1099511627776 < r) = false := decide_eq_false hr1
  by_cases hr2 : r < -1099511627776
  · have d2 : decide (r < -1099511627776) = true := decide_eq_true hr2
    clear k1
    go_wp2_with fail
    refine HR1.out.mono ?_
    rintro e w' ⟨rfl, rfl⟩
    go_wp2
    go_ret
    exact ⟨rfl, b1⟩
  have d2 : decide (r < -1099511627776) = false := decide_eq_false hr2
  have HFR : Hid (mRotate f l r = rotL l r) := Lib.hid (by unfold mRotate; rw [if_pos k1])
  have HFX : Hid (mForward f (rotL l r) = fwdL f (rotL l r)) := Lib.hid (by unfold mForward; rw [if_pos (k1.rot r)])
  have HFY : Hid (mForward f l = fwdL f l) := Lib.hid (by unfold mForward; rw [if_pos k1])
  have HLX : Hid ((fwdL f (rotL l r)).length = l.length) := Lib.hid (by rw [fwdL_len, rotL_len])
  have HLY := Lib.hid (fwdL_len f l)
  have nR : (rotL l r).length ≤ 1048576 := by rw [rotL_len]; exact hln
  have HAT : Hid (∀ i, i < l.length → lf (fwdL f (rotL l r)) i = mMul f (lf (fwdL f l) i) (mPower f (rootL f l) ((i : Int) * r))) := Lib.hid fun i hi => rotate_at k1 r hi
  have HROOT : Hid (mRoot f (mLog l.length) = rootL f l) := Lib.hid rfl
  have hpos := k1.pos
  have e1 : ((l.length : Int) != l.length) = false := by simp
  clear k1
  go_wp2_with fail
  refine HR1.out.mono ?_
  rintro e w' ⟨rfl, rfl⟩
  clear HR1 b1
  go_wp2_with fail
  refine (cp_l a l cap w1 hln HV_1.out).mono ?_
  rintro e w2 ⟨a3, cap3, rfl, sa3, b2⟩
  have c2 := below_step c1 b2
  have HV_2 := Lib.hid (HV_1.out.keep b2)
  have H3_2 := Lib.hid sa3
  clear HV_1 b2 c1 sa3
  go_wp2_with fail
  refine (iRotate f a3 l cap3 r w2 hln H3_2.out (ht.below c2)).mono ?_
  rw [HFR.out]
  rintro e w3 ⟨a4, cap4, rfl, oa4, b3⟩
  have c3 := below_step c2 b3
  have HV_3 := Lib.hid (HV_2.out.keep b3)
  have H3_3 := Lib.hid (H3_2.out.keep b3)
  have H4_3 := Lib.hid oa4.src
  clear HV_2 H3_2 b3 c2 oa4
  go_wp2_with fail
  refine (iForward f a4 (rotL l r) cap4 w3 nR H4_3.out (ht.below c3)).mono ?_
  rw [HFX.out]
  rintro e w4 ⟨a5, cap5, rfl, oa5, b4⟩
  have sa5 := oa5.src
  rw [HLX.out] at sa5 ⊢
  have c4 := below_step c3 b4
  have HV_4 := Lib.hid (HV_3.out.keep b4)
  have H3_4 := Lib.hid (H3_3.out.keep b4)
  have H4_4 := Lib.hid (H4_3.out.keep b4)
  have H5_4 := Lib.hid sa5
  clear HV_3 H3_3 H4_3 b4 c3 oa5 sa5
  go_wp2_with fail
  refine (cp_l a l cap w4 hln HV_4.out).mono ?_
  rintro e w5 ⟨a6, cap6, rfl, sa6, b5⟩
  have c5 := below_step c4 b5
  have HV_5 := Lib.hid (HV_4.out.keep b5)
  have H3_5 := Lib.hid (H3_4.out.keep b5)
  have H4_5 := Lib.hid (H4_4.out.keep b5)
  have H5_5 := Lib.hid (H5_4.out.keep b5)
  have H6_5 := Lib.hid sa6
  clear HV_4 H3_4 H4_4 H5_4 b5 c4 sa6
  go_wp2_with fail
  refine (iForward f a6 l cap6 w5 hln H6_5.out (ht.below c5)).mono ?_
  rw [HFY.out]
  rintro e w6 ⟨a7, cap7, rfl, oa7, b6⟩
  have sa7 := oa7.src
  rw [HLY.out] at sa7 ⊢
  have c6 := below_step c5 b6
  have HV_6 := Lib.hid (HV_5.out.keep b6)
  have H3_6 := Lib.hid (H3_5.out.keep b6)
  have H4_6 := Lib.hid (H4_5.out.keep b6)
  have H5_6 := Lib.hid (H5_5.out.keep b6)
  have H6_6 := Lib.hid (H6_5.out.keep b6)
  have H7_6 := Lib.hid sa7
  clear HV_5 H3_5 H4_5 H5_5 H6_5 b6 c5 oa7 sa7
  go_wp2_with fail
  refine (sLogOf l.length w6).mono ?_
  rintro e w' ⟨rfl, rfl⟩
  go_wp2_with fail
  refine (sRootOf f (mLog l.length) w6).mono ?_
  rintro e w' ⟨rfl, rfl⟩
  rw [HROOT.out]
  obtain ⟨bx, ox, rfl, hltx, hcx⟩ := vec_some H5_6.out hpos.1
  obtain ⟨by', oy, rfl, hlty, hcy⟩ := vec_some H7_6.out hpos.1
  have HCX := Lib.hid hcx
  have HCY := Lib.hid hcy
  have cc := c6
  clear hcx hcy HV_6 H3_6 H4_6 H5_6 H6_6 H7_6 HFR HFX HFY HLX HLY nR
  generalize lf (fwdL f (rotL l r)) = X at *
  generalize lf (fwdL f l) = Y at *
  generalize rootL f l = R at *
  generalize l.length = n at *
  go_wp2_with fail
  go_loopw [9] (fun i wr => ∃ k : Nat, i = .int .i64 k ∧ k ≤ n ∧ Below w6.heap.size w6 wr) (fun i _ => n - (intOf i).toNat)
  case atStart => exact ⟨0, rfl, Nat.zero_le _, Below.refl _ _⟩
  case round =>
    obtain ⟨i, rfl, hin, hb⟩ := hrel
    by_cases h1 : i < n
    · have hd1 : decide ((i : Int) < n) = true := decide_eq_true (by omega)
      have x1 : wr.cell? ⟨bx, ox + i, none⟩ = some (.int .i64 (X i)) := (hb.cell (p := ⟨bx, ox + i, none⟩) hltx).trans (HCX.out i h1)
      have y1 : wr.cell? ⟨by', oy + i, none⟩ = some (.int .i64 (Y i)) := (hb.cell (p := ⟨by', oy + i, none⟩) hlty).trans (HCY.out i h1)
      have e3 : (X i != mMul f (Y i) (mPower f R ((i : Int) * r))) = false := by rw [HAT.out i h1]; simp
      have u1 : (i : Int) * r ≤ (i : Int) * 1099511627776 := Int.mul_le_mul_of_nonneg_left (by omega) (by omega)
      have u2 : (i : Int) * (-1099511627776) ≤ (i : Int) * r := Int.mul_le_mul_of_nonneg_left (by omega) (by omega)
      have q1 : IntKind.i64.wrap ((i : Int) * r) = (i : Int) * r := IntWalk.i64_in _ (by omega)
      clear u1 u2
      go_wp2
      go_quiet ((first | (go_at_call 38; exact quiet_left (sPower f R ((i : Int) * r) _)) | (go_at_call 33; exact quiet_left (sMul f (Y i) (mPower f R ((i : Int) * r)) _))))
      go_wp2
      go_roundw
      case rel => exact ⟨i + 1, by go_num, by omega, below_drewN hb _⟩
      case measure => simp [intOf]; omega
    · have hd1 : decide ((i : Int) < n) = false := decide_eq_false (by omega)
      go_wp2
      go_ret
      exact ⟨rfl, below_step cc hb⟩
theorem contract (H : Type) (enc : TypeId × Value → H) (W : World) (base : Nat) (args : Array Value) (ds gs : List (DataW H)) (before : List MemPlace)
    (hval : ∀ (j : Nat) t v, Tryd.f8.params[j]? = some t → args[j]? = some v → Value.okWide Tryd.prog W .any base t v)
    (hW : DataW.Whole enc Tryd.prog Tryd.f8.params.toList Rows.fnRotateSpec.vars false W args.toList ds gs before) (hL : laidMetH Tryd.prog Rows.fnRotateRow.laid W) :
    Calls Tryd.prog 8 args W fun e W' => ∃ v, e = .returned v ∧ Rows.fnRotateSpec.post enc Tryd.prog Tryd.f8 false true false false W args v W' := by
  have hvar := table_var hL
  have hW' := hW
  obtain ⟨p, q, hA0, hV, rfl, hfz, hnd⟩ := hW
  have hA : DataW.TrodAll enc Tryd.prog W 0 (fun _ => true) true Tryd.f8.params.toList args.toList ds p := hA0
  rw [Tryd.params8] at hA hval
  obtain ⟨v0, vs0, d0, ds0, p0, q0, hargs, rfl, rfl, h0, r0⟩ := trodAll_cons hA
  obtain ⟨rfl, rfl, rfl⟩ := trodAll_nil r0
  obtain rfl : args = #[v0] := by cases args; simp_all
  obtain ⟨rfl, rfl⟩ := DataW.TrodVars.unique hV (tab_vars enc (fun _ => true) hvar)
  obtain ⟨a0, len0, cap0, rfl⟩ := okWide_slice Tryd.underlying29 (hval 0 29 v0 rfl rfl)
  have k0 := h0
  have lt0 : ∀ x ∈ p0, x.block < W.heap.size := by obtain ⟨m, hm⟩ := k0; exact DataW.trod_lt m _ _ _ hm
  obtain ⟨z0, w0⟩ : ∃ zs, IsRow .u8 W a0 len0 cap0 zs := by
    obtain ⟨fuel, hf⟩ := h0
    rcases open_ints Tryd.underlying29 Tryd.underlying5 (by kernel_rfl) hf with ⟨hcs, _⟩ | ⟨x, l, c, zs, hcs, _, hl, hm, hz, _, hcell, hwz⟩
    · simp [Value.cells] at hcs
      obtain ⟨rfl, rfl, rfl⟩ := hcs
      exact ⟨[], .inl ⟨rfl, rfl, rfl, rfl⟩⟩
    · simp [Value.cells] at hcs
      obtain ⟨rfl, rfl, rfl⟩ := hcs
      exact ⟨zs, .inr ⟨_, rfl, hl, hm, by simpa using hz, hcell, hwz⟩⟩
  clear hA0
  refine (walk a0 len0 cap0 z0 W w0 (tab_of hvar)).mono fun e W' ⟨he, bel⟩ => ?_
  subst he
  exact ⟨_, rfl, _, _, _, [], _, _, hW', trodAll_mk1 (shut_bool Tryd.underlying4 _), (trodAll_cons_mk (Below.trod f_laidOut (by kernel_rfl) (of_decide_eq_true (by kernel_rfl)) k0 bel lt0) trodAll_mk0), tab_vars enc _ (below_var bel hvar), bel.frame _, fun h => by cases h⟩
theorem laid_met (os : Os) : laidMet Tryd.prog Rows.fnRotateRow.laid ((laidWorld os).forCall (fun _ _ => 0) ⟨#[], #[.slice none 0 0], []⟩).memory :=
  laidMet_of_run' 8 (by kernel_rfl) (by kernel_rfl)
theorem reads (os : Os) {H : Type} (enc : TypeId × Value → H) : ∃ places, DataW.whole enc Tryd.prog ((laidWorld os).forCall (fun _ _ => 0) ⟨#[], #[.slice none 0 0], []⟩).memory Tryd.f8.params.toList Rows.fnRotateSpec.vars false #[Value.slice none 0 0].toList 8 = some ([.nil], [Rows.laid_loop_example_g00710_impl_fieldTable], places) :=
  ⟨MemPlace.row ⟨0, 0, none⟩ 27, by kernel_rfl⟩
set_option maxRecDepth 100000 in
theorem lifted (os : Os) (started : os.Started) (H : Type) (enc : TypeId × Value → H) (F : Stop.Interp) :
    ReturnsInHanded {} Tryd.checked os 8 .any ((OpenSpec.ofChange Rows.fnRotateSpec).preRow enc Tryd.prog Tryd.f8 Rows.fnRotateRow.domain false Rows.fnRotateRow.laid) (((OpenSpec.ofChange Rows.fnRotateSpec).at F).post enc Tryd.prog Tryd.f8 false true false false) := by
  obtain ⟨places, hx⟩ := reads os enc
  refine returnsInHanded_of_row (C := Tryd.checked) (s := OpenSpec.ofChange Rows.fnRotateSpec) own started (by kernel_rfl) Tryd.func8
    (witness_row_at (enc := enc) (C := Tryd.checked) false (laidWorld os) #[.slice none 0 0] rfl (by kernel_rfl) (by kernel_rfl) (by kernel_rfl)
      (OpenSpec.preRow_of_cond 8 hx (by kernel_rfl) (fun k hk => by cases hk) (by kernel_rfl) (laid_met os))) ?_
  intro W base args ds gs before hval hW _ _ _ hL _ _
  exact contract H enc W base args ds gs before hval hW hL
theorem closed : joinedFacts Tryd.prog 8 Tryd.f8 (OpenSpec.ofChange Rows.fnRotateSpec).bare Rows.fnRotateRow = true := by
  unfold joinedFacts
  exact both (both (both (both (both (both (both (both (both (both (both (both (both (both (both (both (both (both (both (both (both (both (both (both (both (both (both (both (both (both (both (by as_aux_lemma => kernel_rfl) f_laidOut) f_mapsRowed) (by as_aux_lemma => kernel_rfl)) (by as_aux_lemma => kernel_rfl)) (by as_aux_lemma => kernel_rfl)) f_stops) (by as_aux_lemma => kernel_rfl)) f_knobs) (by as_aux_lemma => kernel_rfl)) (by as_aux_lemma => kernel_rfl)) (by as_aux_lemma => kernel_rfl)) (by as_aux_lemma => kernel_rfl)) (by as_aux_lemma => kernel_rfl)) (by as_aux_lemma => kernel_rfl)) (by as_aux_lemma => kernel_rfl)) (by as_aux_lemma => kernel_rfl)) (by as_aux_lemma => kernel_rfl)) (by as_aux_lemma => kernel_rfl)) (by as_aux_lemma => kernel_rfl)) (by as_aux_lemma => kernel_rfl)) (by as_aux_lemma => kernel_rfl)) f_keys) (by as_aux_lemma => kernel_rfl)) f_heard) f_enter) f_lifts) f_make) (by as_aux_lemma => kernel_rfl)) (by as_aux_lemma => kernel_rfl)) (by as_aux_lemma => kernel_rfl)) (by as_aux_lemma => kernel_rfl)
theorem said : Rows.FnRotateSaid :=
  OpenClaim.holds_of_cond 8 Tryd.f8 rfl rfl rfl rfl rfl rfl rfl ⟨rfl, rfl, rfl, rfl, rfl⟩ rfl rfl rfl rfl rfl (by as_aux_lemma => kernel_rfl) Tryd.func8 closed
    (of_decide_eq_true (by as_aux_lemma => kernel_rfl)) (by unfold Func.isWrapper; rw [if_neg (by decide +kernel)]; exact ⟨rfl, rfl⟩)
    (fun os started H enc _ F => by rw [OpenClaim.pre_eq_preRow]; exact lifted os started H enc F)
theorem plain (f : FuncId) (fn : Func) (hf : Tryd.pinned.checked.prog.funcNamed "loop.example/g00710/laws.FnRotate" = some f) (hfn : Tryd.pinned.checked.prog.funcs[f]? = some fn) :
    false = Tryd.pinned.checked.prog.looks [] ∧ ∀ (j : Nat) t, fn.params[j]? = some t → Tryd.pinned.checked.prog.wantsStandIn t = false := by
  obtain rfl : f = 8 := Option.some.inj ((show Tryd.prog.funcNamed "loop.example/g00710/laws.FnRotate" = some 8 by kernel_rfl).symm.trans hf) |>.symm
  obtain rfl : fn = Tryd.f8 := (Option.some.inj (Tryd.func8.symm.trans hfn)).symm
  refine ⟨f_looks, fun j t ht => ?_⟩
  rw [Tryd.params8] at ht
  obtain rfl : t = 29 := by simpa using Array.mem_of_getElem? ht
  exact (show Tryd.prog.wantsStandIn 29 = false by kernel_rfl)
end Rotate
theorem fnRotate_card : Rows.FnRotateCardSaid :=
  Claim7.holds_tied_plain_at .later [] _ _ _ _ Rotate.said (fun _ h => by cases h) (by as_aux_lemma => kernel_rfl) (fun _ h => by cases h) fnRotate_row_tie rfl ⟨rfl, rfl⟩ f_main rfl Rotate.plain (by as_aux_lemma => kernel_rfl)
end Go.Proofs.YtnipffmookkkdabDoor
