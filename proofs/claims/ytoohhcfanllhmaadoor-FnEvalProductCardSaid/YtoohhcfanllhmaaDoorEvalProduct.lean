/-
  The value of a product is the product of the values, and the value of what Compose answers is the value at the value, for every code that the law draws from; no condition but the card's own (the table of fields holds what its initialiser lays).
-/
import Derived.Test.YtoohhcfanllhmaaDoorJ3
import Derived.ChangeOld
import Derived.Below
import Derived.Carry
namespace Go.Proofs.YtoohhcfanllhmaaDoor
open Go.ChangeShapes Go.WideShapes Go.ChangeAt Go.RowKit
namespace EvalProduct
set_option maxRecDepth 100000 in
set_option maxHeartbeats 1600000 in
theorem walk (a0 : Option Addr) (len0 cap0 : Nat) (z0 : List Int) (w : World) (hrow : IsRow .u8 w a0 len0 cap0 z0) (ht : Tab w) : Calls Tryd.prog 5 #[.slice a0 len0 cap0] w fun e w' => e = .returned (.bool true) ∧ Below w.heap.size w w' := by
  by_cases hl : 1048576 < len0
  · go_enter Tryd.func5, Tryd.ntmps5
    go_wp2_with fail
    refine (big_yes a0 len0 cap0 w hl).mono ?_
    rintro e w' ⟨rfl, rfl⟩
    go_wp2
    go_ret
    exact ⟨rfl, Below.refl _ _⟩
  have hl2 : len0 ≤ 1048576 := by omega
  have hcode := code_of_row hrow (by omega)
  clear hl hrow
  go_enter Tryd.func5, Tryd.ntmps5
  go_wp2_with fail
  refine (big_no a0 len0 cap0 w hl2).mono ?_
  rintro e w' ⟨rfl, rfl⟩
  go_wp2_with fail
  refine (drawCompose_c a0 len0 cap0 w hl2 hcode).mono ?_
  rintro e w1 ⟨f, a, l, cap, a2, m, cap2, rfl, hl100, hm100, hs, hs2, b1⟩
  have hln : l.length ≤ 1048576 := by omega
  have hmn : m.length ≤ 1048576 := by omega
  have HCODE := Lib.hid (hcode.keep b1)
  clear hcode
  have ht1 := ht.below b1
  have R1 := sPolyOk f a l cap w1 hln hs
  by_cases k1 : PolOk f l
  rotate_left
  · rw [pok_not.2 k1] at R1
    have HR := Lib.hid R1
    clear k1 hs hs2 R1
    go_wp2_with fail
    refine HR.out.mono ?_
    rintro e w' ⟨rfl, rfl⟩
    go_wp2
    go_ret
    exact ⟨rfl, b1⟩
  have R2 := sPolyOk f a2 m cap2 w1 hmn hs2
  by_cases k2 : PolOk f m
  rotate_left
  · rw [pok_iff.2 k1] at R1
    rw [pok_not.2 k2] at R2
    have HR := Lib.hid R1
    have HR2 := Lib.hid R2
    clear k1 k2 hs hs2 R1 R2
    go_wp2_with fail
    refine HR.out.mono ?_
    rintro e w' ⟨rfl, rfl⟩
    go_wp2_with fail
    refine HR2.out.mono ?_
    rintro e w' ⟨rfl, rfl⟩
    go_wp2
    go_ret
    exact ⟨rfl, b1⟩
  rw [pok_iff.2 k1] at R1
  rw [pok_iff.2 k2] at R2
  have HR1 := Lib.hid R1
  have HR2 := Lib.hid R2
  have HS := Lib.hid hs
  have HS2 := Lib.hid hs2
  clear R1 R2 hs hs2
  have HX := Lib.hid (evalProduct_facts k1 k2 (show l.length + m.length ≤ 401 by omega))
  have n0 : (mulL f l m).length ≤ 1048576 := by have := mulL_le f l m; omega
  have nc : (mCompose0 f l m).length ≤ 1048576 := len_mCompose0 f l m hln hmn
  have HK1 := Lib.hid k1
  have HK2 := Lib.hid k2
  clear k1 k2
  go_wp2_with fail
  refine HR1.out.mono ?_
  rintro e w' ⟨rfl, rfl⟩
  go_wp2_with fail
  refine HR2.out.mono ?_
  rintro e w' ⟨rfl, rfl⟩
  go_wp2_with fail
  refine (byteAt_c a0 len0 cap0 1 w1 hl2 (by omega) HCODE.out).mono ?_
  rintro e w' ⟨x, rfl, x0, x1, rfl⟩
  have hx := HX.out x
  obtain ⟨q1, q2, q3, q4⟩ := hx
  have HQ2 := Lib.hid q2
  have HQ3 := Lib.hid q3
  have HQ4 := Lib.hid q4
  have e1 : (mEvalPoly f (mulL f l m) x != mMul f (mEvalPoly f l x) (mEvalPoly f m x)) = false := by simp [q1]
  clear q1 q2 q3 q4 HX HCODE HR1 HR2
  go_wp2_with fail
  refine (cp_l a l cap w1 hln HS.out).mono ?_
  rintro e w2 ⟨a3, cap3, rfl, s3, b2⟩
  have HS3 := Lib.hid s3
  have c2 := below_step b1 b2
  have HL2 := Lib.hid (HS.out.keep b2)
  have HT2 := Lib.hid (HS2.out.keep b2)
  clear s3 HS HS2 b1 b2
  go_wp2_with fail
  refine (cp_l a2 m cap2 w2 hmn HT2.out).mono ?_
  rintro e w3 ⟨a4, cap4, rfl, s4, b3⟩
  have HS4 := Lib.hid s4
  have c3 := below_step c2 b3
  have HS3b := Lib.hid (HS3.out.keep b3)
  have HL3 := Lib.hid (HL2.out.keep b3)
  have HT3 := Lib.hid (HT2.out.keep b3)
  clear s4 HS3 HL2 HT2 b3 c2
  go_wp2_with fail
  refine (iMulPoly_on f a3 l cap3 a4 m cap4 w3 hln hmn HS3b.out HS4.out (ht.below c3) HK1.out HK2.out (by omega)).mono ?_
  rintro e w4 ⟨a5, cap5, rfl, o5, b4⟩
  have HS5 := Lib.hid o5.src
  have c4 := below_step c3 b4
  have HL4 := Lib.hid (HL3.out.keep b4)
  have HT4 := Lib.hid (HT3.out.keep b4)
  clear o5 HS3b HS4 HL3 HT3 b4 c3
  go_wp2_with fail
  refine (iEvalPoly f a5 (mulL f l m) cap5 x w4 n0 HS5.out (ht.below c4)).mono ?_
  rintro e w5 ⟨rfl, b5⟩
  have c5 := below_step c4 b5
  have HL5 := Lib.hid (HL4.out.keep b5)
  have HT5 := Lib.hid (HT4.out.keep b5)
  clear HS5 HL4 HT4 b5 c4
  go_wp2_with fail
  refine (sEvalPoly f a l cap x w5 hln HL5.out).mono ?_
  rintro e w6 ⟨rfl, b6⟩
  have c6 := below_step c5 b6
  have HL6 := Lib.hid (HL5.out.keep b6)
  have HT6 := Lib.hid (HT5.out.keep b6)
  clear HL5 HT5 b6 c5
  go_wp2_with fail
  refine (sEvalPoly f a2 m cap2 x w6 hmn HT6.out).mono ?_
  rintro e w7 ⟨rfl, b7⟩
  have c7 := below_step c6 b7
  have HL7 := Lib.hid (HL6.out.keep b7)
  have HT7 := Lib.hid (HT6.out.keep b7)
  clear HL6 HT6 b7 c6
  go_wp2_with fail
  refine (sMul f (mEvalPoly f l x) (mEvalPoly f m x) w7).mono ?_
  rintro e w' ⟨rfl, rfl⟩
  go_wp2_with fail
  refine (sCompose f a l cap a2 m cap2 w7 hln hmn HL7.out HT7.out).mono ?_
  rintro e w8 ⟨a8, cap8, rfl, _, b8⟩
  have c8 := below_step c7 b8
  have HL8 := Lib.hid (HL7.out.keep b8)
  have HT8 := Lib.hid (HT7.out.keep b8)
  clear HL7 HT7 b8 c7 e1
  go_wp2_with fail
  refine (cp_l a l cap w8 hln HL8.out).mono ?_
  rintro e w9 ⟨a9, cap9, rfl, s9, b9⟩
  have HS9 := Lib.hid s9
  have c9 := below_step c8 b9
  have HL9 := Lib.hid (HL8.out.keep b9)
  have HT9 := Lib.hid (HT8.out.keep b9)
  clear s9 HL8 HT8 b9 c8
  go_wp2_with fail
  refine (cp_l a2 m cap2 w9 hmn HT9.out).mono ?_
  rintro e w10 ⟨a10, cap10, rfl, s10, b10⟩
  have HS10 := Lib.hid s10
  have c10 := below_step c9 b10
  have HS9b := Lib.hid (HS9.out.keep b10)
  have HL10 := Lib.hid (HL9.out.keep b10)
  have HT10 := Lib.hid (HT9.out.keep b10)
  clear s10 HS9 HL9 HT9 b10 c9
  go_wp2_with fail
  refine (iCompose f a9 l cap9 a10 m cap10 w10 hln hmn HS9b.out HS10.out (ht.below c10)).mono ?_
  rintro e w11 ⟨a11, cap11, rfl, o11, b11⟩
  have HS11 := Lib.hid o11.src
  have c11 := below_step c10 b11
  have HL11 := Lib.hid (HL10.out.keep b11)
  have HT11 := Lib.hid (HT10.out.keep b11)
  have e2 : ((mCompose1 f l m) == (mCompose1 f l m)) = true := by simp
  clear o11 HS9b HS10 HL10 HT10 b11 c10
  by_cases hf : mCompose1 f l m = true
  · have HE := Lib.hid (HQ4.out hf)
    rw [hf]
    clear e2 hf
    go_wp2_with fail
    refine (iEvalPoly f a11 (mCompose0 f l m) cap11 x w11 nc HS11.out (ht.below c11)).mono ?_
    rintro e w12 ⟨rfl, b12⟩
    have c12 := below_step c11 b12
    have HL12 := Lib.hid (HL11.out.keep b12)
    have HT12 := Lib.hid (HT11.out.keep b12)
    clear HS11 HL11 HT11 b12 c11
    go_wp2_with fail
    refine (sEvalPoly f a2 m cap2 x w12 hmn HT12.out).mono ?_
    rintro e w13 ⟨rfl, b13⟩
    have c13 := below_step c12 b13
    have HL13 := Lib.hid (HL12.out.keep b13)
    clear HL12 HT12 b13 c12
    go_wp2_with fail
    refine (sEvalPoly f a l cap (mEvalPoly f m x) w13 hln HL13.out).mono ?_
    rintro e w14 ⟨rfl, b14⟩
    have e3 : (mEvalPoly f (mCompose0 f l m) x == mEvalPoly f l (mEvalPoly f m x)) = true := by simp [HE.out]
    go_wp2
    go_ret
    exact ⟨rfl, below_step c13 b14⟩
  · have hf2 : mCompose1 f l m = false := by simpa using hf
    rw [hf2]
    clear e2 hf hf2
    go_wp2
    go_ret
    exact ⟨rfl, c11⟩
theorem contract (H : Type) (enc : TypeId × Value → H) (W : World) (base : Nat) (args : Array Value) (ds gs : List (DataW H)) (before : List MemPlace)
    (hval : ∀ (j : Nat) t v, Tryd.f5.params[j]? = some t → args[j]? = some v → Value.okWide Tryd.prog W .any base t v)
    (hW : DataW.Whole enc Tryd.prog Tryd.f5.params.toList Rows.fnEvalProductSpec.vars false W args.toList ds gs before) (hL : laidMetH Tryd.prog Rows.fnEvalProductRow.laid W) :
    Calls Tryd.prog 5 args W fun e W' => ∃ v, e = .returned v ∧ Rows.fnEvalProductSpec.post enc Tryd.prog Tryd.f5 false true false false W args v W' := by
  have hvar := table_var hL
  have hW' := hW
  obtain ⟨p, q, hA0, hV, rfl, hfz, hnd⟩ := hW
  have hA : DataW.TrodAll enc Tryd.prog W 0 (fun _ => true) true Tryd.f5.params.toList args.toList ds p := hA0
  rw [Tryd.params5] at hA hval
  obtain ⟨v0, vs0, d0, ds0, p0, q0, hargs, rfl, rfl, h0, r0⟩ := trodAll_cons hA
  obtain ⟨rfl, rfl, rfl⟩ := trodAll_nil r0
  obtain rfl : args = #[v0] := by cases args; simp_all
  obtain ⟨rfl, rfl⟩ := DataW.TrodVars.unique hV (tab_vars enc (fun _ => true) hvar)
  obtain ⟨a0, len0, cap0, rfl⟩ := okWide_slice Tryd.underlying22 (hval 0 22 v0 rfl rfl)
  have k0 := h0
  have lt0 : ∀ x ∈ p0, x.block < W.heap.size := by obtain ⟨m, hm⟩ := k0; exact DataW.trod_lt m _ _ _ hm
  obtain ⟨z0, w0⟩ : ∃ zs, IsRow .u8 W a0 len0 cap0 zs := by
    obtain ⟨fuel, hf⟩ := h0
    rcases open_ints Tryd.underlying22 Tryd.underlying5 (by kernel_rfl) hf with ⟨hcs, _⟩ | ⟨x, l, c, zs, hcs, _, hl, hm, hz, _, hcell, hwz⟩
    · simp [Value.cells] at hcs
      obtain ⟨rfl, rfl, rfl⟩ := hcs
      exact ⟨[], .inl ⟨rfl, rfl, rfl, rfl⟩⟩
    · simp [Value.cells] at hcs
      obtain ⟨rfl, rfl, rfl⟩ := hcs
      exact ⟨zs, .inr ⟨_, rfl, hl, hm, by simpa using hz, hcell, hwz⟩⟩
  clear hA0
  refine (walk a0 len0 cap0 z0 W w0 (tab_of hvar)).mono fun e W' ⟨he, bel⟩ => ?_
  subst he
  exact ⟨_, rfl, _, _, _, [], _, _, hW', trodAll_mk1 (shut_bool Tryd.underlying4 _), (trodAll_cons_mk (Below.trod f_laidOut (by kernel_rfl) (of_decide_eq_true (by kernel_rfl)) k0 bel lt0) trodAll_mk0), tab_vars enc _ (below_var bel hvar), bel.frame _, fun h => by cases h⟩
theorem laid_met (os : Os) : laidMet Tryd.prog Rows.fnEvalProductRow.laid ((laidWorld os).forCall (fun _ _ => 0) ⟨#[], #[.slice none 0 0], []⟩).memory :=
  laidMet_of_run' 8 (by kernel_rfl) (by kernel_rfl)
theorem reads (os : Os) {H : Type} (enc : TypeId × Value → H) : ∃ places, DataW.whole enc Tryd.prog ((laidWorld os).forCall (fun _ _ => 0) ⟨#[], #[.slice none 0 0], []⟩).memory Tryd.f5.params.toList Rows.fnEvalProductSpec.vars false #[Value.slice none 0 0].toList 8 = some ([.nil], [Rows.laid_loop_example_g00710_impl_fieldTable], places) :=
  ⟨MemPlace.row ⟨0, 0, none⟩ 27, by kernel_rfl⟩
set_option maxRecDepth 100000 in
theorem lifted (os : Os) (started : os.Started) (H : Type) (enc : TypeId × Value → H) (F : Stop.Interp) :
    ReturnsInHanded {} Tryd.checked os 5 .any ((OpenSpec.ofChange Rows.fnEvalProductSpec).preRow enc Tryd.prog Tryd.f5 Rows.fnEvalProductRow.domain false Rows.fnEvalProductRow.laid) (((OpenSpec.ofChange Rows.fnEvalProductSpec).at F).post enc Tryd.prog Tryd.f5 false true false false) := by
  obtain ⟨places, hx⟩ := reads os enc
  refine returnsInHanded_of_row (C := Tryd.checked) (s := OpenSpec.ofChange Rows.fnEvalProductSpec) own started (by kernel_rfl) Tryd.func5
    (witness_row_at (enc := enc) (C := Tryd.checked) false (laidWorld os) #[.slice none 0 0] rfl (by kernel_rfl) (by kernel_rfl) (by kernel_rfl)
      (OpenSpec.preRow_of_cond 8 hx (by kernel_rfl) (fun k hk => by cases hk) (by kernel_rfl) (laid_met os))) ?_
  intro W base args ds gs before hval hW _ _ _ hL _ _
  exact contract H enc W base args ds gs before hval hW hL
theorem closed : joinedFacts Tryd.prog 5 Tryd.f5 (OpenSpec.ofChange Rows.fnEvalProductSpec).bare Rows.fnEvalProductRow = true := by
  unfold joinedFacts
  exact both (both (both (both (both (both (both (both (both (both (both (both (both (both (both (both (both (both (both (both (both (both (both (both (both (both (both (both (both (both (both (by as_aux_lemma => kernel_rfl) f_laidOut) f_mapsRowed) (by as_aux_lemma => kernel_rfl)) (by as_aux_lemma => kernel_rfl)) (by as_aux_lemma => kernel_rfl)) f_stops) (by as_aux_lemma => kernel_rfl)) f_knobs) (by as_aux_lemma => kernel_rfl)) (by as_aux_lemma => kernel_rfl)) (by as_aux_lemma => kernel_rfl)) (by as_aux_lemma => kernel_rfl)) (by as_aux_lemma => kernel_rfl)) (by as_aux_lemma => kernel_rfl)) (by as_aux_lemma => kernel_rfl)) (by as_aux_lemma => kernel_rfl)) (by as_aux_lemma => kernel_rfl)) (by as_aux_lemma => kernel_rfl)) (by as_aux_lemma => kernel_rfl)) (by as_aux_lemma => kernel_rfl)) (by as_aux_lemma => kernel_rfl)) f_keys) (by as_aux_lemma => kernel_rfl)) f_heard) f_enter) f_lifts) f_make) (by as_aux_lemma => kernel_rfl)) (by as_aux_lemma => kernel_rfl)) (by as_aux_lemma => kernel_rfl)) (by as_aux_lemma => kernel_rfl)
theorem said : Rows.FnEvalProductSaid :=
  OpenClaim.holds_of_cond 5 Tryd.f5 rfl rfl rfl rfl rfl rfl rfl ⟨rfl, rfl, rfl, rfl, rfl⟩ rfl rfl rfl rfl rfl (by as_aux_lemma => kernel_rfl) Tryd.func5 closed
    (of_decide_eq_true (by as_aux_lemma => kernel_rfl)) (by unfold Func.isWrapper; rw [if_neg (by decide +kernel)]; exact ⟨rfl, rfl⟩)
    (fun os started H enc _ F => by rw [OpenClaim.pre_eq_preRow]; exact lifted os started H enc F)
theorem plain (f : FuncId) (fn : Func) (hf : Tryd.pinned.checked.prog.funcNamed "loop.example/g00710/laws.FnEvalProduct" = some f) (hfn : Tryd.pinned.checked.prog.funcs[f]? = some fn) :
    false = Tryd.pinned.checked.prog.looks [] ∧ ∀ (j : Nat) t, fn.params[j]? = some t → Tryd.pinned.checked.prog.wantsStandIn t = false := by
  obtain rfl : f = 5 := Option.some.inj ((show Tryd.prog.funcNamed "loop.example/g00710/laws.FnEvalProduct" = some 5 by kernel_rfl).symm.trans hf) |>.symm
  obtain rfl : fn = Tryd.f5 := (Option.some.inj (Tryd.func5.symm.trans hfn)).symm
  refine ⟨f_looks, fun j t ht => ?_⟩
  rw [Tryd.params5] at ht
  obtain rfl : t = 22 := by simpa using Array.mem_of_getElem? ht
  exact (show Tryd.prog.wantsStandIn 22 = false by kernel_rfl)
end EvalProduct
theorem fnEvalProduct_card : Rows.FnEvalProductCardSaid :=
  Claim7.holds_tied_plain_at .later [] _ _ _ _ EvalProduct.said (fun _ h => by cases h) (by as_aux_lemma => kernel_rfl) (fun _ h => by cases h) fnEvalProduct_row_tie rfl ⟨rfl, rfl⟩ f_main rfl EvalProduct.plain (by as_aux_lemma => kernel_rfl)
end Go.Proofs.YtoohhcfanllhmaaDoor
