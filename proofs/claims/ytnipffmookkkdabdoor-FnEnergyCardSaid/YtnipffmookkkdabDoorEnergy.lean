/-
  The sum of the squares of the elements of Forward is the length times Energy, for every code that the law draws from; no condition but the card's own (the table of fields holds what its initialiser lays).
-/
import Derived.Test.YtnipffmookkkdabDoorJ3
import Derived.ChangeOld
import Derived.Below
import Derived.Carry
namespace Go.Proofs.YtnipffmookkkdabDoor
open Go.ChangeShapes Go.WideShapes Go.ChangeAt Go.RowKit
namespace Energy
set_option maxRecDepth 100000 in
set_option maxHeartbeats 1600000 in
theorem walk (a0 : Option Addr) (len0 cap0 : Nat) (z0 : List Int) (w : World) (hrow : IsRow .u8 w a0 len0 cap0 z0) (ht : Tab w) : Calls Tryd.prog 7 #[.slice a0 len0 cap0] w fun e w' => e = .returned (.bool true) ∧ Below w.heap.size w w' := by
  by_cases hl : 1048576 < len0
  · go_enter Tryd.func7, Tryd.ntmps7
    go_wp2_with fail
    refine (big_yes a0 len0 cap0 w hl).mono ?_
    rintro e w' ⟨rfl, rfl⟩
    go_wp2
    go_ret
    exact ⟨rfl, Below.refl _ _⟩
  have hl2 : len0 ≤ 1048576 := by omega
  have hcode := code_of_row hrow (by omega)
  clear hl hrow
  go_enter Tryd.func7, Tryd.ntmps7
  go_wp2_with fail
  refine (big_no a0 len0 cap0 w hl2).mono ?_
  rintro e w' ⟨rfl, rfl⟩
  go_wp2_with fail
  refine (drawForward_c a0 len0 cap0 w hl2 hcode).mono ?_
  rintro e w1 ⟨f, a, l, cap, rfl, hln, hs, b1⟩
  clear hcode
  have c1 := b1
  have R1 := sVectorOk f a l cap w1 hln hs
  by_cases k1 : VecOk f l
  rotate_left
  · rw [vok_not.2 k1] at R1
    have HR := Lib.hid R1
    clear k1 hs R1
    go_wp2_with fail
    refine HR.out.mono ?_
    rintro e w' ⟨rfl, rfl⟩
    go_wp2
    go_ret
    exact ⟨rfl, b1⟩
  rw [vok_iff.2 k1] at R1
  have HR1 := Lib.hid R1
  have HV_1 := Lib.hid hs
  clear R1 hs
  have HE := Lib.hid (energy_facts k1)
  have HFL : Hid (mForward f l = fwdL f l) := Lib.hid (by unfold mForward; rw [if_pos k1])
  have HLEN := Lib.hid (fwdL_len f l)
  have e1 : ((l.length : Int) == l.length) = true := by simp
  clear k1
  go_wp2_with fail
  refine HR1.out.mono ?_
  rintro e w' ⟨rfl, rfl⟩
  clear HR1 b1
  go_wp2_with fail
  refine (cp_l a l cap w1 hln HV_1.out).mono ?_
  rintro e w2 ⟨a3, cap3, rfl, sa3, b2⟩
  have c2 := below_step c1 b2
  have HV_2 := Lib.hid (HV_1.out.keep b2)
  have H3_2 := Lib.hid sa3
  clear HV_1 b2 c1 sa3
  go_wp2_with fail
  refine (iForward f a3 l cap3 w2 hln H3_2.out (ht.below c2)).mono ?_
  rw [HFL.out]
  rintro e w3 ⟨a4, cap4, rfl, oa4, b3⟩
  have s4 := oa4.src
  rw [HLEN.out] at s4 ⊢
  have c3 := below_step c2 b3
  have HV_3 := Lib.hid (HV_2.out.keep b3)
  have H4_3 := Lib.hid s4
  clear HV_2 H3_2 b3 c2 oa4 s4
  go_wp2_with fail
  refine (iDot f a4 a4 l.length l.length cap4 cap4 (lf (fwdL f l)) (lf (fwdL f l)) w3 (ht.below c3) (by omega) (by omega) H4_3.out H4_3.out).mono ?_
  rintro e w4 ⟨rfl, b4⟩
  have c4 := below_step c3 b4
  have HV_4 := Lib.hid (HV_3.out.keep b4)
  have H4_4 := Lib.hid (H4_3.out.keep b4)
  clear HV_3 H4_3 b4 c3
  go_wp2_with fail
  refine (cp_l a l cap w4 hln HV_4.out).mono ?_
  rintro e w5 ⟨a5, cap5, rfl, sa5, b5⟩
  have c5 := below_step c4 b5
  have HV_5 := Lib.hid (HV_4.out.keep b5)
  have H4_5 := Lib.hid (H4_4.out.keep b5)
  have H5_5 := Lib.hid sa5
  clear HV_4 H4_4 b5 c4 sa5
  go_wp2_with fail
  refine (iEnergy f a5 l cap5 w5 hln H5_5.out (ht.below c5)).mono ?_
  rintro e w6 ⟨rfl, b6⟩
  have c6 := below_step c5 b6
  have HV_6 := Lib.hid (HV_5.out.keep b6)
  have H4_6 := Lib.hid (H4_5.out.keep b6)
  have H5_6 := Lib.hid (H5_5.out.keep b6)
  clear HV_5 H4_5 H5_5 b6 c5
  go_wp2_with fail
  refine (sMul f l.length (mEnergy f l) w6).mono ?_
  rintro e w' ⟨rfl, rfl⟩
  rw [HE.out]
  have e2 : (mMul f l.length (mEnergy f l) == mMul f l.length (mEnergy f l)) = true := by simp
  go_wp2
  go_ret
  exact ⟨rfl, c6⟩
theorem contract (H : Type) (enc : TypeId × Value → H) (W : World) (base : Nat) (args : Array Value) (ds gs : List (DataW H)) (before : List MemPlace)
    (hval : ∀ (j : Nat) t v, Tryd.f7.params[j]? = some t → args[j]? = some v → Value.okWide Tryd.prog W .any base t v)
    (hW : DataW.Whole enc Tryd.prog Tryd.f7.params.toList Rows.fnEnergySpec.vars false W args.toList ds gs before) (hL : laidMetH Tryd.prog Rows.fnEnergyRow.laid W) :
    Calls Tryd.prog 7 args W fun e W' => ∃ v, e = .returned v ∧ Rows.fnEnergySpec.post enc Tryd.prog Tryd.f7 false true false false W args v W' := by
  have hvar := table_var hL
  have hW' := hW
  obtain ⟨p, q, hA0, hV, rfl, hfz, hnd⟩ := hW
  have hA : DataW.TrodAll enc Tryd.prog W 0 (fun _ => true) true Tryd.f7.params.toList args.toList ds p := hA0
  rw [Tryd.params7] at hA hval
  obtain ⟨v0, vs0, d0, ds0, p0, q0, hargs, rfl, rfl, h0, r0⟩ := trodAll_cons hA
  obtain ⟨rfl, rfl, rfl⟩ := trodAll_nil r0
  obtain rfl : args = #[v0] := by cases args; simp_all
  obtain ⟨rfl, rfl⟩ := DataW.TrodVars.unique hV (tab_vars enc (fun _ => true) hvar)
  obtain ⟨a0, len0, cap0, rfl⟩ := okWide_slice Tryd.underlying29 (hval 0 29 v0 rfl rfl)
  have k0 := h0
  have lt0 : ∀ x ∈ p0, x.block < W.heap.size := by obtain ⟨m, hm⟩ := k0; exact DataW.trod_lt m _ _ _ hm
  obtain ⟨z0, w0⟩ : ∃ zs, IsRow .u8 W a0 len0 cap0 zs := by
    obtain ⟨fuel, hf⟩ := h0
    rcases open_ints Tryd.underlying29 Tryd.underlying5 (by kernel_rfl) hf with ⟨hcs, _⟩ | ⟨x, l, c, zs, hcs, _, hl, hm, hz, _, hcell, hwz⟩
    · simp [Value.cells] at hcs
      obtain ⟨rfl, rfl, rfl⟩ := hcs
      exact ⟨[], .inl ⟨rfl, rfl, rfl, rfl⟩⟩
    · simp [Value.cells] at hcs
      obtain ⟨rfl, rfl, rfl⟩ := hcs
      exact ⟨zs, .inr ⟨_, rfl, hl, hm, by simpa using hz, hcell, hwz⟩⟩
  clear hA0
  refine (walk a0 len0 cap0 z0 W w0 (tab_of hvar)).mono fun e W' ⟨he, bel⟩ => ?_
  subst he
  exact ⟨_, rfl, _, _, _, [], _, _, hW', trodAll_mk1 (shut_bool Tryd.underlying4 _), (trodAll_cons_mk (Below.trod f_laidOut (by kernel_rfl) (of_decide_eq_true (by kernel_rfl)) k0 bel lt0) trodAll_mk0), tab_vars enc _ (below_var bel hvar), bel.frame _, fun h => by cases h⟩
theorem laid_met (os : Os) : laidMet Tryd.prog Rows.fnEnergyRow.laid ((laidWorld os).forCall (fun _ _ => 0) ⟨#[], #[.slice none 0 0], []⟩).memory :=
  laidMet_of_run' 8 (by kernel_rfl) (by kernel_rfl)
theorem reads (os : Os) {H : Type} (enc : TypeId × Value → H) : ∃ places, DataW.whole enc Tryd.prog ((laidWorld os).forCall (fun _ _ => 0) ⟨#[], #[.slice none 0 0], []⟩).memory Tryd.f7.params.toList Rows.fnEnergySpec.vars false #[Value.slice none 0 0].toList 8 = some ([.nil], [Rows.laid_loop_example_g00710_impl_fieldTable], places) :=
  ⟨MemPlace.row ⟨0, 0, none⟩ 27, by kernel_rfl⟩
set_option maxRecDepth 100000 in
theorem lifted (os : Os) (started : os.Started) (H : Type) (enc : TypeId × Value → H) (F : Stop.Interp) :
    ReturnsInHanded {} Tryd.checked os 7 .any ((OpenSpec.ofChange Rows.fnEnergySpec).preRow enc Tryd.prog Tryd.f7 Rows.fnEnergyRow.domain false Rows.fnEnergyRow.laid) (((OpenSpec.ofChange Rows.fnEnergySpec).at F).post enc Tryd.prog Tryd.f7 false true false false) := by
  obtain ⟨places, hx⟩ := reads os enc
  refine returnsInHanded_of_row (C := Tryd.checked) (s := OpenSpec.ofChange Rows.fnEnergySpec) own started (by kernel_rfl) Tryd.func7
    (witness_row_at (enc := enc) (C := Tryd.checked) false (laidWorld os) #[.slice none 0 0] rfl (by kernel_rfl) (by kernel_rfl) (by kernel_rfl)
      (OpenSpec.preRow_of_cond 8 hx (by kernel_rfl) (fun k hk => by cases hk) (by kernel_rfl) (laid_met os))) ?_
  intro W base args ds gs before hval hW _ _ _ hL _ _
  exact contract H enc W base args ds gs before hval hW hL
theorem closed : joinedFacts Tryd.prog 7 Tryd.f7 (OpenSpec.ofChange Rows.fnEnergySpec).bare Rows.fnEnergyRow = true := by
  unfold joinedFacts
  exact both (both (both (both (both (both (both (both (both (both (both (both (both (both (both (both (both (both (both (both (both (both (both (both (both (both (both (both (both (both (both (by as_aux_lemma => kernel_rfl) f_laidOut) f_mapsRowed) (by as_aux_lemma => kernel_rfl)) (by as_aux_lemma => kernel_rfl)) (by as_aux_lemma => kernel_rfl)) f_stops) (by as_aux_lemma => kernel_rfl)) f_knobs) (by as_aux_lemma => kernel_rfl)) (by as_aux_lemma => kernel_rfl)) (by as_aux_lemma => kernel_rfl)) (by as_aux_lemma => kernel_rfl)) (by as_aux_lemma => kernel_rfl)) (by as_aux_lemma => kernel_rfl)) (by as_aux_lemma => kernel_rfl)) (by as_aux_lemma => kernel_rfl)) (by as_aux_lemma => kernel_rfl)) (by as_aux_lemma => kernel_rfl)) (by as_aux_lemma => kernel_rfl)) (by as_aux_lemma => kernel_rfl)) (by as_aux_lemma => kernel_rfl)) f_keys) (by as_aux_lemma => kernel_rfl)) f_heard) f_enter) f_lifts) f_make) (by as_aux_lemma => kernel_rfl)) (by as_aux_lemma => kernel_rfl)) (by as_aux_lemma => kernel_rfl)) (by as_aux_lemma => kernel_rfl)
theorem said : Rows.FnEnergySaid :=
  OpenClaim.holds_of_cond 7 Tryd.f7 rfl rfl rfl rfl rfl rfl rfl ⟨rfl, rfl, rfl, rfl, rfl⟩ rfl rfl rfl rfl rfl (by as_aux_lemma => kernel_rfl) Tryd.func7 closed
    (of_decide_eq_true (by as_aux_lemma => kernel_rfl)) (by unfold Func.isWrapper; rw [if_neg (by decide +kernel)]; exact ⟨rfl, rfl⟩)
    (fun os started H enc _ F => by rw [OpenClaim.pre_eq_preRow]; exact lifted os started H enc F)
theorem plain (f : FuncId) (fn : Func) (hf : Tryd.pinned.checked.prog.funcNamed "loop.example/g00710/laws.FnEnergy" = some f) (hfn : Tryd.pinned.checked.prog.funcs[f]? = some fn) :
    false = Tryd.pinned.checked.prog.looks [] ∧ ∀ (j : Nat) t, fn.params[j]? = some t → Tryd.pinned.checked.prog.wantsStandIn t = false := by
  obtain rfl : f = 7 := Option.some.inj ((show Tryd.prog.funcNamed "loop.example/g00710/laws.FnEnergy" = some 7 by kernel_rfl).symm.trans hf) |>.symm
  obtain rfl : fn = Tryd.f7 := (Option.some.inj (Tryd.func7.symm.trans hfn)).symm
  refine ⟨f_looks, fun j t ht => ?_⟩
  rw [Tryd.params7] at ht
  obtain rfl : t = 29 := by simpa using Array.mem_of_getElem? ht
  exact (show Tryd.prog.wantsStandIn 29 = false by kernel_rfl)
end Energy
theorem fnEnergy_card : Rows.FnEnergyCardSaid :=
  Claim7.holds_tied_plain_at .later [] _ _ _ _ Energy.said (fun _ h => by cases h) (by as_aux_lemma => kernel_rfl) (fun _ h => by cases h) fnEnergy_row_tie rfl ⟨rfl, rfl⟩ f_main rfl Energy.plain (by as_aux_lemma => kernel_rfl)
end Go.Proofs.YtnipffmookkkdabDoor
