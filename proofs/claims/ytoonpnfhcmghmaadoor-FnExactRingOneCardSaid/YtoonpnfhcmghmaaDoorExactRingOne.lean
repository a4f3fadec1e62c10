/-
  For every argument the program's RingOne answers as the specification's model of it, in memory of its own; no condition but the card's own (the table of fields holds what its initialiser lays).
-/
import Derived.Test.YtoonpnfhcmghmaaDoorJ4
import Derived.ChangeOld
import Derived.Below
import Derived.Carry
namespace Go.Proofs.YtoonpnfhcmghmaaDoor
open Go.ChangeShapes Go.WideShapes Go.ChangeAt Go.RowKit
namespace ExactRingOne
set_option maxRecDepth 100000 in
set_option maxHeartbeats 3200000 in
theorem walk (f n : Int) (w : World) (ht : Tab w) : Calls Tryd.prog 9 #[.int .i64 f, .int .i64 n] w fun e w' => e = .returned (.bool true) ∧ Below w.heap.size w w' := by
  have L0 := len_mRingOne f n
  have hne : ((1 + (mRingOne f n).length : Int) != 1 + (mRingOne f n).length) = false := by simp
  go_enter Tryd.func9, Tryd.ntmps9
  go_wp2_with fail
  refine (sRingOne f n w).mono ?_
  rintro e w1 ⟨as0, caps0, rfl, ss0, b1⟩
  have z_b1 := b1.size
  have c1w := b1
  have c1S := Below.refl w1.heap.size w1
  go_wp2_with fail
  refine (iRingOne f n w1 (ht.below c1w)).mono ?_
  rintro e w2 ⟨ag0, capg0, rfl, rg0, b2⟩
  have z_b2 := b2.size
  have c2w := below_up c1w b2 c1w.size
  have c2S := below_up c1S b2 c1S.size
  clear c1w c1S
  go_wp2_with fail
  refine (eq_l ag0 as0 (mRingOne f n) capg0 caps0 w2 L0 rg0.src (ss0.keep c2S)).mono ?_
  rintro e w3 ⟨rfl, b3⟩
  have z_b3 := b3.size
  have c3w := below_up c2w b3 c2w.size
  have c3S := below_up c2S b3 c2S.size
  have o3g0 := rg0.keep b3
  clear c2w c2S rg0
  go_wp2_with fail
  refine (mark_l _ ag0 (mRingOne f n) capg0 1 w3 L0 (by omega) (by omega) o3g0).mono ?_
  rintro e w4 ⟨rfl, m4, g4⟩
  have z_g4 := g4.size
  have c4w := g4.below o3g0 (by omega) c3w c3w.size
  have c4S := g4.below o3g0 (Nat.le_refl _) c3S c3S.size
  clear c3w c3S o3g0
  go_wp2_with fail
  refine (held_l _ ag0 (mRingOne f n).length capg0 (1) w4 L0 (by omega) (by omega) m4).mono ?_
  rintro e w' ⟨rfl, rfl⟩
  go_wp2_with fail
  refine (iRingOne f n w4 (ht.below c4w)).mono ?_
  rintro e w5 ⟨ah0, caph0, rfl, rh0, b5⟩
  have z_b5 := b5.size
  have c5w := below_up c4w b5 c4w.size
  have c5S := below_up c4S b5 c4S.size
  have o5g0 := m4.keep b5
  clear c4w c4S m4
  go_wp2_with fail
  refine (eq_l ah0 as0 (mRingOne f n) caph0 caps0 w5 L0 rh0.src (ss0.keep c5S)).mono ?_
  rintro e w6 ⟨rfl, b6⟩
  have c6w := below_up c5w b6 c5w.size
  have o6g0 := o5g0.keep b6
  clear c5w c5S o5g0 rh0
  go_wp2_with fail
  refine (held_l _ ag0 (mRingOne f n).length capg0 (1) w6 L0 (by omega) (by omega) o6g0).mono ?_
  rintro e w' ⟨rfl, rfl⟩
  go_wp2
  go_ret
  exact ⟨rfl, c6w⟩
set_option maxRecDepth 100000 in
theorem contract (H : Type) (enc : TypeId × Value → H) (W : World) (base : Nat) (args : Array Value) (ds gs : List (DataW H)) (before : List MemPlace)
    (hval : ∀ (j : Nat) t v, Tryd.f9.params[j]? = some t → args[j]? = some v → Value.okWide Tryd.prog W .any base t v)
    (hW : DataW.Whole enc Tryd.prog Tryd.f9.params.toList Rows.fnExactRingOneSpec.vars false W args.toList ds gs before) (hL : laidMetH Tryd.prog Rows.fnExactRingOneRow.laid W) :
    Calls Tryd.prog 9 args W fun e W' => ∃ v, e = .returned v ∧ Rows.fnExactRingOneSpec.post enc Tryd.prog Tryd.f9 false true false false W args v W' := by
  have hvar := table_var hL
  have hW' := hW
  obtain ⟨p, q, hA0, hV, rfl, hfz, hnd⟩ := hW
  have hA : DataW.TrodAll enc Tryd.prog W 0 (fun _ => true) true Tryd.f9.params.toList args.toList ds p := hA0
  rw [Tryd.params9] at hA hval
  obtain ⟨v0, vs0, d0, ds0, p0, q0, hargs, rfl, rfl, h0, r0⟩ := trodAll_cons hA
  obtain ⟨v1, vs1, d1, ds1, p1, q1, rfl, rfl, rfl, h1, r1⟩ := trodAll_cons r0
  obtain ⟨rfl, rfl, rfl⟩ := trodAll_nil r1
  obtain rfl : args = #[v0, v1] := by cases args; simp_all
  obtain ⟨rfl, rfl⟩ := DataW.TrodVars.unique hV (tab_vars enc (fun _ => true) hvar)
  obtain ⟨a0, rfl, rfl, rfl, w0⟩ := open_int Tryd.underlying3 (hval 0 3 v0 rfl rfl) h0
  obtain ⟨a1, rfl, rfl, rfl, w1⟩ := open_int Tryd.underlying3 (hval 1 3 v1 rfl rfl) h1
  clear hA0
  refine (walk a0 a1 W (tab_of hvar)).mono fun e W' ⟨he, bel⟩ => ?_
  subst he
  exact ⟨_, rfl, _, _, _, [], _, _, hW', trodAll_mk1 (shut_bool Tryd.underlying4 _), (trodAll_cons_mk (shut_int Tryd.underlying3 w0) (trodAll_cons_mk (shut_int Tryd.underlying3 w1) trodAll_mk0)), tab_vars enc _ (below_var bel hvar), bel.frame _, fun h => by cases h⟩
theorem laid_met (os : Os) : laidMet Tryd.prog Rows.fnExactRingOneRow.laid ((laidWorld os).forCall (fun _ _ => 0) ⟨#[], #[.int .i64 0, .int .i64 0], []⟩).memory :=
  laidMet_of_run' 8 (by kernel_rfl) (by kernel_rfl)
theorem reads (os : Os) {H : Type} (enc : TypeId × Value → H) : ∃ places, DataW.whole enc Tryd.prog ((laidWorld os).forCall (fun _ _ => 0) ⟨#[], #[.int .i64 0, .int .i64 0], []⟩).memory Tryd.f9.params.toList Rows.fnExactRingOneSpec.vars false #[Value.int .i64 0, Value.int .i64 0].toList 8 = some ([.lit (.int .i64 0), .lit (.int .i64 0)], [Rows.laid_loop_example_g00710_impl_fieldTable], places) :=
  ⟨MemPlace.row ⟨0, 0, none⟩ 27, by kernel_rfl⟩
set_option maxRecDepth 100000 in
theorem lifted (os : Os) (started : os.Started) (H : Type) (enc : TypeId × Value → H) (F : Stop.Interp) :
    ReturnsInHanded {} Tryd.checked os 9 .any ((OpenSpec.ofChange Rows.fnExactRingOneSpec).preRow enc Tryd.prog Tryd.f9 Rows.fnExactRingOneRow.domain false Rows.fnExactRingOneRow.laid) (((OpenSpec.ofChange Rows.fnExactRingOneSpec).at F).post enc Tryd.prog Tryd.f9 false true false false) := by
  obtain ⟨places, hx⟩ := reads os enc
  refine returnsInHanded_of_row (C := Tryd.checked) (s := OpenSpec.ofChange Rows.fnExactRingOneSpec) own started (by kernel_rfl) Tryd.func9
    (witness_row_at (enc := enc) (C := Tryd.checked) false (laidWorld os) #[.int .i64 0, .int .i64 0] rfl (by kernel_rfl) (by kernel_rfl) (by kernel_rfl)
      (OpenSpec.preRow_of_cond 8 hx (by kernel_rfl) (fun k hk => by cases hk) (by kernel_rfl) (laid_met os))) ?_
  intro W base args ds gs before hval hW _ _ _ hL _ _
  exact contract H enc W base args ds gs before hval hW hL
theorem closed : joinedFacts Tryd.prog 9 Tryd.f9 (OpenSpec.ofChange Rows.fnExactRingOneSpec).bare Rows.fnExactRingOneRow = true := by
  unfold joinedFacts
  exact both (both (both (both (both (both (both (both (both (both (both (both (both (both (both (both (both (both (both (both (both (both (both (both (both (both (both (both (both (both (both (by as_aux_lemma => kernel_rfl) f_laidOut) f_mapsRowed) (by as_aux_lemma => kernel_rfl)) (by as_aux_lemma => kernel_rfl)) (by as_aux_lemma => kernel_rfl)) f_stops) (by as_aux_lemma => kernel_rfl)) f_knobs) (by as_aux_lemma => kernel_rfl)) (by as_aux_lemma => kernel_rfl)) (by as_aux_lemma => kernel_rfl)) (by as_aux_lemma => kernel_rfl)) (by as_aux_lemma => kernel_rfl)) (by as_aux_lemma => kernel_rfl)) (by as_aux_lemma => kernel_rfl)) (by as_aux_lemma => kernel_rfl)) (by as_aux_lemma => kernel_rfl)) (by as_aux_lemma => kernel_rfl)) (by as_aux_lemma => kernel_rfl)) (by as_aux_lemma => kernel_rfl)) (by as_aux_lemma => kernel_rfl)) f_keys) (by as_aux_lemma => kernel_rfl)) f_heard) f_enter) f_lifts) f_make) (by as_aux_lemma => kernel_rfl)) (by as_aux_lemma => kernel_rfl)) (by as_aux_lemma => kernel_rfl)) (by as_aux_lemma => kernel_rfl)
theorem said : Rows.FnExactRingOneSaid :=
  OpenClaim.holds_of_cond 9 Tryd.f9 rfl rfl rfl rfl rfl rfl rfl ⟨rfl, rfl, rfl, rfl, rfl⟩ rfl rfl rfl rfl rfl (by as_aux_lemma => kernel_rfl) Tryd.func9 closed
    (of_decide_eq_true (by as_aux_lemma => kernel_rfl)) (by unfold Func.isWrapper; rw [if_neg (by decide +kernel)]; exact ⟨rfl, rfl⟩)
    (fun os started H enc _ F => by rw [OpenClaim.pre_eq_preRow]; exact lifted os started H enc F)
theorem plain (f : FuncId) (fn : Func) (hf : Tryd.pinned.checked.prog.funcNamed "loop.example/g00710/laws.FnExactRingOne" = some f) (hfn : Tryd.pinned.checked.prog.funcs[f]? = some fn) :
    false = Tryd.pinned.checked.prog.looks [] ∧ ∀ (j : Nat) t, fn.params[j]? = some t → Tryd.pinned.checked.prog.wantsStandIn t = false := by
  obtain rfl : f = 9 := Option.some.inj ((show Tryd.prog.funcNamed "loop.example/g00710/laws.FnExactRingOne" = some 9 by kernel_rfl).symm.trans hf) |>.symm
  obtain rfl : fn = Tryd.f9 := (Option.some.inj (Tryd.func9.symm.trans hfn)).symm
  refine ⟨f_looks, fun j t ht => ?_⟩
  rw [Tryd.params9] at ht
  obtain rfl : t = 3 := by simpa using Array.mem_of_getElem? ht
  exact (show Tryd.prog.wantsStandIn 3 = false by kernel_rfl)
end ExactRingOne
theorem fnExactRingOne_card : Rows.FnExactRingOneCardSaid :=
  Claim7.holds_tied_plain_at .later [] _ _ _ _ ExactRingOne.said (fun _ h => by cases h) (by as_aux_lemma => kernel_rfl) (fun _ h => by cases h) fnExactRingOne_row_tie rfl ⟨rfl, rfl⟩ f_main rfl ExactRingOne.plain (by as_aux_lemma => kernel_rfl)
end Go.Proofs.YtoonpnfhcmghmaaDoor
