/-
  Rescale rounds each element, read as centered, to the nearest quotient, half up; by 1 it leaves the vector, for every code that the law draws from; no condition but the card's own (the table of fields holds what its initialiser lays).
-/
import Derived.Test.YtoonpnfhcmghmaaDoorK4
import Derived.ChangeOld
import Derived.Below
import Derived.Carry
namespace Go.Proofs.YtoonpnfhcmghmaaDoor
open Go.ChangeShapes Go.WideShapes Go.ChangeAt Go.RowKit
namespace Rescaled
set_option maxRecDepth 100000 in
set_option maxHeartbeats 1600000 in
theorem walk (a0 : Option Addr) (len0 cap0 : Nat) (z0 : List Int) (w : World) (hrow : IsRow .u8 w a0 len0 cap0 z0) (ht : Tab w) : Calls Tryd.prog 8 #[.slice a0 len0 cap0] w fun e w' => e = .returned (.bool true) ∧ Below w.heap.size w w' := by
  by_cases hl : 1048576 < len0
  · go_enter Tryd.func8, Tryd.ntmps8
    go_wp2_with fail
    refine (big_yes a0 len0 cap0 w hl).mono ?_
    rintro e w' ⟨rfl, rfl⟩
    go_wp2
    go_ret
    exact ⟨rfl, Below.refl _ _⟩
  have hl2 : len0 ≤ 1048576 := by omega
  have hcode := code_of_row hrow (by omega)
  clear hl hrow
  go_enter Tryd.func8, Tryd.ntmps8
  go_wp2_with fail
  refine (big_no a0 len0 cap0 w hl2).mono ?_
  rintro e w' ⟨rfl, rfl⟩
  go_wp2_with fail
  refine (drawRescale_c a0 len0 cap0 w hl2 hcode).mono ?_
  rintro e w1 ⟨f, a, l, cap, bb, rfl, hln, hs, b1⟩
  clear hcode
  have c1 := b1
  have R1 := Lib.hid (sRescale f a l cap bb w1 hln hs)
  have HV_1 := Lib.hid hs
  by_cases h : VecOk f l ∧ 1 ≤ bb ∧ bb ≤ P f
  rotate_left
  · have e1 : mRescale1 f l bb = false := by simp only [mRescale1, decide_eq_false_iff_not]; exact h
    clear hs h
    go_wp2_with fail
    refine R1.out.mono ?_
    rintro e w2 ⟨a2, cap2, rfl, s2, b2⟩
    rw [e1]
    have c2 := below_step c1 b2
    go_wp2
    go_ret
    exact ⟨rfl, c2⟩
  have q1 : mRescale1 f l bb = true := by simp only [mRescale1, decide_eq_true_eq]; exact h
  have q2 : mRescale0 f l bb = rscL f l bb := by unfold mRescale0; rw [if_pos h]
  have h1 : VecOk f l ∧ (1 : Int) ≤ 1 ∧ 1 ≤ P f := ⟨h.1, by omega, by omega⟩
  have q3 : mRescale1 f l 1 = true := by simp only [mRescale1, decide_eq_true_eq]; exact h1
  have q4 : mRescale0 f l 1 = l := by unfold mRescale0; rw [if_pos h1, rsc_one h.1]
  have HQ1 := Lib.hid q1
  have HQ2 := Lib.hid q2
  have HQ3 := Lib.hid q3
  have HQ4 := Lib.hid q4
  have HLEN := Lib.hid (rscL_len f l bb)
  have nR : (rscL f l bb).length ≤ 1048576 := by rw [rscL_len]; exact hln
  have h08 := h.1.f08
  have hp := P_bd h08.1 h08.2
  have hb1 : 1 ≤ bb := h.2.1
  have hb2 : bb ≤ P f := h.2.2
  have HA := Lib.hid h.1.lt
  have HO := Lib.hid (h.1.rsc bb).lt
  have HN : Hid (∀ i E R, i < l.length → cenF f (lf l i) = E → cenF f (lf (rscL f l bb) i) = R → 2 * (bb * R - E) ≤ bb ∧ - bb < 2 * (bb * R - E)) := Lib.hid fun i E R hi hE hR => by rw [← hE, ← hR]; exact rsc_near h.1 hb1 hi
  have HCE : Hid (∀ x, (P f - x < x → cenF f x = x - P f) ∧ (¬ P f - x < x → cenF f x = x)) := Lib.hid fun x => ⟨fun h => if_pos h, fun h => if_neg h⟩
  have hpos := h.1.pos.1
  clear hs q1 q2 q3 q4 h1 h
  go_wp2_with fail
  refine R1.out.mono ?_
  rw [HQ1.out]
  rintro e w2 ⟨a2, cap2, rfl, s2, b2⟩
  have c2 := below_step c1 b2
  have HV_2 := Lib.hid (HV_1.out.keep b2)
  clear HV_1 s2 b2 c1 b1 R1
  go_wp2_with fail
  refine (cp_l a l cap w2 hln HV_2.out).mono ?_
  rintro e w3 ⟨a3, cap3, rfl, sa3, b3⟩
  have c3 := below_step c2 b3
  have HV_3 := Lib.hid (HV_2.out.keep b3)
  have H3_3 := Lib.hid sa3
  clear HV_2 b3 c2 sa3
  go_wp2_with fail
  refine (iRescale f a3 l cap3 bb w3 hln H3_3.out (ht.below c3)).mono ?_
  rw [HQ1.out, HQ2.out]
  rintro e w4 ⟨a4, cap4, rfl, oa4, b4⟩
  have c4 := below_step c3 b4
  have HV_4 := Lib.hid (HV_3.out.keep b4)
  have H3_4 := Lib.hid (H3_3.out.keep b4)
  have H4_4 := Lib.hid oa4.src
  clear HV_3 H3_3 b4 c3 oa4
  go_wp2_with fail
  refine (cp_l a l cap w4 hln HV_4.out).mono ?_
  rintro e w5 ⟨a5, cap5, rfl, sa5, b5⟩
  have c5 := below_step c4 b5
  have HV_5 := Lib.hid (HV_4.out.keep b5)
  have H3_5 := Lib.hid (H3_4.out.keep b5)
  have H4_5 := Lib.hid (H4_4.out.keep b5)
  have H5_5 := Lib.hid sa5
  clear HV_4 H3_4 H4_4 b5 c4 sa5
  go_wp2_with fail
  refine (iRescale f a5 l cap5 1 w5 hln H5_5.out (ht.below c5)).mono ?_
  rw [HQ3.out, HQ4.out]
  rintro e w6 ⟨a6, cap6, rfl, oa6, b6⟩
  have c6 := below_step c5 b6
  have HV_6 := Lib.hid (HV_5.out.keep b6)
  have H3_6 := Lib.hid (H3_5.out.keep b6)
  have H4_6 := Lib.hid (H4_5.out.keep b6)
  have H5_6 := Lib.hid (H5_5.out.keep b6)
  have H6_6 := Lib.hid oa6.src
  clear HV_5 H3_5 H4_5 H5_5 b6 c5 oa6
  have e3 : (((rscL f l bb).length : Int) != l.length) = false := by rw [HLEN.out]; simp
  go_wp2_with fail
  refine (sameZ a6 a l cap6 cap w6 hln H6_6.out HV_6.out).mono ?_
  rintro e w7 ⟨rfl, b7⟩
  have c7 := below_step c6 b7
  have HV_7 := Lib.hid (HV_6.out.keep b7)
  have H3_7 := Lib.hid (H3_6.out.keep b7)
  have H4_7 := Lib.hid (H4_6.out.keep b7)
  have H5_7 := Lib.hid (H5_6.out.keep b7)
  have H6_7 := Lib.hid (H6_6.out.keep b7)
  clear HV_6 H3_6 H4_6 H5_6 H6_6 b7 c6
  obtain ⟨b, off, rfl, hlt, hc⟩ := vec_some HV_7.out hpos
  have HC := Lib.hid hc
  have so := H4_7.out
  rw [HLEN.out] at so
  obtain ⟨b3, off3, rfl, hlt3, hc3⟩ := vec_some so hpos
  have HC3 := Lib.hid hc3
  have hOL : (rscL f l bb).length = l.length := HLEN.out
  clear hc hc3 so HLEN HQ1 HQ2 HQ3 HQ4 HV_7 H3_7 H4_7 H5_7 H6_7
  go_wp2_with fail
  refine (sModulus f w7).mono ?_
  rintro e w' ⟨rfl, rfl⟩
  generalize hm : (rscL f l bb).length = m at *
  generalize lf (rscL f l bb) = B at *
  generalize lf l = A at *
  generalize l.length = n at *
  subst hOL
  go_wp2_with fail
  go_loopw [13, 14, 15, 16] (fun i _ _ _ wr => ∃ k : Nat, i = .int .i64 k ∧ k ≤ m ∧ wr = w7) (fun i _ _ _ _ => m - (intOf i).toNat)
  case atStart => exact ⟨0, rfl, Nat.zero_le _, rfl⟩
  case round =>
    obtain ⟨i, rfl, hin, rfl⟩ := hrel
    by_cases h1 : i < m
    · have hd1 : decide ((i : Int) < m) = true := decide_eq_true (by omega)
      have x1 := HC.out i h1
      have y1 := HC3.out i h1
      have hx0 := HA.out i
      have hy0 := HO.out i
      have hN := HN.out i
      have hE := (HCE.out (A i))
      have hR := (HCE.out (B i))
      generalize A i = x at *
      generalize B i = y at *
      by_cases hx : P f - x < x
      · have dx : decide (P f - x < x) = true := decide_eq_true hx
        by_cases hy : P f - y < y
        · have dy : decide (P f - y < y) = true := decide_eq_true hy
          obtain ⟨q1, q2⟩ := hN (x - P f) (y - P f) h1 (hE.1 hx) (hR.1 hy)
          clear hN hE hR
          have u3 : IntKind.i64.wrap (bb * (y - P f)) = bb * (y - P f) := IntWalk.i64_in _ (by omega)
          have d3 : decide (bb < 2 * (bb * (y - P f) - (x - P f))) = false := decide_eq_false (by omega)
          have d4 : decide (2 * (bb * (y - P f) - (x - P f)) ≤ -bb) = false := decide_eq_false (by omega)
          go_wp2
          go_roundw
          case rel => exact ⟨i + 1, by go_num, by omega, trivial⟩
          case measure => simp [intOf]; omega
        · have dy : decide (P f - y < y) = false := decide_eq_false hy
          obtain ⟨q1, q2⟩ := hN (x - P f) y h1 (hE.1 hx) (hR.2 (by omega))
          clear hN hE hR
          have u3 : IntKind.i64.wrap (bb * y) = bb * y := IntWalk.i64_in _ (by omega)
          have d3 : decide (bb < 2 * (bb * y - (x - P f))) = false := decide_eq_false (by omega)
          have d4 : decide (2 * (bb * y - (x - P f)) ≤ -bb) = false := decide_eq_false (by omega)
          go_wp2
          go_roundw
          case rel => exact ⟨i + 1, by go_num, by omega, trivial⟩
          case measure => simp [intOf]; omega
      · have dx : decide (P f - x < x) = false := decide_eq_false hx
        by_cases hy : P f - y < y
        · have dy : decide (P f - y < y) = true := decide_eq_true hy
          obtain ⟨q1, q2⟩ := hN x (y - P f) h1 (hE.2 (by omega)) (hR.1 hy)
          clear hN hE hR
          have u3 : IntKind.i64.wrap (bb * (y - P f)) = bb * (y - P f) := IntWalk.i64_in _ (by omega)
          have d3 : decide (bb < 2 * (bb * (y - P f) - x)) = false := decide_eq_false (by omega)
          have d4 : decide (2 * (bb * (y - P f) - x) ≤ -bb) = false := decide_eq_false (by omega)
          go_wp2
          go_roundw
          case rel => exact ⟨i + 1, by go_num, by omega, trivial⟩
          case measure => simp [intOf]; omega
        · have dy : decide (P f - y < y) = false := decide_eq_false hy
          obtain ⟨q1, q2⟩ := hN x y h1 (hE.2 (by omega)) (hR.2 (by omega))
          clear hN hE hR
          have u3 : IntKind.i64.wrap (bb * y) = bb * y := IntWalk.i64_in _ (by omega)
          have d3 : decide (bb < 2 * (bb * y - x)) = false := decide_eq_false (by omega)
          have d4 : decide (2 * (bb * y - x) ≤ -bb) = false := decide_eq_false (by omega)
          go_wp2
          go_roundw
          case rel => exact ⟨i + 1, by go_num, by omega, trivial⟩
          case measure => simp [intOf]; omega
    · have hd1 : decide ((i : Int) < m) = false := decide_eq_false (by omega)
      go_wp2
      go_ret
      exact ⟨rfl, c7⟩
set_option maxRecDepth 100000 in
theorem contract (H : Type) (enc : TypeId × Value → H) (W : World) (base : Nat) (args : Array Value) (ds gs : List (DataW H)) (before : List MemPlace)
    (hval : ∀ (j : Nat) t v, Tryd.f8.params[j]? = some t → args[j]? = some v → Value.okWide Tryd.prog W .any base t v)
    (hW : DataW.Whole enc Tryd.prog Tryd.f8.params.toList Rows.fnRescaledSpec.vars false W args.toList ds gs before) (hL : laidMetH Tryd.prog Rows.fnRescaledRow.laid W) :
    Calls Tryd.prog 8 args W fun e W' => ∃ v, e = .returned v ∧ Rows.fnRescaledSpec.post enc Tryd.prog Tryd.f8 false true false false W args v W' := by
  have hvar := table_var hL
  have hW' := hW
  obtain ⟨p, q, hA0, hV, rfl, hfz, hnd⟩ := hW
  have hA : DataW.TrodAll enc Tryd.prog W 0 (fun _ => true) true Tryd.f8.params.toList args.toList ds p := hA0
  rw [Tryd.params8] at hA hval
  obtain ⟨v0, vs0, d0, ds0, p0, q0, hargs, rfl, rfl, h0, r0⟩ := trodAll_cons hA
  obtain ⟨rfl, rfl, rfl⟩ := trodAll_nil r0
  obtain rfl : args = #[v0] := by cases args; simp_all
  obtain ⟨rfl, rfl⟩ := DataW.TrodVars.unique hV (tab_vars enc (fun _ => true) hvar)
  obtain ⟨a0, len0, cap0, rfl⟩ := okWide_slice Tryd.underlying22 (hval 0 22 v0 rfl rfl)
  have k0 := h0
  have lt0 : ∀ x ∈ p0, x.block < W.heap.size := by obtain ⟨m, hm⟩ := k0; exact DataW.trod_lt m _ _ _ hm
  obtain ⟨z0, w0⟩ : ∃ zs, IsRow .u8 W a0 len0 cap0 zs := by
    obtain ⟨fuel, hf⟩ := h0
    rcases open_ints Tryd.underlying22 Tryd.underlying5 (by kernel_rfl) hf with ⟨hcs, _⟩ | ⟨x, l, c, zs, hcs, _, hl, hm, hz, _, hcell, hwz⟩
    · simp [Value.cells] at hcs
      obtain ⟨rfl, rfl, rfl⟩ := hcs
      exact ⟨[], .inl ⟨rfl, rfl, rfl, rfl⟩⟩
    · simp [Value.cells] at hcs
      obtain ⟨rfl, rfl, rfl⟩ := hcs
      exact ⟨zs, .inr ⟨_, rfl, hl, hm, by simpa using hz, hcell, hwz⟩⟩
  clear hA0
  refine (walk a0 len0 cap0 z0 W w0 (tab_of hvar)).mono fun e W' ⟨he, bel⟩ => ?_
  subst he
  exact ⟨_, rfl, _, _, _, [], _, _, hW', trodAll_mk1 (shut_bool Tryd.underlying4 _), (trodAll_cons_mk (Below.trod f_laidOut (by kernel_rfl) (of_decide_eq_true (by kernel_rfl)) k0 bel lt0) trodAll_mk0), tab_vars enc _ (below_var bel hvar), bel.frame _, fun h => by cases h⟩
theorem laid_met (os : Os) : laidMet Tryd.prog Rows.fnRescaledRow.laid ((laidWorld os).forCall (fun _ _ => 0) ⟨#[], #[.slice none 0 0], []⟩).memory :=
  laidMet_of_run' 8 (by kernel_rfl) (by kernel_rfl)
theorem reads (os : Os) {H : Type} (enc : TypeId × Value → H) : ∃ places, DataW.whole enc Tryd.prog ((laidWorld os).forCall (fun _ _ => 0) ⟨#[], #[.slice none 0 0], []⟩).memory Tryd.f8.params.toList Rows.fnRescaledSpec.vars false #[Value.slice none 0 0].toList 8 = some ([.nil], [Rows.laid_loop_example_g00710_impl_fieldTable], places) :=
  ⟨MemPlace.row ⟨0, 0, none⟩ 27, by kernel_rfl⟩
set_option maxRecDepth 100000 in
theorem lifted (os : Os) (started : os.Started) (H : Type) (enc : TypeId × Value → H) (F : Stop.Interp) :
    ReturnsInHanded {} Tryd.checked os 8 .any ((OpenSpec.ofChange Rows.fnRescaledSpec).preRow enc Tryd.prog Tryd.f8 Rows.fnRescaledRow.domain false Rows.fnRescaledRow.laid) (((OpenSpec.ofChange Rows.fnRescaledSpec).at F).post enc Tryd.prog Tryd.f8 false true false false) := by
  obtain ⟨places, hx⟩ := reads os enc
  refine returnsInHanded_of_row (C := Tryd.checked) (s := OpenSpec.ofChange Rows.fnRescaledSpec) own started (by kernel_rfl) Tryd.func8
    (witness_row_at (enc := enc) (C := Tryd.checked) false (laidWorld os) #[.slice none 0 0] rfl (by kernel_rfl) (by kernel_rfl) (by kernel_rfl)
      (OpenSpec.preRow_of_cond 8 hx (by kernel_rfl) (fun k hk => by cases hk) (by kernel_rfl) (laid_met os))) ?_
  intro W base args ds gs before hval hW _ _ _ hL _ _
  exact contract H enc W base args ds gs before hval hW hL
theorem closed : joinedFacts Tryd.prog 8 Tryd.f8 (OpenSpec.ofChange Rows.fnRescaledSpec).bare Rows.fnRescaledRow = true := by
  unfold joinedFacts
  exact both (both (both (both (both (both (both (both (both (both (both (both (both (both (both (both (both (both (both (both (both (both (both (both (both (both (both (both (both (both (both (by as_aux_lemma => kernel_rfl) f_laidOut) f_mapsRowed) (by as_aux_lemma => kernel_rfl)) (by as_aux_lemma => kernel_rfl)) (by as_aux_lemma => kernel_rfl)) f_stops) (by as_aux_lemma => kernel_rfl)) f_knobs) (by as_aux_lemma => kernel_rfl)) (by as_aux_lemma => kernel_rfl)) (by as_aux_lemma => kernel_rfl)) (by as_aux_lemma => kernel_rfl)) (by as_aux_lemma => kernel_rfl)) (by as_aux_lemma => kernel_rfl)) (by as_aux_lemma => kernel_rfl)) (by as_aux_lemma => kernel_rfl)) (by as_aux_lemma => kernel_rfl)) (by as_aux_lemma => kernel_rfl)) (by as_aux_lemma => kernel_rfl)) (by as_aux_lemma => kernel_rfl)) (by as_aux_lemma => kernel_rfl)) f_keys) (by as_aux_lemma => kernel_rfl)) f_heard) f_enter) f_lifts) f_make) (by as_aux_lemma => kernel_rfl)) (by as_aux_lemma => kernel_rfl)) (by as_aux_lemma => kernel_rfl)) (by as_aux_lemma => kernel_rfl)
theorem said : Rows.FnRescaledSaid :=
  OpenClaim.holds_of_cond 8 Tryd.f8 rfl rfl rfl rfl rfl rfl rfl ⟨rfl, rfl, rfl, rfl, rfl⟩ rfl rfl rfl rfl rfl (by as_aux_lemma => kernel_rfl) Tryd.func8 closed
    (of_decide_eq_true (by as_aux_lemma => kernel_rfl)) (by unfold Func.isWrapper; rw [if_neg (by decide +kernel)]; exact ⟨rfl, rfl⟩)
    (fun os started H enc _ F => by rw [OpenClaim.pre_eq_preRow]; exact lifted os started H enc F)
theorem plain (f : FuncId) (fn : Func) (hf : Tryd.pinned.checked.prog.funcNamed "loop.example/g00710/laws.FnRescaled" = some f) (hfn : Tryd.pinned.checked.prog.funcs[f]? = some fn) :
    false = Tryd.pinned.checked.prog.looks [] ∧ ∀ (j : Nat) t, fn.params[j]? = some t → Tryd.pinned.checked.prog.wantsStandIn t = false := by
  obtain rfl : f = 8 := Option.some.inj ((show Tryd.prog.funcNamed "loop.example/g00710/laws.FnRescaled" = some 8 by kernel_rfl).symm.trans hf) |>.symm
  obtain rfl : fn = Tryd.f8 := (Option.some.inj (Tryd.func8.symm.trans hfn)).symm
  refine ⟨f_looks, fun j t ht => ?_⟩
  rw [Tryd.params8] at ht
  obtain rfl : t = 22 := by simpa using Array.mem_of_getElem? ht
  exact (show Tryd.prog.wantsStandIn 22 = false by kernel_rfl)
end Rescaled
theorem fnRescaled_card : Rows.FnRescaledCardSaid :=
  Claim7.holds_tied_plain_at .later [] _ _ _ _ Rescaled.said (fun _ h => by cases h) (by as_aux_lemma => kernel_rfl) (fun _ h => by cases h) fnRescaled_row_tie rfl ⟨rfl, rfl⟩ f_main rfl Rescaled.plain (by as_aux_lemma => kernel_rfl)
end Go.Proofs.YtoonpnfhcmghmaaDoor
