/-
  The quotient times the divisor and the remainder is the dividend again, and the remainder is shorter than the divisor, for every code that the law draws from; no condition but the card's own (the table of fields holds what its initialiser lays).
-/
import Derived.Test.YtoohhcfanllhmaaDoorJ3
import Derived.ChangeOld
import Derived.Below
import Derived.Carry
namespace Go.Proofs.YtoohhcfanllhmaaDoor
open Go.ChangeShapes Go.WideShapes Go.ChangeAt Go.RowKit
namespace DivBack
set_option maxRecDepth 100000 in
set_option maxHeartbeats 1600000 in
theorem walk (a0 : Option Addr) (len0 cap0 : Nat) (z0 : List Int) (w : World) (hrow : IsRow .u8 w a0 len0 cap0 z0) (ht : Tab w) : Calls Tryd.prog 3 #[.slice a0 len0 cap0] w fun e w' => e = .returned (.bool true) ∧ Below w.heap.size w w' := by
  by_cases hl : 1048576 < len0
  · go_enter Tryd.func3, Tryd.ntmps3
    go_wp2_with fail
    refine (big_yes a0 len0 cap0 w hl).mono ?_
    rintro e w' ⟨rfl, rfl⟩
    go_wp2
    go_ret
    exact ⟨rfl, Below.refl _ _⟩
  have hl2 : len0 ≤ 1048576 := by omega
  have hcode := code_of_row hrow (by omega)
  clear hl hrow
  go_enter Tryd.func3, Tryd.ntmps3
  go_wp2_with fail
  refine (big_no a0 len0 cap0 w hl2).mono ?_
  rintro e w' ⟨rfl, rfl⟩
  go_wp2_with fail
  refine (drawDivMod_c a0 len0 cap0 w hl2 hcode).mono ?_
  rintro e w1 ⟨f, a, l, cap, a2, m, cap2, rfl, hln, hmn, hs, hs2, b1⟩
  clear hcode
  have ht1 := ht.below b1
  have R1 := sPolyOk f a l cap w1 hln hs
  by_cases k1 : PolOk f l
  rotate_left
  · rw [pok_not.2 k1] at R1
    have HR := Lib.hid R1
    clear k1 hs hs2 R1
    go_wp2_with fail
    refine HR.out.mono ?_
    rintro e w' ⟨rfl, rfl⟩
    go_wp2
    go_ret
    exact ⟨rfl, b1⟩
  have R2 := sPolyOk f a2 m cap2 w1 hmn hs2
  by_cases k2 : PolOk f m
  rotate_left
  · rw [pok_iff.2 k1] at R1
    rw [pok_not.2 k2] at R2
    have HR := Lib.hid R1
    have HR2 := Lib.hid R2
    clear k1 k2 hs hs2 R1 R2
    go_wp2_with fail
    refine HR.out.mono ?_
    rintro e w' ⟨rfl, rfl⟩
    go_wp2_with fail
    refine HR2.out.mono ?_
    rintro e w' ⟨rfl, rfl⟩
    go_wp2
    go_ret
    exact ⟨rfl, b1⟩
  rw [pok_iff.2 k1] at R1
  rw [pok_iff.2 k2] at R2
  have HR1 := Lib.hid R1
  have HR2 := Lib.hid R2
  have HS := Lib.hid hs
  have HS2 := Lib.hid hs2
  clear R1 R2 hs hs2
  by_cases hz : m.length = 0
  · clear k1 k2
    rw [hz] at HR2
    go_wp2_with fail
    refine HR1.out.mono ?_
    rintro e w' ⟨rfl, rfl⟩
    go_wp2_with fail
    refine HR2.out.mono ?_
    rintro e w' ⟨rfl, rfl⟩
    go_wp2
    go_ret
    exact ⟨rfl, b1⟩
  obtain ⟨q2, q1, q3, qk, q4, q5, q6⟩ := divBack_facts k1 k2 hz
  have hzb : ((m.length : Int) == 0) = false := by rw [beq_eq_false_iff_ne]; omega
  have HK1 := Lib.hid k1
  have HK2 := Lib.hid k2
  have HQK := Lib.hid qk
  have HQ2 := Lib.hid q2
  have HQ6 := Lib.hid q6
  have nr : (mDivMod1 f l m).length ≤ 1048576 := by omega
  have hdr : decide ((m.length : Int) ≤ (mDivMod1 f l m).length) = false := decide_eq_false (by omega)
  clear k1 k2 qk q2 q6 hz
  go_wp2_with fail
  refine HR1.out.mono ?_
  rintro e w' ⟨rfl, rfl⟩
  go_wp2_with fail
  refine HR2.out.mono ?_
  rintro e w' ⟨rfl, rfl⟩
  go_wp2_with fail
  refine (cp_l a l cap w1 hln HS.out).mono ?_
  rintro e w2 ⟨a3, cap3, rfl, s3, b2⟩
  have HS3 := Lib.hid s3
  have c2 := below_step b1 b2
  have HT2 := Lib.hid (HS2.out.keep b2)
  have HL2 := Lib.hid (HS.out.keep b2)
  clear s3 HS HS2 HR1 HR2 b1 b2
  go_wp2_with fail
  refine (cp_l a2 m cap2 w2 hmn HT2.out).mono ?_
  rintro e w3 ⟨a4, cap4, rfl, s4, b3⟩
  have HS4 := Lib.hid s4
  have c3 := below_step c2 b3
  have HS3b := Lib.hid (HS3.out.keep b3)
  have HT3 := Lib.hid (HT2.out.keep b3)
  have HL3 := Lib.hid (HL2.out.keep b3)
  clear s4 HS3 HT2 HL2 b3 c2
  go_wp2_with fail
  refine (iDivMod f a3 l cap3 a4 m cap4 w3 hln hmn HS3b.out HS4.out (ht.below c3)).mono ?_
  rintro e w4 ⟨a5, cap5, a6, cap6, B, rfl, o5, _, _, o6, b4⟩
  rw [HQ2.out]
  have HS5 := Lib.hid o5.src
  have HS6 := Lib.hid o6.src
  have c4 := below_step c3 b4
  have HT4 := Lib.hid (HT3.out.keep b4)
  have HL4 := Lib.hid (HL3.out.keep b4)
  clear o5 o6 HS3b HS4 HT3 HL3 b4 c3 HQ2
  go_wp2_with fail
  refine (cp_l a2 m cap2 w4 hmn HT4.out).mono ?_
  rintro e w5 ⟨a7, cap7, rfl, s7, b5⟩
  have HS7 := Lib.hid s7
  have c5 := below_step c4 b5
  have HS5b := Lib.hid (HS5.out.keep b5)
  have HS6b := Lib.hid (HS6.out.keep b5)
  have HL5 := Lib.hid (HL4.out.keep b5)
  clear s7 HS5 HS6 HT4 HL4 b5 c4
  go_wp2_with fail
  refine (iMulPoly_on f a5 (mDivMod0 f l m) cap5 a7 m cap7 w5 q3 hmn HS5b.out HS7.out (ht.below c5) HQK.out HK2.out q4).mono ?_
  rintro e w6 ⟨a8, cap8, rfl, o8, b6⟩
  have HS8 := Lib.hid o8.src
  have c6 := below_step c5 b6
  have HS6c := Lib.hid (HS6b.out.keep b6)
  have HL6 := Lib.hid (HL5.out.keep b6)
  clear o8 HS5b HS6b HS7 HL5 b6 c5
  go_wp2_with fail
  refine (iAddPoly f a8 (mulL f (mDivMod0 f l m) m) cap8 a6 (mDivMod1 f l m) cap6 w6 q5 nr HS8.out HS6c.out (ht.below c6)).mono ?_
  rw [HQ6.out]
  rintro e w7 ⟨a9, cap9, rfl, o9, b7⟩
  have HS9 := Lib.hid o9.src
  have c7 := below_step c6 b7
  have HL7 := Lib.hid (HL6.out.keep b7)
  clear o9 HS8 HS6c HL6 b7 c6 HQ6
  go_wp2_with fail
  refine (sameZ a9 a l cap9 cap w7 hln HS9.out HL7.out).mono ?_
  rintro e w8 ⟨rfl, b8⟩
  go_wp2
  go_ret
  exact ⟨rfl, below_step c7 b8⟩
theorem contract (H : Type) (enc : TypeId × Value → H) (W : World) (base : Nat) (args : Array Value) (ds gs : List (DataW H)) (before : List MemPlace)
    (hval : ∀ (j : Nat) t v, Tryd.f3.params[j]? = some t → args[j]? = some v → Value.okWide Tryd.prog W .any base t v)
    (hW : DataW.Whole enc Tryd.prog Tryd.f3.params.toList Rows.fnDivBackSpec.vars false W args.toList ds gs before) (hL : laidMetH Tryd.prog Rows.fnDivBackRow.laid W) :
    Calls Tryd.prog 3 args W fun e W' => ∃ v, e = .returned v ∧ Rows.fnDivBackSpec.post enc Tryd.prog Tryd.f3 false true false false W args v W' := by
  have hvar := table_var hL
  have hW' := hW
  obtain ⟨p, q, hA0, hV, rfl, hfz, hnd⟩ := hW
  have hA : DataW.TrodAll enc Tryd.prog W 0 (fun _ => true) true Tryd.f3.params.toList args.toList ds p := hA0
  rw [Tryd.params3] at hA hval
  obtain ⟨v0, vs0, d0, ds0, p0, q0, hargs, rfl, rfl, h0, r0⟩ := trodAll_cons hA
  obtain ⟨rfl, rfl, rfl⟩ := trodAll_nil r0
  obtain rfl : args = #[v0] := by cases args; simp_all
  obtain ⟨rfl, rfl⟩ := DataW.TrodVars.unique hV (tab_vars enc (fun _ => true) hvar)
  obtain ⟨a0, len0, cap0, rfl⟩ := okWide_slice Tryd.underlying22 (hval 0 22 v0 rfl rfl)
  have k0 := h0
  have lt0 : ∀ x ∈ p0, x.block < W.heap.size := by obtain ⟨m, hm⟩ := k0; exact DataW.trod_lt m _ _ _ hm
  obtain ⟨z0, w0⟩ : ∃ zs, IsRow .u8 W a0 len0 cap0 zs := by
    obtain ⟨fuel, hf⟩ := h0
    rcases open_ints Tryd.underlying22 Tryd.underlying5 (by kernel_rfl) hf with ⟨hcs, _⟩ | ⟨x, l, c, zs, hcs, _, hl, hm, hz, _, hcell, hwz⟩
    · simp [Value.cells] at hcs
      obtain ⟨rfl, rfl, rfl⟩ := hcs
      exact ⟨[], .inl ⟨rfl, rfl, rfl, rfl⟩⟩
    · simp [Value.cells] at hcs
      obtain ⟨rfl, rfl, rfl⟩ := hcs
      exact ⟨zs, .inr ⟨_, rfl, hl, hm, by simpa using hz, hcell, hwz⟩⟩
  clear hA0
  refine (walk a0 len0 cap0 z0 W w0 (tab_of hvar)).mono fun e W' ⟨he, bel⟩ => ?_
  subst he
  exact ⟨_, rfl, _, _, _, [], _, _, hW', trodAll_mk1 (shut_bool Tryd.underlying4 _), (trodAll_cons_mk (Below.trod f_laidOut (by kernel_rfl) (of_decide_eq_true (by kernel_rfl)) k0 bel lt0) trodAll_mk0), tab_vars enc _ (below_var bel hvar), bel.frame _, fun h => by cases h⟩
theorem laid_met (os : Os) : laidMet Tryd.prog Rows.fnDivBackRow.laid ((laidWorld os).forCall (fun _ _ => 0) ⟨#[], #[.slice none 0 0], []⟩).memory :=
  laidMet_of_run' 8 (by kernel_rfl) (by kernel_rfl)
theorem reads (os : Os) {H : Type} (enc : TypeId × Value → H) : ∃ places, DataW.whole enc Tryd.prog ((laidWorld os).forCall (fun _ _ => 0) ⟨#[], #[.slice none 0 0], []⟩).memory Tryd.f3.params.toList Rows.fnDivBackSpec.vars false #[Value.slice none 0 0].toList 8 = some ([.nil], [Rows.laid_loop_example_g00710_impl_fieldTable], places) :=
  ⟨MemPlace.row ⟨0, 0, none⟩ 27, by kernel_rfl⟩
set_option maxRecDepth 100000 in
theorem lifted (os : Os) (started : os.Started) (H : Type) (enc : TypeId × Value → H) (F : Stop.Interp) :
    ReturnsInHanded {} Tryd.checked os 3 .any ((OpenSpec.ofChange Rows.fnDivBackSpec).preRow enc Tryd.prog Tryd.f3 Rows.fnDivBackRow.domain false Rows.fnDivBackRow.laid) (((OpenSpec.ofChange Rows.fnDivBackSpec).at F).post enc Tryd.prog Tryd.f3 false true false false) := by
  obtain ⟨places, hx⟩ := reads os enc
  refine returnsInHanded_of_row (C := Tryd.checked) (s := OpenSpec.ofChange Rows.fnDivBackSpec) own started (by kernel_rfl) Tryd.func3
    (witness_row_at (enc := enc) (C := Tryd.checked) false (laidWorld os) #[.slice none 0 0] rfl (by kernel_rfl) (by kernel_rfl) (by kernel_rfl)
      (OpenSpec.preRow_of_cond 8 hx (by kernel_rfl) (fun k hk => by cases hk) (by kernel_rfl) (laid_met os))) ?_
  intro W base args ds gs before hval hW _ _ _ hL _ _
  exact contract H enc W base args ds gs before hval hW hL
theorem closed : joinedFacts Tryd.prog 3 Tryd.f3 (OpenSpec.ofChange Rows.fnDivBackSpec).bare Rows.fnDivBackRow = true := by
  unfold joinedFacts
  exact both (both (both (both (both (both (both (both (both (both (both (both (both (both (both (both (both (both (both (both (both (both (both (both (both (both (both (both (both (both (both (by as_aux_lemma => kernel_rfl) f_laidOut) f_mapsRowed) (by as_aux_lemma => kernel_rfl)) (by as_aux_lemma => kernel_rfl)) (by as_aux_lemma => kernel_rfl)) f_stops) (by as_aux_lemma => kernel_rfl)) f_knobs) (by as_aux_lemma => kernel_rfl)) (by as_aux_lemma => kernel_rfl)) (by as_aux_lemma => kernel_rfl)) (by as_aux_lemma => kernel_rfl)) (by as_aux_lemma => kernel_rfl)) (by as_aux_lemma => kernel_rfl)) (by as_aux_lemma => kernel_rfl)) (by as_aux_lemma => kernel_rfl)) (by as_aux_lemma => kernel_rfl)) (by as_aux_lemma => kernel_rfl)) (by as_aux_lemma => kernel_rfl)) (by as_aux_lemma => kernel_rfl)) (by as_aux_lemma => kernel_rfl)) f_keys) (by as_aux_lemma => kernel_rfl)) f_heard) f_enter) f_lifts) f_make) (by as_aux_lemma => kernel_rfl)) (by as_aux_lemma => kernel_rfl)) (by as_aux_lemma => kernel_rfl)) (by as_aux_lemma => kernel_rfl)
theorem said : Rows.FnDivBackSaid :=
  OpenClaim.holds_of_cond 3 Tryd.f3 rfl rfl rfl rfl rfl rfl rfl ⟨rfl, rfl, rfl, rfl, rfl⟩ rfl rfl rfl rfl rfl (by as_aux_lemma => kernel_rfl) Tryd.func3 closed
    (of_decide_eq_true (by as_aux_lemma => kernel_rfl)) (by unfold Func.isWrapper; rw [if_neg (by decide +kernel)]; exact ⟨rfl, rfl⟩)
    (fun os started H enc _ F => by rw [OpenClaim.pre_eq_preRow]; exact lifted os started H enc F)
theorem plain (f : FuncId) (fn : Func) (hf : Tryd.pinned.checked.prog.funcNamed "loop.example/g00710/laws.FnDivBack" = some f) (hfn : Tryd.pinned.checked.prog.funcs[f]? = some fn) :
    false = Tryd.pinned.checked.prog.looks [] ∧ ∀ (j : Nat) t, fn.params[j]? = some t → Tryd.pinned.checked.prog.wantsStandIn t = false := by
  obtain rfl : f = 3 := Option.some.inj ((show Tryd.prog.funcNamed "loop.example/g00710/laws.FnDivBack" = some 3 by kernel_rfl).symm.trans hf) |>.symm
  obtain rfl : fn = Tryd.f3 := (Option.some.inj (Tryd.func3.symm.trans hfn)).symm
  refine ⟨f_looks, fun j t ht => ?_⟩
  rw [Tryd.params3] at ht
  obtain rfl : t = 22 := by simpa using Array.mem_of_getElem? ht
  exact (show Tryd.prog.wantsStandIn 22 = false by kernel_rfl)
end DivBack
theorem fnDivBack_card : Rows.FnDivBackCardSaid :=
  Claim7.holds_tied_plain_at .later [] _ _ _ _ DivBack.said (fun _ h => by cases h) (by as_aux_lemma => kernel_rfl) (fun _ h => by cases h) fnDivBack_row_tie rfl ⟨rfl, rfl⟩ f_main rfl DivBack.plain (by as_aux_lemma => kernel_rfl)
end Go.Proofs.YtoohhcfanllhmaaDoor
