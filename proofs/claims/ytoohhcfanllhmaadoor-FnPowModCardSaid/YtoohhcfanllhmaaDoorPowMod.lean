/-
  The power with the next exponent is the remainder of the power times the polynomial, for every code that the law draws from; no condition but the card's own (the table of fields holds what its initialiser lays).
-/
import Derived.Test.YtoohhcfanllhmaaDoorJ3
import Derived.ChangeOld
import Derived.Below
import Derived.Carry
namespace Go.Proofs.YtoohhcfanllhmaaDoor
open Go.ChangeShapes Go.WideShapes Go.ChangeAt Go.RowKit
namespace PowMod
set_option maxRecDepth 100000 in
set_option maxHeartbeats 1600000 in
theorem walk (a0 : Option Addr) (len0 cap0 : Nat) (z0 : List Int) (w : World) (hrow : IsRow .u8 w a0 len0 cap0 z0) (ht : Tab w) : Calls Tryd.prog 6 #[.slice a0 len0 cap0] w fun e w' => e = .returned (.bool true) ∧ Below w.heap.size w w' := by
  by_cases hl : 1048576 < len0
  · go_enter Tryd.func6, Tryd.ntmps6
    go_wp2_with fail
    refine (big_yes a0 len0 cap0 w hl).mono ?_
    rintro e w' ⟨rfl, rfl⟩
    go_wp2
    go_ret
    exact ⟨rfl, Below.refl _ _⟩
  have hl2 : len0 ≤ 1048576 := by omega
  have hcode := code_of_row hrow (by omega)
  clear hl hrow
  go_enter Tryd.func6, Tryd.ntmps6
  go_wp2_with fail
  refine (big_no a0 len0 cap0 w hl2).mono ?_
  rintro e w' ⟨rfl, rfl⟩
  go_wp2_with fail
  refine (drawPowMod_c a0 len0 cap0 w hl2 hcode).mono ?_
  rintro e w1 ⟨f, a, l, cap, x, a2, m, cap2, rfl, hln, hmn, hs, hs2, b1⟩
  clear hcode
  have ht1 := ht.below b1
  have R1 := sPolyOk f a l cap w1 hln hs
  by_cases k1 : PolOk f l
  rotate_left
  · rw [pok_not.2 k1] at R1
    have HR := Lib.hid R1
    clear k1 hs hs2 R1
    go_wp2_with fail
    refine HR.out.mono ?_
    rintro e w' ⟨rfl, rfl⟩
    go_wp2
    go_ret
    exact ⟨rfl, b1⟩
  have R2 := sPolyOk f a2 m cap2 w1 hmn hs2
  by_cases k2 : PolOk f m
  rotate_left
  · rw [pok_iff.2 k1] at R1
    rw [pok_not.2 k2] at R2
    have HR := Lib.hid R1
    have HR2 := Lib.hid R2
    clear k1 k2 hs hs2 R1 R2
    go_wp2_with fail
    refine HR.out.mono ?_
    rintro e w' ⟨rfl, rfl⟩
    go_wp2_with fail
    refine HR2.out.mono ?_
    rintro e w' ⟨rfl, rfl⟩
    go_wp2
    go_ret
    exact ⟨rfl, b1⟩
  rw [pok_iff.2 k1] at R1
  rw [pok_iff.2 k2] at R2
  have HR1 := Lib.hid R1
  have HR2 := Lib.hid R2
  have HS := Lib.hid hs
  have HS2 := Lib.hid hs2
  clear R1 R2 hs hs2
  by_cases hz : m.length = 0
  · rw [hz] at HR2
    clear k1 k2
    go_wp2_with fail
    refine HR1.out.mono ?_
    rintro e w' ⟨rfl, rfl⟩
    go_wp2_with fail
    refine HR2.out.mono ?_
    rintro e w' ⟨rfl, rfl⟩
    go_wp2
    go_ret
    exact ⟨rfl, b1⟩
  have hzb : ((m.length : Int) == 0) = false := by rw [beq_eq_false_iff_ne]; omega
  by_cases h1 : 100 < l.length
  · have hd1 : decide ((100 : Int) < l.length) = true := decide_eq_true (by omega)
    clear k1 k2
    go_wp2_with fail
    refine HR1.out.mono ?_
    rintro e w' ⟨rfl, rfl⟩
    go_wp2_with fail
    refine HR2.out.mono ?_
    rintro e w' ⟨rfl, rfl⟩
    go_wp2
    go_ret
    exact ⟨rfl, b1⟩
  have hd1 : decide ((100 : Int) < l.length) = false := decide_eq_false (by omega)
  by_cases h2 : 100 < m.length
  · have hd2 : decide ((100 : Int) < m.length) = true := decide_eq_true (by omega)
    clear k1 k2
    go_wp2_with fail
    refine HR1.out.mono ?_
    rintro e w' ⟨rfl, rfl⟩
    go_wp2_with fail
    refine HR2.out.mono ?_
    rintro e w' ⟨rfl, rfl⟩
    go_wp2
    go_ret
    exact ⟨rfl, b1⟩
  have hd2 : decide ((100 : Int) < m.length) = false := decide_eq_false (by omega)
  by_cases h3 : x < 0
  · have hd3 : decide (x < 0) = true := decide_eq_true h3
    clear k1 k2
    go_wp2_with fail
    refine HR1.out.mono ?_
    rintro e w' ⟨rfl, rfl⟩
    go_wp2_with fail
    refine HR2.out.mono ?_
    rintro e w' ⟨rfl, rfl⟩
    go_wp2
    go_ret
    exact ⟨rfl, b1⟩
  have hd3 : decide (x < 0) = false := decide_eq_false h3
  by_cases h4 : 1000000 ≤ x
  · have hd4 : decide (1000000 ≤ x) = true := decide_eq_true h4
    clear k1 k2
    go_wp2_with fail
    refine HR1.out.mono ?_
    rintro e w' ⟨rfl, rfl⟩
    go_wp2_with fail
    refine HR2.out.mono ?_
    rintro e w' ⟨rfl, rfl⟩
    go_wp2
    go_ret
    exact ⟨rfl, b1⟩
  have hd4 : decide (1000000 ≤ x) = false := decide_eq_false h4
  obtain ⟨q1, q2, q3, q4, qk, q5, q6, qm, q7, q8⟩ := powMod_facts k1 k2 hz (by omega) (by omega) (by omega) (show x < 1000000 by omega)
  have HK1 := Lib.hid k1
  have HK2 := Lib.hid k2
  have HQK := Lib.hid qk
  have HQM := Lib.hid qm
  have HQ1 := Lib.hid q1
  have HQ2 := Lib.hid q2
  have HQ7 := Lib.hid q7
  have HQ8 := Lib.hid q8
  clear k1 k2 qk qm q1 q2 q7 q8
  go_wp2_with fail
  refine HR1.out.mono ?_
  rintro e w' ⟨rfl, rfl⟩
  go_wp2_with fail
  refine HR2.out.mono ?_
  rintro e w' ⟨rfl, rfl⟩
  go_wp2_with fail
  clear hd1 hd2 hd3 hd4 hzb
  refine (cp_l a l cap w1 hln HS.out).mono ?_
  rintro e w2 ⟨a3, cap3, rfl, s3, b2⟩
  have HS3 := Lib.hid s3
  have c2 := below_step b1 b2
  have HT2 := Lib.hid (HS2.out.keep b2)
  have HL2 := Lib.hid (HS.out.keep b2)
  clear s3 HS HS2 HR1 HR2 b1 b2
  go_wp2_with fail
  refine (cp_l a2 m cap2 w2 hmn HT2.out).mono ?_
  rintro e w3 ⟨a4, cap4, rfl, s4, b3⟩
  have HS4 := Lib.hid s4
  have c3 := below_step c2 b3
  have HS3b := Lib.hid (HS3.out.keep b3)
  have HT3 := Lib.hid (HT2.out.keep b3)
  have HL3 := Lib.hid (HL2.out.keep b3)
  clear s4 HS3 HT2 HL2 b3 c2
  go_wp2_with fail
  refine (iPowMod f a3 l cap3 x a4 m cap4 w3 hln hmn HS3b.out HS4.out (ht.below c3)).mono ?_
  rw [HQ1.out]
  rintro e w4 ⟨a5, cap5, rfl, o5, b4⟩
  have HS5 := Lib.hid o5.src
  have c4 := below_step c3 b4
  have HT4 := Lib.hid (HT3.out.keep b4)
  have HL4 := Lib.hid (HL3.out.keep b4)
  clear o5 HS3b HS4 HT3 HL3 b4 c3 HQ1
  go_wp2_with fail
  refine (cp_l a l cap w4 hln HL4.out).mono ?_
  rintro e w5 ⟨a6, cap6, rfl, s6, b5⟩
  have HS6 := Lib.hid s6
  have c5 := below_step c4 b5
  have HS5b := Lib.hid (HS5.out.keep b5)
  have HT5 := Lib.hid (HT4.out.keep b5)
  have HL5 := Lib.hid (HL4.out.keep b5)
  clear s6 HS5 HT4 HL4 b5 c4
  go_wp2_with fail
  refine (cp_l a2 m cap2 w5 hmn HT5.out).mono ?_
  rintro e w6 ⟨a7, cap7, rfl, s7, b6⟩
  have HS7 := Lib.hid s7
  have c6 := below_step c5 b6
  have HS6b := Lib.hid (HS6.out.keep b6)
  have HS5c := Lib.hid (HS5b.out.keep b6)
  have HT6 := Lib.hid (HT5.out.keep b6)
  have HL6 := Lib.hid (HL5.out.keep b6)
  clear s7 HS6 HS5b HT5 HL5 b6 c5
  go_wp2_with fail
  refine (iPowMod f a6 l cap6 (x + 1) a7 m cap7 w6 hln hmn HS6b.out HS7.out (ht.below c6)).mono ?_
  rw [HQ2.out]
  rintro e w7 ⟨a8, cap8, rfl, o8, b7⟩
  have HS8 := Lib.hid o8.src
  have c7 := below_step c6 b7
  have HS5d := Lib.hid (HS5c.out.keep b7)
  have HT7 := Lib.hid (HT6.out.keep b7)
  have HL7 := Lib.hid (HL6.out.keep b7)
  clear o8 HS6b HS7 HS5c HT6 HL6 b7 c6 HQ2
  go_wp2_with fail
  refine (cp_l a l cap w7 hln HL7.out).mono ?_
  rintro e w8 ⟨a9, cap9, rfl, s9, b8⟩
  have HS9 := Lib.hid s9
  have c8 := below_step c7 b8
  have HS5e := Lib.hid (HS5d.out.keep b8)
  have HS8b := Lib.hid (HS8.out.keep b8)
  have HT8 := Lib.hid (HT7.out.keep b8)
  clear s9 HS5d HS8 HT7 HL7 b8 c7
  go_wp2_with fail
  refine (iMulPoly_on f a5 (mPowMod0 f l x m) cap5 a9 l cap9 w8 q3 hln HS5e.out HS9.out (ht.below c8) HQK.out HK1.out q5).mono ?_
  rintro e w9 ⟨a10, cap10, rfl, o10, b9⟩
  have HS10 := Lib.hid o10.src
  have c9 := below_step c8 b9
  have HS8c := Lib.hid (HS8b.out.keep b9)
  have HT9 := Lib.hid (HT8.out.keep b9)
  clear o10 HS5e HS9 HS8b HT8 b9 c8
  go_wp2_with fail
  refine (cp_l a2 m cap2 w9 hmn HT9.out).mono ?_
  rintro e w10 ⟨a11, cap11, rfl, s11, b10⟩
  have HS11 := Lib.hid s11
  have c10 := below_step c9 b10
  have HS10b := Lib.hid (HS10.out.keep b10)
  have HS8d := Lib.hid (HS8c.out.keep b10)
  clear s11 HS10 HS8c HT9 b10 c9
  go_wp2_with fail
  refine (iDivMod f a10 (mulL f (mPowMod0 f l x m) l) cap10 a11 m cap11 w10 q6 hmn HS10b.out HS11.out (ht.below c10)).mono ?_
  rw [HQ7.out, HQ8.out]
  rintro e w11 ⟨a12, cap12, a13, cap13, B, rfl, o12, _, _, o13, b11⟩
  have HS13 := Lib.hid o13.src
  have c11 := below_step c10 b11
  have HS8e := Lib.hid (HS8d.out.keep b11)
  clear o12 o13 HS10b HS11 HS8d b11 c10 HQ7 HQ8
  go_wp2_with fail
  refine (sameZ a13 a8 (mPowMod0 f l (x + 1) m) cap13 cap8 w11 q4 HS13.out HS8e.out).mono ?_
  rintro e w12 ⟨rfl, b12⟩
  go_wp2
  go_ret
  exact ⟨rfl, below_step c11 b12⟩
theorem contract (H : Type) (enc : TypeId × Value → H) (W : World) (base : Nat) (args : Array Value) (ds gs : List (DataW H)) (before : List MemPlace)
    (hval : ∀ (j : Nat) t v, Tryd.f6.params[j]? = some t → args[j]? = some v → Value.okWide Tryd.prog W .any base t v)
    (hW : DataW.Whole enc Tryd.prog Tryd.f6.params.toList Rows.fnPowModSpec.vars false W args.toList ds gs before) (hL : laidMetH Tryd.prog Rows.fnPowModRow.laid W) :
    Calls Tryd.prog 6 args W fun e W' => ∃ v, e = .returned v ∧ Rows.fnPowModSpec.post enc Tryd.prog Tryd.f6 false true false false W args v W' := by
  have hvar := table_var hL
  have hW' := hW
  obtain ⟨p, q, hA0, hV, rfl, hfz, hnd⟩ := hW
  have hA : DataW.TrodAll enc Tryd.prog W 0 (fun _ => true) true Tryd.f6.params.toList args.toList ds p := hA0
  rw [Tryd.params6] at hA hval
  obtain ⟨v0, vs0, d0, ds0, p0, q0, hargs, rfl, rfl, h0, r0⟩ := trodAll_cons hA
  obtain ⟨rfl, rfl, rfl⟩ := trodAll_nil r0
  obtain rfl : args = #[v0] := by cases args; simp_all
  obtain ⟨rfl, rfl⟩ := DataW.TrodVars.unique hV (tab_vars enc (fun _ => true) hvar)
  obtain ⟨a0, len0, cap0, rfl⟩ := okWide_slice Tryd.underlying22 (hval 0 22 v0 rfl rfl)
  have k0 := h0
  have lt0 : ∀ x ∈ p0, x.block < W.heap.size := by obtain ⟨m, hm⟩ := k0; exact DataW.trod_lt m _ _ _ hm
  obtain ⟨z0, w0⟩ : ∃ zs, IsRow .u8 W a0 len0 cap0 zs := by
    obtain ⟨fuel, hf⟩ := h0
    rcases open_ints Tryd.underlying22 Tryd.underlying5 (by kernel_rfl) hf with ⟨hcs, _⟩ | ⟨x, l, c, zs, hcs, _, hl, hm, hz, _, hcell, hwz⟩
    · simp [Value.cells] at hcs
      obtain ⟨rfl, rfl, rfl⟩ := hcs
      exact ⟨[], .inl ⟨rfl, rfl, rfl, rfl⟩⟩
    · simp [Value.cells] at hcs
      obtain ⟨rfl, rfl, rfl⟩ := hcs
      exact ⟨zs, .inr ⟨_, rfl, hl, hm, by simpa using hz, hcell, hwz⟩⟩
  clear hA0
  refine (walk a0 len0 cap0 z0 W w0 (tab_of hvar)).mono fun e W' ⟨he, bel⟩ => ?_
  subst he
  exact ⟨_, rfl, _, _, _, [], _, _, hW', trodAll_mk1 (shut_bool Tryd.underlying4 _), (trodAll_cons_mk (Below.trod f_laidOut (by kernel_rfl) (of_decide_eq_true (by kernel_rfl)) k0 bel lt0) trodAll_mk0), tab_vars enc _ (below_var bel hvar), bel.frame _, fun h => by cases h⟩
theorem laid_met (os : Os) : laidMet Tryd.prog Rows.fnPowModRow.laid ((laidWorld os).forCall (fun _ _ => 0) ⟨#[], #[.slice none 0 0], []⟩).memory :=
  laidMet_of_run' 8 (by kernel_rfl) (by kernel_rfl)
theorem reads (os : Os) {H : Type} (enc : TypeId × Value → H) : ∃ places, DataW.whole enc Tryd.prog ((laidWorld os).forCall (fun _ _ => 0) ⟨#[], #[.slice none 0 0], []⟩).memory Tryd.f6.params.toList Rows.fnPowModSpec.vars false #[Value.slice none 0 0].toList 8 = some ([.nil], [Rows.laid_loop_example_g00710_impl_fieldTable], places) :=
  ⟨MemPlace.row ⟨0, 0, none⟩ 27, by kernel_rfl⟩
set_option maxRecDepth 100000 in
theorem lifted (os : Os) (started : os.Started) (H : Type) (enc : TypeId × Value → H) (F : Stop.Interp) :
    ReturnsInHanded {} Tryd.checked os 6 .any ((OpenSpec.ofChange Rows.fnPowModSpec).preRow enc Tryd.prog Tryd.f6 Rows.fnPowModRow.domain false Rows.fnPowModRow.laid) (((OpenSpec.ofChange Rows.fnPowModSpec).at F).post enc Tryd.prog Tryd.f6 false true false false) := by
  obtain ⟨places, hx⟩ := reads os enc
  refine returnsInHanded_of_row (C := Tryd.checked) (s := OpenSpec.ofChange Rows.fnPowModSpec) own started (by kernel_rfl) Tryd.func6
    (witness_row_at (enc := enc) (C := Tryd.checked) false (laidWorld os) #[.slice none 0 0] rfl (by kernel_rfl) (by kernel_rfl) (by kernel_rfl)
      (OpenSpec.preRow_of_cond 8 hx (by kernel_rfl) (fun k hk => by cases hk) (by kernel_rfl) (laid_met os))) ?_
  intro W base args ds gs before hval hW _ _ _ hL _ _
  exact contract H enc W base args ds gs before hval hW hL
theorem closed : joinedFacts Tryd.prog 6 Tryd.f6 (OpenSpec.ofChange Rows.fnPowModSpec).bare Rows.fnPowModRow = true := by
  unfold joinedFacts
  exact both (both (both (both (both (both (both (both (both (both (both (both (both (both (both (both (both (both (both (both (both (both (both (both (both (both (both (both (both (both (both (by as_aux_lemma => kernel_rfl) f_laidOut) f_mapsRowed) (by as_aux_lemma => kernel_rfl)) (by as_aux_lemma => kernel_rfl)) (by as_aux_lemma => kernel_rfl)) f_stops) (by as_aux_lemma => kernel_rfl)) f_knobs) (by as_aux_lemma => kernel_rfl)) (by as_aux_lemma => kernel_rfl)) (by as_aux_lemma => kernel_rfl)) (by as_aux_lemma => kernel_rfl)) (by as_aux_lemma => kernel_rfl)) (by as_aux_lemma => kernel_rfl)) (by as_aux_lemma => kernel_rfl)) (by as_aux_lemma => kernel_rfl)) (by as_aux_lemma => kernel_rfl)) (by as_aux_lemma => kernel_rfl)) (by as_aux_lemma => kernel_rfl)) (by as_aux_lemma => kernel_rfl)) (by as_aux_lemma => kernel_rfl)) f_keys) (by as_aux_lemma => kernel_rfl)) f_heard) f_enter) f_lifts) f_make) (by as_aux_lemma => kernel_rfl)) (by as_aux_lemma => kernel_rfl)) (by as_aux_lemma => kernel_rfl)) (by as_aux_lemma => kernel_rfl)
theorem said : Rows.FnPowModSaid :=
  OpenClaim.holds_of_cond 6 Tryd.f6 rfl rfl rfl rfl rfl rfl rfl ⟨rfl, rfl, rfl, rfl, rfl⟩ rfl rfl rfl rfl rfl (by as_aux_lemma => kernel_rfl) Tryd.func6 closed
    (of_decide_eq_true (by as_aux_lemma => kernel_rfl)) (by unfold Func.isWrapper; rw [if_neg (by decide +kernel)]; exact ⟨rfl, rfl⟩)
    (fun os started H enc _ F => by rw [OpenClaim.pre_eq_preRow]; exact lifted os started H enc F)
theorem plain (f : FuncId) (fn : Func) (hf : Tryd.pinned.checked.prog.funcNamed "loop.example/g00710/laws.FnPowMod" = some f) (hfn : Tryd.pinned.checked.prog.funcs[f]? = some fn) :
    false = Tryd.pinned.checked.prog.looks [] ∧ ∀ (j : Nat) t, fn.params[j]? = some t → Tryd.pinned.checked.prog.wantsStandIn t = false := by
  obtain rfl : f = 6 := Option.some.inj ((show Tryd.prog.funcNamed "loop.example/g00710/laws.FnPowMod" = some 6 by kernel_rfl).symm.trans hf) |>.symm
  obtain rfl : fn = Tryd.f6 := (Option.some.inj (Tryd.func6.symm.trans hfn)).symm
  refine ⟨f_looks, fun j t ht => ?_⟩
  rw [Tryd.params6] at ht
  obtain rfl : t = 22 := by simpa using Array.mem_of_getElem? ht
  exact (show Tryd.prog.wantsStandIn 22 = false by kernel_rfl)
end PowMod
theorem fnPowMod_card : Rows.FnPowModCardSaid :=
  Claim7.holds_tied_plain_at .later [] _ _ _ _ PowMod.said (fun _ h => by cases h) (by as_aux_lemma => kernel_rfl) (fun _ h => by cases h) fnPowMod_row_tie rfl ⟨rfl, rfl⟩ f_main rfl PowMod.plain (by as_aux_lemma => kernel_rfl)
end Go.Proofs.YtoohhcfanllhmaaDoor
