/-
  Permute, and then all Stages from 0 on, is Forward, for every code that the law draws from; no condition but the card's own (the table of fields holds what its initialiser lays).
-/
import Derived.Test.YtnipffmookkkdabDoorJ3
import Derived.ChangeOld
import Derived.Below
import Derived.Carry
namespace Go.Proofs.YtnipffmookkkdabDoor
open Go.ChangeShapes Go.WideShapes Go.ChangeAt Go.RowKit
namespace Stages
/-- The vector after s levels. -/
def At (f : Int) (l : List Int) (k s : Nat) (x : Value) (wr : World) : Prop := ∃ (v : List Int) (av : Option Addr) (cv' : Nat), x = .slice av v.length cv' ∧ VecOk f v ∧ v.length = l.length ∧ Lev f (rootL f l) k s (lf l) (lf v) ∧ Src wr av v.length (lf v)
theorem At.next {f : Int} {l v : List Int} {k s : Nat} (hv : VecOk f v) (hl : v.length = l.length) (hk : l.length = 2 ^ k) (hm : mLog l.length = k) (hs : s < k) (hlev : Lev f (rootL f l) k s (lf l) (lf v)) : mStage f v s = stgL f v s ∧ VecOk f (stgL f v s) ∧ (stgL f v s).length = l.length ∧ Lev f (rootL f l) k (s + 1) (lf l) (lf (stgL f v s)) := by
  have e : rootL f v = rootL f l := rootL_len hl
  refine ⟨?_, hv.stg s, by rw [stgL_len, hl], ?_⟩
  · unfold mStage
    rw [if_pos ⟨hv, by omega, by rw [hl, hm]; omega⟩, Int.toNat_natCast]
  · rw [← e] at hlev ⊢
    exact stage_lev hv (by rw [hl]; exact hk) hs hlev
set_option maxRecDepth 100000 in
set_option maxHeartbeats 1600000 in
theorem walk (a0 : Option Addr) (len0 cap0 : Nat) (z0 : List Int) (w : World) (hrow : IsRow .u8 w a0 len0 cap0 z0) (ht : Tab w) : Calls Tryd.prog 6 #[.slice a0 len0 cap0] w fun e w' => e = .returned (.bool true) ∧ Below w.heap.size w w' := by
  by_cases hl : 1048576 < len0
  · go_enter Tryd.func6, Tryd.ntmps6
    go_wp2_with fail
    refine (big_yes a0 len0 cap0 w hl).mono ?_
    rintro e w' ⟨rfl, rfl⟩
    go_wp2
    go_ret
    exact ⟨rfl, Below.refl _ _⟩
  have hl2 : len0 ≤ 1048576 := by omega
  have hcode := code_of_row hrow (by omega)
  clear hl hrow
  go_enter Tryd.func6, Tryd.ntmps6
  go_wp2_with fail
  refine (big_no a0 len0 cap0 w hl2).mono ?_
  rintro e w' ⟨rfl, rfl⟩
  go_wp2_with fail
  refine (drawForward_c a0 len0 cap0 w hl2 hcode).mono ?_
  rintro e w1 ⟨f, a, l, cap, rfl, hln, hs, b1⟩
  clear hcode
  have c1 := b1
  have R1 := sVectorOk f a l cap w1 hln hs
  by_cases k1 : VecOk f l
  rotate_left
  · rw [vok_not.2 k1] at R1
    have HR := Lib.hid R1
    clear k1 hs R1
    go_wp2_with fail
    refine HR.out.mono ?_
    rintro e w' ⟨rfl, rfl⟩
    go_wp2
    go_ret
    exact ⟨rfl, b1⟩
  rw [vok_iff.2 k1] at R1
  have HR1 := Lib.hid R1
  have HV_1 := Lib.hid hs
  clear R1 hs
  obtain ⟨k, hk9, hkn, hkl, hkh⟩ := k1.log
  have HFY : Hid (mForward f l = fwdL f l) := Lib.hid (by unfold mForward; rw [if_pos k1])
  have HLY := Lib.hid (fwdL_len f l)
  have HKN := Lib.hid hkn
  have HKL := Lib.hid hkl
  have HK1 := Lib.hid k1
  have hpos := k1.pos
  clear k1 hkn hkl hkh
  go_wp2_with fail
  refine HR1.out.mono ?_
  rintro e w' ⟨rfl, rfl⟩
  clear HR1 b1
  go_wp2_with fail
  refine (cp_l a l cap w1 hln HV_1.out).mono ?_
  rintro e w2 ⟨a3, cap3, rfl, sa3, b2⟩
  have c2 := below_step c1 b2
  have HV_2 := Lib.hid (HV_1.out.keep b2)
  have H3_2 := Lib.hid sa3
  clear HV_1 b2 c1 sa3
  go_wp2_with fail
  refine (iPermute a3 l.length cap3 k (lf l) w2 hk9 HKN.out H3_2.out).mono ?_
  rintro e w3 ⟨rfl, o4, b3⟩
  have c3 := below_step c2 b3
  have HV_3 := Lib.hid (HV_2.out.keep b3)
  have HAT : Hid (At f l k 0 (.slice (some ⟨w2.heap.size, 0, none⟩) l.length l.length) w3) := Lib.hid (by
    have htl : (tab l.length fun j => lf l (rv j k)).length = l.length := tab_len _ _
    refine ⟨tab l.length fun j => lf l (rv j k), some ⟨w2.heap.size, 0, none⟩, l.length, by rw [htl], HK1.out.tab rfl _ (fun j _ => HK1.out.lt _), htl, Lev.start (fun j hj => ?_), ?_⟩
    · rw [lf_tab, if_pos (by rw [HKN.out]; exact hj)]
    · rw [htl]
      refine .inr ⟨w2.heap.size, 0, rfl, o4.lt, fun j hj => ?_⟩
      rw [Nat.zero_add, lf_tab, if_pos hj]
      exact World.rowIs.cell o4 hj)
  clear HV_2 H3_2 b3 c2 o4
  go_wp2_with fail
  go_loopw [5, 6] (fun x i wr => ∃ s : Nat, i = .int .i64 s ∧ s ≤ k ∧ At f l k s x wr ∧ Hid (Src wr a l.length (lf l)) ∧ Below w.heap.size w wr) (fun _ i _ => k - (intOf i).toNat)
  case atStart => exact ⟨0, rfl, Nat.zero_le _, HAT.out, HV_3, c3⟩
  case round =>
    clear HAT HV_3 c3
    obtain ⟨s, rfl, hsk, ⟨v, av, cv', rfl, hv, hvl, hlev, hsv⟩, HVR, hb⟩ := hrel
    by_cases h1 : s < k
    · have hd1 : decide ((s : Int) < k) = true := decide_eq_true (by omega)
      obtain ⟨n1, n2, n3, n4⟩ := At.next hv hvl HKN.out HKL.out h1 hlev
      have HN1 := Lib.hid n1
      have HN : Hid (VecOk f (stgL f v s) ∧ (stgL f v s).length = l.length ∧ Lev f (rootL f l) k (s + 1) (lf l) (lf (stgL f v s))) := Lib.hid ⟨n2, n3, n4⟩
      have nv : v.length ≤ 1048576 := by omega
      have HSV := Lib.hid hsv
      clear hv hvl hlev hsv n1 n2 n3 n4
      go_wp2_with fail
      refine (sLogOf l.length wr).mono ?_
      rintro e w' ⟨rfl, rfl⟩
      rw [HKL.out]
      go_wp2_with fail
      refine (iStage f av v cv' s wr nv HSV.out (ht.below hb)).mono ?_
      rw [HN1.out]
      rintro e w9 ⟨a9, cap9, rfl, o9, b9⟩
      have HS9 := Lib.hid o9.src
      have HVR9 := Lib.hid (HVR.out.keep b9)
      have hb9 := below_step hb b9
      clear o9 b9 hb HVR HSV HN1
      go_wp2
      go_roundw
      case rel => exact ⟨s + 1, by go_num, by omega, ⟨_, a9, cap9, rfl, HN.out.1, HN.out.2.1, HN.out.2.2, HS9.out⟩, HVR9, hb9⟩
      case measure => simp [intOf]; omega
    · have hd1 : decide ((s : Int) < k) = false := decide_eq_false (by omega)
      obtain rfl : s = k := by omega
      have hfin := lev_fwd HK1.out hv HKN.out hvl hlev
      subst hfin
      have HSV := Lib.hid hsv
      have nv : (fwdL f l).length ≤ 1048576 := by omega
      clear hv hvl hlev hsv
      go_wp2_with fail
      refine (sLogOf l.length wr).mono ?_
      rintro e w' ⟨rfl, rfl⟩
      rw [HKL.out]
      go_wp2_with fail
      refine (cp_l a l cap wr hln HVR.out).mono ?_
      rintro e w9 ⟨a9, cap9, rfl, s9, b9⟩
      have H9 := Lib.hid s9
      have c9 := below_step hb b9
      have HV9 := Lib.hid (HVR.out.keep b9)
      have HX9 := Lib.hid (HSV.out.keep b9)
      clear s9 b9 hb HVR HSV
      go_wp2_with fail
      refine (iForward f a9 l cap9 w9 hln H9.out (ht.below c9)).mono ?_
      rw [HFY.out]
      rintro e w10 ⟨a10, cap10, rfl, o10, b10⟩
      have H10 := Lib.hid o10.src
      have c10 := below_step c9 b10
      have HV10 := Lib.hid (HV9.out.keep b10)
      have HX10 := Lib.hid (HX9.out.keep b10)
      clear o10 b10 c9 HV9 HX9 H9
      go_wp2_with fail
      refine (sameZ av a10 (fwdL f l) cv' cap10 w10 nv HX10.out H10.out).mono ?_
      rintro e w11 ⟨rfl, b11⟩
      have c11 := below_step c10 b11
      have HV11 := Lib.hid (HV10.out.keep b11)
      have HX11 := Lib.hid (HX10.out.keep b11)
      clear b11 c10 HV10 HX10 H10
      go_wp2_with fail
      refine (sForward f a l cap w11 hln HV11.out).mono ?_
      rw [HFY.out]
      rintro e w12 ⟨a12, cap12, rfl, s12, b12⟩
      have H12 := Lib.hid s12
      have c12 := below_step c11 b12
      have HX12 := Lib.hid (HX11.out.keep b12)
      clear s12 b12 c11 HV11 HX11
      go_wp2_with fail
      refine (sameZ av a12 (fwdL f l) cv' cap12 w12 nv HX12.out H12.out).mono ?_
      rintro e w13 ⟨rfl, b13⟩
      go_wp2
      go_ret
      exact ⟨rfl, below_step c12 b13⟩
theorem contract (H : Type) (enc : TypeId × Value → H) (W : World) (base : Nat) (args : Array Value) (ds gs : List (DataW H)) (before : List MemPlace)
    (hval : ∀ (j : Nat) t v, Tryd.f6.params[j]? = some t → args[j]? = some v → Value.okWide Tryd.prog W .any base t v)
    (hW : DataW.Whole enc Tryd.prog Tryd.f6.params.toList Rows.fnStagesSpec.vars false W args.toList ds gs before) (hL : laidMetH Tryd.prog Rows.fnStagesRow.laid W) :
    Calls Tryd.prog 6 args W fun e W' => ∃ v, e = .returned v ∧ Rows.fnStagesSpec.post enc Tryd.prog Tryd.f6 false true false false W args v W' := by
  have hvar := table_var hL
  have hW' := hW
  obtain ⟨p, q, hA0, hV, rfl, hfz, hnd⟩ := hW
  have hA : DataW.TrodAll enc Tryd.prog W 0 (fun _ => true) true Tryd.f6.params.toList args.toList ds p := hA0
  rw [Tryd.params6] at hA hval
  obtain ⟨v0, vs0, d0, ds0, p0, q0, hargs, rfl, rfl, h0, r0⟩ := trodAll_cons hA
  obtain ⟨rfl, rfl, rfl⟩ := trodAll_nil r0
  obtain rfl : args = #[v0] := by cases args; simp_all
  obtain ⟨rfl, rfl⟩ := DataW.TrodVars.unique hV (tab_vars enc (fun _ => true) hvar)
  obtain ⟨a0, len0, cap0, rfl⟩ := okWide_slice Tryd.underlying29 (hval 0 29 v0 rfl rfl)
  have k0 := h0
  have lt0 : ∀ x ∈ p0, x.block < W.heap.size := by obtain ⟨m, hm⟩ := k0; exact DataW.trod_lt m _ _ _ hm
  obtain ⟨z0, w0⟩ : ∃ zs, IsRow .u8 W a0 len0 cap0 zs := by
    obtain ⟨fuel, hf⟩ := h0
    rcases open_ints Tryd.underlying29 Tryd.underlying5 (by kernel_rfl) hf with ⟨hcs, _⟩ | ⟨x, l, c, zs, hcs, _, hl, hm, hz, _, hcell, hwz⟩
    · simp [Value.cells] at hcs
      obtain ⟨rfl, rfl, rfl⟩ := hcs
      exact ⟨[], .inl ⟨rfl, rfl, rfl, rfl⟩⟩
    · simp [Value.cells] at hcs
      obtain ⟨rfl, rfl, rfl⟩ := hcs
      exact ⟨zs, .inr ⟨_, rfl, hl, hm, by simpa using hz, hcell, hwz⟩⟩
  clear hA0
  refine (walk a0 len0 cap0 z0 W w0 (tab_of hvar)).mono fun e W' ⟨he, bel⟩ => ?_
  subst he
  exact ⟨_, rfl, _, _, _, [], _, _, hW', trodAll_mk1 (shut_bool Tryd.underlying4 _), (trodAll_cons_mk (Below.trod f_laidOut (by kernel_rfl) (of_decide_eq_true (by kernel_rfl)) k0 bel lt0) trodAll_mk0), tab_vars enc _ (below_var bel hvar), bel.frame _, fun h => by cases h⟩
theorem laid_met (os : Os) : laidMet Tryd.prog Rows.fnStagesRow.laid ((laidWorld os).forCall (fun _ _ => 0) ⟨#[], #[.slice none 0 0], []⟩).memory :=
  laidMet_of_run' 8 (by kernel_rfl) (by kernel_rfl)
theorem reads (os : Os) {H : Type} (enc : TypeId × Value → H) : ∃ places, DataW.whole enc Tryd.prog ((laidWorld os).forCall (fun _ _ => 0) ⟨#[], #[.slice none 0 0], []⟩).memory Tryd.f6.params.toList Rows.fnStagesSpec.vars false #[Value.slice none 0 0].toList 8 = some ([.nil], [Rows.laid_loop_example_g00710_impl_fieldTable], places) :=
  ⟨MemPlace.row ⟨0, 0, none⟩ 27, by kernel_rfl⟩
set_option maxRecDepth 100000 in
theorem lifted (os : Os) (started : os.Started) (H : Type) (enc : TypeId × Value → H) (F : Stop.Interp) :
    ReturnsInHanded {} Tryd.checked os 6 .any ((OpenSpec.ofChange Rows.fnStagesSpec).preRow enc Tryd.prog Tryd.f6 Rows.fnStagesRow.domain false Rows.fnStagesRow.laid) (((OpenSpec.ofChange Rows.fnStagesSpec).at F).post enc Tryd.prog Tryd.f6 false true false false) := by
  obtain ⟨places, hx⟩ := reads os enc
  refine returnsInHanded_of_row (C := Tryd.checked) (s := OpenSpec.ofChange Rows.fnStagesSpec) own started (by kernel_rfl) Tryd.func6
    (witness_row_at (enc := enc) (C := Tryd.checked) false (laidWorld os) #[.slice none 0 0] rfl (by kernel_rfl) (by kernel_rfl) (by kernel_rfl)
      (OpenSpec.preRow_of_cond 8 hx (by kernel_rfl) (fun k hk => by cases hk) (by kernel_rfl) (laid_met os))) ?_
  intro W base args ds gs before hval hW _ _ _ hL _ _
  exact contract H enc W base args ds gs before hval hW hL
theorem closed : joinedFacts Tryd.prog 6 Tryd.f6 (OpenSpec.ofChange Rows.fnStagesSpec).bare Rows.fnStagesRow = true := by
  unfold joinedFacts
  exact both (both (both (both (both (both (both (both (both (both (both (both (both (both (both (both (both (both (both (both (both (both (both (both (both (both (both (both (both (both (both (by as_aux_lemma => kernel_rfl) f_laidOut) f_mapsRowed) (by as_aux_lemma => kernel_rfl)) (by as_aux_lemma => kernel_rfl)) (by as_aux_lemma => kernel_rfl)) f_stops) (by as_aux_lemma => kernel_rfl)) f_knobs) (by as_aux_lemma => kernel_rfl)) (by as_aux_lemma => kernel_rfl)) (by as_aux_lemma => kernel_rfl)) (by as_aux_lemma => kernel_rfl)) (by as_aux_lemma => kernel_rfl)) (by as_aux_lemma => kernel_rfl)) (by as_aux_lemma => kernel_rfl)) (by as_aux_lemma => kernel_rfl)) (by as_aux_lemma => kernel_rfl)) (by as_aux_lemma => kernel_rfl)) (by as_aux_lemma => kernel_rfl)) (by as_aux_lemma => kernel_rfl)) (by as_aux_lemma => kernel_rfl)) f_keys) (by as_aux_lemma => kernel_rfl)) f_heard) f_enter) f_lifts) f_make) (by as_aux_lemma => kernel_rfl)) (by as_aux_lemma => kernel_rfl)) (by as_aux_lemma => kernel_rfl)) (by as_aux_lemma => kernel_rfl)
theorem said : Rows.FnStagesSaid :=
  OpenClaim.holds_of_cond 6 Tryd.f6 rfl rfl rfl rfl rfl rfl rfl ⟨rfl, rfl, rfl, rfl, rfl⟩ rfl rfl rfl rfl rfl (by as_aux_lemma => kernel_rfl) Tryd.func6 closed
    (of_decide_eq_true (by as_aux_lemma => kernel_rfl)) (by unfold Func.isWrapper; rw [if_neg (by decide +kernel)]; exact ⟨rfl, rfl⟩)
    (fun os started H enc _ F => by rw [OpenClaim.pre_eq_preRow]; exact lifted os started H enc F)
theorem plain (f : FuncId) (fn : Func) (hf : Tryd.pinned.checked.prog.funcNamed "loop.example/g00710/laws.FnStages" = some f) (hfn : Tryd.pinned.checked.prog.funcs[f]? = some fn) :
    false = Tryd.pinned.checked.prog.looks [] ∧ ∀ (j : Nat) t, fn.params[j]? = some t → Tryd.pinned.checked.prog.wantsStandIn t = false := by
  obtain rfl : f = 6 := Option.some.inj ((show Tryd.prog.funcNamed "loop.example/g00710/laws.FnStages" = some 6 by kernel_rfl).symm.trans hf) |>.symm
  obtain rfl : fn = Tryd.f6 := (Option.some.inj (Tryd.func6.symm.trans hfn)).symm
  refine ⟨f_looks, fun j t ht => ?_⟩
  rw [Tryd.params6] at ht
  obtain rfl : t = 29 := by simpa using Array.mem_of_getElem? ht
  exact (show Tryd.prog.wantsStandIn 29 = false by kernel_rfl)
end Stages
theorem fnStages_card : Rows.FnStagesCardSaid :=
  Claim7.holds_tied_plain_at .later [] _ _ _ _ Stages.said (fun _ h => by cases h) (by as_aux_lemma => kernel_rfl) (fun _ h => by cases h) fnStages_row_tie rfl ⟨rfl, rfl⟩ f_main rfl Stages.plain (by as_aux_lemma => kernel_rfl)
end Go.Proofs.YtnipffmookkkdabDoor
