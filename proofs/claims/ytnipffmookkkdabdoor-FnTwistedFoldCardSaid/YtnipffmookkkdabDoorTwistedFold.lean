/-
  Twisted is the product of the polynomials with its upper half taken from the lower, for every code that the law draws from; no condition but the card's own (the table of fields holds what its initialiser lays).
-/
import Derived.Test.YtnipffmookkkdabDoorJ3
import Derived.ChangeOld
import Derived.Below
import Derived.Carry
namespace Go.Proofs.YtnipffmookkkdabDoor
open Go.ChangeShapes Go.WideShapes Go.ChangeAt Go.RowKit
namespace TwistedFold
set_option maxRecDepth 100000 in
set_option maxHeartbeats 1600000 in
theorem walk (a0 : Option Addr) (len0 cap0 : Nat) (z0 : List Int) (w : World) (hrow : IsRow .u8 w a0 len0 cap0 z0) (ht : Tab w) : Calls Tryd.prog 9 #[.slice a0 len0 cap0] w fun e w' => e = .returned (.bool true) ∧ Below w.heap.size w w' := by
  by_cases hl : 1048576 < len0
  · go_enter Tryd.func9, Tryd.ntmps9
    go_wp2_with fail
    refine (big_yes a0 len0 cap0 w hl).mono ?_
    rintro e w' ⟨rfl, rfl⟩
    go_wp2
    go_ret
    exact ⟨rfl, Below.refl _ _⟩
  have hl2 : len0 ≤ 1048576 := by omega
  have hcode := code_of_row hrow (by omega)
  clear hl hrow
  go_enter Tryd.func9, Tryd.ntmps9
  go_wp2_with fail
  refine (big_no a0 len0 cap0 w hl2).mono ?_
  rintro e w' ⟨rfl, rfl⟩
  go_wp2_with fail
  refine (drawTwisted_c a0 len0 cap0 w hl2 hcode).mono ?_
  rintro e w1 ⟨f, a, l, cap, a2, m, cap2, rfl, hln, hmn, hs, hs2, b1⟩
  clear hcode
  have c1 := b1
  have R1 := sVectorOk f a l cap w1 hln hs
  by_cases k1 : VecOk f l
  rotate_left
  · rw [vok_not.2 k1] at R1
    have HR := Lib.hid R1
    clear k1 hs hs2 R1
    go_wp2_with fail
    refine HR.out.mono ?_
    rintro e w' ⟨rfl, rfl⟩
    go_wp2
    go_ret
    exact ⟨rfl, b1⟩
  rw [vok_iff.2 k1] at R1
  have HR1 := Lib.hid R1
  clear R1
  have R2 := sVectorOk f a2 m cap2 w1 hmn hs2
  by_cases k2 : VecOk f m
  rotate_left
  · rw [vok_not.2 k2] at R2
    have HR2 := Lib.hid R2
    clear k1 k2 hs hs2 R2
    go_wp2_with fail
    refine HR1.out.mono ?_
    rintro e w' ⟨rfl, rfl⟩
    go_wp2_with fail
    refine HR2.out.mono ?_
    rintro e w' ⟨rfl, rfl⟩
    go_wp2
    go_ret
    exact ⟨rfl, b1⟩
  rw [vok_iff.2 k2] at R2
  have HR2 := Lib.hid R2
  have HV_1 := Lib.hid hs
  have HU_1 := Lib.hid hs2
  clear R2 hs hs2
  by_cases he : l.length = m.length
  rotate_left
  · have hne : ((l.length : Int) != m.length) = true := by
      rw [bne_iff_ne]
      omega
    clear k1 k2
    go_wp2_with fail
    refine HR1.out.mono ?_
    rintro e w' ⟨rfl, rfl⟩
    go_wp2_with fail
    refine HR2.out.mono ?_
    rintro e w' ⟨rfl, rfl⟩
    go_wp2
    go_ret
    exact ⟨rfl, b1⟩
  have hne : ((l.length : Int) != m.length) = false := by
    have : (l.length : Int) = m.length := by omega
    simp [this]
  by_cases h128 : 128 < l.length
  · have d1 : decide ((128 : Int) < l.length) = true := decide_eq_true (by omega)
    clear k1 k2 he
    go_wp2_with fail
    refine HR1.out.mono ?_
    rintro e w' ⟨rfl, rfl⟩
    go_wp2_with fail
    refine HR2.out.mono ?_
    rintro e w' ⟨rfl, rfl⟩
    go_wp2
    go_ret
    exact ⟨rfl, b1⟩
  have d1 : decide ((128 : Int) < l.length) = false := decide_eq_false (by omega)
  have HT1 : Hid (mTrim f l = trimL f l.length (lf l)) := Lib.hid (by rcases trim_eq k1 with h | h; exact h; omega)
  have HT2 : Hid (mTrim f m = trimL f m.length (lf m)) := Lib.hid (by rcases trim_eq k2 with h | h; exact h; omega)
  obtain ⟨p1, p1l⟩ := trim_ok k1 (by omega)
  obtain ⟨p2, p2l⟩ := trim_ok k2 (by omega)
  have HTW : Hid (mTwisted f l m = twiL f l m) := Lib.hid (by unfold mTwisted; rw [if_pos ⟨he, k1, k2⟩])
  have HLT : Hid ((twiL f l m).length = l.length) := Lib.hid (tab_len _ _)
  have HAT : Hid (∀ i, i < l.length → lf (twiL f l m) i = RS (lf (mulL f (trimL f l.length (lf l)) (trimL f m.length (lf m))) i - lf (mulL f (trimL f l.length (lf l)) (trimL f m.length (lf m))) (i + l.length)) (P f)) := Lib.hid fun i hi => twisted_at ⟨he, k1, k2⟩ hi
  have HPZ : Hid (∀ j, (mulL f (trimL f l.length (lf l)) (trimL f m.length (lf m))).length ≤ j → lf (mulL f (trimL f l.length (lf l)) (trimL f m.length (lf m))) j = 0) := Lib.hid fun j hj => lf_out _ hj
  have hml := mulL_le f (trimL f l.length (lf l)) (trimL f m.length (lf m))
  have HP1 := Lib.hid p1
  have HP2 := Lib.hid p2
  have hpos := k1.pos
  have h08 := k1.f08
  have n1 : (trimL f l.length (lf l)).length ≤ 1048576 := by omega
  have n2 : (trimL f m.length (lf m)).length ≤ 1048576 := by omega
  have n3 : (trimL f l.length (lf l)).length + (trimL f m.length (lf m)).length ≤ 401 := by omega
  have n4 : (mulL f (trimL f l.length (lf l)) (trimL f m.length (lf m))).length ≤ 400 := by omega
  have HSB : Hid (∀ x y w, Calls Tryd.prog 43 #[.int .i64 f, .int .i64 x, .int .i64 y] w fun e w' => e = .returned (.int .i64 (RS (x - y) (P f))) ∧ w = w') := Lib.hid fun x y w => by have := sSub f x y w; rwa [mSub, if_pos h08] at this
  have e1 : ((l.length : Int) != l.length) = false := by simp
  clear k1 k2 he p1 p2 p1l p2l hml
  go_wp2_with fail
  refine HR1.out.mono ?_
  rintro e w' ⟨rfl, rfl⟩
  go_wp2_with fail
  refine HR2.out.mono ?_
  rintro e w' ⟨rfl, rfl⟩
  clear HR1 HR2 b1
  go_wp2_with fail
  refine (sTrim f a l cap w1 hln HV_1.out).mono ?_
  rw [HT1.out]
  rintro e w2 ⟨a3, cap3, rfl, sa3, b2⟩
  have c2 := below_step c1 b2
  have HV_2 := Lib.hid (HV_1.out.keep b2)
  have HU_2 := Lib.hid (HU_1.out.keep b2)
  have H3_2 := Lib.hid sa3
  clear HV_1 HU_1 b2 c1 sa3
  go_wp2_with fail
  refine (sTrim f a2 m cap2 w2 hmn HU_2.out).mono ?_
  rw [HT2.out]
  rintro e w3 ⟨a4, cap4, rfl, sa4, b3⟩
  have c3 := below_step c2 b3
  have HV_3 := Lib.hid (HV_2.out.keep b3)
  have HU_3 := Lib.hid (HU_2.out.keep b3)
  have H3_3 := Lib.hid (H3_2.out.keep b3)
  have H4_3 := Lib.hid sa4
  clear HV_2 HU_2 H3_2 b3 c2 sa4
  go_wp2_with fail
  refine (iMulPoly_on f a3 (trimL f l.length (lf l)) cap3 a4 (trimL f m.length (lf m)) cap4 w3 n1 n2 H3_3.out H4_3.out (ht.below c3) HP1.out HP2.out n3).mono ?_
  rintro e w4 ⟨a5, cap5, rfl, oa5, b4⟩
  have c4 := below_step c3 b4
  have HV_4 := Lib.hid (HV_3.out.keep b4)
  have HU_4 := Lib.hid (HU_3.out.keep b4)
  have H3_4 := Lib.hid (H3_3.out.keep b4)
  have H4_4 := Lib.hid (H4_3.out.keep b4)
  have H5_4 := Lib.hid oa5.src
  clear HV_3 HU_3 H3_3 H4_3 b4 c3 oa5
  go_wp2_with fail
  refine (cp_l a l cap w4 hln HV_4.out).mono ?_
  rintro e w5 ⟨a6, cap6, rfl, sa6, b5⟩
  have c5 := below_step c4 b5
  have HV_5 := Lib.hid (HV_4.out.keep b5)
  have HU_5 := Lib.hid (HU_4.out.keep b5)
  have H3_5 := Lib.hid (H3_4.out.keep b5)
  have H4_5 := Lib.hid (H4_4.out.keep b5)
  have H5_5 := Lib.hid (H5_4.out.keep b5)
  have H6_5 := Lib.hid sa6
  clear HV_4 HU_4 H3_4 H4_4 H5_4 b5 c4 sa6
  go_wp2_with fail
  refine (cp_l a2 m cap2 w5 hmn HU_5.out).mono ?_
  rintro e w6 ⟨a7, cap7, rfl, sa7, b6⟩
  have c6 := below_step c5 b6
  have HV_6 := Lib.hid (HV_5.out.keep b6)
  have HU_6 := Lib.hid (HU_5.out.keep b6)
  have H3_6 := Lib.hid (H3_5.out.keep b6)
  have H4_6 := Lib.hid (H4_5.out.keep b6)
  have H5_6 := Lib.hid (H5_5.out.keep b6)
  have H6_6 := Lib.hid (H6_5.out.keep b6)
  have H7_6 := Lib.hid sa7
  clear HV_5 HU_5 H3_5 H4_5 H5_5 H6_5 b6 c5 sa7
  go_wp2_with fail
  refine (iTwisted f a6 l cap6 a7 m cap7 w6 hln hmn H6_6.out H7_6.out (ht.below c6)).mono ?_
  rw [HTW.out]
  rintro e w7 ⟨a8, cap8, rfl, oa8, b7⟩
  have s8 := oa8.src
  rw [HLT.out] at s8 ⊢
  have c7 := below_step c6 b7
  have H5_7 := Lib.hid (H5_6.out.keep b7)
  obtain ⟨bt, ot, rfl, hltt, hct⟩ := vec_some s8 hpos.1
  have HCT := Lib.hid hct
  have cc := c7
  clear hct oa8 s8 b7 c6 c7 HV_6 HU_6 H3_6 H4_6 H5_6 H6_6 H7_6 HTW HLT HT1 HT2 HP1 HP2 n1 n2 n3
  generalize mulL f (trimL f l.length (lf l)) (trimL f m.length (lf m)) = M at *
  generalize lf (twiL f l m) = TT at *
  have HM : Hid (∀ j, j < M.length → ∃ b off, a5 = some ⟨b, off, none⟩ ∧ b < w7.heap.size ∧ w7.cell? ⟨b, off + j, none⟩ = some (.int .i64 (lf M j))) := Lib.hid fun j hj => by
    rcases H5_7.out with hz | ⟨b, off, e, hlt, hc⟩
    · omega
    · exact ⟨b, off, e, hlt, hc j hj⟩
  clear H5_7
  generalize l.length = n at *
  go_wp2_with fail
  go_loopw [9, 10, 11] (fun i _ _ wr => ∃ k : Nat, i = .int .i64 k ∧ k ≤ n ∧ Below w7.heap.size w7 wr) (fun i _ _ _ => n - (intOf i).toNat)
  case atStart => exact ⟨0, rfl, Nat.zero_le _, Below.refl _ _⟩
  case round =>
    obtain ⟨i, rfl, hin, hb⟩ := hrel
    by_cases h1 : i < n
    · have hd1 : decide ((i : Int) < n) = true := decide_eq_true (by omega)
      have t1 : wr.cell? ⟨bt, ot + i, none⟩ = some (.int .i64 (TT i)) := (hb.cell (p := ⟨bt, ot + i, none⟩) hltt).trans (HCT.out i h1)
      have hat := HAT.out i h1
      have e3 : (TT i != RS (lf M i - lf M (i + n)) (P f)) = false := by rw [hat]; simp
      clear hat
      by_cases hlo : i < M.length
      · have dlo : decide ((i : Int) < M.length) = true := decide_eq_true (by omega)
        obtain ⟨b, off, ha5, hltm, hcm⟩ := HM.out i hlo
        subst ha5
        have m1 : wr.cell? ⟨b, off + i, none⟩ = some (.int .i64 (lf M i)) := (hb.cell (p := ⟨b, off + i, none⟩) hltm).trans hcm
        by_cases hhi : i + n < M.length
        · have dhi : decide ((i : Int) + n < M.length) = true := decide_eq_true (by omega)
          obtain ⟨b', off', hb5, _, hcm2⟩ := HM.out (i + n) hhi
          cases hb5
          have m2 : wr.cell? ⟨b, off + (i + n), none⟩ = some (.int .i64 (lf M (i + n))) := (hb.cell (p := ⟨b, off + (i + n), none⟩) hltm).trans hcm2
          have i4 : ((i : Int) + n).toNat = i + n := by omega
          clear hcm hcm2
          go_wp2
          go_quiet ((go_at_call 43; exact quiet_left (HSB.out (lf M i) (lf M (i + n)) _)))
          go_wp2
          go_roundw
          case rel => exact ⟨i + 1, by go_num, by omega, below_drewN hb _⟩
          case measure => simp [intOf]; omega
        · have dhi : decide ((i : Int) + n < M.length) = false := decide_eq_false (by omega)
          have hz := HPZ.out (i + n) (by omega)
          rw [hz] at e3
          have e4 := e3
          rw [Int.sub_zero] at e4
          clear hcm hz
          go_wp2
          go_quiet ((go_at_call 43; exact quiet_left (HSB.out (lf M i) 0 _)))
          go_wp2
          go_roundw
          case rel => exact ⟨i + 1, by go_num, by omega, below_drewN hb _⟩
          case measure => simp [intOf]; omega
      · have dlo : decide ((i : Int) < M.length) = false := decide_eq_false (by omega)
        have dhi : decide ((i : Int) + n < M.length) = false := decide_eq_false (by omega)
        have hz := HPZ.out (i + n) (by omega)
        have hz1 := HPZ.out i (by omega)
        rw [hz, hz1] at e3
        have e4 := e3
        rw [Int.sub_zero] at e4
        clear hz hz1
        go_wp2
        go_quiet ((go_at_call 43; exact quiet_left (HSB.out 0 0 _)))
        go_wp2
        go_roundw
        case rel => exact ⟨i + 1, by go_num, by omega, below_drewN hb _⟩
        case measure => simp [intOf]; omega
    · have hd1 : decide ((i : Int) < n) = false := decide_eq_false (by omega)
      go_wp2
      go_ret
      exact ⟨rfl, below_step cc hb⟩
theorem contract (H : Type) (enc : TypeId × Value → H) (W : World) (base : Nat) (args : Array Value) (ds gs : List (DataW H)) (before : List MemPlace)
    (hval : ∀ (j : Nat) t v, Tryd.f9.params[j]? = some t → args[j]? = some v → Value.okWide Tryd.prog W .any base t v)
    (hW : DataW.Whole enc Tryd.prog Tryd.f9.params.toList Rows.fnTwistedFoldSpec.vars false W args.toList ds gs before) (hL : laidMetH Tryd.prog Rows.fnTwistedFoldRow.laid W) :
    Calls Tryd.prog 9 args W fun e W' => ∃ v, e = .returned v ∧ Rows.fnTwistedFoldSpec.post enc Tryd.prog Tryd.f9 false true false false W args v W' := by
  have hvar := table_var hL
  have hW' := hW
  obtain ⟨p, q, hA0, hV, rfl, hfz, hnd⟩ := hW
  have hA : DataW.TrodAll enc Tryd.prog W 0 (fun _ => true) true Tryd.f9.params.toList args.toList ds p := hA0
  rw [Tryd.params9] at hA hval
  obtain ⟨v0, vs0, d0, ds0, p0, q0, hargs, rfl, rfl, h0, r0⟩ := trodAll_cons hA
  obtain ⟨rfl, rfl, rfl⟩ := trodAll_nil r0
  obtain rfl : args = #[v0] := by cases args; simp_all
  obtain ⟨rfl, rfl⟩ := DataW.TrodVars.unique hV (tab_vars enc (fun _ => true) hvar)
  obtain ⟨a0, len0, cap0, rfl⟩ := okWide_slice Tryd.underlying29 (hval 0 29 v0 rfl rfl)
  have k0 := h0
  have lt0 : ∀ x ∈ p0, x.block < W.heap.size := by obtain ⟨m, hm⟩ := k0; exact DataW.trod_lt m _ _ _ hm
  obtain ⟨z0, w0⟩ : ∃ zs, IsRow .u8 W a0 len0 cap0 zs := by
    obtain ⟨fuel, hf⟩ := h0
    rcases open_ints Tryd.underlying29 Tryd.underlying5 (by kernel_rfl) hf with ⟨hcs, _⟩ | ⟨x, l, c, zs, hcs, _, hl, hm, hz, _, hcell, hwz⟩
    · simp [Value.cells] at hcs
      obtain ⟨rfl, rfl, rfl⟩ := hcs
      exact ⟨[], .inl ⟨rfl, rfl, rfl, rfl⟩⟩
    · simp [Value.cells] at hcs
      obtain ⟨rfl, rfl, rfl⟩ := hcs
      exact ⟨zs, .inr ⟨_, rfl, hl, hm, by simpa using hz, hcell, hwz⟩⟩
  clear hA0
  refine (walk a0 len0 cap0 z0 W w0 (tab_of hvar)).mono fun e W' ⟨he, bel⟩ => ?_
  subst he
  exact ⟨_, rfl, _, _, _, [], _, _, hW', trodAll_mk1 (shut_bool Tryd.underlying4 _), (trodAll_cons_mk (Below.trod f_laidOut (by kernel_rfl) (of_decide_eq_true (by kernel_rfl)) k0 bel lt0) trodAll_mk0), tab_vars enc _ (below_var bel hvar), bel.frame _, fun h => by cases h⟩
theorem laid_met (os : Os) : laidMet Tryd.prog Rows.fnTwistedFoldRow.laid ((laidWorld os).forCall (fun _ _ => 0) ⟨#[], #[.slice none 0 0], []⟩).memory :=
  laidMet_of_run' 8 (by kernel_rfl) (by kernel_rfl)
theorem reads (os : Os) {H : Type} (enc : TypeId × Value → H) : ∃ places, DataW.whole enc Tryd.prog ((laidWorld os).forCall (fun _ _ => 0) ⟨#[], #[.slice none 0 0], []⟩).memory Tryd.f9.params.toList Rows.fnTwistedFoldSpec.vars false #[Value.slice none 0 0].toList 8 = some ([.nil], [Rows.laid_loop_example_g00710_impl_fieldTable], places) :=
  ⟨MemPlace.row ⟨0, 0, none⟩ 27, by kernel_rfl⟩
set_option maxRecDepth 100000 in
theorem lifted (os : Os) (started : os.Started) (H : Type) (enc : TypeId × Value → H) (F : Stop.Interp) :
    ReturnsInHanded {} Tryd.checked os 9 .any ((OpenSpec.ofChange Rows.fnTwistedFoldSpec).preRow enc Tryd.prog Tryd.f9 Rows.fnTwistedFoldRow.domain false Rows.fnTwistedFoldRow.laid) (((OpenSpec.ofChange Rows.fnTwistedFoldSpec).at F).post enc Tryd.prog Tryd.f9 false true false false) := by
  obtain ⟨places, hx⟩ := reads os enc
  refine returnsInHanded_of_row (C := Tryd.checked) (s := OpenSpec.ofChange Rows.fnTwistedFoldSpec) own started (by kernel_rfl) Tryd.func9
    (witness_row_at (enc := enc) (C := Tryd.checked) false (laidWorld os) #[.slice none 0 0] rfl (by kernel_rfl) (by kernel_rfl) (by kernel_rfl)
      (OpenSpec.preRow_of_cond 8 hx (by kernel_rfl) (fun k hk => by cases hk) (by kernel_rfl) (laid_met os))) ?_
  intro W base args ds gs before hval hW _ _ _ hL _ _
  exact contract H enc W base args ds gs before hval hW hL
theorem closed : joinedFacts Tryd.prog 9 Tryd.f9 (OpenSpec.ofChange Rows.fnTwistedFoldSpec).bare Rows.fnTwistedFoldRow = true := by
  unfold joinedFacts
  exact both (both (both (both (both (both (both (both (both (both (both (both (both (both (both (both (both (both (both (both (both (both (both (both (both (both (both (both (both (both (both (by as_aux_lemma => kernel_rfl) f_laidOut) f_mapsRowed) (by as_aux_lemma => kernel_rfl)) (by as_aux_lemma => kernel_rfl)) (by as_aux_lemma => kernel_rfl)) f_stops) (by as_aux_lemma => kernel_rfl)) f_knobs) (by as_aux_lemma => kernel_rfl)) (by as_aux_lemma => kernel_rfl)) (by as_aux_lemma => kernel_rfl)) (by as_aux_lemma => kernel_rfl)) (by as_aux_lemma => kernel_rfl)) (by as_aux_lemma => kernel_rfl)) (by as_aux_lemma => kernel_rfl)) (by as_aux_lemma => kernel_rfl)) (by as_aux_lemma => kernel_rfl)) (by as_aux_lemma => kernel_rfl)) (by as_aux_lemma => kernel_rfl)) (by as_aux_lemma => kernel_rfl)) (by as_aux_lemma => kernel_rfl)) f_keys) (by as_aux_lemma => kernel_rfl)) f_heard) f_enter) f_lifts) f_make) (by as_aux_lemma => kernel_rfl)) (by as_aux_lemma => kernel_rfl)) (by as_aux_lemma => kernel_rfl)) (by as_aux_lemma => kernel_rfl)
theorem said : Rows.FnTwistedFoldSaid :=
  OpenClaim.holds_of_cond 9 Tryd.f9 rfl rfl rfl rfl rfl rfl rfl ⟨rfl, rfl, rfl, rfl, rfl⟩ rfl rfl rfl rfl rfl (by as_aux_lemma => kernel_rfl) Tryd.func9 closed
    (of_decide_eq_true (by as_aux_lemma => kernel_rfl)) (by unfold Func.isWrapper; rw [if_neg (by decide +kernel)]; exact ⟨rfl, rfl⟩)
    (fun os started H enc _ F => by rw [OpenClaim.pre_eq_preRow]; exact lifted os started H enc F)
theorem plain (f : FuncId) (fn : Func) (hf : Tryd.pinned.checked.prog.funcNamed "loop.example/g00710/laws.FnTwistedFold" = some f) (hfn : Tryd.pinned.checked.prog.funcs[f]? = some fn) :
    false = Tryd.pinned.checked.prog.looks [] ∧ ∀ (j : Nat) t, fn.params[j]? = some t → Tryd.pinned.checked.prog.wantsStandIn t = false := by
  obtain rfl : f = 9 := Option.some.inj ((show Tryd.prog.funcNamed "loop.example/g00710/laws.FnTwistedFold" = some 9 by kernel_rfl).symm.trans hf) |>.symm
  obtain rfl : fn = Tryd.f9 := (Option.some.inj (Tryd.func9.symm.trans hfn)).symm
  refine ⟨f_looks, fun j t ht => ?_⟩
  rw [Tryd.params9] at ht
  obtain rfl : t = 29 := by simpa using Array.mem_of_getElem? ht
  exact (show Tryd.prog.wantsStandIn 29 = false by kernel_rfl)
end TwistedFold
theorem fnTwistedFold_card : Rows.FnTwistedFoldCardSaid :=
  Claim7.holds_tied_plain_at .later [] _ _ _ _ TwistedFold.said (fun _ h => by cases h) (by as_aux_lemma => kernel_rfl) (fun _ h => by cases h) fnTwistedFold_row_tie rfl ⟨rfl, rfl⟩ f_main rfl TwistedFold.plain (by as_aux_lemma => kernel_rfl)
end Go.Proofs.YtnipffmookkkdabDoor
