/-
  In each field MulText and AddText agree with multiplication and addition, and a product is not less than a factor where the other is not 0 and the product is a numeral of at most 300 digits, for every code that the law draws from; no condition but the card's own (the table of fields holds what its initialiser lays).
-/
import Derived.Test.YtaapmpjkcddababDoorJ3
import Derived.ChangeOld
import Derived.Below
import Derived.Carry
namespace Go.Proofs.YtaapmpjkcddababDoor
open Go.ChangeShapes Go.WideShapes Go.ChangeAt Go.RowKit
namespace Texts
theorem cmp_ge {m a : ByteArray} (hm : DigOk m) (ha : DigOk a) (h : numV a ≤ numV m) : 0 ≤ mCompareText m a := by
  unfold mCompareText
  rw [if_pos ⟨hm, ha⟩, if_neg (by omega)]
  split <;> omega
theorem mod_at {s : ByteArray} {f : Int} (h : DigOk s) (hf : 0 ≤ f ∧ f ≤ 8) : mModText s f = RS (numV s) (P f) := by
  unfold mModText
  rw [if_pos ⟨dig_iff.2 h, hf⟩]
theorem num_of {v : Int} (h : 0 ≤ v) : numV (txtOf v) = v := (txt_ex h).2
theorem zero_text {b : ByteArray} (hb : DigOk b) (h : (b.toList == [48]) = false) : 1 ≤ numV b := by
  have h0 := hb.txt.nonneg
  by_cases hz : numV b = 0
  · exfalso
    have e : TxtOf 0 ⟨#[48]⟩ := ⟨⟨fun i hi => by
      have hi2 : i < 1 := hi
      obtain rfl : i = 0 := by omega
      decide, by decide, .inl rfl⟩, num0⟩
    have hb2 := hb.txt
    rw [hz] at hb2
    have := hb2.unique e
    rw [this, ByteArray.toList_eq] at h
    revert h
    decide
  · omega
set_option maxRecDepth 100000 in
set_option maxHeartbeats 6400000 in
theorem walk_on (a b : ByteArray) (f : Int) (w : World) (ha : DigOk a) (hb : DigOk b) (f0 : 0 ≤ f) (f8 : f ≤ 8) :
    (mMulText1 a b = true ∧ mAddText1 a b = true) ∧ (1 ≤ (mMulText0 a b).size ∧ (mMulText0 a b).size ≤ 1048576 ∧ 1 ≤ (mAddText0 a b).size ∧ (mAddText0 a b).size ≤ 1048576) ∧
    (mDigitsOk (mMulText0 a b) = true → mModText (mMulText0 a b) f = mMul f (mModText a f) (mModText b f) ∧ ((b.toList == [48]) = false → 0 ≤ mCompareText (mMulText0 a b) a)) ∧
    (mDigitsOk (mAddText0 a b) = true → mModText (mAddText0 a b) f = mAdd f (mModText a f) (mModText b f) ∧ 0 ≤ mCompareText (mAddText0 a b) b) := by
  have A0 := ha.txt.nonneg
  have B0 := hb.txt.nonneg
  have eM : mMulText0 a b = txtOf (numV a * numV b) := by unfold mMulText0; rw [if_pos ⟨ha, hb⟩]
  have eA : mAddText0 a b = txtOf (numV a + numV b) := by unfold mAddText0; rw [if_pos ⟨ha, hb⟩]
  have tM := txt_ex (Int.mul_nonneg A0 B0)
  have tA := txt_ex (show 0 ≤ numV a + numV b by omega)
  have sM := tM.size_mul ha.txt hb.txt
  have ha1 := ha.1
  have hb1 := hb.1
  have sA : (txtOf (numV a + numV b)).size ≤ 301 := tA.size_le (by omega) (by
    have h1 := ha.txt.lt
    have h2 := hb.txt.lt
    have h3 := pow10_mono (show a.size ≤ 300 by omega)
    have h4 := pow10_mono (show b.size ≤ 300 by omega)
    have h5 : (10 : Int) ^ 301 = 10 ^ 300 * 10 := Int.pow_succ _ _
    have h6 := pow10_pos 300
    rw [h5]
    omega)
  rw [eM, eA]
  refine ⟨⟨by unfold mMulText1; simp [ha, hb], by unfold mAddText1; simp [ha, hb]⟩, ⟨tM.pos, by omega, tA.pos, by omega⟩, fun hd => ?_, fun hd => ?_⟩
  · have hD := dig_iff.1 hd
    refine ⟨?_, fun hz => cmp_ge hD ha ?_⟩
    · rw [mod_at hD ⟨f0, f8⟩, mod_at ha ⟨f0, f8⟩, mod_at hb ⟨f0, f8⟩, tM.2, mMul, if_pos ⟨f0, f8⟩]
      unfold RS
      exact Int.mul_emod _ _ _
    · rw [tM.2]
      have h1 := zero_text hb hz
      have := Int.mul_le_mul_of_nonneg_left h1 A0
      omega
  · have hD := dig_iff.1 hd
    refine ⟨?_, cmp_ge hD hb ?_⟩
    · rw [mod_at hD ⟨f0, f8⟩, mod_at ha ⟨f0, f8⟩, mod_at hb ⟨f0, f8⟩, tA.2, mAdd, if_pos ⟨f0, f8⟩]
      unfold RS
      exact Int.add_emod _ _ _
    · rw [tA.2]
      omega
set_option maxRecDepth 100000 in
set_option maxHeartbeats 6400000 in
theorem walk (a0 : Option Addr) (len0 cap0 : Nat) (z0 : List Int) (w : World) (hrow : IsRow .u8 w a0 len0 cap0 z0) (ht : Tab w) : Calls Tryd.prog 7 #[.slice a0 len0 cap0] w fun e w' => e = .returned (.bool true) ∧ Below w.heap.size w w' := by
  by_cases hl : 1048576 < len0
  · go_enter Tryd.func7, Tryd.ntmps7
    go_wp2_with fail
    refine (big_yes a0 len0 cap0 w hl).mono ?_
    rintro e w' ⟨rfl, rfl⟩
    go_wp2
    go_ret
    exact ⟨rfl, Below.refl _ _⟩
  have hl2 : len0 ≤ 1048576 := by omega
  have hcode := code_of_row hrow (by omega)
  clear hl hrow
  go_enter Tryd.func7, Tryd.ntmps7
  go_wp2_with fail
  refine (big_no a0 len0 cap0 w hl2).mono ?_
  rintro e w' ⟨rfl, rfl⟩
  go_wp2_with fail
  refine (drawMulText_c a0 len0 cap0 w hl2 hcode).mono ?_
  rintro e w3 ⟨a, b, rfl, sa, sb, b3⟩
  have hcode3 := hcode.keep b3
  clear hcode
  go_wp2_with fail
  refine (byteAt_c a0 len0 cap0 2 w3 hl2 (by omega) hcode3).mono ?_
  rintro e w' ⟨x, rfl, x0, x1, rfl⟩
  have hsa : a.size ≤ 1048576 := by omega
  have hsb : b.size ≤ 1048576 := by omega
  clear hcode3
  by_cases ha : DigOk a
  · have G1 := sDigitsOk a w3 hsa
    rw [dig_iff.2 ha] at G1
    by_cases hb : DigOk b
    · have G2 := sDigitsOk b w3 hsb
      rw [dig_iff.2 hb] at G2
      have HW := Lib.hid (walk_on a b (x % 9) w3 ha hb (by omega) (by omega))
      have hM := HW.out.2.1
      have HT3 := Lib.hid (ht.below b3)
      clear ha hb ht
      have tx : x.tmod 9 = x % 9 := Int.tmod_eq_emod_of_nonneg (by omega)
      go_wp2_with fail
      refine G1.mono ?_
      rintro e w' ⟨rfl, rfl⟩
      go_wp2_with fail
      refine G2.mono ?_
      rintro e w' ⟨rfl, rfl⟩
      go_wp2_with fail
      refine (iMulText a b w3 hsa hsb HT3.out).mono ?_
      rintro e w4 ⟨rfl, b4⟩
      have HT4 := Lib.hid (HT3.out.below b4)
      have c4 := below_step b3 b4
      clear b3 b4 HT3 G1 G2
      rw [HW.out.1.1]
      go_wp2_with fail
      refine (iAddText a b w4 hsa hsb).mono ?_
      rintro e w5 ⟨rfl, b5⟩
      have HT5 := Lib.hid (HT4.out.below b5)
      have c5 := below_step c4 b5
      clear c4 b5 HT4
      rw [HW.out.1.2]
      have HWM := Lib.hid HW.out.2.2.1
      have HWA := Lib.hid HW.out.2.2.2
      clear HW
      generalize mMulText0 a b = m at *
      generalize mAddText0 a b = s at *
      have z1 : ((m.size : Int) == 0) = false := by rw [beq_eq_false_iff_ne]; omega
      have z2 : ((s.size : Int) == 0) = false := by rw [beq_eq_false_iff_ne]; omega
      have hms : m.size ≤ 1048576 := hM.2.1
      have hss : s.size ≤ 1048576 := hM.2.2.2
      clear hM
      go_wp2_with fail
      refine (iModText a (x % 9) w5 hsa HT5.out).mono ?_
      rintro e w6 ⟨rfl, b6⟩
      have HT6 := Lib.hid (HT5.out.below b6)
      have c6 := below_step c5 b6
      clear c5 b6 HT5
      go_wp2_with fail
      refine (iModText b (x % 9) w6 hsb HT6.out).mono ?_
      rintro e w7 ⟨rfl, b7⟩
      have HT7 := Lib.hid (HT6.out.below b7)
      have c7 := below_step c6 b7
      clear c6 b7 HT6
      have n1 : (mModText a (x % 9) != mModText a (x % 9)) = false := by simp
      have n2 : (mModText b (x % 9) != mModText b (x % 9)) = false := by simp
      go_wp2_with fail
      refine (sModText a (x % 9) w7 hsa).mono ?_
      rintro e w8 ⟨rfl, b8⟩
      have HT8 := Lib.hid (HT7.out.below b8)
      have c8 := below_step c7 b8
      clear c7 b8 HT7
      go_wp2_with fail
      refine (sModText b (x % 9) w8 hsb).mono ?_
      rintro e w9 ⟨rfl, b9⟩
      have HT9 := Lib.hid (HT8.out.below b9)
      have c9 := below_step c8 b9
      clear c8 b9 HT8 n1 n2
      generalize mModText a (x % 9) = u at *
      generalize mModText b (x % 9) = v at *
      generalize x % 9 = f at *
      go_wp2_with fail
      refine (sDigitsOk m w9 hms).mono ?_
      rintro e w' ⟨rfl, rfl⟩
      cases hM : mDigitsOk m
      · have n4 : (mAdd f u v == mAdd f u v) = true := by simp
        go_wp2_with fail
        refine (sDigitsOk s w9 hss).mono ?_
        rintro e w' ⟨rfl, rfl⟩
        cases hS : mDigitsOk s
        · go_wp2
          go_ret
          exact ⟨rfl, c9⟩
        · have HE3 := Lib.hid (HWA.out hS)
          go_wp2_with fail
          refine (iModText s f w9 hss HT9.out).mono ?_
          rintro e w20 ⟨rfl, b20⟩
          have c20 := below_step c9 b20
          rw [HE3.out.1]
          go_wp2_with fail
          refine (sAdd f u v w20).mono ?_
          rintro e w' ⟨rfl, rfl⟩
          have d4 : decide (0 ≤ mCompareText s b) = true := decide_eq_true HE3.out.2
          go_wp2_with fail
          refine (iCompareText s b w20 hss hsb).mono ?_
          rintro e w21 ⟨rfl, b21⟩
          have c21 := below_step c20 b21
          go_wp2
          go_ret
          exact ⟨rfl, c21⟩
      · have HE1 := Lib.hid (HWM.out hM)
        have n3 : (mMul f u v != mMul f u v) = false := by simp
        go_wp2_with fail
        refine (iModText m f w9 hms HT9.out).mono ?_
        rintro e w10 ⟨rfl, b10⟩
        have HT10 := Lib.hid (HT9.out.below b10)
        have c10 := below_step c9 b10
        clear c9 b10 HT9
        rw [HE1.out.1]
        go_wp2_with fail
        refine (sMul f u v w10).mono ?_
        rintro e w' ⟨rfl, rfl⟩
        cases hz : (b.toList == [48])
        · have d3 : decide (mCompareText m a < 0) = false := decide_eq_false (by have := HE1.out.2 hz; omega)
          go_wp2_with fail
          refine (iCompareText m a w10 hms hsa).mono ?_
          rintro e w11 ⟨rfl, b11⟩
          have HT11 := Lib.hid (HT10.out.below b11)
          have c11 := below_step c10 b11
          clear c10 b11 HT10
          have n4 : (mAdd f u v == mAdd f u v) = true := by simp
          go_wp2_with fail
          refine (sDigitsOk s w11 hss).mono ?_
          rintro e w' ⟨rfl, rfl⟩
          cases hS : mDigitsOk s
          · go_wp2
            go_ret
            exact ⟨rfl, c11⟩
          · have HE3 := Lib.hid (HWA.out hS)
            go_wp2_with fail
            refine (iModText s f w11 hss HT11.out).mono ?_
            rintro e w20 ⟨rfl, b20⟩
            have c20 := below_step c11 b20
            rw [HE3.out.1]
            go_wp2_with fail
            refine (sAdd f u v w20).mono ?_
            rintro e w' ⟨rfl, rfl⟩
            have d4 : decide (0 ≤ mCompareText s b) = true := decide_eq_true HE3.out.2
            go_wp2_with fail
            refine (iCompareText s b w20 hss hsb).mono ?_
            rintro e w21 ⟨rfl, b21⟩
            have c21 := below_step c20 b21
            go_wp2
            go_ret
            exact ⟨rfl, c21⟩
        · have n4 : (mAdd f u v == mAdd f u v) = true := by simp
          go_wp2_with fail
          refine (sDigitsOk s w10 hss).mono ?_
          rintro e w' ⟨rfl, rfl⟩
          cases hS : mDigitsOk s
          · go_wp2
            go_ret
            exact ⟨rfl, c10⟩
          · have HE3 := Lib.hid (HWA.out hS)
            go_wp2_with fail
            refine (iModText s f w10 hss HT10.out).mono ?_
            rintro e w20 ⟨rfl, b20⟩
            have c20 := below_step c10 b20
            rw [HE3.out.1]
            go_wp2_with fail
            refine (sAdd f u v w20).mono ?_
            rintro e w' ⟨rfl, rfl⟩
            have d4 : decide (0 ≤ mCompareText s b) = true := decide_eq_true HE3.out.2
            go_wp2_with fail
            refine (iCompareText s b w20 hss hsb).mono ?_
            rintro e w21 ⟨rfl, b21⟩
            have c21 := below_step c20 b21
            go_wp2
            go_ret
            exact ⟨rfl, c21⟩
    · have G2 := sDigitsOk b w3 hsb
      rw [dig_not.2 hb] at G2
      clear ha hb ht
      go_wp2_with fail
      refine G1.mono ?_
      rintro e w' ⟨rfl, rfl⟩
      go_wp2_with fail
      refine G2.mono ?_
      rintro e w' ⟨rfl, rfl⟩
      go_wp2
      go_ret
      exact ⟨rfl, b3⟩
  · have G1 := sDigitsOk a w3 hsa
    rw [dig_not.2 ha] at G1
    clear ha ht
    go_wp2_with fail
    refine G1.mono ?_
    rintro e w' ⟨rfl, rfl⟩
    go_wp2
    go_ret
    exact ⟨rfl, b3⟩
theorem contract (H : Type) (enc : TypeId × Value → H) (W : World) (base : Nat) (args : Array Value) (ds gs : List (DataW H)) (before : List MemPlace)
    (hval : ∀ (j : Nat) t v, Tryd.f7.params[j]? = some t → args[j]? = some v → Value.okWide Tryd.prog W .any base t v)
    (hW : DataW.Whole enc Tryd.prog Tryd.f7.params.toList Rows.fnTextsSpec.vars false W args.toList ds gs before) (hL : laidMetH Tryd.prog Rows.fnTextsRow.laid W) :
    Calls Tryd.prog 7 args W fun e W' => ∃ v, e = .returned v ∧ Rows.fnTextsSpec.post enc Tryd.prog Tryd.f7 false true false false W args v W' := by
  have hvar := table_var hL
  have hW' := hW
  obtain ⟨p, q, hA0, hV, rfl, hfz, hnd⟩ := hW
  have hA : DataW.TrodAll enc Tryd.prog W 0 (fun _ => true) true Tryd.f7.params.toList args.toList ds p := hA0
  rw [Tryd.params7] at hA hval
  obtain ⟨v0, vs0, d0, ds0, p0, q0, hargs, rfl, rfl, h0, r0⟩ := trodAll_cons hA
  obtain ⟨rfl, rfl, rfl⟩ := trodAll_nil r0
  obtain rfl : args = #[v0] := by cases args; simp_all
  obtain ⟨rfl, rfl⟩ := DataW.TrodVars.unique hV (tab_vars enc (fun _ => true) hvar)
  obtain ⟨a0, len0, cap0, rfl⟩ := okWide_slice Tryd.underlying27 (hval 0 27 v0 rfl rfl)
  have k0 := h0
  have lt0 : ∀ x ∈ p0, x.block < W.heap.size := by obtain ⟨m, hm⟩ := k0; exact DataW.trod_lt m _ _ _ hm
  obtain ⟨z0, w0⟩ : ∃ zs, IsRow .u8 W a0 len0 cap0 zs := by
    obtain ⟨fuel, hf⟩ := h0
    rcases open_ints Tryd.underlying27 Tryd.underlying5 (by kernel_rfl) hf with ⟨hcs, _⟩ | ⟨x, l, c, zs, hcs, _, hl, hm, hz, _, hcell, hwz⟩
    · simp [Value.cells] at hcs
      obtain ⟨rfl, rfl, rfl⟩ := hcs
      exact ⟨[], .inl ⟨rfl, rfl, rfl, rfl⟩⟩
    · simp [Value.cells] at hcs
      obtain ⟨rfl, rfl, rfl⟩ := hcs
      exact ⟨zs, .inr ⟨_, rfl, hl, hm, by simpa using hz, hcell, hwz⟩⟩
  clear hA0
  refine (walk a0 len0 cap0 z0 W w0 (tab_of hvar)).mono fun e W' ⟨he, bel⟩ => ?_
  subst he
  exact ⟨_, rfl, _, _, _, [], _, _, hW', trodAll_mk1 (shut_bool Tryd.underlying4 _), (trodAll_cons_mk (Below.trod f_laidOut (by kernel_rfl) (of_decide_eq_true (by kernel_rfl)) k0 bel lt0) trodAll_mk0), tab_vars enc _ (below_var bel hvar), bel.frame _, fun h => by cases h⟩
theorem laid_met (os : Os) : laidMet Tryd.prog Rows.fnTextsRow.laid ((laidWorld os).forCall (fun _ _ => 0) ⟨#[], #[.slice none 0 0], []⟩).memory :=
  laidMet_of_run' 8 (by kernel_rfl) (by kernel_rfl)
theorem reads (os : Os) {H : Type} (enc : TypeId × Value → H) : ∃ places, DataW.whole enc Tryd.prog ((laidWorld os).forCall (fun _ _ => 0) ⟨#[], #[.slice none 0 0], []⟩).memory Tryd.f7.params.toList Rows.fnTextsSpec.vars false #[Value.slice none 0 0].toList 8 = some ([.nil], [Rows.laid_loop_example_g00710_impl_fieldTable], places) :=
  ⟨MemPlace.row ⟨0, 0, none⟩ 27, by kernel_rfl⟩
set_option maxRecDepth 100000 in
theorem lifted (os : Os) (started : os.Started) (H : Type) (enc : TypeId × Value → H) (F : Stop.Interp) :
    ReturnsInHanded {} Tryd.checked os 7 .any ((OpenSpec.ofChange Rows.fnTextsSpec).preRow enc Tryd.prog Tryd.f7 Rows.fnTextsRow.domain false Rows.fnTextsRow.laid) (((OpenSpec.ofChange Rows.fnTextsSpec).at F).post enc Tryd.prog Tryd.f7 false true false false) := by
  obtain ⟨places, hx⟩ := reads os enc
  refine returnsInHanded_of_row (C := Tryd.checked) (s := OpenSpec.ofChange Rows.fnTextsSpec) own started (by kernel_rfl) Tryd.func7
    (witness_row_at (enc := enc) (C := Tryd.checked) false (laidWorld os) #[.slice none 0 0] rfl (by kernel_rfl) (by kernel_rfl) (by kernel_rfl)
      (OpenSpec.preRow_of_cond 8 hx (by kernel_rfl) (fun k hk => by cases hk) (by kernel_rfl) (laid_met os))) ?_
  intro W base args ds gs before hval hW _ _ _ hL _ _
  exact contract H enc W base args ds gs before hval hW hL
theorem closed : joinedFacts Tryd.prog 7 Tryd.f7 (OpenSpec.ofChange Rows.fnTextsSpec).bare Rows.fnTextsRow = true := by
  unfold joinedFacts
  exact both (both (both (both (both (both (both (both (both (both (both (both (both (both (both (both (both (both (both (both (both (both (both (both (both (both (both (both (both (both (both (by as_aux_lemma => kernel_rfl) f_laidOut) f_mapsRowed) (by as_aux_lemma => kernel_rfl)) (by as_aux_lemma => kernel_rfl)) (by as_aux_lemma => kernel_rfl)) f_stops) (by as_aux_lemma => kernel_rfl)) f_knobs) (by as_aux_lemma => kernel_rfl)) (by as_aux_lemma => kernel_rfl)) (by as_aux_lemma => kernel_rfl)) (by as_aux_lemma => kernel_rfl)) (by as_aux_lemma => kernel_rfl)) (by as_aux_lemma => kernel_rfl)) (by as_aux_lemma => kernel_rfl)) (by as_aux_lemma => kernel_rfl)) (by as_aux_lemma => kernel_rfl)) (by as_aux_lemma => kernel_rfl)) (by as_aux_lemma => kernel_rfl)) (by as_aux_lemma => kernel_rfl)) (by as_aux_lemma => kernel_rfl)) f_keys) (by as_aux_lemma => kernel_rfl)) f_heard) f_enter) f_lifts) f_make) (by as_aux_lemma => kernel_rfl)) (by as_aux_lemma => kernel_rfl)) (by as_aux_lemma => kernel_rfl)) (by as_aux_lemma => kernel_rfl)
theorem said : Rows.FnTextsSaid :=
  OpenClaim.holds_of_cond 7 Tryd.f7 rfl rfl rfl rfl rfl rfl rfl ⟨rfl, rfl, rfl, rfl, rfl⟩ rfl rfl rfl rfl rfl (by as_aux_lemma => kernel_rfl) Tryd.func7 closed
    (of_decide_eq_true (by as_aux_lemma => kernel_rfl)) (by unfold Func.isWrapper; rw [if_neg (by decide +kernel)]; exact ⟨rfl, rfl⟩)
    (fun os started H enc _ F => by rw [OpenClaim.pre_eq_preRow]; exact lifted os started H enc F)
theorem plain (f : FuncId) (fn : Func) (hf : Tryd.pinned.checked.prog.funcNamed "loop.example/g00710/laws.FnTexts" = some f) (hfn : Tryd.pinned.checked.prog.funcs[f]? = some fn) :
    false = Tryd.pinned.checked.prog.looks [] ∧ ∀ (j : Nat) t, fn.params[j]? = some t → Tryd.pinned.checked.prog.wantsStandIn t = false := by
  obtain rfl : f = 7 := Option.some.inj ((show Tryd.prog.funcNamed "loop.example/g00710/laws.FnTexts" = some 7 by kernel_rfl).symm.trans hf) |>.symm
  obtain rfl : fn = Tryd.f7 := (Option.some.inj (Tryd.func7.symm.trans hfn)).symm
  refine ⟨f_looks, fun j t ht => ?_⟩
  rw [Tryd.params7] at ht
  obtain rfl : t = 27 := by simpa using Array.mem_of_getElem? ht
  exact (show Tryd.prog.wantsStandIn 27 = false by kernel_rfl)
end Texts
theorem fnTexts_card : Rows.FnTextsCardSaid :=
  Claim7.holds_tied_plain_at .later [] _ _ _ _ Texts.said (fun _ h => by cases h) (by as_aux_lemma => kernel_rfl) (fun _ h => by cases h) fnTexts_row_tie rfl ⟨rfl, rfl⟩ f_main rfl Texts.plain (by as_aux_lemma => kernel_rfl)
end Go.Proofs.YtaapmpjkcddababDoor
