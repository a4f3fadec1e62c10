/-
  Rejoin of the digits that DigitParts gives is the vector, and every digit is less than the base, for every code that the law draws from; no condition but the card's own (the table of fields holds what its initialiser lays).
-/
import Derived.Test.YtfocdlkophdfoaaDoorJ2
import Derived.ChangeOld
import Derived.Below
import Derived.Carry
namespace Go.Proofs.YtfocdlkophdfoaaDoor
open Go.ChangeShapes Go.WideShapes Go.ChangeAt Go.RowKit
namespace Parts
theorem OwnSS.toSrc {W : World} {B : Nat} {a : Option Addr} {L : List (List Int)} {cap : Nat} (h : OwnSS W B a L cap) : SrcSS W a L := by
  rcases h with ⟨_, _, h⟩ | ⟨g, rfl, _, _, gs, h1, h2, _⟩
  · exact .inl h
  · refine .inr ⟨g, 0, rfl, h1.lt, fun d hd => ⟨some ⟨gs d, 0, none⟩, (L.getD d []).length, ?_, (h2 d hd).2.2.src⟩⟩
    rw [Nat.zero_add]
    exact World.rowIs.cell h1 hd
set_option maxRecDepth 100000 in
set_option maxHeartbeats 3200000 in
theorem walk (a0 : Option Addr) (len0 cap0 : Nat) (z0 : List Int) (w : World) (hrow : IsRow .u8 w a0 len0 cap0 z0) (ht : Tab w) : Calls Tryd.prog 3 #[.slice a0 len0 cap0] w fun e w' => e = .returned (.bool true) ∧ Below w.heap.size w w' := by
  by_cases hl : 1048576 < len0
  · go_enter Tryd.func3, Tryd.ntmps3
    go_wp2_with fail
    refine (big_yes a0 len0 cap0 w hl).mono ?_
    rintro e w' ⟨rfl, rfl⟩
    go_wp2
    go_ret
    exact ⟨rfl, Below.refl _ _⟩
  have hl2 : len0 ≤ 1048576 := by omega
  have hcode := code_of_row hrow (by omega)
  clear hl hrow
  go_enter Tryd.func3, Tryd.ntmps3
  go_wp2_with fail
  refine (big_no a0 len0 cap0 w hl2).mono ?_
  rintro e w' ⟨rfl, rfl⟩
  go_wp2_with fail
  refine (drawDigitParts_c a0 len0 cap0 w hl2 hcode).mono ?_
  rintro e w1 ⟨f, a, l, cap, b, c, rfl, hln, hs, b1⟩
  clear hcode
  have c1 := b1
  have R1 := Lib.hid (sDigitParts f a l cap b c w1 hln hs)
  have HV_1 := Lib.hid hs
  by_cases h : okPart f l b c
  rotate_left
  · have e1 : mDigitParts1 f l b c = false := by simp only [mDigitParts1, decide_eq_false_iff_not]; exact h
    clear hs h
    go_wp2_with fail
    refine R1.out.mono ?_
    rintro e w2 ⟨a2, cap2, rfl, s2, b2⟩
    rw [e1]
    have c2 := below_step c1 b2
    go_wp2
    go_ret
    exact ⟨rfl, c2⟩
  obtain ⟨C, rfl⟩ : ∃ C : Nat, c = C := ⟨c.toNat, by have := h.2.2.1; omega⟩
  have q1 : mDigitParts1 f l b C = true := by simp only [mDigitParts1, decide_eq_true_eq]; exact h
  have q2 : mDigitParts0 f l b C = (List.range C).map (digF8 l b) := by unfold mDigitParts0; rw [if_pos h, Int.toNat_natCast]
  have HPB := Lib.hid (parts_back h)
  rw [Int.toNat_natCast] at HPB
  obtain ⟨hv, hb, hc, _⟩ := h
  have hn0 := hv.pos.1
  have hn5 := hv.pos.2
  have hL : ((List.range C).map (digF8 l b)).length = C := parts_len l b C
  have HD : Hid (∀ d j, 0 ≤ lf (digF8 l b d) j ∧ lf (digF8 l b d) j < b) := Lib.hid fun d j => digF8_bd hb.1 d j
  have HOK : Hid ((∀ d j, d < C → j < l.length → lf (digF8 l b d) j < P f) → okJoin f ((List.range C).map (digF8 l b)) b) := Lib.hid fun hf => by
    refine ⟨hb, by rw [hL]; omega, fun d hd => ?_⟩
    rw [hL] at hd
    rw [part_get hd, part_get (show 0 < C by omega), digF8_len, digF8_len]
    refine ⟨⟨by rw [digF8_len]; exact hv.1, fun j hj => ?_⟩, rfl⟩
    rw [digF8_len] at hj
    exact ⟨(HD.out d j).1, hf d j hd hj⟩
  have hG : ∀ d, (((List.range C).map (digF8 l b)).getD d []).length ≤ 1048576 := fun d => by
    by_cases hd : d < C
    · rw [part_get hd, digF8_len]; omega
    · rw [List.getD_eq_getElem?_getD, List.getElem?_eq_none (by rw [hL]; omega)]; simp
  have HRJ : Hid (∀ (W : World) (a' : Option Addr) (k : Nat), SrcSS W a' ((List.range C).map (digF8 l b)) → Tab W → okJoin f ((List.range C).map (digF8 l b)) b → Calls Tryd.prog 11 #[.int .i64 f, .slice a' C k, .int .i64 b] W (OwnLB W l true)) := Lib.hid fun W a' k h1 h2 h3 => by
    have := iRejoin_on f b a' ((List.range C).map (digF8 l b)) k W h1 h2 h3 hG
    rwa [hL, HPB.out] at this
  have HDP : Hid (∀ (W : World) (a' : Option Addr) (k : Nat), Src W a' l.length (lf l) → Tab W → Calls Tryd.prog 8 #[.int .i64 f, .slice a' l.length k, .int .i64 b, .int .i64 C] W fun e w' => ∃ (g : Nat) (gs : Nat → Nat), e = .returned (.tuple #[.slice (some ⟨g, 0, none⟩) C C, .bool true]) ∧ SrcSS w' (some ⟨g, 0, none⟩) ((List.range C).map (digF8 l b)) ∧ (∀ d, d < C → w'.cell? ⟨g, d, none⟩ = some (.slice (some ⟨gs d, 0, none⟩) l.length l.length) ∧ Own w' (gs d) l.length (lf (digF8 l b d))) ∧ Below W.heap.size W w') := Lib.hid fun W a' k h1 h2 => by
    have := iDigitParts f a' l k b C W hln h1 h2
    rw [q1, q2] at this
    refine this.mono ?_
    rintro e w' ⟨a2, cap2, rfl, hO, hB⟩
    have hsrc := OwnSS.toSrc hO
    rcases hO with ⟨_, _, h0⟩ | ⟨g, rfl, rfl, _, gs, h1, h2, _⟩
    · rw [hL] at h0; omega
    · refine ⟨g, gs, by rw [hL], hsrc, fun d hd => ?_, hB⟩
      have e1 := World.rowIs.cell h1 (show d < ((List.range C).map (digF8 l b)).length by rw [hL]; exact hd)
      have e2 := (h2 d (by rw [hL]; exact hd)).2.2
      rw [part_get hd, digF8_len] at e1 e2
      exact ⟨e1, e2⟩
  have HQ1 := Lib.hid q1
  have HC1 : 1 ≤ C := by omega
  have HC2 : C ≤ 32 := by omega
  have hne : ((C : Int) != (C : Int)) = false := by simp
  clear hs q1 q2 hv hL hG HPB hc
  go_wp2_with fail
  refine R1.out.mono ?_
  rw [HQ1.out]
  rintro e w2 ⟨a2, cap2, rfl, s2, b2⟩
  have c2 := below_step c1 b2
  have HV_2 := Lib.hid (HV_1.out.keep b2)
  clear HV_1 s2 b2 c1 b1 R1 HQ1
  go_wp2_with fail
  refine (cp_l a l cap w2 hln HV_2.out).mono ?_
  rintro e w3 ⟨a3, cap3, rfl, sa3, b3⟩
  have c3 := below_step c2 b3
  have HV_3 := Lib.hid (HV_2.out.keep b3)
  have H3_3 := Lib.hid sa3
  clear HV_2 b3 c2 sa3
  go_wp2_with fail
  refine (HDP.out w3 a3 cap3 H3_3.out (ht.below c3)).mono ?_
  rintro e w4 ⟨g, gs, rfl, ss4, cc4, b4⟩
  have c4 := below_step c3 b4
  have HV_4 := Lib.hid (HV_3.out.keep b4)
  have HSS := Lib.hid ss4
  have HCC := Lib.hid cc4
  clear HV_3 H3_3 b4 c3 ss4 cc4 HDP
  obtain ⟨D, hD⟩ : ∃ D : Nat → Nat → Int, ∀ d, lf (digF8 l b d) = D d := ⟨_, fun _ => rfl⟩
  simp only [hD] at HD HOK HCC
  clear hD
  generalize ((List.range C).map (digF8 l b)) = LL at *
  obtain ⟨n, hn⟩ : ∃ n, l.length = n := ⟨_, rfl⟩
  rw [hn] at hn0 hn5
  simp only [hn] at HOK HCC
  have HN := Lib.hid hn
  clear hn
  go_wp2_with fail
  go_loopw [11, 12, 13] (fun ft dd _ wr => ∃ (B : Bool) (d : Nat), ft = .bool B ∧ dd = .int .i64 d ∧ d ≤ C ∧ Hid (B = true → ∀ t j, t < d → j < n → D t j < P f) ∧ Below w4.heap.size w4 wr) (fun _ dd _ _ => C - (intOf dd).toNat)
  case atStart => exact ⟨true, 0, rfl, rfl, Nat.zero_le _, Lib.hid fun _ t j ht => absurd ht (by omega), Below.refl _ _⟩
  case round =>
    obtain ⟨B, d, rfl, rfl, hdC, HB, hbw⟩ := hrel
    by_cases h1 : d < C
    · have hd1 : decide ((d : Int) < C) = true := decide_eq_true (by omega)
      have i1 : (0 : Int) ≤ (d : Int) := by omega
      have i2 : (d : Int) < (C : Int) := by omega
      have cd := (hbw.cell (p := ⟨g, d, none⟩) (cell_some (HCC.out d h1).1).2).trans (HCC.out d h1).1
      have HO := Lib.hid (HCC.out d h1).2
      have HB0 : Hid (B = true → (∀ t j, t < d → j < n → D t j < P f) ∧ ∀ s, s < 0 → D d s < P f) := Lib.hid fun hB => ⟨HB.out hB, fun s hs => absurd hs (by omega)⟩
      go_wp2_with fail
      go_loopw [11, 13] (fun ft jj wr => ∃ (B : Bool) (j : Nat), ft = .bool B ∧ jj = .int .i64 j ∧ j ≤ n ∧ Hid (B = true → (∀ t j, t < d → j < n → D t j < P f) ∧ ∀ s, s < j → D d s < P f) ∧ Below w4.heap.size w4 wr) (fun _ jj _ => n - (intOf jj).toNat)
      case atStart => exact ⟨B, 0, rfl, rfl, Nat.zero_le _, HB0, hbw⟩
      case round =>
        clear HB0 HB hbw
        obtain ⟨B, j, rfl, rfl, hjn, HB, hbw⟩ := hrel
        have cd := (hbw.cell (p := ⟨g, d, none⟩) (cell_some (HCC.out d h1).1).2).trans (HCC.out d h1).1
        by_cases h2 : j < n
        · have hd2 : decide ((j : Int) < n) = true := decide_eq_true (by omega)
          have i3 : (0 : Int) ≤ (j : Int) := by omega
          have i4 : (j : Int) < (n : Int) := by omega
          have cj := (hbw.cell (p := ⟨gs d, j, none⟩) HO.out.lt).trans (World.rowIs.cell HO.out h2)
          have hx := HD.out d j
          have HBN : Hid (∀ B2 : Bool, (B2 = true → B = true ∧ D d j < P f) → B2 = true → (∀ t j, t < d → j < n → D t j < P f) ∧ ∀ s, s < j + 1 → D d s < P f) := Lib.hid fun B2 hB2 h => by
            obtain ⟨h3, h4⟩ := hB2 h
            refine ⟨(HB.out h3).1, fun s hs => ?_⟩
            by_cases e : s = j
            · rw [e]; exact h4
            · exact (HB.out h3).2 s (by omega)
          generalize D d j = x at *
          have k1 : decide (x < 0) = false := decide_eq_false (by omega)
          have k2 : decide (b ≤ x) = false := decide_eq_false (by omega)
          clear HB
          cases B with
          | true =>
            go_wp2_with fail
            go_quiet ((go_at_call 10; exact quiet_left (sModulus f _)))
            go_wp2
            go_roundw
            case rel => exact ⟨decide (x < P f), j + 1, rfl, by go_num, by omega, Lib.hid (HBN.out _ fun h => ⟨by first | rfl | trivial, of_decide_eq_true h⟩), by first | exact hbw | exact below_drewN hbw _⟩
            case measure => simp [intOf]; omega
          | false =>
            go_wp2_with fail
            go_quiet ((go_at_call 10; exact quiet_left (sModulus f _)))
            go_wp2
            go_roundw
            case rel => exact ⟨false, j + 1, rfl, by go_num, by omega, Lib.hid (HBN.out _ fun h => by cases h), by first | exact hbw | exact below_drewN hbw _⟩
            case measure => simp [intOf]; omega
        · have hd2 : decide ((j : Int) < n) = false := decide_eq_false (by omega)
          obtain rfl : j = n := by omega
          have HBE : Hid (B = true → ∀ t s, t < d + 1 → s < j → D t s < P f) := Lib.hid fun h t s ht hs => by
            by_cases e : t = d
            · rw [e]; exact (HB.out h).2 s hs
            · exact (HB.out h).1 t s (by omega) hs
          clear HB
          go_wp2
          go_roundw
          case rel => exact ⟨B, d + 1, rfl, by go_num, by omega, HBE, hbw⟩
          case measure => simp [intOf]; omega
    · have hd1 : decide ((d : Int) < C) = false := decide_eq_false (by omega)
      obtain rfl : d = C := by omega
      have c4r := below_step c4 hbw
      have HVr := Lib.hid (HV_4.out.keep hbw)
      have HSSr := Lib.hid (HSS.out.keep hbw)
      clear HV_4 HSS c4 hbw
      cases B with
      | false =>
        clear HB
        go_wp2
        go_ret
        exact ⟨rfl, c4r⟩
      | true =>
        have hj := HOK.out fun t s ht hs => HB.out rfl t s ht hs
        have HR := Lib.hid (HRJ.out wr (some ⟨g, 0, none⟩) d HSSr.out (ht.below c4r) hj)
        clear HB HOK HRJ HSSr HCC hj HN
        go_wp2_with fail
        refine HR.out.mono ?_
        rintro e w5 ⟨a5, cap5, rfl, o5, b5⟩
        have c5 := below_step c4r b5
        have HV_5 := Lib.hid (HVr.out.keep b5)
        have H5 := Lib.hid o5.src
        clear HVr o5 b5 c4r HR
        go_wp2_with fail
        refine (sameZ a5 a l cap5 cap w5 hln H5.out HV_5.out).mono ?_
        rintro e w7 ⟨rfl, b7⟩
        have c7 := below_step c5 b7
        go_wp2
        go_ret
        exact ⟨rfl, c7⟩
set_option maxRecDepth 100000 in
theorem contract (H : Type) (enc : TypeId × Value → H) (W : World) (base : Nat) (args : Array Value) (ds gs : List (DataW H)) (before : List MemPlace)
    (hval : ∀ (j : Nat) t v, Tryd.f3.params[j]? = some t → args[j]? = some v → Value.okWide Tryd.prog W .any base t v)
    (hW : DataW.Whole enc Tryd.prog Tryd.f3.params.toList Rows.fnPartsSpec.vars false W args.toList ds gs before) (hL : laidMetH Tryd.prog Rows.fnPartsRow.laid W) :
    Calls Tryd.prog 3 args W fun e W' => ∃ v, e = .returned v ∧ Rows.fnPartsSpec.post enc Tryd.prog Tryd.f3 false true false false W args v W' := by
  have hvar := table_var hL
  have hW' := hW
  obtain ⟨p, q, hA0, hV, rfl, hfz, hnd⟩ := hW
  have hA : DataW.TrodAll enc Tryd.prog W 0 (fun _ => true) true Tryd.f3.params.toList args.toList ds p := hA0
  rw [Tryd.params3] at hA hval
  obtain ⟨v0, vs0, d0, ds0, p0, q0, hargs, rfl, rfl, h0, r0⟩ := trodAll_cons hA
  obtain ⟨rfl, rfl, rfl⟩ := trodAll_nil r0
  obtain rfl : args = #[v0] := by cases args; simp_all
  obtain ⟨rfl, rfl⟩ := DataW.TrodVars.unique hV (tab_vars enc (fun _ => true) hvar)
  obtain ⟨a0, len0, cap0, rfl⟩ := okWide_slice Tryd.underlying22 (hval 0 22 v0 rfl rfl)
  have k0 := h0
  have lt0 : ∀ x ∈ p0, x.block < W.heap.size := by obtain ⟨m, hm⟩ := k0; exact DataW.trod_lt m _ _ _ hm
  obtain ⟨z0, w0⟩ : ∃ zs, IsRow .u8 W a0 len0 cap0 zs := by
    obtain ⟨fuel, hf⟩ := h0
    rcases open_ints Tryd.underlying22 Tryd.underlying5 (by kernel_rfl) hf with ⟨hcs, _⟩ | ⟨x, l, c, zs, hcs, _, hl, hm, hz, _, hcell, hwz⟩
    · simp [Value.cells] at hcs
      obtain ⟨rfl, rfl, rfl⟩ := hcs
      exact ⟨[], .inl ⟨rfl, rfl, rfl, rfl⟩⟩
    · simp [Value.cells] at hcs
      obtain ⟨rfl, rfl, rfl⟩ := hcs
      exact ⟨zs, .inr ⟨_, rfl, hl, hm, by simpa using hz, hcell, hwz⟩⟩
  clear hA0
  refine (walk a0 len0 cap0 z0 W w0 (tab_of hvar)).mono fun e W' ⟨he, bel⟩ => ?_
  subst he
  exact ⟨_, rfl, _, _, _, [], _, _, hW', trodAll_mk1 (shut_bool Tryd.underlying4 _), (trodAll_cons_mk (Below.trod f_laidOut (by kernel_rfl) (of_decide_eq_true (by kernel_rfl)) k0 bel lt0) trodAll_mk0), tab_vars enc _ (below_var bel hvar), bel.frame _, fun h => by cases h⟩
theorem laid_met (os : Os) : laidMet Tryd.prog Rows.fnPartsRow.laid ((laidWorld os).forCall (fun _ _ => 0) ⟨#[], #[.slice none 0 0], []⟩).memory :=
  laidMet_of_run' 8 (by kernel_rfl) (by kernel_rfl)
theorem reads (os : Os) {H : Type} (enc : TypeId × Value → H) : ∃ places, DataW.whole enc Tryd.prog ((laidWorld os).forCall (fun _ _ => 0) ⟨#[], #[.slice none 0 0], []⟩).memory Tryd.f3.params.toList Rows.fnPartsSpec.vars false #[Value.slice none 0 0].toList 8 = some ([.nil], [Rows.laid_loop_example_g00710_impl_fieldTable], places) :=
  ⟨MemPlace.row ⟨0, 0, none⟩ 27, by kernel_rfl⟩
set_option maxRecDepth 100000 in
theorem lifted (os : Os) (started : os.Started) (H : Type) (enc : TypeId × Value → H) (F : Stop.Interp) :
    ReturnsInHanded {} Tryd.checked os 3 .any ((OpenSpec.ofChange Rows.fnPartsSpec).preRow enc Tryd.prog Tryd.f3 Rows.fnPartsRow.domain false Rows.fnPartsRow.laid) (((OpenSpec.ofChange Rows.fnPartsSpec).at F).post enc Tryd.prog Tryd.f3 false true false false) := by
  obtain ⟨places, hx⟩ := reads os enc
  refine returnsInHanded_of_row (C := Tryd.checked) (s := OpenSpec.ofChange Rows.fnPartsSpec) own started (by kernel_rfl) Tryd.func3
    (witness_row_at (enc := enc) (C := Tryd.checked) false (laidWorld os) #[.slice none 0 0] rfl (by kernel_rfl) (by kernel_rfl) (by kernel_rfl)
      (OpenSpec.preRow_of_cond 8 hx (by kernel_rfl) (fun k hk => by cases hk) (by kernel_rfl) (laid_met os))) ?_
  intro W base args ds gs before hval hW _ _ _ hL _ _
  exact contract H enc W base args ds gs before hval hW hL
theorem closed : joinedFacts Tryd.prog 3 Tryd.f3 (OpenSpec.ofChange Rows.fnPartsSpec).bare Rows.fnPartsRow = true := by
  unfold joinedFacts
  exact both (both (both (both (both (both (both (both (both (both (both (both (both (both (both (both (both (both (both (both (both (both (both (both (both (both (both (both (both (both (both (by as_aux_lemma => kernel_rfl) f_laidOut) f_mapsRowed) (by as_aux_lemma => kernel_rfl)) (by as_aux_lemma => kernel_rfl)) (by as_aux_lemma => kernel_rfl)) f_stops) (by as_aux_lemma => kernel_rfl)) f_knobs) (by as_aux_lemma => kernel_rfl)) (by as_aux_lemma => kernel_rfl)) (by as_aux_lemma => kernel_rfl)) (by as_aux_lemma => kernel_rfl)) (by as_aux_lemma => kernel_rfl)) (by as_aux_lemma => kernel_rfl)) (by as_aux_lemma => kernel_rfl)) (by as_aux_lemma => kernel_rfl)) (by as_aux_lemma => kernel_rfl)) (by as_aux_lemma => kernel_rfl)) (by as_aux_lemma => kernel_rfl)) (by as_aux_lemma => kernel_rfl)) (by as_aux_lemma => kernel_rfl)) f_keys) (by as_aux_lemma => kernel_rfl)) f_heard) f_enter) f_lifts) f_make) (by as_aux_lemma => kernel_rfl)) (by as_aux_lemma => kernel_rfl)) (by as_aux_lemma => kernel_rfl)) (by as_aux_lemma => kernel_rfl)
theorem said : Rows.FnPartsSaid :=
  OpenClaim.holds_of_cond 3 Tryd.f3 rfl rfl rfl rfl rfl rfl rfl ⟨rfl, rfl, rfl, rfl, rfl⟩ rfl rfl rfl rfl rfl (by as_aux_lemma => kernel_rfl) Tryd.func3 closed
    (of_decide_eq_true (by as_aux_lemma => kernel_rfl)) (by unfold Func.isWrapper; rw [if_neg (by decide +kernel)]; exact ⟨rfl, rfl⟩)
    (fun os started H enc _ F => by rw [OpenClaim.pre_eq_preRow]; exact lifted os started H enc F)
theorem plain (f : FuncId) (fn : Func) (hf : Tryd.pinned.checked.prog.funcNamed "loop.example/g00710/laws.FnParts" = some f) (hfn : Tryd.pinned.checked.prog.funcs[f]? = some fn) :
    false = Tryd.pinned.checked.prog.looks [] ∧ ∀ (j : Nat) t, fn.params[j]? = some t → Tryd.pinned.checked.prog.wantsStandIn t = false := by
  obtain rfl : f = 3 := Option.some.inj ((show Tryd.prog.funcNamed "loop.example/g00710/laws.FnParts" = some 3 by kernel_rfl).symm.trans hf) |>.symm
  obtain rfl : fn = Tryd.f3 := (Option.some.inj (Tryd.func3.symm.trans hfn)).symm
  refine ⟨f_looks, fun j t ht => ?_⟩
  rw [Tryd.params3] at ht
  obtain rfl : t = 22 := by simpa using Array.mem_of_getElem? ht
  exact (show Tryd.prog.wantsStandIn 22 = false by kernel_rfl)
end Parts
theorem fnParts_card : Rows.FnPartsCardSaid :=
  Claim7.holds_tied_plain_at .later [] _ _ _ _ Parts.said (fun _ h => by cases h) (by as_aux_lemma => kernel_rfl) (fun _ h => by cases h) fnParts_row_tie rfl ⟨rfl, rfl⟩ f_main rfl Parts.plain (by as_aux_lemma => kernel_rfl)
end Go.Proofs.YtfocdlkophdfoaaDoor
