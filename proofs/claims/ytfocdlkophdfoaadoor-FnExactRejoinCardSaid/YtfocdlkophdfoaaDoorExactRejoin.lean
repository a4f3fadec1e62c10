/-
  For every argument the program's Rejoin answers as the specification's model of it, writes into no argument and answers in memory of its own; no condition but the card's own (the table of fields holds what its initialiser lays).
-/
import Derived.Test.YtfocdlkophdfoaaDoorJ2
import Derived.ChangeOld
import Derived.Below
import Derived.Carry
namespace Go.Proofs.YtfocdlkophdfoaaDoor
open Go.ChangeShapes Go.WideShapes Go.ChangeAt Go.RowKit
namespace ExactRejoin
theorem Tween.low {u W W' : World} {B B0 B1 : Nat} (h : Tween B0 B1 W W') (hb : Below B u W) (hB : B ≤ B0) (hs : B ≤ W.heap.size) : Below B u W' :=
  hb.trans ⟨h.1.1, h.1.2.1, h.1.2.2, h.2.1, fun i hi => h.2.2 i (by omega) (.inl (by omega))⟩
theorem len_rejoin (f : Int) (L : List (List Int)) (b : Int) (h : FitsSS L) : (mRejoin0 f L b).length ≤ 1048576 := by
  unfold mRejoin0
  split
  · unfold joL
    rw [tab_len]
    exact h.row 0
  · simp
set_option maxRecDepth 100000 in
set_option maxHeartbeats 6400000 in
theorem walk (f0 : Int) (a1 : Option Addr) (l1 : List (List Int)) (cap1 : Nat) (f2 : Int) (w : World) (hs1 : SrcSS w a1 l1) (m1 : l1.length ≤ maxLen) (r1 : ∀ d, (l1.getD d []).length ≤ maxLen) (ht : Tab w) :
    Calls Tryd.prog 4 #[.int .i64 f0, .slice a1 l1.length cap1, .int .i64 f2] w fun e w' => e = .returned (.bool true) ∧ Below w.heap.size w w' := by
  have HSZ := Lib.hid (szIntSS_c a1 l1 cap1 w hs1 (by unfold maxLen at m1; omega) (fun d => by have := r1 d; unfold maxLen at this; omega))
  have HS1 := Lib.hid hs1
  clear m1 r1 hs1
  have HTO : Hid (FitsSS l1 → ∀ W, Below w.heap.size w W → Calls Tryd.prog 15 #[.slice a1 l1.length cap1] W (OwnSSP W l1)) := Lib.hid fun hf W hW => toIntSS_c a1 l1 cap1 W (HS1.out.keep hW) hf
  have HSR : Hid (FitsSS l1 → ∀ W a, SrcSS W a l1 → Calls Tryd.prog 14 #[.int .i64 f0, .slice a l1.length l1.length, .int .i64 f2] W (ListLB W (mRejoin0 f0 l1 f2) (mRejoin1 f0 l1 f2))) := Lib.hid fun hf W a h => sRejoin f0 a l1 l1.length f2 W h hf.row
  have HIR : Hid (FitsSS l1 → ∀ W a, SrcSS W a l1 → Tab W → Calls Tryd.prog 11 #[.int .i64 f0, .slice a l1.length l1.length, .int .i64 f2] W (OwnLB W (mRejoin0 f0 l1 f2) (mRejoin1 f0 l1 f2))) := Lib.hid fun hf W a h h2 => iRejoin f0 a l1 l1.length f2 W (by unfold FitsSS at hf; omega) hf.row h h2
  have HEQ : Hid (FitsSS l1 → ∀ W a a2, SrcSS W a l1 → SrcSS W a2 l1 → Calls Tryd.prog 17 #[.slice a l1.length l1.length, .slice a2 l1.length l1.length] W (TrueP W)) := Lib.hid fun hf W a a2 h h2 => eqL a a2 l1 l1.length l1.length W hf h h2
  have HSRC : Hid (∀ W B g, LaidS W B g l1.length l1.length l1 → SrcSS W (some ⟨g, 0, none⟩) l1) := Lib.hid fun W B g h => h.src rfl
  have HMK : Hid (FitsSS l1 → ∀ W W2 B g, LaidS W B g l1.length l1.length l1 → Below W.heap.size W W2 → Calls Tryd.prog 18 #[.slice (some ⟨g, 0, none⟩) l1.length l1.length, .int .i64 1] W2 fun e w' => ∃ k : Int, e = .returned (.int .i64 k) ∧ 0 ≤ k ∧ Tween B W.heap.size W2 w') := Lib.hid fun hf W W2 B g h hb => by
    obtain ⟨gs, h1, h2, h3⟩ := h
    refine markL B W.heap.size g gs l1 W2 hf (RowsW.keep ⟨World.rowIs.congr h1 fun t ht => if_pos ht, fun t ht => ⟨(h2 t ht).1, (h2 t ht).2.2.lt, (h2 t ht).2.1, _, (h2 t ht).2.2⟩⟩ hb) fun s t hs ht e => ?_
    rcases Nat.decEq s t with hne | he
    · exact absurd e (h3 s t hs ht hne)
    · exact he
  have HN := Lib.hid (len_rejoin f0 l1 f2)
  have e1 : (mRejoin1 f0 l1 f2 != mRejoin1 f0 l1 f2) = false := by simp
  generalize mRejoin1 f0 l1 f2 = ok at *
  generalize mRejoin0 f0 l1 f2 = R at *
  go_enter Tryd.func4, Tryd.ntmps4
  go_wp2_with fail
  refine HSZ.out.mono ?_
  rintro e w' ⟨rfl, r, rfl, hr⟩
  by_cases h0 : r < 0
  · have d0 : decide (r < 0) = true := decide_eq_true h0
    clear hr
    go_wp2
    go_ret
    exact ⟨rfl, Below.refl _ _⟩
  have d0 : decide (r < 0) = false := decide_eq_false h0
  have HFT := Lib.hid (hr (by omega))
  have hR := HN.out HFT.out
  clear hr HSZ HN
  go_wp2_with fail
  refine (HTO.out HFT.out w (Below.refl _ _)).mono ?_
  rintro e w1 ⟨gp1, rfl, _, t1, b1⟩
  have z_b1 := b1.size
  have HA1 := Lib.hid (HSRC.out _ _ _ t1)
  clear t1
  go_wp2_with fail
  refine (HSR.out HFT.out w1 _ HA1.out).mono ?_
  rintro e w2 ⟨as0, caps0, rfl, ss0, b2⟩
  have z_b2 := b2.size
  have c2w := below_up b1 b2 b1.size
  have HSS := Lib.hid ss0
  have c2S := Below.refl w2.heap.size w2
  clear ss0 b1 b2 HA1
  go_wp2_with fail
  refine (HTO.out HFT.out w2 c2w).mono ?_
  rintro e w3 ⟨gx, rfl, hgx, t3, b3⟩
  have z_b3 := b3.size
  have c3w := below_up c2w b3 c2w.size
  have c3S := below_up c2S b3 c2S.size
  have HX3 := Lib.hid t3
  clear c2w c2S t3
  go_wp2_with fail
  refine (HIR.out HFT.out w3 _ (HSRC.out _ _ _ HX3.out) (ht.below c3w)).mono ?_
  rintro e w4 ⟨ag0, capg0, rfl, og, b4⟩
  have z_b4 := b4.size
  have c4w := below_up c3w b4 c3w.size
  have c4S := below_up c3S b4 c3S.size
  have c43 := b4
  have HG4 := Lib.hid og
  clear c3w c3S og
  go_wp2_with fail
  refine (eq_l ag0 as0 R capg0 caps0 w4 hR HG4.out.src (HSS.out.keep c4S)).mono ?_
  rintro e w5 ⟨rfl, b5⟩
  have z_b5 := b5.size
  have c5w := below_up c4w b5 c4w.size
  have c5S := below_up c4S b5 c4S.size
  have c53 := below_up c43 b5 c43.size
  have HG5 := Lib.hid (HG4.out.keep b5)
  clear c4w c4S c43 HG4
  go_wp2_with fail
  refine (HTO.out HFT.out w5 c5w).mono ?_
  rintro e w6 ⟨gy, rfl, hgy, t6, b6⟩
  have z_b6 := b6.size
  have c6w := below_up c5w b6 c5w.size
  have c6S := below_up c5S b6 c5S.size
  have c63 := below_up c53 b6 c53.size
  have HG6 := Lib.hid (HG5.out.keep b6)
  have HY := Lib.hid (HSRC.out _ _ _ t6)
  have HX6 := Lib.hid ((HSRC.out _ _ _ HX3.out).keep c63)
  clear c5w c5S c53 HG5 t6
  go_wp2_with fail
  refine (HEQ.out HFT.out w6 _ _ HX6.out HY.out).mono ?_
  rintro e w7 ⟨rfl, b7⟩
  have z_b7 := b7.size
  have c7w := below_up c6w b7 c6w.size
  have c7S := below_up c6S b7 c6S.size
  have c73 := below_up c63 b7 c63.size
  have HG7 := Lib.hid (HG6.out.keep b7)
  have HM7 := Lib.hid (HMK.out HFT.out w3 w7 _ _ HX3.out c73)
  clear c6w c6S c63 HG6 HY HX6 HX3
  go_wp2_with fail
  refine HM7.out.mono ?_
  rintro e w8 ⟨k8, rfl, hk8, tw⟩
  have dk : decide (k8 < 0) = false := decide_eq_false (by omega)
  have c8w : Below w.heap.size w w8 := Tween.low tw c7w (by omega) (by omega)
  have c8S : Below w2.heap.size w2 w8 := Tween.low tw c7S (by omega) (by omega)
  have HG8 := Lib.hid (tw.own HG7.out (Nat.le_refl _))
  have z_b8 := tw.2.1
  clear c7w c7S c73 HG7 HM7 tw HMK
  go_wp2_with fail
  refine (eq_l ag0 as0 R capg0 caps0 w8 hR HG8.out.src (HSS.out.keep c8S)).mono ?_
  rintro e w9 ⟨rfl, b9⟩
  have z_b9 := b9.size
  have c9w := below_up c8w b9 c8w.size
  have c9S := below_up c8S b9 c8S.size
  have HG9 := Lib.hid (HG8.out.keep b9)
  clear c8w c8S HG8
  go_wp2_with fail
  refine (mark_l w3.heap.size ag0 R capg0 1 w9 hR (by omega) (by omega) HG9.out).mono ?_
  rintro e w10 ⟨rfl, m10, g10⟩
  have z_g10 := g10.size
  have c10w := g10.below HG9.out (show w.heap.size ≤ w3.heap.size by omega) c9w c9w.size
  have c10S := g10.below HG9.out (show w2.heap.size ≤ w3.heap.size by omega) c9S c9S.size
  have HM10 := Lib.hid m10
  clear c9w c9S HG9 m10 g10
  go_wp2_with fail
  refine (held_l w3.heap.size ag0 R.length capg0 1 w10 hR (by omega) (by omega) HM10.out).mono ?_
  rintro e w' ⟨rfl, rfl⟩
  have hne : ((1 + (R.length : Int)) != 1 + (R.length : Int)) = false := by simp
  have hk0 : decide (1 + (R.length : Int) < 0) = false := decide_eq_false (by omega)
  go_wp2_with fail
  refine (HTO.out HFT.out w10 c10w).mono ?_
  rintro e w11 ⟨gu, rfl, hgu, t11, b11⟩
  have z_b11 := b11.size
  have c11w := below_up c10w b11 c10w.size
  have c11S := below_up c10S b11 c10S.size
  have HM11 := Lib.hid (HM10.out.keep b11)
  have HU := Lib.hid (HSRC.out _ _ _ t11)
  clear c10w c10S HM10 t11
  go_wp2_with fail
  refine (HIR.out HFT.out w11 _ HU.out (ht.below c11w)).mono ?_
  rintro e w12 ⟨ah0, caph0, rfl, oh, b12⟩
  have z_b12 := b12.size
  have c12w := below_up c11w b12 c11w.size
  have c12S := below_up c11S b12 c11S.size
  have HM12 := Lib.hid (HM11.out.keep b12)
  have HH := Lib.hid oh.src
  clear c11w c11S HM11 oh HU
  go_wp2_with fail
  refine (eq_l ah0 as0 R caph0 caps0 w12 hR HH.out (HSS.out.keep c12S)).mono ?_
  rintro e w13 ⟨rfl, b13⟩
  have c13w := below_up c12w b13 c12w.size
  have HM13 := Lib.hid (HM12.out.keep b13)
  clear c12w c12S HM12 HH
  go_wp2_with fail
  refine (held_l w3.heap.size ag0 R.length capg0 1 w13 hR (by omega) (by omega) HM13.out).mono ?_
  rintro e w' ⟨rfl, rfl⟩
  go_wp2
  go_ret
  exact ⟨rfl, c13w⟩
set_option maxRecDepth 100000 in
theorem contract (H : Type) (enc : TypeId × Value → H) (W : World) (base : Nat) (args : Array Value) (ds gs : List (DataW H)) (before : List MemPlace)
    (hval : ∀ (j : Nat) t v, Tryd.f4.params[j]? = some t → args[j]? = some v → Value.okWide Tryd.prog W .any base t v)
    (hW : DataW.Whole enc Tryd.prog Tryd.f4.params.toList Rows.fnExactRejoinSpec.vars false W args.toList ds gs before) (hL : laidMetH Tryd.prog Rows.fnExactRejoinRow.laid W) :
    Calls Tryd.prog 4 args W fun e W' => ∃ v, e = .returned v ∧ Rows.fnExactRejoinSpec.post enc Tryd.prog Tryd.f4 false true false false W args v W' := by
  have hvar := table_var hL
  have hW' := hW
  obtain ⟨p, q, hA0, hV, rfl, hfz, hnd⟩ := hW
  have hA : DataW.TrodAll enc Tryd.prog W 0 (fun _ => true) true Tryd.f4.params.toList args.toList ds p := hA0
  rw [Tryd.params4] at hA hval
  obtain ⟨v0, vs0, d0, ds0, p0, q0, hargs, rfl, rfl, h0, r0⟩ := trodAll_cons hA
  obtain ⟨v1, vs1, d1, ds1, p1, q1, rfl, rfl, rfl, h1, r1⟩ := trodAll_cons r0
  obtain ⟨v2, vs2, d2, ds2, p2, q2, rfl, rfl, rfl, h2, r2⟩ := trodAll_cons r1
  obtain ⟨rfl, rfl, rfl⟩ := trodAll_nil r2
  obtain rfl : args = #[v0, v1, v2] := by cases args; simp_all
  obtain ⟨rfl, rfl⟩ := DataW.TrodVars.unique hV (tab_vars enc (fun _ => true) hvar)
  obtain ⟨a0, rfl, rfl, rfl, w0⟩ := open_int Tryd.underlying3 (hval 0 3 v0 rfl rfl) h0
  obtain ⟨a1, len1, cap1, rfl⟩ := okWide_slice Tryd.underlying27 (hval 1 27 v1 rfl rfl)
  have k1 := h1
  have lt1 : ∀ x ∈ p1, x.block < W.heap.size := by obtain ⟨m, hm⟩ := k1; exact DataW.trod_lt m _ _ _ hm
  obtain ⟨L1, rfl, w1, m1, n1⟩ : ∃ L : List (List Int), L.length = len1 ∧ SrcSS W a1 L ∧ len1 ≤ maxLen ∧ ∀ d, (L.getD d []).length ≤ maxLen := by obtain ⟨fuel, hf⟩ := h1; exact rows_of hf
  obtain ⟨a2, rfl, rfl, rfl, w2⟩ := open_int Tryd.underlying3 (hval 2 3 v2 rfl rfl) h2
  clear hA0
  refine (walk a0 a1 L1 cap1 a2 W w1 m1 n1 (tab_of hvar)).mono fun e W' ⟨he, bel⟩ => ?_
  subst he
  exact ⟨_, rfl, _, _, _, [], _, _, hW', trodAll_mk1 (shut_bool Tryd.underlying4 _), (trodAll_cons_mk (shut_int Tryd.underlying3 w0) (trodAll_cons_mk (Below.trod f_laidOut (by kernel_rfl) (of_decide_eq_true (by kernel_rfl)) k1 bel lt1) (trodAll_cons_mk (shut_int Tryd.underlying3 w2) trodAll_mk0))), tab_vars enc _ (below_var bel hvar), bel.frame _, fun h => by cases h⟩
theorem laid_met (os : Os) : laidMet Tryd.prog Rows.fnExactRejoinRow.laid ((laidWorld os).forCall (fun _ _ => 0) ⟨#[], #[.int .i64 0, .slice none 0 0, .int .i64 0], []⟩).memory :=
  laidMet_of_run' 8 (by kernel_rfl) (by kernel_rfl)
theorem reads (os : Os) {H : Type} (enc : TypeId × Value → H) : ∃ places, DataW.whole enc Tryd.prog ((laidWorld os).forCall (fun _ _ => 0) ⟨#[], #[.int .i64 0, .slice none 0 0, .int .i64 0], []⟩).memory Tryd.f4.params.toList Rows.fnExactRejoinSpec.vars false #[Value.int .i64 0, Value.slice none 0 0, Value.int .i64 0].toList 8 = some ([.lit (.int .i64 0), .nil, .lit (.int .i64 0)], [Rows.laid_loop_example_g00710_impl_fieldTable], places) :=
  ⟨MemPlace.row ⟨0, 0, none⟩ 27, by kernel_rfl⟩
set_option maxRecDepth 100000 in
theorem lifted (os : Os) (started : os.Started) (H : Type) (enc : TypeId × Value → H) (F : Stop.Interp) :
    ReturnsInHanded {} Tryd.checked os 4 .any ((OpenSpec.ofChange Rows.fnExactRejoinSpec).preRow enc Tryd.prog Tryd.f4 Rows.fnExactRejoinRow.domain false Rows.fnExactRejoinRow.laid) (((OpenSpec.ofChange Rows.fnExactRejoinSpec).at F).post enc Tryd.prog Tryd.f4 false true false false) := by
  obtain ⟨places, hx⟩ := reads os enc
  refine returnsInHanded_of_row (C := Tryd.checked) (s := OpenSpec.ofChange Rows.fnExactRejoinSpec) own started (by kernel_rfl) Tryd.func4
    (witness_row_at (enc := enc) (C := Tryd.checked) false (laidWorld os) #[.int .i64 0, .slice none 0 0, .int .i64 0] rfl (by kernel_rfl) (by kernel_rfl) (by kernel_rfl)
      (OpenSpec.preRow_of_cond 8 hx (by kernel_rfl) (fun k hk => by cases hk) (by kernel_rfl) (laid_met os))) ?_
  intro W base args ds gs before hval hW _ _ _ hL _ _
  exact contract H enc W base args ds gs before hval hW hL
theorem closed : joinedFacts Tryd.prog 4 Tryd.f4 (OpenSpec.ofChange Rows.fnExactRejoinSpec).bare Rows.fnExactRejoinRow = true := by
  unfold joinedFacts
  exact both (both (both (both (both (both (both (both (both (both (both (both (both (both (both (both (both (both (both (both (both (both (both (both (both (both (both (both (both (both (both (by as_aux_lemma => kernel_rfl) f_laidOut) f_mapsRowed) (by as_aux_lemma => kernel_rfl)) (by as_aux_lemma => kernel_rfl)) (by as_aux_lemma => kernel_rfl)) f_stops) (by as_aux_lemma => kernel_rfl)) f_knobs) (by as_aux_lemma => kernel_rfl)) (by as_aux_lemma => kernel_rfl)) (by as_aux_lemma => kernel_rfl)) (by as_aux_lemma => kernel_rfl)) (by as_aux_lemma => kernel_rfl)) (by as_aux_lemma => kernel_rfl)) (by as_aux_lemma => kernel_rfl)) (by as_aux_lemma => kernel_rfl)) (by as_aux_lemma => kernel_rfl)) (by as_aux_lemma => kernel_rfl)) (by as_aux_lemma => kernel_rfl)) (by as_aux_lemma => kernel_rfl)) (by as_aux_lemma => kernel_rfl)) f_keys) (by as_aux_lemma => kernel_rfl)) f_heard) f_enter) f_lifts) f_make) (by as_aux_lemma => kernel_rfl)) (by as_aux_lemma => kernel_rfl)) (by as_aux_lemma => kernel_rfl)) (by as_aux_lemma => kernel_rfl)
theorem said : Rows.FnExactRejoinSaid :=
  OpenClaim.holds_of_cond 4 Tryd.f4 rfl rfl rfl rfl rfl rfl rfl ⟨rfl, rfl, rfl, rfl, rfl⟩ rfl rfl rfl rfl rfl (by as_aux_lemma => kernel_rfl) Tryd.func4 closed
    (of_decide_eq_true (by as_aux_lemma => kernel_rfl)) (by unfold Func.isWrapper; rw [if_neg (by decide +kernel)]; exact ⟨rfl, rfl⟩)
    (fun os started H enc _ F => by rw [OpenClaim.pre_eq_preRow]; exact lifted os started H enc F)
theorem plain (f : FuncId) (fn : Func) (hf : Tryd.pinned.checked.prog.funcNamed "loop.example/g00710/laws.FnExactRejoin" = some f) (hfn : Tryd.pinned.checked.prog.funcs[f]? = some fn) :
    false = Tryd.pinned.checked.prog.looks [] ∧ ∀ (j : Nat) t, fn.params[j]? = some t → Tryd.pinned.checked.prog.wantsStandIn t = false := by
  obtain rfl : f = 4 := Option.some.inj ((show Tryd.prog.funcNamed "loop.example/g00710/laws.FnExactRejoin" = some 4 by kernel_rfl).symm.trans hf) |>.symm
  obtain rfl : fn = Tryd.f4 := (Option.some.inj (Tryd.func4.symm.trans hfn)).symm
  refine ⟨f_looks, fun j t ht => ?_⟩
  rw [Tryd.params4] at ht
  have hm := Array.mem_of_getElem? ht
  have hm2 : t = 3 ∨ t = 27 ∨ t = 3 := by simpa using hm
  rcases hm2 with rfl | rfl | rfl
  · exact (show Tryd.prog.wantsStandIn 3 = false by kernel_rfl)
  · exact (show Tryd.prog.wantsStandIn 27 = false by kernel_rfl)
  · exact (show Tryd.prog.wantsStandIn 3 = false by kernel_rfl)
end ExactRejoin
theorem fnExactRejoin_card : Rows.FnExactRejoinCardSaid :=
  Claim7.holds_tied_plain_at .later [] _ _ _ _ ExactRejoin.said (fun _ h => by cases h) (by as_aux_lemma => kernel_rfl) (fun _ h => by cases h) fnExactRejoin_row_tie rfl ⟨rfl, rfl⟩ f_main rfl ExactRejoin.plain (by as_aux_lemma => kernel_rfl)
end Go.Proofs.YtfocdlkophdfoaaDoor
