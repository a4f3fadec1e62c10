/-
  For every argument the program's Automorph answers as the specification's model of it, writes into no argument and answers in memory of its own; no condition but the card's own (the table of fields holds what its initialiser lays).
-/
import Derived.Test.YtoonpnfhcmghmaaDoorJ4
import Derived.ChangeOld
import Derived.Below
import Derived.Carry
namespace Go.Proofs.YtoonpnfhcmghmaaDoor
open Go.ChangeShapes Go.WideShapes Go.ChangeAt Go.RowKit
namespace ExactAutomorph
set_option maxRecDepth 100000 in
set_option maxHeartbeats 6400000 in
theorem walk_on (f0 : Int) (a1 : Option Addr) (l1 : List Int) (cap1 : Nat) (f2 : Int) (w : World) (hs1 : Src w a1 l1.length (lf l1)) (n1 : l1.length ≤ 1048576) (ht : Tab w) :
    Calls Tryd.prog 11 #[.int .i64 f0, .slice a1 l1.length cap1, .int .i64 f2] w fun e w' => e = .returned (.bool true) ∧ Below w.heap.size w w' := by
  have hd1 : decide ((1048576 : Int) < l1.length) = false := by simp; omega
  have L0 := len_mAutomorph f0 l1 f2 n1
  have hne : ((1 + (mAutomorph f0 l1 f2).length : Int) != 1 + (mAutomorph f0 l1 f2).length) = false := by simp
  go_enter Tryd.func11, Tryd.ntmps11
  go_wp2_with fail
  refine (toInt_l a1 l1 cap1 w n1 hs1).mono ?_
  rintro e w1 ⟨ap1, capp1, rfl, t1, b1⟩
  have z_b1 := b1.size
  have c1w := b1
  go_wp2_with fail
  refine (sAutomorph f0 ap1 l1 capp1 f2 w1 n1 t1.src).mono ?_
  rintro e w2 ⟨as0, caps0, rfl, ss0, b2⟩
  have z_b2 := b2.size
  clear t1
  have c2w := below_up c1w b2 c1w.size
  clear c1w
  have c2S := Below.refl w2.heap.size w2
  go_wp2_with fail
  refine (toInt_l a1 l1 cap1 w2 n1 (hs1.keep c2w)).mono ?_
  rintro e w3 ⟨ax1, capx1, rfl, t3, b3⟩
  have z_b3 := b3.size
  have L_x1 := t3.lies
  have c3w := below_up c2w b3 c2w.size
  have c3S := below_up c2S b3 c2S.size
  clear c2w c2S
  go_wp2_with fail
  refine (iAutomorph f0 ax1 l1 capx1 f2 w3 n1 t3.src (ht.below c3w)).mono ?_
  rintro e w4 ⟨ag0, capg0, rfl, rg0, b4⟩
  have z_b4 := b4.size
  have c4w := below_up c3w b4 c3w.size
  have c4S := below_up c3S b4 c3S.size
  have o4x1 := t3.keep b4
  clear c3w c3S t3
  go_wp2_with fail
  refine (eq_l ag0 as0 (mAutomorph f0 l1 f2) capg0 caps0 w4 L0 rg0.src (ss0.keep c4S)).mono ?_
  rintro e w5 ⟨rfl, b5⟩
  have z_b5 := b5.size
  have c5w := below_up c4w b5 c4w.size
  have c5S := below_up c4S b5 c4S.size
  have o5x1 := o4x1.keep b5
  have o5g0 := rg0.keep b5
  clear c4w c4S o4x1 rg0
  go_wp2_with fail
  refine (toInt_l a1 l1 cap1 w5 n1 (hs1.keep c5w)).mono ?_
  rintro e w6 ⟨ay1, capy1, rfl, t6, b6⟩
  have z_b6 := b6.size
  have c6w := below_up c5w b6 c5w.size
  have c6S := below_up c5S b6 c5S.size
  have o6x1 := o5x1.keep b6
  have o6g0 := o5g0.keep b6
  clear c5w c5S o5x1 o5g0
  go_wp2_with fail
  refine (eq_l ax1 ay1 l1 capx1 capy1 w6 n1 o6x1.src t6.src).mono ?_
  rintro e w7 ⟨rfl, b7⟩
  have z_b7 := b7.size
  clear t6
  have c7w := below_up c6w b7 c6w.size
  have c7S := below_up c6S b7 c6S.size
  have o7x1 := o6x1.keep b7
  have o7g0 := o6g0.keep b7
  clear c6w c6S o6x1 o6g0
  have S_g0 : w2.heap.size ≤ w3.heap.size := by omega
  have S_x1 : w2.heap.size ≤ w2.heap.size := by omega
  have w_g0 : w.heap.size ≤ w3.heap.size := by omega
  have w_x1 : w.heap.size ≤ w2.heap.size := by omega
  have K_x1_g0 : Lies ax1 (w3.heap.size) := L_x1.mono (by omega)
  go_wp2_with fail
  refine (mark_l _ ax1 l1 capx1 1 w7 n1 (by omega) (by omega) o7x1).mono ?_
  rintro e w8 ⟨rfl, m8, g8⟩
  have z_g8 := g8.size
  have c8w := g8.below o7x1 (w_x1) c7w c7w.size
  have c8S := g8.below o7x1 (S_x1) c7S c7S.size
  have o8g0 := o7g0.after g8 (K_x1_g0)
  clear c7w c7S o7g0 o7x1
  clear m8
  go_wp2_with fail
  refine (eq_l ag0 as0 (mAutomorph f0 l1 f2) capg0 caps0 w8 L0 o8g0.src (ss0.keep c8S)).mono ?_
  rintro e w9 ⟨rfl, b9⟩
  have z_b9 := b9.size
  have c9w := below_up c8w b9 c8w.size
  have c9S := below_up c8S b9 c8S.size
  have o9g0 := o8g0.keep b9
  clear c8w c8S o8g0
  go_wp2_with fail
  refine (mark_l _ ag0 (mAutomorph f0 l1 f2) capg0 1 w9 L0 (by omega) (by omega) o9g0).mono ?_
  rintro e w10 ⟨rfl, m10, g10⟩
  have z_g10 := g10.size
  have c10w := g10.below o9g0 (w_g0) c9w c9w.size
  have c10S := g10.below o9g0 (S_g0) c9S c9S.size
  clear c9w c9S o9g0
  go_wp2_with fail
  refine (held_l _ ag0 (mAutomorph f0 l1 f2).length capg0 (1) w10 L0 (by omega) (by omega) m10).mono ?_
  rintro e w' ⟨rfl, rfl⟩
  go_wp2_with fail
  refine (toInt_l a1 l1 cap1 w10 n1 (hs1.keep c10w)).mono ?_
  rintro e w11 ⟨au1, capu1, rfl, t11, b11⟩
  have z_b11 := b11.size
  have c11w := below_up c10w b11 c10w.size
  have c11S := below_up c10S b11 c10S.size
  have o11g0 := m10.keep b11
  clear c10w c10S m10
  go_wp2_with fail
  refine (iAutomorph f0 au1 l1 capu1 f2 w11 n1 t11.src (ht.below c11w)).mono ?_
  rintro e w12 ⟨ah0, caph0, rfl, rh0, b12⟩
  have z_b12 := b12.size
  have c12w := below_up c11w b12 c11w.size
  have c12S := below_up c11S b12 c11S.size
  have o12g0 := o11g0.keep b12
  have o12u1 := t11.keep b12
  clear c11w c11S o11g0 t11
  clear o12u1
  go_wp2_with fail
  refine (eq_l ah0 as0 (mAutomorph f0 l1 f2) caph0 caps0 w12 L0 rh0.src (ss0.keep c12S)).mono ?_
  rintro e w13 ⟨rfl, b13⟩
  have z_b13 := b13.size
  have c13w := below_up c12w b13 c12w.size
  have c13S := below_up c12S b13 c12S.size
  have o13g0 := o12g0.keep b13
  have o13h0 := rh0.keep b13
  clear c12w c12S o12g0 rh0
  go_wp2_with fail
  refine (held_l _ ag0 (mAutomorph f0 l1 f2).length capg0 (1) w13 L0 (by omega) (by omega) o13g0).mono ?_
  rintro e w' ⟨rfl, rfl⟩
  go_wp2
  go_ret
  exact ⟨rfl, c13w⟩
set_option maxRecDepth 100000 in
theorem walk (a0 : Int) (a1 : Option Addr) (len1 cap1 : Nat) (z1 : List Int) (a2 : Int) (w : World) (hr1 : IsRow .i64 w a1 len1 cap1 z1) (ht : Tab w) : Calls Tryd.prog 11 #[.int .i64 a0, .slice a1 len1 cap1, .int .i64 a2] w fun e w' => e = .returned (.bool true) ∧ Below w.heap.size w w' := by
  obtain ⟨y1, rfl, hs1⟩ := row_list hr1
  by_cases n1 : 1048576 < y1.length
  · have hd : decide ((1048576 : Int) < y1.length) = true := by simp; omega
    go_enter Tryd.func11, Tryd.ntmps11
    go_wp2
    go_ret
    exact ⟨rfl, Below.refl _ _⟩
  exact walk_on a0 a1 y1 cap1 a2 w hs1 (by omega) ht
set_option maxRecDepth 100000 in
theorem contract (H : Type) (enc : TypeId × Value → H) (W : World) (base : Nat) (args : Array Value) (ds gs : List (DataW H)) (before : List MemPlace)
    (hval : ∀ (j : Nat) t v, Tryd.f11.params[j]? = some t → args[j]? = some v → Value.okWide Tryd.prog W .any base t v)
    (hW : DataW.Whole enc Tryd.prog Tryd.f11.params.toList Rows.fnExactAutomorphSpec.vars false W args.toList ds gs before) (hL : laidMetH Tryd.prog Rows.fnExactAutomorphRow.laid W) :
    Calls Tryd.prog 11 args W fun e W' => ∃ v, e = .returned v ∧ Rows.fnExactAutomorphSpec.post enc Tryd.prog Tryd.f11 false true false false W args v W' := by
  have hvar := table_var hL
  have hW' := hW
  obtain ⟨p, q, hA0, hV, rfl, hfz, hnd⟩ := hW
  have hA : DataW.TrodAll enc Tryd.prog W 0 (fun _ => true) true Tryd.f11.params.toList args.toList ds p := hA0
  rw [Tryd.params11] at hA hval
  obtain ⟨v0, vs0, d0, ds0, p0, q0, hargs, rfl, rfl, h0, r0⟩ := trodAll_cons hA
  obtain ⟨v1, vs1, d1, ds1, p1, q1, rfl, rfl, rfl, h1, r1⟩ := trodAll_cons r0
  obtain ⟨v2, vs2, d2, ds2, p2, q2, rfl, rfl, rfl, h2, r2⟩ := trodAll_cons r1
  obtain ⟨rfl, rfl, rfl⟩ := trodAll_nil r2
  obtain rfl : args = #[v0, v1, v2] := by cases args; simp_all
  obtain ⟨rfl, rfl⟩ := DataW.TrodVars.unique hV (tab_vars enc (fun _ => true) hvar)
  obtain ⟨a0, rfl, rfl, rfl, w0⟩ := open_int Tryd.underlying3 (hval 0 3 v0 rfl rfl) h0
  obtain ⟨a1, len1, cap1, rfl⟩ := okWide_slice Tryd.underlying24 (hval 1 24 v1 rfl rfl)
  have k1 := h1
  have lt1 : ∀ x ∈ p1, x.block < W.heap.size := by obtain ⟨m, hm⟩ := k1; exact DataW.trod_lt m _ _ _ hm
  obtain ⟨z1, w1⟩ : ∃ zs, IsRow .i64 W a1 len1 cap1 zs := by
    obtain ⟨fuel, hf⟩ := h1
    rcases open_ints Tryd.underlying24 Tryd.underlying3 (by kernel_rfl) hf with ⟨hcs, _⟩ | ⟨x, l, c, zs, hcs, _, hl, hm, hz, _, hcell, hwz⟩
    · simp [Value.cells] at hcs
      obtain ⟨rfl, rfl, rfl⟩ := hcs
      exact ⟨[], .inl ⟨rfl, rfl, rfl, rfl⟩⟩
    · simp [Value.cells] at hcs
      obtain ⟨rfl, rfl, rfl⟩ := hcs
      exact ⟨zs, .inr ⟨_, rfl, hl, hm, by simpa using hz, hcell, hwz⟩⟩
  obtain ⟨a2, rfl, rfl, rfl, w2⟩ := open_int Tryd.underlying3 (hval 2 3 v2 rfl rfl) h2
  clear hA0
  refine (walk a0 a1 len1 cap1 z1 a2 W w1 (tab_of hvar)).mono fun e W' ⟨he, bel⟩ => ?_
  subst he
  exact ⟨_, rfl, _, _, _, [], _, _, hW', trodAll_mk1 (shut_bool Tryd.underlying4 _), (trodAll_cons_mk (shut_int Tryd.underlying3 w0) (trodAll_cons_mk (Below.trod f_laidOut (by kernel_rfl) (of_decide_eq_true (by kernel_rfl)) k1 bel lt1) (trodAll_cons_mk (shut_int Tryd.underlying3 w2) trodAll_mk0))), tab_vars enc _ (below_var bel hvar), bel.frame _, fun h => by cases h⟩
theorem laid_met (os : Os) : laidMet Tryd.prog Rows.fnExactAutomorphRow.laid ((laidWorld os).forCall (fun _ _ => 0) ⟨#[], #[.int .i64 0, .slice none 0 0, .int .i64 0], []⟩).memory :=
  laidMet_of_run' 8 (by kernel_rfl) (by kernel_rfl)
theorem reads (os : Os) {H : Type} (enc : TypeId × Value → H) : ∃ places, DataW.whole enc Tryd.prog ((laidWorld os).forCall (fun _ _ => 0) ⟨#[], #[.int .i64 0, .slice none 0 0, .int .i64 0], []⟩).memory Tryd.f11.params.toList Rows.fnExactAutomorphSpec.vars false #[Value.int .i64 0, Value.slice none 0 0, Value.int .i64 0].toList 8 = some ([.lit (.int .i64 0), .nil, .lit (.int .i64 0)], [Rows.laid_loop_example_g00710_impl_fieldTable], places) :=
  ⟨MemPlace.row ⟨0, 0, none⟩ 27, by kernel_rfl⟩
set_option maxRecDepth 100000 in
theorem lifted (os : Os) (started : os.Started) (H : Type) (enc : TypeId × Value → H) (F : Stop.Interp) :
    ReturnsInHanded {} Tryd.checked os 11 .any ((OpenSpec.ofChange Rows.fnExactAutomorphSpec).preRow enc Tryd.prog Tryd.f11 Rows.fnExactAutomorphRow.domain false Rows.fnExactAutomorphRow.laid) (((OpenSpec.ofChange Rows.fnExactAutomorphSpec).at F).post enc Tryd.prog Tryd.f11 false true false false) := by
  obtain ⟨places, hx⟩ := reads os enc
  refine returnsInHanded_of_row (C := Tryd.checked) (s := OpenSpec.ofChange Rows.fnExactAutomorphSpec) own started (by kernel_rfl) Tryd.func11
    (witness_row_at (enc := enc) (C := Tryd.checked) false (laidWorld os) #[.int .i64 0, .slice none 0 0, .int .i64 0] rfl (by kernel_rfl) (by kernel_rfl) (by kernel_rfl)
      (OpenSpec.preRow_of_cond 8 hx (by kernel_rfl) (fun k hk => by cases hk) (by kernel_rfl) (laid_met os))) ?_
  intro W base args ds gs before hval hW _ _ _ hL _ _
  exact contract H enc W base args ds gs before hval hW hL
theorem closed : joinedFacts Tryd.prog 11 Tryd.f11 (OpenSpec.ofChange Rows.fnExactAutomorphSpec).bare Rows.fnExactAutomorphRow = true := by
  unfold joinedFacts
  exact both (both (both (both (both (both (both (both (both (both (both (both (both (both (both (both (both (both (both (both (both (both (both (both (both (both (both (both (both (both (both (by as_aux_lemma => kernel_rfl) f_laidOut) f_mapsRowed) (by as_aux_lemma => kernel_rfl)) (by as_aux_lemma => kernel_rfl)) (by as_aux_lemma => kernel_rfl)) f_stops) (by as_aux_lemma => kernel_rfl)) f_knobs) (by as_aux_lemma => kernel_rfl)) (by as_aux_lemma => kernel_rfl)) (by as_aux_lemma => kernel_rfl)) (by as_aux_lemma => kernel_rfl)) (by as_aux_lemma => kernel_rfl)) (by as_aux_lemma => kernel_rfl)) (by as_aux_lemma => kernel_rfl)) (by as_aux_lemma => kernel_rfl)) (by as_aux_lemma => kernel_rfl)) (by as_aux_lemma => kernel_rfl)) (by as_aux_lemma => kernel_rfl)) (by as_aux_lemma => kernel_rfl)) (by as_aux_lemma => kernel_rfl)) f_keys) (by as_aux_lemma => kernel_rfl)) f_heard) f_enter) f_lifts) f_make) (by as_aux_lemma => kernel_rfl)) (by as_aux_lemma => kernel_rfl)) (by as_aux_lemma => kernel_rfl)) (by as_aux_lemma => kernel_rfl)
theorem said : Rows.FnExactAutomorphSaid :=
  OpenClaim.holds_of_cond 11 Tryd.f11 rfl rfl rfl rfl rfl rfl rfl ⟨rfl, rfl, rfl, rfl, rfl⟩ rfl rfl rfl rfl rfl (by as_aux_lemma => kernel_rfl) Tryd.func11 closed
    (of_decide_eq_true (by as_aux_lemma => kernel_rfl)) (by unfold Func.isWrapper; rw [if_neg (by decide +kernel)]; exact ⟨rfl, rfl⟩)
    (fun os started H enc _ F => by rw [OpenClaim.pre_eq_preRow]; exact lifted os started H enc F)
theorem plain (f : FuncId) (fn : Func) (hf : Tryd.pinned.checked.prog.funcNamed "loop.example/g00710/laws.FnExactAutomorph" = some f) (hfn : Tryd.pinned.checked.prog.funcs[f]? = some fn) :
    false = Tryd.pinned.checked.prog.looks [] ∧ ∀ (j : Nat) t, fn.params[j]? = some t → Tryd.pinned.checked.prog.wantsStandIn t = false := by
  obtain rfl : f = 11 := Option.some.inj ((show Tryd.prog.funcNamed "loop.example/g00710/laws.FnExactAutomorph" = some 11 by kernel_rfl).symm.trans hf) |>.symm
  obtain rfl : fn = Tryd.f11 := (Option.some.inj (Tryd.func11.symm.trans hfn)).symm
  refine ⟨f_looks, fun j t ht => ?_⟩
  rw [Tryd.params11] at ht
  have hm := Array.mem_of_getElem? ht
  have hm2 : t = 3 ∨ t = 24 ∨ t = 3 := by simpa using hm
  rcases hm2 with rfl | rfl | rfl
  · exact (show Tryd.prog.wantsStandIn 3 = false by kernel_rfl)
  · exact (show Tryd.prog.wantsStandIn 24 = false by kernel_rfl)
  · exact (show Tryd.prog.wantsStandIn 3 = false by kernel_rfl)
end ExactAutomorph
theorem fnExactAutomorph_card : Rows.FnExactAutomorphCardSaid :=
  Claim7.holds_tied_plain_at .later [] _ _ _ _ ExactAutomorph.said (fun _ h => by cases h) (by as_aux_lemma => kernel_rfl) (fun _ h => by cases h) fnExactAutomorph_row_tie rfl ⟨rfl, rfl⟩ f_main rfl ExactAutomorph.plain (by as_aux_lemma => kernel_rfl)
end Go.Proofs.YtoonpnfhcmghmaaDoor
