/-
  For every argument the program's DigitParts answers as the specification's model of it, writes into no argument and answers in memory of its own; no condition but the card's own (the table of fields holds what its initialiser lays).
-/
import Derived.Test.YtoonpnfhcmghmabDoorL2
import Derived.ChangeOld
import Derived.Below
import Derived.Carry
namespace Go.Proofs.YtoonpnfhcmghmabDoor
open Go.ChangeShapes Go.WideShapes Go.ChangeAt Go.RowKit
namespace ExactDigitParts
theorem OwnU.after {w w' : World} {B n C cap : Nat} {a a2 : Option Addr} {DG : Nat → Nat → Int} (h : OwnU w B a2 n C cap DG) (hg : Grow w w' a) (hl : Lies a B) : OwnU w' B a2 n C cap DG := by
  rcases hg with rfl | ⟨g, rfl, hg⟩
  · exact h
  · have hgB : g < B := hl _ rfl
    rcases h with h | ⟨g2, gs, h1, h2, h3, h4, h5, h6⟩
    · exact .inl h
    · refine .inr ⟨g2, gs, h1, h2, h3, World.rowIs.of_block h4 (hg.block g2 h4.lt (fun e => by injection e with e; omega)), fun t ht => ?_, h6⟩
      obtain ⟨z1, z2, z3⟩ := h5 t ht
      exact ⟨z1, z2, World.rowIs.of_block z3 (hg.block _ z3.lt (fun e => by injection e with e; omega))⟩
set_option maxRecDepth 100000 in
set_option maxHeartbeats 6400000 in
theorem walk_on (f0 : Int) (a1 : Option Addr) (l1 : List Int) (cap1 : Nat) (f2 f3 : Int) (w : World) (hs1 : Src w a1 l1.length (lf l1)) (n1 : l1.length ≤ 1048576) (ht : Tab w) :
    Calls Tryd.prog 8 #[.int .i64 f0, .slice a1 l1.length cap1, .int .i64 f2, .int .i64 f3] w fun e w' => e = .returned (.bool true) ∧ Below w.heap.size w w' := by
  have hd1 : decide ((1048576 : Int) < l1.length) = false := by simp; omega
  obtain ⟨n, C, DG, hLC, hC, hn4, HSrc, HOwn⟩ := parts_u f0 l1 f2 f3 n1
  have HS : Hid (∀ (W : World) (a : Option Addr) (cap : Nat), Src W a l1.length (lf l1) → Calls Tryd.prog 25 #[.int .i64 f0, .slice a l1.length cap, .int .i64 f2, .int .i64 f3] W fun e w' => ∃ a' c', e = .returned (.tuple #[.slice a' C c', .bool (mDigitParts1 f0 l1 f2 f3)]) ∧ SrcU w' a' n C DG ∧ Below W.heap.size W w') := Lib.hid fun W a cap h => (sDigitParts f0 a l1 cap f2 f3 W n1 h).mono fun e w' ⟨a', c', he, h2, h3⟩ => by
    rw [hLC] at he
    exact ⟨a', c', he, HSrc _ _ h2, h3⟩
  have HI : Hid (∀ (W : World) (a : Option Addr) (cap : Nat), Tab W → Src W a l1.length (lf l1) → Calls Tryd.prog 26 #[.int .i64 f0, .slice a l1.length cap, .int .i64 f2, .int .i64 f3] W fun e w' => ∃ a' c', e = .returned (.tuple #[.slice a' C c', .bool (mDigitParts1 f0 l1 f2 f3)]) ∧ OwnU w' W.heap.size a' n C c' DG ∧ Below W.heap.size W w') := Lib.hid fun W a cap hT h => (iDigitParts f0 a l1 cap f2 f3 W n1 h hT).mono fun e w' ⟨a', c', he, h2, h3⟩ => by
    rw [hLC] at he
    exact ⟨a', c', he, HOwn _ _ _ _ h2, h3⟩
  obtain ⟨M, hM⟩ : ∃ M, C * n = M := ⟨_, rfl⟩
  have hMb : M ≤ 32 * 4096 := by rw [← hM]; exact Nat.mul_le_mul hC hn4
  have HMK : Hid (∀ (B : Nat) (W : World) (a : Option Addr) (cap : Nat), B ≤ W.heap.size → OwnU W B a n C cap DG → Calls Tryd.prog 28 #[.slice a C cap, .int .i64 1] W fun e w' => e = .returned (.int .i64 (1 + M)) ∧ OwnU w' B a n C cap (fun t j => 1 + ((t * n : Nat) : Int) + j) ∧ Below B W w') := Lib.hid fun B W a cap hB h => by
    have := markSS B a n C cap DG 1 W hn4 hC (by omega) (by omega) hB h
    unfold MarkU at this
    rwa [hM] at this
  have HHD : Hid (∀ (B : Nat) (W : World) (a : Option Addr) (cap : Nat), OwnU W B a n C cap (fun t j => 1 + ((t * n : Nat) : Int) + j) → Calls Tryd.prog 29 #[.slice a C cap, .int .i64 1] W fun e w' => e = .returned (.int .i64 (1 + M)) ∧ W = w') := Lib.hid fun B W a cap h => by
    have := heldSS B a n C cap 1 W hn4 hC (by omega) (by omega) h
    rwa [hM] at this
  have HEQ : Hid (∀ (W : World) (a a2 : Option Addr) (cap cap2 : Nat), SrcU W a n C DG → SrcU W a2 n C DG → Calls Tryd.prog 27 #[.slice a C cap, .slice a2 C cap2] W (TrueP W)) := Lib.hid fun W a a2 cap cap2 h1 h2 => eqSS a a2 n C cap cap2 DG W (by omega) hC h1 h2
  have hne : ((1 + (M : Int)) != 1 + (M : Int)) = false := by simp
  have hk0 : decide (1 + (M : Int) < 0) = false := decide_eq_false (by omega)
  have e1 : (mDigitParts1 f0 l1 f2 f3 != mDigitParts1 f0 l1 f2 f3) = false := by simp
  clear hLC HSrc HOwn hM
  generalize mDigitParts1 f0 l1 f2 f3 = ok at *
  go_enter Tryd.func8, Tryd.ntmps8
  go_wp2_with fail
  refine (toInt_l a1 l1 cap1 w n1 hs1).mono ?_
  rintro e w1 ⟨ap1, capp1, rfl, t1, b1⟩
  have z_b1 := b1.size
  go_wp2_with fail
  refine (HS.out w1 ap1 capp1 t1.src).mono ?_
  rintro e w2 ⟨as0, caps0, rfl, ss0, b2⟩
  have z_b2 := b2.size
  have c2w := below_up b1 b2 b1.size
  have HSS := Lib.hid ss0
  have c2S := Below.refl w2.heap.size w2
  clear t1 ss0 b1 b2
  go_wp2_with fail
  refine (toInt_l a1 l1 cap1 w2 n1 (hs1.keep c2w)).mono ?_
  rintro e w3 ⟨ax1, capx1, rfl, t3, b3⟩
  have z_b3 := b3.size
  have L_x1 := t3.lies
  have c3w := below_up c2w b3 c2w.size
  have c3S := below_up c2S b3 c2S.size
  clear c2w c2S
  go_wp2_with fail
  refine (HI.out w3 ax1 capx1 (ht.below c3w) t3.src).mono ?_
  rintro e w4 ⟨ag0, capg0, rfl, rg0, b4⟩
  have z_b4 := b4.size
  have c4w := below_up c3w b4 c3w.size
  have c4S := below_up c3S b4 c3S.size
  have o4x1 := t3.keep b4
  have HG4 := Lib.hid rg0
  clear c3w c3S t3 rg0
  go_wp2_with fail
  refine (HEQ.out w4 ag0 as0 capg0 caps0 HG4.out.src (HSS.out.keep c4S)).mono ?_
  rintro e w5 ⟨rfl, b5⟩
  have z_b5 := b5.size
  have c5w := below_up c4w b5 c4w.size
  have c5S := below_up c4S b5 c4S.size
  have o5x1 := o4x1.keep b5
  have HG5 := Lib.hid (HG4.out.keep b5)
  clear c4w c4S o4x1 HG4
  go_wp2_with fail
  refine (toInt_l a1 l1 cap1 w5 n1 (hs1.keep c5w)).mono ?_
  rintro e w6 ⟨ay1, capy1, rfl, t6, b6⟩
  have z_b6 := b6.size
  have c6w := below_up c5w b6 c5w.size
  have c6S := below_up c5S b6 c5S.size
  have o6x1 := o5x1.keep b6
  have HG6 := Lib.hid (HG5.out.keep b6)
  clear c5w c5S o5x1 HG5
  go_wp2_with fail
  refine (eq_l ax1 ay1 l1 capx1 capy1 w6 n1 o6x1.src t6.src).mono ?_
  rintro e w7 ⟨rfl, b7⟩
  have z_b7 := b7.size
  have c7w := below_up c6w b7 c6w.size
  have c7S := below_up c6S b7 c6S.size
  have o7x1 := o6x1.keep b7
  have HG7 := Lib.hid (HG6.out.keep b7)
  clear c6w c6S o6x1 HG6 t6
  have S_x1 : w2.heap.size ≤ w2.heap.size := by omega
  have w_x1 : w.heap.size ≤ w2.heap.size := by omega
  go_wp2_with fail
  refine (mark_l _ ax1 l1 capx1 1 w7 n1 (by omega) (by omega) o7x1).mono ?_
  rintro e w8 ⟨rfl, m8, g8⟩
  have z_g8 := g8.size
  have c8w := g8.below o7x1 (w_x1) c7w c7w.size
  have c8S := g8.below o7x1 (S_x1) c7S c7S.size
  have HG8 := Lib.hid (OwnU.after HG7.out g8 L_x1)
  clear c7w c7S o7x1 m8 HG7 g8
  go_wp2_with fail
  refine (HEQ.out w8 ag0 as0 capg0 caps0 HG8.out.src (HSS.out.keep c8S)).mono ?_
  rintro e w9 ⟨rfl, b9⟩
  have z_b9 := b9.size
  have c9w := below_up c8w b9 c8w.size
  have c9S := below_up c8S b9 c8S.size
  have HG9 := Lib.hid (HG8.out.keep b9)
  clear c8w c8S HG8
  go_wp2_with fail
  refine (HMK.out w3.heap.size w9 ag0 capg0 (by omega) HG9.out).mono ?_
  rintro e w10 ⟨rfl, m10, b10⟩
  have z_b10 := b10.size
  have c10w : Below w.heap.size w w10 := c9w.trans (b10.mono (by omega))
  have c10S : Below w2.heap.size w2 w10 := c9S.trans (b10.mono (by omega))
  have HM10 := Lib.hid m10
  clear c9w c9S HG9 m10 HMK
  go_wp2_with fail
  refine (HHD.out _ w10 ag0 capg0 HM10.out).mono ?_
  rintro e w' ⟨rfl, rfl⟩
  go_wp2_with fail
  refine (toInt_l a1 l1 cap1 w10 n1 (hs1.keep c10w)).mono ?_
  rintro e w11 ⟨au1, capu1, rfl, t11, b11⟩
  have z_b11 := b11.size
  have c11w := below_up c10w b11 c10w.size
  have c11S := below_up c10S b11 c10S.size
  have HM11 := Lib.hid (HM10.out.keep b11)
  clear c10w c10S HM10
  go_wp2_with fail
  refine (HI.out w11 au1 capu1 (ht.below c11w) t11.src).mono ?_
  rintro e w12 ⟨ah0, caph0, rfl, rh0, b12⟩
  have z_b12 := b12.size
  have c12w := below_up c11w b12 c11w.size
  have c12S := below_up c11S b12 c11S.size
  have HM12 := Lib.hid (HM11.out.keep b12)
  have HH := Lib.hid rh0
  clear c11w c11S HM11 t11 rh0
  go_wp2_with fail
  refine (HEQ.out w12 ah0 as0 caph0 caps0 HH.out.src (HSS.out.keep c12S)).mono ?_
  rintro e w13 ⟨rfl, b13⟩
  have c13w := below_up c12w b13 c12w.size
  have HM13 := Lib.hid (HM12.out.keep b13)
  clear c12w c12S HM12 HH
  go_wp2_with fail
  refine (HHD.out _ w13 ag0 capg0 HM13.out).mono ?_
  rintro e w' ⟨rfl, rfl⟩
  go_wp2
  go_ret
  exact ⟨rfl, c13w⟩
set_option maxRecDepth 100000 in
theorem walk (a0 : Int) (a1 : Option Addr) (len1 cap1 : Nat) (z1 : List Int) (a2 a3 : Int) (w : World) (hr1 : IsRow .i64 w a1 len1 cap1 z1) (ht : Tab w) : Calls Tryd.prog 8 #[.int .i64 a0, .slice a1 len1 cap1, .int .i64 a2, .int .i64 a3] w fun e w' => e = .returned (.bool true) ∧ Below w.heap.size w w' := by
  obtain ⟨y1, rfl, hs1⟩ := row_list hr1
  by_cases n1 : 1048576 < y1.length
  · have hd : decide ((1048576 : Int) < y1.length) = true := by simp; omega
    go_enter Tryd.func8, Tryd.ntmps8
    go_wp2
    go_ret
    exact ⟨rfl, Below.refl _ _⟩
  exact walk_on a0 a1 y1 cap1 a2 a3 w hs1 (by omega) ht
set_option maxRecDepth 100000 in
theorem contract (H : Type) (enc : TypeId × Value → H) (W : World) (base : Nat) (args : Array Value) (ds gs : List (DataW H)) (before : List MemPlace)
    (hval : ∀ (j : Nat) t v, Tryd.f8.params[j]? = some t → args[j]? = some v → Value.okWide Tryd.prog W .any base t v)
    (hW : DataW.Whole enc Tryd.prog Tryd.f8.params.toList Rows.fnExactDigitPartsSpec.vars false W args.toList ds gs before) (hL : laidMetH Tryd.prog Rows.fnExactDigitPartsRow.laid W) :
    Calls Tryd.prog 8 args W fun e W' => ∃ v, e = .returned v ∧ Rows.fnExactDigitPartsSpec.post enc Tryd.prog Tryd.f8 false true false false W args v W' := by
  have hvar := table_var hL
  have hW' := hW
  obtain ⟨p, q, hA0, hV, rfl, hfz, hnd⟩ := hW
  have hA : DataW.TrodAll enc Tryd.prog W 0 (fun _ => true) true Tryd.f8.params.toList args.toList ds p := hA0
  rw [Tryd.params8] at hA hval
  obtain ⟨v0, vs0, d0, ds0, p0, q0, hargs, rfl, rfl, h0, r0⟩ := trodAll_cons hA
  obtain ⟨v1, vs1, d1, ds1, p1, q1, rfl, rfl, rfl, h1, r1⟩ := trodAll_cons r0
  obtain ⟨v2, vs2, d2, ds2, p2, q2, rfl, rfl, rfl, h2, r2⟩ := trodAll_cons r1
  obtain ⟨v3, vs3, d3, ds3, p3, q3, rfl, rfl, rfl, h3, r3⟩ := trodAll_cons r2
  obtain ⟨rfl, rfl, rfl⟩ := trodAll_nil r3
  obtain rfl : args = #[v0, v1, v2, v3] := by cases args; simp_all
  obtain ⟨rfl, rfl⟩ := DataW.TrodVars.unique hV (tab_vars enc (fun _ => true) hvar)
  obtain ⟨a0, rfl, rfl, rfl, w0⟩ := open_int Tryd.underlying3 (hval 0 3 v0 rfl rfl) h0
  obtain ⟨a1, len1, cap1, rfl⟩ := okWide_slice Tryd.underlying22 (hval 1 22 v1 rfl rfl)
  have k1 := h1
  have lt1 : ∀ x ∈ p1, x.block < W.heap.size := by obtain ⟨m, hm⟩ := k1; exact DataW.trod_lt m _ _ _ hm
  obtain ⟨z1, w1⟩ : ∃ zs, IsRow .i64 W a1 len1 cap1 zs := by
    obtain ⟨fuel, hf⟩ := h1
    rcases open_ints Tryd.underlying22 Tryd.underlying3 (by kernel_rfl) hf with ⟨hcs, _⟩ | ⟨x, l, c, zs, hcs, _, hl, hm, hz, _, hcell, hwz⟩
    · simp [Value.cells] at hcs
      obtain ⟨rfl, rfl, rfl⟩ := hcs
      exact ⟨[], .inl ⟨rfl, rfl, rfl, rfl⟩⟩
    · simp [Value.cells] at hcs
      obtain ⟨rfl, rfl, rfl⟩ := hcs
      exact ⟨zs, .inr ⟨_, rfl, hl, hm, by simpa using hz, hcell, hwz⟩⟩
  obtain ⟨a2, rfl, rfl, rfl, w2⟩ := open_int Tryd.underlying3 (hval 2 3 v2 rfl rfl) h2
  obtain ⟨a3, rfl, rfl, rfl, w3⟩ := open_int Tryd.underlying3 (hval 3 3 v3 rfl rfl) h3
  clear hA0
  refine (walk a0 a1 len1 cap1 z1 a2 a3 W w1 (tab_of hvar)).mono fun e W' ⟨he, bel⟩ => ?_
  subst he
  exact ⟨_, rfl, _, _, _, [], _, _, hW', trodAll_mk1 (shut_bool Tryd.underlying4 _), (trodAll_cons_mk (shut_int Tryd.underlying3 w0) (trodAll_cons_mk (Below.trod f_laidOut (by kernel_rfl) (of_decide_eq_true (by kernel_rfl)) k1 bel lt1) (trodAll_cons_mk (shut_int Tryd.underlying3 w2) (trodAll_cons_mk (shut_int Tryd.underlying3 w3) trodAll_mk0)))), tab_vars enc _ (below_var bel hvar), bel.frame _, fun h => by cases h⟩
theorem laid_met (os : Os) : laidMet Tryd.prog Rows.fnExactDigitPartsRow.laid ((laidWorld os).forCall (fun _ _ => 0) ⟨#[], #[.int .i64 0, .slice none 0 0, .int .i64 0, .int .i64 0], []⟩).memory :=
  laidMet_of_run' 8 (by kernel_rfl) (by kernel_rfl)
theorem reads (os : Os) {H : Type} (enc : TypeId × Value → H) : ∃ places, DataW.whole enc Tryd.prog ((laidWorld os).forCall (fun _ _ => 0) ⟨#[], #[.int .i64 0, .slice none 0 0, .int .i64 0, .int .i64 0], []⟩).memory Tryd.f8.params.toList Rows.fnExactDigitPartsSpec.vars false #[Value.int .i64 0, Value.slice none 0 0, Value.int .i64 0, Value.int .i64 0].toList 8 = some ([.lit (.int .i64 0), .nil, .lit (.int .i64 0), .lit (.int .i64 0)], [Rows.laid_loop_example_g00710_impl_fieldTable], places) :=
  ⟨MemPlace.row ⟨0, 0, none⟩ 27, by kernel_rfl⟩
set_option maxRecDepth 100000 in
theorem lifted (os : Os) (started : os.Started) (H : Type) (enc : TypeId × Value → H) (F : Stop.Interp) :
    ReturnsInHanded {} Tryd.checked os 8 .any ((OpenSpec.ofChange Rows.fnExactDigitPartsSpec).preRow enc Tryd.prog Tryd.f8 Rows.fnExactDigitPartsRow.domain false Rows.fnExactDigitPartsRow.laid) (((OpenSpec.ofChange Rows.fnExactDigitPartsSpec).at F).post enc Tryd.prog Tryd.f8 false true false false) := by
  obtain ⟨places, hx⟩ := reads os enc
  refine returnsInHanded_of_row (C := Tryd.checked) (s := OpenSpec.ofChange Rows.fnExactDigitPartsSpec) own started (by kernel_rfl) Tryd.func8
    (witness_row_at (enc := enc) (C := Tryd.checked) false (laidWorld os) #[.int .i64 0, .slice none 0 0, .int .i64 0, .int .i64 0] rfl (by kernel_rfl) (by kernel_rfl) (by kernel_rfl)
      (OpenSpec.preRow_of_cond 8 hx (by kernel_rfl) (fun k hk => by cases hk) (by kernel_rfl) (laid_met os))) ?_
  intro W base args ds gs before hval hW _ _ _ hL _ _
  exact contract H enc W base args ds gs before hval hW hL
theorem closed : joinedFacts Tryd.prog 8 Tryd.f8 (OpenSpec.ofChange Rows.fnExactDigitPartsSpec).bare Rows.fnExactDigitPartsRow = true := by
  unfold joinedFacts
  exact both (both (both (both (both (both (both (both (both (both (both (both (both (both (both (both (both (both (both (both (both (both (both (both (both (both (both (both (both (both (both (by as_aux_lemma => kernel_rfl) f_laidOut) f_mapsRowed) (by as_aux_lemma => kernel_rfl)) (by as_aux_lemma => kernel_rfl)) (by as_aux_lemma => kernel_rfl)) f_stops) (by as_aux_lemma => kernel_rfl)) f_knobs) (by as_aux_lemma => kernel_rfl)) (by as_aux_lemma => kernel_rfl)) (by as_aux_lemma => kernel_rfl)) (by as_aux_lemma => kernel_rfl)) (by as_aux_lemma => kernel_rfl)) (by as_aux_lemma => kernel_rfl)) (by as_aux_lemma => kernel_rfl)) (by as_aux_lemma => kernel_rfl)) (by as_aux_lemma => kernel_rfl)) (by as_aux_lemma => kernel_rfl)) (by as_aux_lemma => kernel_rfl)) (by as_aux_lemma => kernel_rfl)) (by as_aux_lemma => kernel_rfl)) f_keys) (by as_aux_lemma => kernel_rfl)) f_heard) f_enter) f_lifts) f_make) (by as_aux_lemma => kernel_rfl)) (by as_aux_lemma => kernel_rfl)) (by as_aux_lemma => kernel_rfl)) (by as_aux_lemma => kernel_rfl)
theorem said : Rows.FnExactDigitPartsSaid :=
  OpenClaim.holds_of_cond 8 Tryd.f8 rfl rfl rfl rfl rfl rfl rfl ⟨rfl, rfl, rfl, rfl, rfl⟩ rfl rfl rfl rfl rfl (by as_aux_lemma => kernel_rfl) Tryd.func8 closed
    (of_decide_eq_true (by as_aux_lemma => kernel_rfl)) (by unfold Func.isWrapper; rw [if_neg (by decide +kernel)]; exact ⟨rfl, rfl⟩)
    (fun os started H enc _ F => by rw [OpenClaim.pre_eq_preRow]; exact lifted os started H enc F)
theorem plain (f : FuncId) (fn : Func) (hf : Tryd.pinned.checked.prog.funcNamed "loop.example/g00710/laws.FnExactDigitParts" = some f) (hfn : Tryd.pinned.checked.prog.funcs[f]? = some fn) :
    false = Tryd.pinned.checked.prog.looks [] ∧ ∀ (j : Nat) t, fn.params[j]? = some t → Tryd.pinned.checked.prog.wantsStandIn t = false := by
  obtain rfl : f = 8 := Option.some.inj ((show Tryd.prog.funcNamed "loop.example/g00710/laws.FnExactDigitParts" = some 8 by kernel_rfl).symm.trans hf) |>.symm
  obtain rfl : fn = Tryd.f8 := (Option.some.inj (Tryd.func8.symm.trans hfn)).symm
  refine ⟨f_looks, fun j t ht => ?_⟩
  rw [Tryd.params8] at ht
  have hm := Array.mem_of_getElem? ht
  have hm2 : t = 3 ∨ t = 22 ∨ t = 3 ∨ t = 3 := by simpa using hm
  rcases hm2 with rfl | rfl | rfl | rfl
  · exact (show Tryd.prog.wantsStandIn 3 = false by kernel_rfl)
  · exact (show Tryd.prog.wantsStandIn 22 = false by kernel_rfl)
  · exact (show Tryd.prog.wantsStandIn 3 = false by kernel_rfl)
  · exact (show Tryd.prog.wantsStandIn 3 = false by kernel_rfl)
end ExactDigitParts
theorem fnExactDigitParts_card : Rows.FnExactDigitPartsCardSaid :=
  Claim7.holds_tied_plain_at .later [] _ _ _ _ ExactDigitParts.said (fun _ h => by cases h) (by as_aux_lemma => kernel_rfl) (fun _ h => by cases h) fnExactDigitParts_row_tie rfl ⟨rfl, rfl⟩ f_main rfl ExactDigitParts.plain (by as_aux_lemma => kernel_rfl)
end Go.Proofs.YtoonpnfhcmghmabDoor
