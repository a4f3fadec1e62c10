/-
  For every argument the program's DecodeWord answers as the specification's model of it, writes into no argument and answers in memory of its own; no condition but the card's own (the table of fields holds what its initialiser lays).
-/
import Derived.Test.YtangofjpnhhfeabDoorJ5
import Derived.ChangeOld
import Derived.Below
import Derived.Carry
namespace Go.Proofs.YtangofjpnhhfeabDoor
open Go.ChangeShapes Go.WideShapes Go.ChangeAt Go.RowKit
namespace ExactDecodeWord
set_option maxRecDepth 100000 in
set_option maxHeartbeats 6400000 in
theorem walk_on (f0 : Int) (a1 : Option Addr) (l1 : List Int) (cap1 : Nat) (a2 : Option Addr) (l2 : List Int) (cap2 : Nat) (f3 : Int) (w : World) (hs1 : Src w a1 l1.length (lf l1)) (n1 : l1.length ≤ 1048576) (hs2 : Src w a2 l2.length (lf l2)) (n2 : l2.length ≤ 1048576) (ht : Tab w) (hg : Ety w) :
    Calls Tryd.prog 3 #[.int .i64 f0, .slice a1 l1.length cap1, .slice a2 l2.length cap2, .int .i64 f3] w fun e w' => e = .returned (.bool true) ∧ Below w.heap.size w w' := by
  have hd1 : decide ((1048576 : Int) < l1.length) = false := by simp; omega
  have hd2 : decide ((1048576 : Int) < l2.length) = false := by simp; omega
  have L0 := len_mDecodeWord0 f0 l1 l2 f3 n1 n2
  have e1 : ((mDecodeWord1 f0 l1 l2 f3) != (mDecodeWord1 f0 l1 l2 f3)) = false := by simp
  have e2 : ((mDecodeWord2 f0 l1 l2 f3) != (mDecodeWord2 f0 l1 l2 f3)) = false := by simp
  have hne : ((1 + (mDecodeWord0 f0 l1 l2 f3).length : Int) != 1 + (mDecodeWord0 f0 l1 l2 f3).length) = false := by simp
  go_enter Tryd.func3, Tryd.ntmps3
  go_wp2_with fail
  refine (toInt_l a1 l1 cap1 w n1 hs1).mono ?_
  rintro e w1 ⟨ap1, capp1, rfl, t1, b1⟩
  have z_b1 := b1.size
  have c1w := b1
  go_wp2_with fail
  refine (toInt_l a2 l2 cap2 w1 n2 (hs2.keep c1w)).mono ?_
  rintro e w2 ⟨ap2, capp2, rfl, t2, b2⟩
  have z_b2 := b2.size
  have c2w := below_up c1w b2 c1w.size
  have o2p1 := t1.keep b2
  clear c1w t1
  go_wp2_with fail
  refine (sDecodeWordU f0 ap1 l1 capp1 ap2 l2 capp2 f3 w2 n1 n2 o2p1.srcC t2.srcC).mono ?_
  rintro e w3 ⟨as0, caps0, rfl, ss0, b3⟩
  have z_b3 := b3.size
  clear o2p1
  clear t2
  have c3w := below_up c2w b3 c2w.size
  clear c2w
  have c3S := Below.refl w3.heap.size w3
  go_wp2_with fail
  refine (toInt_l a1 l1 cap1 w3 n1 (hs1.keep c3w)).mono ?_
  rintro e w4 ⟨ax1, capx1, rfl, t4, b4⟩
  have z_b4 := b4.size
  have L_x1 := t4.lies
  have c4w := below_up c3w b4 c3w.size
  have c4S := below_up c3S b4 c3S.size
  clear c3w c3S
  go_wp2_with fail
  refine (toInt_l a2 l2 cap2 w4 n2 (hs2.keep c4w)).mono ?_
  rintro e w5 ⟨ax2, capx2, rfl, t5, b5⟩
  have z_b5 := b5.size
  have L_x2 := t5.lies
  have c5w := below_up c4w b5 c4w.size
  have c5S := below_up c4S b5 c4S.size
  have o5x1 := t4.keep b5
  clear c4w c4S t4
  go_wp2_with fail
  refine (iDecodeWordU f0 ax1 l1 capx1 ax2 l2 capx2 f3 w5 n1 n2 o5x1.srcC t5.srcC (ht.below c5w) (hg.below c5w)).mono ?_
  rintro e w6 ⟨ag0, capg0, rfl, rg0, b6⟩
  have z_b6 := b6.size
  have c6w := below_up c5w b6 c5w.size
  have c6S := below_up c5S b6 c5S.size
  have o6x1 := o5x1.keep b6
  have o6x2 := t5.keep b6
  clear c5w c5S o5x1 t5
  go_wp2_with fail
  refine (eq_l ag0 as0 (mDecodeWord0 f0 l1 l2 f3) capg0 caps0 w6 L0 rg0.src (ss0.keep c6S)).mono ?_
  rintro e w7 ⟨rfl, b7⟩
  have z_b7 := b7.size
  have c7w := below_up c6w b7 c6w.size
  have c7S := below_up c6S b7 c6S.size
  have o7x1 := o6x1.keep b7
  have o7x2 := o6x2.keep b7
  have o7g0 := rg0.keep b7
  clear c6w c6S o6x1 o6x2 rg0
  go_wp2_with fail
  refine (toInt_l a1 l1 cap1 w7 n1 (hs1.keep c7w)).mono ?_
  rintro e w8 ⟨ay1, capy1, rfl, t8, b8⟩
  have z_b8 := b8.size
  have c8w := below_up c7w b8 c7w.size
  have c8S := below_up c7S b8 c7S.size
  have o8x1 := o7x1.keep b8
  have o8x2 := o7x2.keep b8
  have o8g0 := o7g0.keep b8
  clear c7w c7S o7x1 o7x2 o7g0
  go_wp2_with fail
  refine (eq_l ax1 ay1 l1 capx1 capy1 w8 n1 o8x1.src t8.src).mono ?_
  rintro e w9 ⟨rfl, b9⟩
  have z_b9 := b9.size
  clear t8
  have c9w := below_up c8w b9 c8w.size
  have c9S := below_up c8S b9 c8S.size
  have o9x1 := o8x1.keep b9
  have o9x2 := o8x2.keep b9
  have o9g0 := o8g0.keep b9
  clear c8w c8S o8x1 o8x2 o8g0
  go_wp2_with fail
  refine (toInt_l a2 l2 cap2 w9 n2 (hs2.keep c9w)).mono ?_
  rintro e w10 ⟨ay2, capy2, rfl, t10, b10⟩
  have z_b10 := b10.size
  have c10w := below_up c9w b10 c9w.size
  have c10S := below_up c9S b10 c9S.size
  have o10x1 := o9x1.keep b10
  have o10x2 := o9x2.keep b10
  have o10g0 := o9g0.keep b10
  clear c9w c9S o9x1 o9x2 o9g0
  go_wp2_with fail
  refine (eq_l ax2 ay2 l2 capx2 capy2 w10 n2 o10x2.src t10.src).mono ?_
  rintro e w11 ⟨rfl, b11⟩
  have z_b11 := b11.size
  clear t10
  have c11w := below_up c10w b11 c10w.size
  have c11S := below_up c10S b11 c10S.size
  have o11x1 := o10x1.keep b11
  have o11x2 := o10x2.keep b11
  have o11g0 := o10g0.keep b11
  clear c10w c10S o10x1 o10x2 o10g0
  have S_g0 : w3.heap.size ≤ w5.heap.size := by omega
  have S_x1 : w3.heap.size ≤ w3.heap.size := by omega
  have S_x2 : w3.heap.size ≤ w4.heap.size := by omega
  have w_g0 : w.heap.size ≤ w5.heap.size := by omega
  have w_x1 : w.heap.size ≤ w3.heap.size := by omega
  have w_x2 : w.heap.size ≤ w4.heap.size := by omega
  have K_x1_g0 : Lies ax1 (w5.heap.size) := L_x1.mono (by omega)
  have K_x1_x2 : Lies ax1 (w4.heap.size) := L_x1.mono (by omega)
  have K_x2_g0 : Lies ax2 (w5.heap.size) := L_x2.mono (by omega)
  go_wp2_with fail
  refine (mark_l _ ax1 l1 capx1 1 w11 n1 (by omega) (by omega) o11x1).mono ?_
  rintro e w12 ⟨rfl, m12, g12⟩
  have z_g12 := g12.size
  have c12w := g12.below o11x1 (w_x1) c11w c11w.size
  have c12S := g12.below o11x1 (S_x1) c11S c11S.size
  have o12x2 := o11x2.after g12 (K_x1_x2)
  have o12g0 := o11g0.after g12 (K_x1_g0)
  clear c11w c11S o11x2 o11g0 o11x1
  clear m12
  go_wp2_with fail
  refine (mark_l _ ax2 l2 capx2 (1 + l1.length) w12 n2 (by omega) (by omega) o12x2).mono ?_
  rintro e w13 ⟨rfl, m13, g13⟩
  have z_g13 := g13.size
  have c13w := g13.below o12x2 (w_x2) c12w c12w.size
  have c13S := g13.below o12x2 (S_x2) c12S c12S.size
  have o13g0 := o12g0.after g13 (K_x2_g0)
  clear c12w c12S o12g0 o12x2
  clear m13
  go_wp2_with fail
  refine (eq_l ag0 as0 (mDecodeWord0 f0 l1 l2 f3) capg0 caps0 w13 L0 o13g0.src (ss0.keep c13S)).mono ?_
  rintro e w14 ⟨rfl, b14⟩
  have z_b14 := b14.size
  have c14w := below_up c13w b14 c13w.size
  have c14S := below_up c13S b14 c13S.size
  have o14g0 := o13g0.keep b14
  clear c13w c13S o13g0
  go_wp2_with fail
  refine (mark_l _ ag0 (mDecodeWord0 f0 l1 l2 f3) capg0 1 w14 L0 (by omega) (by omega) o14g0).mono ?_
  rintro e w15 ⟨rfl, m15, g15⟩
  have z_g15 := g15.size
  have c15w := g15.below o14g0 (w_g0) c14w c14w.size
  have c15S := g15.below o14g0 (S_g0) c14S c14S.size
  clear c14w c14S o14g0
  go_wp2_with fail
  refine (held_l _ ag0 (mDecodeWord0 f0 l1 l2 f3).length capg0 (1) w15 L0 (by omega) (by omega) m15).mono ?_
  rintro e w' ⟨rfl, rfl⟩
  go_wp2_with fail
  refine (toInt_l a1 l1 cap1 w15 n1 (hs1.keep c15w)).mono ?_
  rintro e w16 ⟨au1, capu1, rfl, t16, b16⟩
  have z_b16 := b16.size
  have c16w := below_up c15w b16 c15w.size
  have c16S := below_up c15S b16 c15S.size
  have o16g0 := m15.keep b16
  clear c15w c15S m15
  go_wp2_with fail
  refine (toInt_l a2 l2 cap2 w16 n2 (hs2.keep c16w)).mono ?_
  rintro e w17 ⟨au2, capu2, rfl, t17, b17⟩
  have z_b17 := b17.size
  have c17w := below_up c16w b17 c16w.size
  have c17S := below_up c16S b17 c16S.size
  have o17g0 := o16g0.keep b17
  have o17u1 := t16.keep b17
  clear c16w c16S o16g0 t16
  go_wp2_with fail
  refine (iDecodeWordU f0 au1 l1 capu1 au2 l2 capu2 f3 w17 n1 n2 o17u1.srcC t17.srcC (ht.below c17w) (hg.below c17w)).mono ?_
  rintro e w18 ⟨ah0, caph0, rfl, rh0, b18⟩
  have z_b18 := b18.size
  have c18w := below_up c17w b18 c17w.size
  have c18S := below_up c17S b18 c17S.size
  have o18g0 := o17g0.keep b18
  have o18u1 := o17u1.keep b18
  have o18u2 := t17.keep b18
  clear c17w c17S o17g0 o17u1 t17
  clear o18u1
  clear o18u2
  go_wp2_with fail
  refine (eq_l ah0 as0 (mDecodeWord0 f0 l1 l2 f3) caph0 caps0 w18 L0 rh0.src (ss0.keep c18S)).mono ?_
  rintro e w19 ⟨rfl, b19⟩
  have z_b19 := b19.size
  have c19w := below_up c18w b19 c18w.size
  have c19S := below_up c18S b19 c18S.size
  have o19g0 := o18g0.keep b19
  have o19h0 := rh0.keep b19
  clear c18w c18S o18g0 rh0
  go_wp2_with fail
  refine (held_l _ ag0 (mDecodeWord0 f0 l1 l2 f3).length capg0 (1) w19 L0 (by omega) (by omega) o19g0).mono ?_
  rintro e w' ⟨rfl, rfl⟩
  go_wp2
  go_ret
  exact ⟨rfl, c19w⟩
set_option maxRecDepth 100000 in
theorem walk (a0 : Int) (a1 : Option Addr) (len1 cap1 : Nat) (z1 : List Int) (a2 : Option Addr) (len2 cap2 : Nat) (z2 : List Int) (a3 : Int) (w : World) (hr1 : IsRow .i64 w a1 len1 cap1 z1) (hr2 : IsRow .i64 w a2 len2 cap2 z2) (ht : Tab w) (hg : Ety w) : Calls Tryd.prog 3 #[.int .i64 a0, .slice a1 len1 cap1, .slice a2 len2 cap2, .int .i64 a3] w fun e w' => e = .returned (.bool true) ∧ Below w.heap.size w w' := by
  obtain ⟨y1, rfl, hs1⟩ := row_list hr1
  obtain ⟨y2, rfl, hs2⟩ := row_list hr2
  by_cases n1 : 1048576 < y1.length
  · have hd : decide ((1048576 : Int) < y1.length) = true := by simp; omega
    go_enter Tryd.func3, Tryd.ntmps3
    go_wp2
    go_ret
    exact ⟨rfl, Below.refl _ _⟩
  by_cases n2 : 1048576 < y2.length
  · have hd : decide ((1048576 : Int) < y2.length) = true := by simp; omega
    have hd1 : decide ((1048576 : Int) < y1.length) = false := by simp; omega
    go_enter Tryd.func3, Tryd.ntmps3
    go_wp2
    go_ret
    exact ⟨rfl, Below.refl _ _⟩
  exact walk_on a0 a1 y1 cap1 a2 y2 cap2 a3 w hs1 (by omega) hs2 (by omega) ht hg
set_option maxRecDepth 100000 in
theorem contract (H : Type) (enc : TypeId × Value → H) (W : World) (base : Nat) (args : Array Value) (ds gs : List (DataW H)) (before : List MemPlace)
    (hval : ∀ (j : Nat) t v, Tryd.f3.params[j]? = some t → args[j]? = some v → Value.okWide Tryd.prog W .any base t v)
    (hW : DataW.Whole enc Tryd.prog Tryd.f3.params.toList Rows.fnExactDecodeWordSpec.vars false W args.toList ds gs before) (hL : laidMetH Tryd.prog Rows.fnExactDecodeWordRow.laid W) :
    Calls Tryd.prog 3 args W fun e W' => ∃ v, e = .returned v ∧ Rows.fnExactDecodeWordSpec.post enc Tryd.prog Tryd.f3 false true false false W args v W' := by
  have hvar := table_var2 hL
  have het := ety_of hL
  have hW' := hW
  obtain ⟨p, q, hA0, hV, rfl, hfz, hnd⟩ := hW
  have hA : DataW.TrodAll enc Tryd.prog W 0 (fun _ => true) true Tryd.f3.params.toList args.toList ds p := hA0
  rw [Tryd.params3] at hA hval
  obtain ⟨v0, vs0, d0, ds0, p0, q0, hargs, rfl, rfl, h0, r0⟩ := trodAll_cons hA
  obtain ⟨v1, vs1, d1, ds1, p1, q1, rfl, rfl, rfl, h1, r1⟩ := trodAll_cons r0
  obtain ⟨v2, vs2, d2, ds2, p2, q2, rfl, rfl, rfl, h2, r2⟩ := trodAll_cons r1
  obtain ⟨v3, vs3, d3, ds3, p3, q3, rfl, rfl, rfl, h3, r3⟩ := trodAll_cons r2
  obtain ⟨rfl, rfl, rfl⟩ := trodAll_nil r3
  obtain rfl : args = #[v0, v1, v2, v3] := by cases args; simp_all
  obtain ⟨rfl, rfl⟩ := DataW.TrodVars.unique hV (tab_vars enc (fun _ => true) hvar)
  obtain ⟨a0, rfl, rfl, rfl, w0⟩ := open_int Tryd.underlying3 (hval 0 3 v0 rfl rfl) h0
  obtain ⟨a1, len1, cap1, rfl⟩ := okWide_slice Tryd.underlying22 (hval 1 22 v1 rfl rfl)
  have k1 := h1
  have lt1 : ∀ x ∈ p1, x.block < W.heap.size := by obtain ⟨m, hm⟩ := k1; exact DataW.trod_lt m _ _ _ hm
  obtain ⟨z1, w1⟩ : ∃ zs, IsRow .i64 W a1 len1 cap1 zs := by
    obtain ⟨fuel, hf⟩ := h1
    rcases open_ints Tryd.underlying22 Tryd.underlying3 (by kernel_rfl) hf with ⟨hcs, _⟩ | ⟨x, l, c, zs, hcs, _, hl, hm, hz, _, hcell, hwz⟩
    · simp [Value.cells] at hcs
      obtain ⟨rfl, rfl, rfl⟩ := hcs
      exact ⟨[], .inl ⟨rfl, rfl, rfl, rfl⟩⟩
    · simp [Value.cells] at hcs
      obtain ⟨rfl, rfl, rfl⟩ := hcs
      exact ⟨zs, .inr ⟨_, rfl, hl, hm, by simpa using hz, hcell, hwz⟩⟩
  obtain ⟨a2, len2, cap2, rfl⟩ := okWide_slice Tryd.underlying22 (hval 2 22 v2 rfl rfl)
  have k2 := h2
  have lt2 : ∀ x ∈ p2, x.block < W.heap.size := by obtain ⟨m, hm⟩ := k2; exact DataW.trod_lt m _ _ _ hm
  obtain ⟨z2, w2⟩ : ∃ zs, IsRow .i64 W a2 len2 cap2 zs := by
    obtain ⟨fuel, hf⟩ := h2
    rcases open_ints Tryd.underlying22 Tryd.underlying3 (by kernel_rfl) hf with ⟨hcs, _⟩ | ⟨x, l, c, zs, hcs, _, hl, hm, hz, _, hcell, hwz⟩
    · simp [Value.cells] at hcs
      obtain ⟨rfl, rfl, rfl⟩ := hcs
      exact ⟨[], .inl ⟨rfl, rfl, rfl, rfl⟩⟩
    · simp [Value.cells] at hcs
      obtain ⟨rfl, rfl, rfl⟩ := hcs
      exact ⟨zs, .inr ⟨_, rfl, hl, hm, by simpa using hz, hcell, hwz⟩⟩
  obtain ⟨a3, rfl, rfl, rfl, w3⟩ := open_int Tryd.underlying3 (hval 3 3 v3 rfl rfl) h3
  clear hA0
  refine (walk a0 a1 len1 cap1 z1 a2 len2 cap2 z2 a3 W w1 w2 (tab_of hvar) het).mono fun e W' ⟨he, bel⟩ => ?_
  subst he
  exact ⟨_, rfl, _, _, _, [], _, _, hW', trodAll_mk1 (shut_bool Tryd.underlying4 _), (trodAll_cons_mk (shut_int Tryd.underlying3 w0) (trodAll_cons_mk (Below.trod f_laidOut (by kernel_rfl) (of_decide_eq_true (by kernel_rfl)) k1 bel lt1) (trodAll_cons_mk (Below.trod f_laidOut (by kernel_rfl) (of_decide_eq_true (by kernel_rfl)) k2 bel lt2) (trodAll_cons_mk (shut_int Tryd.underlying3 w3) trodAll_mk0)))), tab_vars enc _ (below_var bel hvar), bel.frame _, fun h => by cases h⟩
theorem laid_met (os : Os) : laidMetH Tryd.prog Rows.fnExactDecodeWordRow.laid ((laidWorld2 os).forCall (fun _ _ => 0) ⟨#[], #[.int .i64 0, .slice none 0 0, .slice none 0 0, .int .i64 0], []⟩).memory :=
  laidMetH_of_parts (laidMet_of_run' 8 (by kernel_rfl) (by kernel_rfl)) (by kernel_rfl)
theorem reads (os : Os) {H : Type} (enc : TypeId × Value → H) : ∃ places, DataW.whole enc Tryd.prog ((laidWorld2 os).forCall (fun _ _ => 0) ⟨#[], #[.int .i64 0, .slice none 0 0, .slice none 0 0, .int .i64 0], []⟩).memory Tryd.f3.params.toList Rows.fnExactDecodeWordSpec.vars false #[Value.int .i64 0, Value.slice none 0 0, Value.slice none 0 0, Value.int .i64 0].toList 8 = some ([.lit (.int .i64 0), .nil, .nil, .lit (.int .i64 0)], [Rows.laid_loop_example_g00710_impl_fieldTable], places) :=
  ⟨MemPlace.row ⟨1, 0, none⟩ 27, by kernel_rfl⟩
set_option maxRecDepth 100000 in
theorem lifted (os : Os) (started : os.Started) (H : Type) (enc : TypeId × Value → H) (F : Stop.Interp) :
    ReturnsInHanded {} Tryd.checked os 3 .any ((OpenSpec.ofChange Rows.fnExactDecodeWordSpec).preRow enc Tryd.prog Tryd.f3 Rows.fnExactDecodeWordRow.domain false Rows.fnExactDecodeWordRow.laid) (((OpenSpec.ofChange Rows.fnExactDecodeWordSpec).at F).post enc Tryd.prog Tryd.f3 false true false false) := by
  obtain ⟨places, hx⟩ := reads os enc
  refine returnsInHanded_of_row (C := Tryd.checked) (s := OpenSpec.ofChange Rows.fnExactDecodeWordSpec) own started (by kernel_rfl) Tryd.func3
    (witness_row_at (enc := enc) (C := Tryd.checked) false (laidWorld2 os) #[.int .i64 0, .slice none 0 0, .slice none 0 0, .int .i64 0] rfl (by kernel_rfl) (by kernel_rfl) (by kernel_rfl)
      (OpenSpec.preRow_of_cond 8 hx (by kernel_rfl) (fun k hk => by cases hk) (by kernel_rfl) (laid_met os))) ?_
  intro W base args ds gs before hval hW _ _ _ hL _ _
  exact contract H enc W base args ds gs before hval hW hL
theorem closed : joinedFacts Tryd.prog 3 Tryd.f3 (OpenSpec.ofChange Rows.fnExactDecodeWordSpec).bare Rows.fnExactDecodeWordRow = true := by
  unfold joinedFacts
  exact both (both (both (both (both (both (both (both (both (both (both (both (both (both (both (both (both (both (both (both (both (both (both (both (both (both (both (both (both (both (both (by as_aux_lemma => kernel_rfl) f_laidOut) f_mapsRowed) (by as_aux_lemma => kernel_rfl)) (by as_aux_lemma => kernel_rfl)) (by as_aux_lemma => kernel_rfl)) f_stops) (by as_aux_lemma => kernel_rfl)) f_knobs) (by as_aux_lemma => kernel_rfl)) (by as_aux_lemma => kernel_rfl)) (by as_aux_lemma => kernel_rfl)) (by as_aux_lemma => kernel_rfl)) (by as_aux_lemma => kernel_rfl)) (by as_aux_lemma => kernel_rfl)) (by as_aux_lemma => kernel_rfl)) (by as_aux_lemma => kernel_rfl)) (by as_aux_lemma => kernel_rfl)) (by as_aux_lemma => kernel_rfl)) (by as_aux_lemma => kernel_rfl)) (by as_aux_lemma => kernel_rfl)) (by as_aux_lemma => kernel_rfl)) f_keys) (by as_aux_lemma => kernel_rfl)) f_heard) f_enter) f_lifts) f_make) (by as_aux_lemma => kernel_rfl)) (by as_aux_lemma => kernel_rfl)) (by as_aux_lemma => kernel_rfl)) (by as_aux_lemma => kernel_rfl)
theorem said : Rows.FnExactDecodeWordSaid :=
  OpenClaim.holds_of_cond 3 Tryd.f3 rfl rfl rfl rfl rfl rfl rfl ⟨rfl, rfl, rfl, rfl, rfl⟩ rfl rfl rfl rfl rfl (by as_aux_lemma => kernel_rfl) Tryd.func3 closed
    (of_decide_eq_true (by as_aux_lemma => kernel_rfl)) (by unfold Func.isWrapper; rw [if_neg (by decide +kernel)]; exact ⟨rfl, rfl⟩)
    (fun os started H enc _ F => by rw [OpenClaim.pre_eq_preRow]; exact lifted os started H enc F)
theorem plain (f : FuncId) (fn : Func) (hf : Tryd.pinned.checked.prog.funcNamed "loop.example/g00710/laws.FnExactDecodeWord" = some f) (hfn : Tryd.pinned.checked.prog.funcs[f]? = some fn) :
    true = Tryd.pinned.checked.prog.looks [] ∧ ∀ (j : Nat) t, fn.params[j]? = some t → Tryd.pinned.checked.prog.wantsStandIn t = false := by
  obtain rfl : f = 3 := Option.some.inj ((show Tryd.prog.funcNamed "loop.example/g00710/laws.FnExactDecodeWord" = some 3 by kernel_rfl).symm.trans hf) |>.symm
  obtain rfl : fn = Tryd.f3 := (Option.some.inj (Tryd.func3.symm.trans hfn)).symm
  refine ⟨f_looks, fun j t ht => ?_⟩
  rw [Tryd.params3] at ht
  have hm := Array.mem_of_getElem? ht
  have hm2 : t = 3 ∨ t = 22 ∨ t = 22 ∨ t = 3 := by simpa using hm
  rcases hm2 with rfl | rfl | rfl | rfl
  · exact (show Tryd.prog.wantsStandIn 3 = false by kernel_rfl)
  · exact (show Tryd.prog.wantsStandIn 22 = false by kernel_rfl)
  · exact (show Tryd.prog.wantsStandIn 22 = false by kernel_rfl)
  · exact (show Tryd.prog.wantsStandIn 3 = false by kernel_rfl)
end ExactDecodeWord
theorem fnExactDecodeWord_card : Rows.FnExactDecodeWordCardSaid :=
  Claim7.holds_tied_plain_at .later [] _ _ _ _ ExactDecodeWord.said (fun _ h => by cases h) (by as_aux_lemma => kernel_rfl) (fun _ h => by cases h) fnExactDecodeWord_row_tie rfl ⟨rfl, rfl⟩ f_main rfl ExactDecodeWord.plain (by as_aux_lemma => kernel_rfl)
end Go.Proofs.YtangofjpnhhfeabDoor
