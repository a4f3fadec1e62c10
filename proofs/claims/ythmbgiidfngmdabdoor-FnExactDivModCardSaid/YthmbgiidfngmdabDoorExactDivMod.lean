/-
  For every argument the program's DivMod answers as the specification's model of it, writes into no argument and answers in memory of its own; no condition but the card's own (the table of fields holds what its initialiser lays).
-/
import Derived.Test.YthmbgiidfngmdabDoorJ3
import Derived.ChangeOld
import Derived.Below
import Derived.Carry
namespace Go.Proofs.YthmbgiidfngmdabDoor
open Go.ChangeShapes Go.WideShapes Go.ChangeAt Go.RowKit
namespace ExactDivMod
set_option maxRecDepth 100000 in
set_option maxHeartbeats 6400000 in
theorem walk_on (f0 : Int) (a1 : Option Addr) (l1 : List Int) (cap1 : Nat) (a2 : Option Addr) (l2 : List Int) (cap2 : Nat) (w : World) (hs1 : Src w a1 l1.length (lf l1)) (n1 : l1.length ≤ 1048576) (hs2 : Src w a2 l2.length (lf l2)) (n2 : l2.length ≤ 1048576) (ht : Tab w) :
    Calls Tryd.prog 4 #[.int .i64 f0, .slice a1 l1.length cap1, .slice a2 l2.length cap2] w fun e w' => e = .returned (.bool true) ∧ Below w.heap.size w w' := by
  have hd1 : decide ((1048576 : Int) < l1.length) = false := by simp; omega
  have hd2 : decide ((1048576 : Int) < l2.length) = false := by simp; omega
  have L0 := len_mDivMod0 f0 l1 l2 n1 n2
  have L1 := len_mDivMod1 f0 l1 l2 n1 n2
  have e2 : ((mDivMod2 f0 l1 l2) != (mDivMod2 f0 l1 l2)) = false := by simp
  have hne : ((1 + (mDivMod0 f0 l1 l2).length + (mDivMod1 f0 l1 l2).length : Int) != 1 + (mDivMod0 f0 l1 l2).length + (mDivMod1 f0 l1 l2).length) = false := by simp
  go_enter Tryd.func4, Tryd.ntmps4
  go_wp2_with fail
  refine (toInt_l a1 l1 cap1 w n1 hs1).mono ?_
  rintro e w1 ⟨ap1, capp1, rfl, t1, b1⟩
  have z_b1 := b1.size
  have c1w := b1
  go_wp2_with fail
  refine (toInt_l a2 l2 cap2 w1 n2 (hs2.keep c1w)).mono ?_
  rintro e w2 ⟨ap2, capp2, rfl, t2, b2⟩
  have z_b2 := b2.size
  have c2w := below_up c1w b2 c1w.size
  have o2p1 := t1.keep b2
  clear c1w t1
  go_wp2_with fail
  refine (sDivMod f0 ap1 l1 capp1 ap2 l2 capp2 w2 n1 n2 o2p1.src t2.src).mono ?_
  rintro e w3 ⟨as0, caps0, as1, caps1, rfl, ss0, ss1, b3⟩
  have z_b3 := b3.size
  clear o2p1
  clear t2
  have c3w := below_up c2w b3 c2w.size
  clear c2w
  have c3S := Below.refl w3.heap.size w3
  go_wp2_with fail
  refine (toInt_l a1 l1 cap1 w3 n1 (hs1.keep c3w)).mono ?_
  rintro e w4 ⟨ax1, capx1, rfl, t4, b4⟩
  have z_b4 := b4.size
  have L_x1 := t4.lies
  have c4w := below_up c3w b4 c3w.size
  have c4S := below_up c3S b4 c3S.size
  clear c3w c3S
  go_wp2_with fail
  refine (toInt_l a2 l2 cap2 w4 n2 (hs2.keep c4w)).mono ?_
  rintro e w5 ⟨ax2, capx2, rfl, t5, b5⟩
  have z_b5 := b5.size
  have L_x2 := t5.lies
  have c5w := below_up c4w b5 c4w.size
  have c5S := below_up c4S b5 c4S.size
  have o5x1 := t4.keep b5
  clear c4w c4S t4
  go_wp2_with fail
  refine (iDivMod f0 ax1 l1 capx1 ax2 l2 capx2 w5 n1 n2 o5x1.src t5.src (ht.below c5w)).mono ?_
  rintro e w6 ⟨ag0, capg0, ag1, capg1, Bg, rfl, rg0, qg, yg, rg1, b6⟩
  have z_b6 := b6.size
  have c6w := below_up c5w b6 c5w.size
  have c6S := below_up c5S b6 c5S.size
  have o6x1 := o5x1.keep b6
  have o6x2 := t5.keep b6
  clear c5w c5S o5x1 t5
  go_wp2_with fail
  refine (eq_l ag0 as0 (mDivMod0 f0 l1 l2) capg0 caps0 w6 L0 rg0.src (ss0.keep c6S)).mono ?_
  rintro e w7 ⟨rfl, b7⟩
  have z_b7 := b7.size
  have c7w := below_up c6w b7 c6w.size
  have c7S := below_up c6S b7 c6S.size
  have o7x1 := o6x1.keep b7
  have o7x2 := o6x2.keep b7
  have o7g0 := rg0.keep b7
  have o7g1 := rg1.keep b7
  clear c6w c6S o6x1 o6x2 rg0 rg1
  go_wp2_with fail
  refine (eq_l ag1 as1 (mDivMod1 f0 l1 l2) capg1 caps1 w7 L1 o7g1.src (ss1.keep c7S)).mono ?_
  rintro e w8 ⟨rfl, b8⟩
  have z_b8 := b8.size
  have c8w := below_up c7w b8 c7w.size
  have c8S := below_up c7S b8 c7S.size
  have o8x1 := o7x1.keep b8
  have o8x2 := o7x2.keep b8
  have o8g0 := o7g0.keep b8
  have o8g1 := o7g1.keep b8
  clear c7w c7S o7x1 o7x2 o7g0 o7g1
  go_wp2_with fail
  refine (toInt_l a1 l1 cap1 w8 n1 (hs1.keep c8w)).mono ?_
  rintro e w9 ⟨ay1, capy1, rfl, t9, b9⟩
  have z_b9 := b9.size
  have c9w := below_up c8w b9 c8w.size
  have c9S := below_up c8S b9 c8S.size
  have o9x1 := o8x1.keep b9
  have o9x2 := o8x2.keep b9
  have o9g0 := o8g0.keep b9
  have o9g1 := o8g1.keep b9
  clear c8w c8S o8x1 o8x2 o8g0 o8g1
  go_wp2_with fail
  refine (eq_l ax1 ay1 l1 capx1 capy1 w9 n1 o9x1.src t9.src).mono ?_
  rintro e w10 ⟨rfl, b10⟩
  have z_b10 := b10.size
  clear t9
  have c10w := below_up c9w b10 c9w.size
  have c10S := below_up c9S b10 c9S.size
  have o10x1 := o9x1.keep b10
  have o10x2 := o9x2.keep b10
  have o10g0 := o9g0.keep b10
  have o10g1 := o9g1.keep b10
  clear c9w c9S o9x1 o9x2 o9g0 o9g1
  go_wp2_with fail
  refine (toInt_l a2 l2 cap2 w10 n2 (hs2.keep c10w)).mono ?_
  rintro e w11 ⟨ay2, capy2, rfl, t11, b11⟩
  have z_b11 := b11.size
  have c11w := below_up c10w b11 c10w.size
  have c11S := below_up c10S b11 c10S.size
  have o11x1 := o10x1.keep b11
  have o11x2 := o10x2.keep b11
  have o11g0 := o10g0.keep b11
  have o11g1 := o10g1.keep b11
  clear c10w c10S o10x1 o10x2 o10g0 o10g1
  go_wp2_with fail
  refine (eq_l ax2 ay2 l2 capx2 capy2 w11 n2 o11x2.src t11.src).mono ?_
  rintro e w12 ⟨rfl, b12⟩
  have z_b12 := b12.size
  clear t11
  have c12w := below_up c11w b12 c11w.size
  have c12S := below_up c11S b12 c11S.size
  have o12x1 := o11x1.keep b12
  have o12x2 := o11x2.keep b12
  have o12g0 := o11g0.keep b12
  have o12g1 := o11g1.keep b12
  clear c11w c11S o11x1 o11x2 o11g0 o11g1
  have S_g0 : w3.heap.size ≤ w5.heap.size := by omega
  have S_g1 : w3.heap.size ≤ Bg := by omega
  have S_x1 : w3.heap.size ≤ w3.heap.size := by omega
  have S_x2 : w3.heap.size ≤ w4.heap.size := by omega
  have w_g0 : w.heap.size ≤ w5.heap.size := by omega
  have w_g1 : w.heap.size ≤ Bg := by omega
  have w_x1 : w.heap.size ≤ w3.heap.size := by omega
  have w_x2 : w.heap.size ≤ w4.heap.size := by omega
  have K_x1_g0 : Lies ax1 (w5.heap.size) := L_x1.mono (by omega)
  have K_x1_g1 : Lies ax1 (Bg) := L_x1.mono (by omega)
  have K_x1_x2 : Lies ax1 (w4.heap.size) := L_x1.mono (by omega)
  have K_x2_g0 : Lies ax2 (w5.heap.size) := L_x2.mono (by omega)
  have K_x2_g1 : Lies ax2 (Bg) := L_x2.mono (by omega)
  go_wp2_with fail
  refine (mark_l _ ax1 l1 capx1 1 w12 n1 (by omega) (by omega) o12x1).mono ?_
  rintro e w13 ⟨rfl, m13, g13⟩
  have z_g13 := g13.size
  have c13w := g13.below o12x1 (w_x1) c12w c12w.size
  have c13S := g13.below o12x1 (S_x1) c12S c12S.size
  have o13x2 := o12x2.after g13 (K_x1_x2)
  have o13g0 := o12g0.after g13 (K_x1_g0)
  have o13g1 := o12g1.after g13 (K_x1_g1)
  clear c12w c12S o12x2 o12g0 o12g1 o12x1
  clear m13
  go_wp2_with fail
  refine (mark_l _ ax2 l2 capx2 (1 + l1.length) w13 n2 (by omega) (by omega) o13x2).mono ?_
  rintro e w14 ⟨rfl, m14, g14⟩
  have z_g14 := g14.size
  have c14w := g14.below o13x2 (w_x2) c13w c13w.size
  have c14S := g14.below o13x2 (S_x2) c13S c13S.size
  have o14g0 := o13g0.after g14 (K_x2_g0)
  have o14g1 := o13g1.after g14 (K_x2_g1)
  clear c13w c13S o13g0 o13g1 o13x2
  clear m14
  go_wp2_with fail
  refine (eq_l ag0 as0 (mDivMod0 f0 l1 l2) capg0 caps0 w14 L0 o14g0.src (ss0.keep c14S)).mono ?_
  rintro e w15 ⟨rfl, b15⟩
  have z_b15 := b15.size
  have c15w := below_up c14w b15 c14w.size
  have c15S := below_up c14S b15 c14S.size
  have o15g0 := o14g0.keep b15
  have o15g1 := o14g1.keep b15
  clear c14w c14S o14g0 o14g1
  go_wp2_with fail
  refine (eq_l ag1 as1 (mDivMod1 f0 l1 l2) capg1 caps1 w15 L1 o15g1.src (ss1.keep c15S)).mono ?_
  rintro e w16 ⟨rfl, b16⟩
  have z_b16 := b16.size
  have c16w := below_up c15w b16 c15w.size
  have c16S := below_up c15S b16 c15S.size
  have o16g0 := o15g0.keep b16
  have o16g1 := o15g1.keep b16
  clear c15w c15S o15g0 o15g1
  go_wp2_with fail
  refine (mark_l _ ag0 (mDivMod0 f0 l1 l2) capg0 1 w16 L0 (by omega) (by omega) o16g0).mono ?_
  rintro e w17 ⟨rfl, m17, g17⟩
  have z_g17 := g17.size
  have c17w := g17.below o16g0 (w_g0) c16w c16w.size
  have c17S := g17.below o16g0 (S_g0) c16S c16S.size
  have o17g1 := o16g1.after g17 (qg)
  clear c16w c16S o16g1 o16g0
  go_wp2_with fail
  refine (mark_l _ ag1 (mDivMod1 f0 l1 l2) capg1 (1 + (mDivMod0 f0 l1 l2).length) w17 L1 (by omega) (by omega) o17g1).mono ?_
  rintro e w18 ⟨rfl, m18, g18⟩
  have z_g18 := g18.size
  have c18w := g18.below o17g1 (w_g1) c17w c17w.size
  have c18S := g18.below o17g1 (S_g1) c17S c17S.size
  have o18g0 := m17.before g18 o17g1 qg
  clear c17w c17S m17 o17g1
  go_wp2_with fail
  refine (held_l _ ag0 (mDivMod0 f0 l1 l2).length capg0 (1) w18 L0 (by omega) (by omega) o18g0).mono ?_
  rintro e w' ⟨rfl, rfl⟩
  go_wp2_with fail
  refine (held_l _ ag1 (mDivMod1 f0 l1 l2).length capg1 (1 + (mDivMod0 f0 l1 l2).length) w18 L1 (by omega) (by omega) m18).mono ?_
  rintro e w' ⟨rfl, rfl⟩
  go_wp2_with fail
  refine (toInt_l a1 l1 cap1 w18 n1 (hs1.keep c18w)).mono ?_
  rintro e w19 ⟨au1, capu1, rfl, t19, b19⟩
  have z_b19 := b19.size
  have c19w := below_up c18w b19 c18w.size
  have c19S := below_up c18S b19 c18S.size
  have o19g0 := o18g0.keep b19
  have o19g1 := m18.keep b19
  clear c18w c18S o18g0 m18
  go_wp2_with fail
  refine (toInt_l a2 l2 cap2 w19 n2 (hs2.keep c19w)).mono ?_
  rintro e w20 ⟨au2, capu2, rfl, t20, b20⟩
  have z_b20 := b20.size
  have c20w := below_up c19w b20 c19w.size
  have c20S := below_up c19S b20 c19S.size
  have o20g0 := o19g0.keep b20
  have o20g1 := o19g1.keep b20
  have o20u1 := t19.keep b20
  clear c19w c19S o19g0 o19g1 t19
  go_wp2_with fail
  refine (iDivMod f0 au1 l1 capu1 au2 l2 capu2 w20 n1 n2 o20u1.src t20.src (ht.below c20w)).mono ?_
  rintro e w21 ⟨ah0, caph0, ah1, caph1, Bh, rfl, rh0, qh, yh, rh1, b21⟩
  have z_b21 := b21.size
  have c21w := below_up c20w b21 c20w.size
  have c21S := below_up c20S b21 c20S.size
  have o21g0 := o20g0.keep b21
  have o21g1 := o20g1.keep b21
  have o21u1 := o20u1.keep b21
  have o21u2 := t20.keep b21
  clear c20w c20S o20g0 o20g1 o20u1 t20
  clear o21u1
  clear o21u2
  go_wp2_with fail
  refine (eq_l ah0 as0 (mDivMod0 f0 l1 l2) caph0 caps0 w21 L0 rh0.src (ss0.keep c21S)).mono ?_
  rintro e w22 ⟨rfl, b22⟩
  have z_b22 := b22.size
  have c22w := below_up c21w b22 c21w.size
  have c22S := below_up c21S b22 c21S.size
  have o22g0 := o21g0.keep b22
  have o22g1 := o21g1.keep b22
  have o22h0 := rh0.keep b22
  have o22h1 := rh1.keep b22
  clear c21w c21S o21g0 o21g1 rh0 rh1
  go_wp2_with fail
  refine (eq_l ah1 as1 (mDivMod1 f0 l1 l2) caph1 caps1 w22 L1 o22h1.src (ss1.keep c22S)).mono ?_
  rintro e w23 ⟨rfl, b23⟩
  have z_b23 := b23.size
  have c23w := below_up c22w b23 c22w.size
  have c23S := below_up c22S b23 c22S.size
  have o23g0 := o22g0.keep b23
  have o23g1 := o22g1.keep b23
  have o23h0 := o22h0.keep b23
  have o23h1 := o22h1.keep b23
  clear c22w c22S o22g0 o22g1 o22h0 o22h1
  go_wp2_with fail
  refine (held_l _ ag0 (mDivMod0 f0 l1 l2).length capg0 (1) w23 L0 (by omega) (by omega) o23g0).mono ?_
  rintro e w' ⟨rfl, rfl⟩
  go_wp2_with fail
  refine (held_l _ ag1 (mDivMod1 f0 l1 l2).length capg1 (1 + (mDivMod0 f0 l1 l2).length) w23 L1 (by omega) (by omega) o23g1).mono ?_
  rintro e w' ⟨rfl, rfl⟩
  go_wp2
  go_ret
  exact ⟨rfl, c23w⟩
set_option maxRecDepth 100000 in
theorem walk (a0 : Int) (a1 : Option Addr) (len1 cap1 : Nat) (z1 : List Int) (a2 : Option Addr) (len2 cap2 : Nat) (z2 : List Int) (w : World) (hr1 : IsRow .i64 w a1 len1 cap1 z1) (hr2 : IsRow .i64 w a2 len2 cap2 z2) (ht : Tab w) : Calls Tryd.prog 4 #[.int .i64 a0, .slice a1 len1 cap1, .slice a2 len2 cap2] w fun e w' => e = .returned (.bool true) ∧ Below w.heap.size w w' := by
  obtain ⟨y1, rfl, hs1⟩ := row_list hr1
  obtain ⟨y2, rfl, hs2⟩ := row_list hr2
  by_cases n1 : 1048576 < y1.length
  · have hd : decide ((1048576 : Int) < y1.length) = true := by simp; omega
    go_enter Tryd.func4, Tryd.ntmps4
    go_wp2
    go_ret
    exact ⟨rfl, Below.refl _ _⟩
  by_cases n2 : 1048576 < y2.length
  · have hd : decide ((1048576 : Int) < y2.length) = true := by simp; omega
    have hd1 : decide ((1048576 : Int) < y1.length) = false := by simp; omega
    go_enter Tryd.func4, Tryd.ntmps4
    go_wp2
    go_ret
    exact ⟨rfl, Below.refl _ _⟩
  exact walk_on a0 a1 y1 cap1 a2 y2 cap2 w hs1 (by omega) hs2 (by omega) ht
theorem contract (H : Type) (enc : TypeId × Value → H) (W : World) (base : Nat) (args : Array Value) (ds gs : List (DataW H)) (before : List MemPlace)
    (hval : ∀ (j : Nat) t v, Tryd.f4.params[j]? = some t → args[j]? = some v → Value.okWide Tryd.prog W .any base t v)
    (hW : DataW.Whole enc Tryd.prog Tryd.f4.params.toList Rows.fnExactDivModSpec.vars false W args.toList ds gs before) (hL : laidMetH Tryd.prog Rows.fnExactDivModRow.laid W) :
    Calls Tryd.prog 4 args W fun e W' => ∃ v, e = .returned v ∧ Rows.fnExactDivModSpec.post enc Tryd.prog Tryd.f4 false true false false W args v W' := by
  have hvar := table_var hL
  have hW' := hW
  obtain ⟨p, q, hA0, hV, rfl, hfz, hnd⟩ := hW
  have hA : DataW.TrodAll enc Tryd.prog W 0 (fun _ => true) true Tryd.f4.params.toList args.toList ds p := hA0
  rw [Tryd.params4] at hA hval
  obtain ⟨v0, vs0, d0, ds0, p0, q0, hargs, rfl, rfl, h0, r0⟩ := trodAll_cons hA
  obtain ⟨v1, vs1, d1, ds1, p1, q1, rfl, rfl, rfl, h1, r1⟩ := trodAll_cons r0
  obtain ⟨v2, vs2, d2, ds2, p2, q2, rfl, rfl, rfl, h2, r2⟩ := trodAll_cons r1
  obtain ⟨rfl, rfl, rfl⟩ := trodAll_nil r2
  obtain rfl : args = #[v0, v1, v2] := by cases args; simp_all
  obtain ⟨rfl, rfl⟩ := DataW.TrodVars.unique hV (tab_vars enc (fun _ => true) hvar)
  obtain ⟨a0, rfl, rfl, rfl, w0⟩ := open_int Tryd.underlying3 (hval 0 3 v0 rfl rfl) h0
  obtain ⟨a1, len1, cap1, rfl⟩ := okWide_slice Tryd.underlying22 (hval 1 22 v1 rfl rfl)
  have k1 := h1
  have lt1 : ∀ x ∈ p1, x.block < W.heap.size := by obtain ⟨m, hm⟩ := k1; exact DataW.trod_lt m _ _ _ hm
  obtain ⟨z1, w1⟩ : ∃ zs, IsRow .i64 W a1 len1 cap1 zs := by
    obtain ⟨fuel, hf⟩ := h1
    rcases open_ints Tryd.underlying22 Tryd.underlying3 (by kernel_rfl) hf with ⟨hcs, _⟩ | ⟨x, l, c, zs, hcs, _, hl, hm, hz, _, hcell, hwz⟩
    · simp [Value.cells] at hcs
      obtain ⟨rfl, rfl, rfl⟩ := hcs
      exact ⟨[], .inl ⟨rfl, rfl, rfl, rfl⟩⟩
    · simp [Value.cells] at hcs
      obtain ⟨rfl, rfl, rfl⟩ := hcs
      exact ⟨zs, .inr ⟨_, rfl, hl, hm, by simpa using hz, hcell, hwz⟩⟩
  obtain ⟨a2, len2, cap2, rfl⟩ := okWide_slice Tryd.underlying22 (hval 2 22 v2 rfl rfl)
  have k2 := h2
  have lt2 : ∀ x ∈ p2, x.block < W.heap.size := by obtain ⟨m, hm⟩ := k2; exact DataW.trod_lt m _ _ _ hm
  obtain ⟨z2, w2⟩ : ∃ zs, IsRow .i64 W a2 len2 cap2 zs := by
    obtain ⟨fuel, hf⟩ := h2
    rcases open_ints Tryd.underlying22 Tryd.underlying3 (by kernel_rfl) hf with ⟨hcs, _⟩ | ⟨x, l, c, zs, hcs, _, hl, hm, hz, _, hcell, hwz⟩
    · simp [Value.cells] at hcs
      obtain ⟨rfl, rfl, rfl⟩ := hcs
      exact ⟨[], .inl ⟨rfl, rfl, rfl, rfl⟩⟩
    · simp [Value.cells] at hcs
      obtain ⟨rfl, rfl, rfl⟩ := hcs
      exact ⟨zs, .inr ⟨_, rfl, hl, hm, by simpa using hz, hcell, hwz⟩⟩
  clear hA0
  refine (walk a0 a1 len1 cap1 z1 a2 len2 cap2 z2 W w1 w2 (tab_of hvar)).mono fun e W' ⟨he, bel⟩ => ?_
  subst he
  exact ⟨_, rfl, _, _, _, [], _, _, hW', trodAll_mk1 (shut_bool Tryd.underlying4 _), (trodAll_cons_mk (shut_int Tryd.underlying3 w0) (trodAll_cons_mk (Below.trod f_laidOut (by kernel_rfl) (of_decide_eq_true (by kernel_rfl)) k1 bel lt1) (trodAll_cons_mk (Below.trod f_laidOut (by kernel_rfl) (of_decide_eq_true (by kernel_rfl)) k2 bel lt2) trodAll_mk0))), tab_vars enc _ (below_var bel hvar), bel.frame _, fun h => by cases h⟩
theorem laid_met (os : Os) : laidMet Tryd.prog Rows.fnExactDivModRow.laid ((laidWorld os).forCall (fun _ _ => 0) ⟨#[], #[.int .i64 0, .slice none 0 0, .slice none 0 0], []⟩).memory :=
  laidMet_of_run' 8 (by kernel_rfl) (by kernel_rfl)
theorem reads (os : Os) {H : Type} (enc : TypeId × Value → H) : ∃ places, DataW.whole enc Tryd.prog ((laidWorld os).forCall (fun _ _ => 0) ⟨#[], #[.int .i64 0, .slice none 0 0, .slice none 0 0], []⟩).memory Tryd.f4.params.toList Rows.fnExactDivModSpec.vars false #[Value.int .i64 0, Value.slice none 0 0, Value.slice none 0 0].toList 8 = some ([.lit (.int .i64 0), .nil, .nil], [Rows.laid_loop_example_g00710_impl_fieldTable], places) :=
  ⟨MemPlace.row ⟨0, 0, none⟩ 27, by kernel_rfl⟩
set_option maxRecDepth 100000 in
theorem lifted (os : Os) (started : os.Started) (H : Type) (enc : TypeId × Value → H) (F : Stop.Interp) :
    ReturnsInHanded {} Tryd.checked os 4 .any ((OpenSpec.ofChange Rows.fnExactDivModSpec).preRow enc Tryd.prog Tryd.f4 Rows.fnExactDivModRow.domain false Rows.fnExactDivModRow.laid) (((OpenSpec.ofChange Rows.fnExactDivModSpec).at F).post enc Tryd.prog Tryd.f4 false true false false) := by
  obtain ⟨places, hx⟩ := reads os enc
  refine returnsInHanded_of_row (C := Tryd.checked) (s := OpenSpec.ofChange Rows.fnExactDivModSpec) own started (by kernel_rfl) Tryd.func4
    (witness_row_at (enc := enc) (C := Tryd.checked) false (laidWorld os) #[.int .i64 0, .slice none 0 0, .slice none 0 0] rfl (by kernel_rfl) (by kernel_rfl) (by kernel_rfl)
      (OpenSpec.preRow_of_cond 8 hx (by kernel_rfl) (fun k hk => by cases hk) (by kernel_rfl) (laid_met os))) ?_
  intro W base args ds gs before hval hW _ _ _ hL _ _
  exact contract H enc W base args ds gs before hval hW hL
theorem closed : joinedFacts Tryd.prog 4 Tryd.f4 (OpenSpec.ofChange Rows.fnExactDivModSpec).bare Rows.fnExactDivModRow = true := by
  unfold joinedFacts
  exact both (both (both (both (both (both (both (both (both (both (both (both (both (both (both (both (both (both (both (both (both (both (both (both (both (both (both (both (both (both (both (by as_aux_lemma => kernel_rfl) f_laidOut) f_mapsRowed) (by as_aux_lemma => kernel_rfl)) (by as_aux_lemma => kernel_rfl)) (by as_aux_lemma => kernel_rfl)) f_stops) (by as_aux_lemma => kernel_rfl)) f_knobs) (by as_aux_lemma => kernel_rfl)) (by as_aux_lemma => kernel_rfl)) (by as_aux_lemma => kernel_rfl)) (by as_aux_lemma => kernel_rfl)) (by as_aux_lemma => kernel_rfl)) (by as_aux_lemma => kernel_rfl)) (by as_aux_lemma => kernel_rfl)) (by as_aux_lemma => kernel_rfl)) (by as_aux_lemma => kernel_rfl)) (by as_aux_lemma => kernel_rfl)) (by as_aux_lemma => kernel_rfl)) (by as_aux_lemma => kernel_rfl)) (by as_aux_lemma => kernel_rfl)) f_keys) (by as_aux_lemma => kernel_rfl)) f_heard) f_enter) f_lifts) f_make) (by as_aux_lemma => kernel_rfl)) (by as_aux_lemma => kernel_rfl)) (by as_aux_lemma => kernel_rfl)) (by as_aux_lemma => kernel_rfl)
theorem said : Rows.FnExactDivModSaid :=
  OpenClaim.holds_of_cond 4 Tryd.f4 rfl rfl rfl rfl rfl rfl rfl ⟨rfl, rfl, rfl, rfl, rfl⟩ rfl rfl rfl rfl rfl (by as_aux_lemma => kernel_rfl) Tryd.func4 closed
    (of_decide_eq_true (by as_aux_lemma => kernel_rfl)) (by unfold Func.isWrapper; rw [if_neg (by decide +kernel)]; exact ⟨rfl, rfl⟩)
    (fun os started H enc _ F => by rw [OpenClaim.pre_eq_preRow]; exact lifted os started H enc F)
theorem plain (f : FuncId) (fn : Func) (hf : Tryd.pinned.checked.prog.funcNamed "loop.example/g00710/laws.FnExactDivMod" = some f) (hfn : Tryd.pinned.checked.prog.funcs[f]? = some fn) :
    false = Tryd.pinned.checked.prog.looks [] ∧ ∀ (j : Nat) t, fn.params[j]? = some t → Tryd.pinned.checked.prog.wantsStandIn t = false := by
  obtain rfl : f = 4 := Option.some.inj ((show Tryd.prog.funcNamed "loop.example/g00710/laws.FnExactDivMod" = some 4 by kernel_rfl).symm.trans hf) |>.symm
  obtain rfl : fn = Tryd.f4 := (Option.some.inj (Tryd.func4.symm.trans hfn)).symm
  refine ⟨f_looks, fun j t ht => ?_⟩
  rw [Tryd.params4] at ht
  have hm := Array.mem_of_getElem? ht
  have hm2 : t = 3 ∨ t = 22 ∨ t = 22 := by simpa using hm
  rcases hm2 with rfl | rfl | rfl
  · exact (show Tryd.prog.wantsStandIn 3 = false by kernel_rfl)
  · exact (show Tryd.prog.wantsStandIn 22 = false by kernel_rfl)
  · exact (show Tryd.prog.wantsStandIn 22 = false by kernel_rfl)
end ExactDivMod
theorem fnExactDivMod_card : Rows.FnExactDivModCardSaid :=
  Claim7.holds_tied_plain_at .later [] _ _ _ _ ExactDivMod.said (fun _ h => by cases h) (by as_aux_lemma => kernel_rfl) (fun _ h => by cases h) fnExactDivMod_row_tie rfl ⟨rfl, rfl⟩ f_main rfl ExactDivMod.plain (by as_aux_lemma => kernel_rfl)
end Go.Proofs.YthmbgiidfngmdabDoor
