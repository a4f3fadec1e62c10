/-
  For every argument the program's DecodeGaps answers as the specification's model of it, writes into no argument and answers in memory of its own; no condition but the card's own (the table of fields holds what its initialiser lays).
-/
import Derived.Test.YtangofjpnhhfeabDoorJ5
import Derived.ChangeOld
import Derived.Below
import Derived.Carry
namespace Go.Proofs.YtangofjpnhhfeabDoor
open Go.ChangeShapes Go.WideShapes Go.ChangeAt Go.RowKit
namespace ExactDecodeGaps
set_option maxRecDepth 100000 in
set_option maxHeartbeats 6400000 in
theorem walk_on (f0 : Int) (a1 : Option Addr) (l1 : List Int) (cap1 : Nat) (a2 : Option Addr) (l2 : List Int) (cap2 : Nat) (f3 : Int) (a4 : Option Addr) (l4 : List Int) (cap4 : Nat) (w : World) (hs1 : Src w a1 l1.length (lf l1)) (n1 : l1.length ≤ 1048576) (hs2 : Src w a2 l2.length (lf l2)) (n2 : l2.length ≤ 1048576) (hs4 : Src w a4 l4.length (lf l4)) (n4 : l4.length ≤ 1048576) (ht : Tab w) (hg : Ety w) :
    Calls Tryd.prog 5 #[.int .i64 f0, .slice a1 l1.length cap1, .slice a2 l2.length cap2, .int .i64 f3, .slice a4 l4.length cap4] w fun e w' => e = .returned (.bool true) ∧ Below w.heap.size w w' := by
  have hd1 : decide ((1048576 : Int) < l1.length) = false := by simp; omega
  have hd2 : decide ((1048576 : Int) < l2.length) = false := by simp; omega
  have hd4 : decide ((1048576 : Int) < l4.length) = false := by simp; omega
  have L0 := len_mDecodeGaps0 f0 l1 l2 f3 l4 n1 n2 n4
  have e1 : ((mDecodeGaps1 f0 l1 l2 f3 l4) != (mDecodeGaps1 f0 l1 l2 f3 l4)) = false := by simp
  have e2 : ((mDecodeGaps2 f0 l1 l2 f3 l4) != (mDecodeGaps2 f0 l1 l2 f3 l4)) = false := by simp
  have hne : ((1 + (mDecodeGaps0 f0 l1 l2 f3 l4).length : Int) != 1 + (mDecodeGaps0 f0 l1 l2 f3 l4).length) = false := by simp
  go_enter Tryd.func5, Tryd.ntmps5
  go_wp2_with fail
  refine (toInt_l a1 l1 cap1 w n1 hs1).mono ?_
  rintro e w1 ⟨ap1, capp1, rfl, t1, b1⟩
  have z_b1 := b1.size
  have c1w := b1
  go_wp2_with fail
  refine (toInt_l a2 l2 cap2 w1 n2 (hs2.keep c1w)).mono ?_
  rintro e w2 ⟨ap2, capp2, rfl, t2, b2⟩
  have z_b2 := b2.size
  have c2w := below_up c1w b2 c1w.size
  have o2p1 := t1.keep b2
  clear c1w t1
  go_wp2_with fail
  refine (toInt_l a4 l4 cap4 w2 n4 (hs4.keep c2w)).mono ?_
  rintro e w3 ⟨ap4, capp4, rfl, t3, b3⟩
  have z_b3 := b3.size
  have c3w := below_up c2w b3 c2w.size
  have o3p1 := o2p1.keep b3
  have o3p2 := t2.keep b3
  clear c2w o2p1 t2
  go_wp2_with fail
  refine (sDecodeGapsU f0 ap1 l1 capp1 ap2 l2 capp2 f3 ap4 l4 capp4 w3 n1 n2 n4 o3p1.srcC o3p2.srcC t3.srcC).mono ?_
  rintro e w4 ⟨as0, caps0, rfl, ss0, b4⟩
  have z_b4 := b4.size
  clear o3p1
  clear o3p2
  clear t3
  have c4w := below_up c3w b4 c3w.size
  clear c3w
  have c4S := Below.refl w4.heap.size w4
  go_wp2_with fail
  refine (toInt_l a1 l1 cap1 w4 n1 (hs1.keep c4w)).mono ?_
  rintro e w5 ⟨ax1, capx1, rfl, t5, b5⟩
  have z_b5 := b5.size
  have L_x1 := t5.lies
  have c5w := below_up c4w b5 c4w.size
  have c5S := below_up c4S b5 c4S.size
  clear c4w c4S
  go_wp2_with fail
  refine (toInt_l a2 l2 cap2 w5 n2 (hs2.keep c5w)).mono ?_
  rintro e w6 ⟨ax2, capx2, rfl, t6, b6⟩
  have z_b6 := b6.size
  have L_x2 := t6.lies
  have c6w := below_up c5w b6 c5w.size
  have c6S := below_up c5S b6 c5S.size
  have o6x1 := t5.keep b6
  clear c5w c5S t5
  go_wp2_with fail
  refine (toInt_l a4 l4 cap4 w6 n4 (hs4.keep c6w)).mono ?_
  rintro e w7 ⟨ax4, capx4, rfl, t7, b7⟩
  have z_b7 := b7.size
  have L_x4 := t7.lies
  have c7w := below_up c6w b7 c6w.size
  have c7S := below_up c6S b7 c6S.size
  have o7x1 := o6x1.keep b7
  have o7x2 := t6.keep b7
  clear c6w c6S o6x1 t6
  go_wp2_with fail
  refine (iDecodeGapsU f0 ax1 l1 capx1 ax2 l2 capx2 f3 ax4 l4 capx4 w7 n1 n2 n4 o7x1.srcC o7x2.srcC t7.srcC (ht.below c7w) (hg.below c7w)).mono ?_
  rintro e w8 ⟨ag0, capg0, rfl, rg0, b8⟩
  have z_b8 := b8.size
  have c8w := below_up c7w b8 c7w.size
  have c8S := below_up c7S b8 c7S.size
  have o8x1 := o7x1.keep b8
  have o8x2 := o7x2.keep b8
  have o8x4 := t7.keep b8
  clear c7w c7S o7x1 o7x2 t7
  go_wp2_with fail
  refine (eq_l ag0 as0 (mDecodeGaps0 f0 l1 l2 f3 l4) capg0 caps0 w8 L0 rg0.src (ss0.keep c8S)).mono ?_
  rintro e w9 ⟨rfl, b9⟩
  have z_b9 := b9.size
  have c9w := below_up c8w b9 c8w.size
  have c9S := below_up c8S b9 c8S.size
  have o9x1 := o8x1.keep b9
  have o9x2 := o8x2.keep b9
  have o9x4 := o8x4.keep b9
  have o9g0 := rg0.keep b9
  clear c8w c8S o8x1 o8x2 o8x4 rg0
  go_wp2_with fail
  refine (toInt_l a1 l1 cap1 w9 n1 (hs1.keep c9w)).mono ?_
  rintro e w10 ⟨ay1, capy1, rfl, t10, b10⟩
  have z_b10 := b10.size
  have c10w := below_up c9w b10 c9w.size
  have c10S := below_up c9S b10 c9S.size
  have o10x1 := o9x1.keep b10
  have o10x2 := o9x2.keep b10
  have o10x4 := o9x4.keep b10
  have o10g0 := o9g0.keep b10
  clear c9w c9S o9x1 o9x2 o9x4 o9g0
  go_wp2_with fail
  refine (eq_l ax1 ay1 l1 capx1 capy1 w10 n1 o10x1.src t10.src).mono ?_
  rintro e w11 ⟨rfl, b11⟩
  have z_b11 := b11.size
  clear t10
  have c11w := below_up c10w b11 c10w.size
  have c11S := below_up c10S b11 c10S.size
  have o11x1 := o10x1.keep b11
  have o11x2 := o10x2.keep b11
  have o11x4 := o10x4.keep b11
  have o11g0 := o10g0.keep b11
  clear c10w c10S o10x1 o10x2 o10x4 o10g0
  go_wp2_with fail
  refine (toInt_l a2 l2 cap2 w11 n2 (hs2.keep c11w)).mono ?_
  rintro e w12 ⟨ay2, capy2, rfl, t12, b12⟩
  have z_b12 := b12.size
  have c12w := below_up c11w b12 c11w.size
  have c12S := below_up c11S b12 c11S.size
  have o12x1 := o11x1.keep b12
  have o12x2 := o11x2.keep b12
  have o12x4 := o11x4.keep b12
  have o12g0 := o11g0.keep b12
  clear c11w c11S o11x1 o11x2 o11x4 o11g0
  go_wp2_with fail
  refine (eq_l ax2 ay2 l2 capx2 capy2 w12 n2 o12x2.src t12.src).mono ?_
  rintro e w13 ⟨rfl, b13⟩
  have z_b13 := b13.size
  clear t12
  have c13w := below_up c12w b13 c12w.size
  have c13S := below_up c12S b13 c12S.size
  have o13x1 := o12x1.keep b13
  have o13x2 := o12x2.keep b13
  have o13x4 := o12x4.keep b13
  have o13g0 := o12g0.keep b13
  clear c12w c12S o12x1 o12x2 o12x4 o12g0
  go_wp2_with fail
  refine (toInt_l a4 l4 cap4 w13 n4 (hs4.keep c13w)).mono ?_
  rintro e w14 ⟨ay4, capy4, rfl, t14, b14⟩
  have z_b14 := b14.size
  have c14w := below_up c13w b14 c13w.size
  have c14S := below_up c13S b14 c13S.size
  have o14x1 := o13x1.keep b14
  have o14x2 := o13x2.keep b14
  have o14x4 := o13x4.keep b14
  have o14g0 := o13g0.keep b14
  clear c13w c13S o13x1 o13x2 o13x4 o13g0
  go_wp2_with fail
  refine (eq_l ax4 ay4 l4 capx4 capy4 w14 n4 o14x4.src t14.src).mono ?_
  rintro e w15 ⟨rfl, b15⟩
  have z_b15 := b15.size
  clear t14
  have c15w := below_up c14w b15 c14w.size
  have c15S := below_up c14S b15 c14S.size
  have o15x1 := o14x1.keep b15
  have o15x2 := o14x2.keep b15
  have o15x4 := o14x4.keep b15
  have o15g0 := o14g0.keep b15
  clear c14w c14S o14x1 o14x2 o14x4 o14g0
  have S_g0 : w4.heap.size ≤ w7.heap.size := by omega
  have S_x1 : w4.heap.size ≤ w4.heap.size := by omega
  have S_x2 : w4.heap.size ≤ w5.heap.size := by omega
  have S_x4 : w4.heap.size ≤ w6.heap.size := by omega
  have w_g0 : w.heap.size ≤ w7.heap.size := by omega
  have w_x1 : w.heap.size ≤ w4.heap.size := by omega
  have w_x2 : w.heap.size ≤ w5.heap.size := by omega
  have w_x4 : w.heap.size ≤ w6.heap.size := by omega
  have K_x1_g0 : Lies ax1 (w7.heap.size) := L_x1.mono (by omega)
  have K_x1_x2 : Lies ax1 (w5.heap.size) := L_x1.mono (by omega)
  have K_x1_x4 : Lies ax1 (w6.heap.size) := L_x1.mono (by omega)
  have K_x2_g0 : Lies ax2 (w7.heap.size) := L_x2.mono (by omega)
  have K_x2_x4 : Lies ax2 (w6.heap.size) := L_x2.mono (by omega)
  have K_x4_g0 : Lies ax4 (w7.heap.size) := L_x4.mono (by omega)
  go_wp2_with fail
  refine (mark_l _ ax1 l1 capx1 1 w15 n1 (by omega) (by omega) o15x1).mono ?_
  rintro e w16 ⟨rfl, m16, g16⟩
  have z_g16 := g16.size
  have c16w := g16.below o15x1 (w_x1) c15w c15w.size
  have c16S := g16.below o15x1 (S_x1) c15S c15S.size
  have o16x2 := o15x2.after g16 (K_x1_x2)
  have o16x4 := o15x4.after g16 (K_x1_x4)
  have o16g0 := o15g0.after g16 (K_x1_g0)
  clear c15w c15S o15x2 o15x4 o15g0 o15x1
  clear m16
  go_wp2_with fail
  refine (mark_l _ ax2 l2 capx2 (1 + l1.length) w16 n2 (by omega) (by omega) o16x2).mono ?_
  rintro e w17 ⟨rfl, m17, g17⟩
  have z_g17 := g17.size
  have c17w := g17.below o16x2 (w_x2) c16w c16w.size
  have c17S := g17.below o16x2 (S_x2) c16S c16S.size
  have o17x4 := o16x4.after g17 (K_x2_x4)
  have o17g0 := o16g0.after g17 (K_x2_g0)
  clear c16w c16S o16x4 o16g0 o16x2
  clear m17
  go_wp2_with fail
  refine (mark_l _ ax4 l4 capx4 (1 + l1.length + l2.length) w17 n4 (by omega) (by omega) o17x4).mono ?_
  rintro e w18 ⟨rfl, m18, g18⟩
  have z_g18 := g18.size
  have c18w := g18.below o17x4 (w_x4) c17w c17w.size
  have c18S := g18.below o17x4 (S_x4) c17S c17S.size
  have o18g0 := o17g0.after g18 (K_x4_g0)
  clear c17w c17S o17g0 o17x4
  clear m18
  go_wp2_with fail
  refine (eq_l ag0 as0 (mDecodeGaps0 f0 l1 l2 f3 l4) capg0 caps0 w18 L0 o18g0.src (ss0.keep c18S)).mono ?_
  rintro e w19 ⟨rfl, b19⟩
  have z_b19 := b19.size
  have c19w := below_up c18w b19 c18w.size
  have c19S := below_up c18S b19 c18S.size
  have o19g0 := o18g0.keep b19
  clear c18w c18S o18g0
  go_wp2_with fail
  refine (mark_l _ ag0 (mDecodeGaps0 f0 l1 l2 f3 l4) capg0 1 w19 L0 (by omega) (by omega) o19g0).mono ?_
  rintro e w20 ⟨rfl, m20, g20⟩
  have z_g20 := g20.size
  have c20w := g20.below o19g0 (w_g0) c19w c19w.size
  have c20S := g20.below o19g0 (S_g0) c19S c19S.size
  clear c19w c19S o19g0
  go_wp2_with fail
  refine (held_l _ ag0 (mDecodeGaps0 f0 l1 l2 f3 l4).length capg0 (1) w20 L0 (by omega) (by omega) m20).mono ?_
  rintro e w' ⟨rfl, rfl⟩
  go_wp2_with fail
  refine (toInt_l a1 l1 cap1 w20 n1 (hs1.keep c20w)).mono ?_
  rintro e w21 ⟨au1, capu1, rfl, t21, b21⟩
  have z_b21 := b21.size
  have c21w := below_up c20w b21 c20w.size
  have c21S := below_up c20S b21 c20S.size
  have o21g0 := m20.keep b21
  clear c20w c20S m20
  go_wp2_with fail
  refine (toInt_l a2 l2 cap2 w21 n2 (hs2.keep c21w)).mono ?_
  rintro e w22 ⟨au2, capu2, rfl, t22, b22⟩
  have z_b22 := b22.size
  have c22w := below_up c21w b22 c21w.size
  have c22S := below_up c21S b22 c21S.size
  have o22g0 := o21g0.keep b22
  have o22u1 := t21.keep b22
  clear c21w c21S o21g0 t21
  go_wp2_with fail
  refine (toInt_l a4 l4 cap4 w22 n4 (hs4.keep c22w)).mono ?_
  rintro e w23 ⟨au4, capu4, rfl, t23, b23⟩
  have z_b23 := b23.size
  have c23w := below_up c22w b23 c22w.size
  have c23S := below_up c22S b23 c22S.size
  have o23g0 := o22g0.keep b23
  have o23u1 := o22u1.keep b23
  have o23u2 := t22.keep b23
  clear c22w c22S o22g0 o22u1 t22
  go_wp2_with fail
  refine (iDecodeGapsU f0 au1 l1 capu1 au2 l2 capu2 f3 au4 l4 capu4 w23 n1 n2 n4 o23u1.srcC o23u2.srcC t23.srcC (ht.below c23w) (hg.below c23w)).mono ?_
  rintro e w24 ⟨ah0, caph0, rfl, rh0, b24⟩
  have z_b24 := b24.size
  have c24w := below_up c23w b24 c23w.size
  have c24S := below_up c23S b24 c23S.size
  have o24g0 := o23g0.keep b24
  have o24u1 := o23u1.keep b24
  have o24u2 := o23u2.keep b24
  have o24u4 := t23.keep b24
  clear c23w c23S o23g0 o23u1 o23u2 t23
  clear o24u1
  clear o24u2
  clear o24u4
  go_wp2_with fail
  refine (eq_l ah0 as0 (mDecodeGaps0 f0 l1 l2 f3 l4) caph0 caps0 w24 L0 rh0.src (ss0.keep c24S)).mono ?_
  rintro e w25 ⟨rfl, b25⟩
  have z_b25 := b25.size
  have c25w := below_up c24w b25 c24w.size
  have c25S := below_up c24S b25 c24S.size
  have o25g0 := o24g0.keep b25
  have o25h0 := rh0.keep b25
  clear c24w c24S o24g0 rh0
  go_wp2_with fail
  refine (held_l _ ag0 (mDecodeGaps0 f0 l1 l2 f3 l4).length capg0 (1) w25 L0 (by omega) (by omega) o25g0).mono ?_
  rintro e w' ⟨rfl, rfl⟩
  go_wp2
  go_ret
  exact ⟨rfl, c25w⟩
set_option maxRecDepth 100000 in
theorem walk (a0 : Int) (a1 : Option Addr) (len1 cap1 : Nat) (z1 : List Int) (a2 : Option Addr) (len2 cap2 : Nat) (z2 : List Int) (a3 : Int) (a4 : Option Addr) (len4 cap4 : Nat) (z4 : List Int) (w : World) (hr1 : IsRow .i64 w a1 len1 cap1 z1) (hr2 : IsRow .i64 w a2 len2 cap2 z2) (hr4 : IsRow .i64 w a4 len4 cap4 z4) (ht : Tab w) (hg : Ety w) : Calls Tryd.prog 5 #[.int .i64 a0, .slice a1 len1 cap1, .slice a2 len2 cap2, .int .i64 a3, .slice a4 len4 cap4] w fun e w' => e = .returned (.bool true) ∧ Below w.heap.size w w' := by
  obtain ⟨y1, rfl, hs1⟩ := row_list hr1
  obtain ⟨y2, rfl, hs2⟩ := row_list hr2
  obtain ⟨y4, rfl, hs4⟩ := row_list hr4
  by_cases n1 : 1048576 < y1.length
  · have hd : decide ((1048576 : Int) < y1.length) = true := by simp; omega
    go_enter Tryd.func5, Tryd.ntmps5
    go_wp2
    go_ret
    exact ⟨rfl, Below.refl _ _⟩
  by_cases n2 : 1048576 < y2.length
  · have hd : decide ((1048576 : Int) < y2.length) = true := by simp; omega
    have hd1 : decide ((1048576 : Int) < y1.length) = false := by simp; omega
    go_enter Tryd.func5, Tryd.ntmps5
    go_wp2
    go_ret
    exact ⟨rfl, Below.refl _ _⟩
  by_cases n4 : 1048576 < y4.length
  · have hd : decide ((1048576 : Int) < y4.length) = true := by simp; omega
    have hd1 : decide ((1048576 : Int) < y1.length) = false := by simp; omega
    have hd2 : decide ((1048576 : Int) < y2.length) = false := by simp; omega
    go_enter Tryd.func5, Tryd.ntmps5
    go_wp2
    go_ret
    exact ⟨rfl, Below.refl _ _⟩
  exact walk_on a0 a1 y1 cap1 a2 y2 cap2 a3 a4 y4 cap4 w hs1 (by omega) hs2 (by omega) hs4 (by omega) ht hg
set_option maxRecDepth 100000 in
theorem contract (H : Type) (enc : TypeId × Value → H) (W : World) (base : Nat) (args : Array Value) (ds gs : List (DataW H)) (before : List MemPlace)
    (hval : ∀ (j : Nat) t v, Tryd.f5.params[j]? = some t → args[j]? = some v → Value.okWide Tryd.prog W .any base t v)
    (hW : DataW.Whole enc Tryd.prog Tryd.f5.params.toList Rows.fnExactDecodeGapsSpec.vars false W args.toList ds gs before) (hL : laidMetH Tryd.prog Rows.fnExactDecodeGapsRow.laid W) :
    Calls Tryd.prog 5 args W fun e W' => ∃ v, e = .returned v ∧ Rows.fnExactDecodeGapsSpec.post enc Tryd.prog Tryd.f5 false true false false W args v W' := by
  have hvar := table_var2 hL
  have het := ety_of hL
  have hW' := hW
  obtain ⟨p, q, hA0, hV, rfl, hfz, hnd⟩ := hW
  have hA : DataW.TrodAll enc Tryd.prog W 0 (fun _ => true) true Tryd.f5.params.toList args.toList ds p := hA0
  rw [Tryd.params5] at hA hval
  obtain ⟨v0, vs0, d0, ds0, p0, q0, hargs, rfl, rfl, h0, r0⟩ := trodAll_cons hA
  obtain ⟨v1, vs1, d1, ds1, p1, q1, rfl, rfl, rfl, h1, r1⟩ := trodAll_cons r0
  obtain ⟨v2, vs2, d2, ds2, p2, q2, rfl, rfl, rfl, h2, r2⟩ := trodAll_cons r1
  obtain ⟨v3, vs3, d3, ds3, p3, q3, rfl, rfl, rfl, h3, r3⟩ := trodAll_cons r2
  obtain ⟨v4, vs4, d4, ds4, p4, q4, rfl, rfl, rfl, h4, r4⟩ := trodAll_cons r3
  obtain ⟨rfl, rfl, rfl⟩ := trodAll_nil r4
  obtain rfl : args = #[v0, v1, v2, v3, v4] := by cases args; simp_all
  obtain ⟨rfl, rfl⟩ := DataW.TrodVars.unique hV (tab_vars enc (fun _ => true) hvar)
  obtain ⟨a0, rfl, rfl, rfl, w0⟩ := open_int Tryd.underlying3 (hval 0 3 v0 rfl rfl) h0
  obtain ⟨a1, len1, cap1, rfl⟩ := okWide_slice Tryd.underlying22 (hval 1 22 v1 rfl rfl)
  have k1 := h1
  have lt1 : ∀ x ∈ p1, x.block < W.heap.size := by obtain ⟨m, hm⟩ := k1; exact DataW.trod_lt m _ _ _ hm
  obtain ⟨z1, w1⟩ : ∃ zs, IsRow .i64 W a1 len1 cap1 zs := by
    obtain ⟨fuel, hf⟩ := h1
    rcases open_ints Tryd.underlying22 Tryd.underlying3 (by kernel_rfl) hf with ⟨hcs, _⟩ | ⟨x, l, c, zs, hcs, _, hl, hm, hz, _, hcell, hwz⟩
    · simp [Value.cells] at hcs
      obtain ⟨rfl, rfl, rfl⟩ := hcs
      exact ⟨[], .inl ⟨rfl, rfl, rfl, rfl⟩⟩
    · simp [Value.cells] at hcs
      obtain ⟨rfl, rfl, rfl⟩ := hcs
      exact ⟨zs, .inr ⟨_, rfl, hl, hm, by simpa using hz, hcell, hwz⟩⟩
  obtain ⟨a2, len2, cap2, rfl⟩ := okWide_slice Tryd.underlying22 (hval 2 22 v2 rfl rfl)
  have k2 := h2
  have lt2 : ∀ x ∈ p2, x.block < W.heap.size := by obtain ⟨m, hm⟩ := k2; exact DataW.trod_lt m _ _ _ hm
  obtain ⟨z2, w2⟩ : ∃ zs, IsRow .i64 W a2 len2 cap2 zs := by
    obtain ⟨fuel, hf⟩ := h2
    rcases open_ints Tryd.underlying22 Tryd.underlying3 (by kernel_rfl) hf with ⟨hcs, _⟩ | ⟨x, l, c, zs, hcs, _, hl, hm, hz, _, hcell, hwz⟩
    · simp [Value.cells] at hcs
      obtain ⟨rfl, rfl, rfl⟩ := hcs
      exact ⟨[], .inl ⟨rfl, rfl, rfl, rfl⟩⟩
    · simp [Value.cells] at hcs
      obtain ⟨rfl, rfl, rfl⟩ := hcs
      exact ⟨zs, .inr ⟨_, rfl, hl, hm, by simpa using hz, hcell, hwz⟩⟩
  obtain ⟨a3, rfl, rfl, rfl, w3⟩ := open_int Tryd.underlying3 (hval 3 3 v3 rfl rfl) h3
  obtain ⟨a4, len4, cap4, rfl⟩ := okWide_slice Tryd.underlying22 (hval 4 22 v4 rfl rfl)
  have k4 := h4
  have lt4 : ∀ x ∈ p4, x.block < W.heap.size := by obtain ⟨m, hm⟩ := k4; exact DataW.trod_lt m _ _ _ hm
  obtain ⟨z4, w4⟩ : ∃ zs, IsRow .i64 W a4 len4 cap4 zs := by
    obtain ⟨fuel, hf⟩ := h4
    rcases open_ints Tryd.underlying22 Tryd.underlying3 (by kernel_rfl) hf with ⟨hcs, _⟩ | ⟨x, l, c, zs, hcs, _, hl, hm, hz, _, hcell, hwz⟩
    · simp [Value.cells] at hcs
      obtain ⟨rfl, rfl, rfl⟩ := hcs
      exact ⟨[], .inl ⟨rfl, rfl, rfl, rfl⟩⟩
    · simp [Value.cells] at hcs
      obtain ⟨rfl, rfl, rfl⟩ := hcs
      exact ⟨zs, .inr ⟨_, rfl, hl, hm, by simpa using hz, hcell, hwz⟩⟩
  clear hA0
  refine (walk a0 a1 len1 cap1 z1 a2 len2 cap2 z2 a3 a4 len4 cap4 z4 W w1 w2 w4 (tab_of hvar) het).mono fun e W' ⟨he, bel⟩ => ?_
  subst he
  exact ⟨_, rfl, _, _, _, [], _, _, hW', trodAll_mk1 (shut_bool Tryd.underlying4 _), (trodAll_cons_mk (shut_int Tryd.underlying3 w0) (trodAll_cons_mk (Below.trod f_laidOut (by kernel_rfl) (of_decide_eq_true (by kernel_rfl)) k1 bel lt1) (trodAll_cons_mk (Below.trod f_laidOut (by kernel_rfl) (of_decide_eq_true (by kernel_rfl)) k2 bel lt2) (trodAll_cons_mk (shut_int Tryd.underlying3 w3) (trodAll_cons_mk (Below.trod f_laidOut (by kernel_rfl) (of_decide_eq_true (by kernel_rfl)) k4 bel lt4) trodAll_mk0))))), tab_vars enc _ (below_var bel hvar), bel.frame _, fun h => by cases h⟩
theorem laid_met (os : Os) : laidMetH Tryd.prog Rows.fnExactDecodeGapsRow.laid ((laidWorld2 os).forCall (fun _ _ => 0) ⟨#[], #[.int .i64 0, .slice none 0 0, .slice none 0 0, .int .i64 0, .slice none 0 0], []⟩).memory :=
  laidMetH_of_parts (laidMet_of_run' 8 (by kernel_rfl) (by kernel_rfl)) (by kernel_rfl)
theorem reads (os : Os) {H : Type} (enc : TypeId × Value → H) : ∃ places, DataW.whole enc Tryd.prog ((laidWorld2 os).forCall (fun _ _ => 0) ⟨#[], #[.int .i64 0, .slice none 0 0, .slice none 0 0, .int .i64 0, .slice none 0 0], []⟩).memory Tryd.f5.params.toList Rows.fnExactDecodeGapsSpec.vars false #[Value.int .i64 0, Value.slice none 0 0, Value.slice none 0 0, Value.int .i64 0, Value.slice none 0 0].toList 8 = some ([.lit (.int .i64 0), .nil, .nil, .lit (.int .i64 0), .nil], [Rows.laid_loop_example_g00710_impl_fieldTable], places) :=
  ⟨MemPlace.row ⟨1, 0, none⟩ 27, by kernel_rfl⟩
set_option maxRecDepth 100000 in
theorem lifted (os : Os) (started : os.Started) (H : Type) (enc : TypeId × Value → H) (F : Stop.Interp) :
    ReturnsInHanded {} Tryd.checked os 5 .any ((OpenSpec.ofChange Rows.fnExactDecodeGapsSpec).preRow enc Tryd.prog Tryd.f5 Rows.fnExactDecodeGapsRow.domain false Rows.fnExactDecodeGapsRow.laid) (((OpenSpec.ofChange Rows.fnExactDecodeGapsSpec).at F).post enc Tryd.prog Tryd.f5 false true false false) := by
  obtain ⟨places, hx⟩ := reads os enc
  refine returnsInHanded_of_row (C := Tryd.checked) (s := OpenSpec.ofChange Rows.fnExactDecodeGapsSpec) own started (by kernel_rfl) Tryd.func5
    (witness_row_at (enc := enc) (C := Tryd.checked) false (laidWorld2 os) #[.int .i64 0, .slice none 0 0, .slice none 0 0, .int .i64 0, .slice none 0 0] rfl (by kernel_rfl) (by kernel_rfl) (by kernel_rfl)
      (OpenSpec.preRow_of_cond 8 hx (by kernel_rfl) (fun k hk => by cases hk) (by kernel_rfl) (laid_met os))) ?_
  intro W base args ds gs before hval hW _ _ _ hL _ _
  exact contract H enc W base args ds gs before hval hW hL
theorem closed : joinedFacts Tryd.prog 5 Tryd.f5 (OpenSpec.ofChange Rows.fnExactDecodeGapsSpec).bare Rows.fnExactDecodeGapsRow = true := by
  unfold joinedFacts
  exact both (both (both (both (both (both (both (both (both (both (both (both (both (both (both (both (both (both (both (both (both (both (both (both (both (both (both (both (both (both (both (by as_aux_lemma => kernel_rfl) f_laidOut) f_mapsRowed) (by as_aux_lemma => kernel_rfl)) (by as_aux_lemma => kernel_rfl)) (by as_aux_lemma => kernel_rfl)) f_stops) (by as_aux_lemma => kernel_rfl)) f_knobs) (by as_aux_lemma => kernel_rfl)) (by as_aux_lemma => kernel_rfl)) (by as_aux_lemma => kernel_rfl)) (by as_aux_lemma => kernel_rfl)) (by as_aux_lemma => kernel_rfl)) (by as_aux_lemma => kernel_rfl)) (by as_aux_lemma => kernel_rfl)) (by as_aux_lemma => kernel_rfl)) (by as_aux_lemma => kernel_rfl)) (by as_aux_lemma => kernel_rfl)) (by as_aux_lemma => kernel_rfl)) (by as_aux_lemma => kernel_rfl)) (by as_aux_lemma => kernel_rfl)) f_keys) (by as_aux_lemma => kernel_rfl)) f_heard) f_enter) f_lifts) f_make) (by as_aux_lemma => kernel_rfl)) (by as_aux_lemma => kernel_rfl)) (by as_aux_lemma => kernel_rfl)) (by as_aux_lemma => kernel_rfl)
theorem said : Rows.FnExactDecodeGapsSaid :=
  OpenClaim.holds_of_cond 5 Tryd.f5 rfl rfl rfl rfl rfl rfl rfl ⟨rfl, rfl, rfl, rfl, rfl⟩ rfl rfl rfl rfl rfl (by as_aux_lemma => kernel_rfl) Tryd.func5 closed
    (of_decide_eq_true (by as_aux_lemma => kernel_rfl)) (by unfold Func.isWrapper; rw [if_neg (by decide +kernel)]; exact ⟨rfl, rfl⟩)
    (fun os started H enc _ F => by rw [OpenClaim.pre_eq_preRow]; exact lifted os started H enc F)
theorem plain (f : FuncId) (fn : Func) (hf : Tryd.pinned.checked.prog.funcNamed "loop.example/g00710/laws.FnExactDecodeGaps" = some f) (hfn : Tryd.pinned.checked.prog.funcs[f]? = some fn) :
    true = Tryd.pinned.checked.prog.looks [] ∧ ∀ (j : Nat) t, fn.params[j]? = some t → Tryd.pinned.checked.prog.wantsStandIn t = false := by
  obtain rfl : f = 5 := Option.some.inj ((show Tryd.prog.funcNamed "loop.example/g00710/laws.FnExactDecodeGaps" = some 5 by kernel_rfl).symm.trans hf) |>.symm
  obtain rfl : fn = Tryd.f5 := (Option.some.inj (Tryd.func5.symm.trans hfn)).symm
  refine ⟨f_looks, fun j t ht => ?_⟩
  rw [Tryd.params5] at ht
  have hm := Array.mem_of_getElem? ht
  have hm2 : t = 3 ∨ t = 22 ∨ t = 22 ∨ t = 3 ∨ t = 22 := by simpa using hm
  rcases hm2 with rfl | rfl | rfl | rfl | rfl
  · exact (show Tryd.prog.wantsStandIn 3 = false by kernel_rfl)
  · exact (show Tryd.prog.wantsStandIn 22 = false by kernel_rfl)
  · exact (show Tryd.prog.wantsStandIn 22 = false by kernel_rfl)
  · exact (show Tryd.prog.wantsStandIn 3 = false by kernel_rfl)
  · exact (show Tryd.prog.wantsStandIn 22 = false by kernel_rfl)
end ExactDecodeGaps
theorem fnExactDecodeGaps_card : Rows.FnExactDecodeGapsCardSaid :=
  Claim7.holds_tied_plain_at .later [] _ _ _ _ ExactDecodeGaps.said (fun _ h => by cases h) (by as_aux_lemma => kernel_rfl) (fun _ h => by cases h) fnExactDecodeGaps_row_tie rfl ⟨rfl, rfl⟩ f_main rfl ExactDecodeGaps.plain (by as_aux_lemma => kernel_rfl)
end Go.Proofs.YtangofjpnhhfeabDoor
