/-
  For every argument the program's Differ answers as the specification's model of it and writes into no argument; no condition.
-/
import Derived.Test.YtangofjpnhhfeaaRows
import Derived.ProofKit
import Derived.OpenShut
import Derived.WalkKit
import Derived.ChangeOld
import Derived.Below
import Derived.Carry
import Derived.Test.YtangofjpnhhfeaaJ1
namespace Go.Proofs.Ytangofjpnhhfeaa
open Go.ChangeShapes Go.WideShapes Go.ChangeAt Go.RowKit
namespace ExactDiffer
set_option maxRecDepth 100000 in
set_option maxHeartbeats 6400000 in
theorem walk_on (a0 : Option Addr) (l0 : List Int) (cap0 : Nat) (a1 : Option Addr) (l1 : List Int) (cap1 : Nat) (w : World) (hs0 : Src w a0 l0.length (lf l0)) (n0 : l0.length ≤ 1048576) (hs1 : Src w a1 l1.length (lf l1)) (n1 : l1.length ≤ 1048576) :
    Calls Try.prog 3 #[.slice a0 l0.length cap0, .slice a1 l1.length cap1] w fun e w' => e = .returned (.bool true) ∧ Below w.heap.size w w' := by
  have hd0 : decide ((1048576 : Int) < l0.length) = false := by simp; omega
  have hd1 : decide ((1048576 : Int) < l1.length) = false := by simp; omega
  have e0 : ((mDiffer l0 l1) != (mDiffer l0 l1)) = false := by simp
  go_enter Try.func3, Try.ntmps3
  go_wp2_with fail
  refine (toInt_l a0 l0 cap0 w n0 hs0).mono ?_
  rintro e w1 ⟨ap0, capp0, rfl, t1, b1⟩
  have z_b1 := b1.size
  have c1w := b1
  go_wp2_with fail
  refine (toInt_l a1 l1 cap1 w1 n1 (hs1.keep c1w)).mono ?_
  rintro e w2 ⟨ap1, capp1, rfl, t2, b2⟩
  have z_b2 := b2.size
  have c2w := below_up c1w b2 c1w.size
  have o2p0 := t1.keep b2
  clear c1w t1
  go_wp2_with fail
  refine (sDifferU ap0 l0 capp0 ap1 l1 capp1 w2 n0 n1 o2p0.srcC t2.srcC).mono ?_
  rintro e w3 ⟨rfl, b3⟩
  have z_b3 := b3.size
  clear o2p0
  clear t2
  have c3w := below_up c2w b3 c2w.size
  clear c2w
  have c3S := Below.refl w3.heap.size w3
  go_wp2_with fail
  refine (toInt_l a0 l0 cap0 w3 n0 (hs0.keep c3w)).mono ?_
  rintro e w4 ⟨ax0, capx0, rfl, t4, b4⟩
  have z_b4 := b4.size
  have L_x0 := t4.lies
  have c4w := below_up c3w b4 c3w.size
  have c4S := below_up c3S b4 c3S.size
  clear c3w c3S
  go_wp2_with fail
  refine (toInt_l a1 l1 cap1 w4 n1 (hs1.keep c4w)).mono ?_
  rintro e w5 ⟨ax1, capx1, rfl, t5, b5⟩
  have z_b5 := b5.size
  have L_x1 := t5.lies
  have c5w := below_up c4w b5 c4w.size
  have c5S := below_up c4S b5 c4S.size
  have o5x0 := t4.keep b5
  clear c4w c4S t4
  go_wp2_with fail
  refine (iDifferU ax0 l0 capx0 ax1 l1 capx1 w5 n0 n1 o5x0.srcC t5.srcC).mono ?_
  rintro e w6 ⟨rfl, b6⟩
  have z_b6 := b6.size
  have c6w := below_up c5w b6 c5w.size
  have c6S := below_up c5S b6 c5S.size
  have o6x0 := o5x0.keep b6
  have o6x1 := t5.keep b6
  clear c5w c5S o5x0 t5
  go_wp2_with fail
  refine (toInt_l a0 l0 cap0 w6 n0 (hs0.keep c6w)).mono ?_
  rintro e w7 ⟨ay0, capy0, rfl, t7, b7⟩
  have z_b7 := b7.size
  have c7w := below_up c6w b7 c6w.size
  have c7S := below_up c6S b7 c6S.size
  have o7x0 := o6x0.keep b7
  have o7x1 := o6x1.keep b7
  clear c6w c6S o6x0 o6x1
  go_wp2_with fail
  refine (eq_l ax0 ay0 l0 capx0 capy0 w7 n0 o7x0.src t7.src).mono ?_
  rintro e w8 ⟨rfl, b8⟩
  have z_b8 := b8.size
  clear t7
  have c8w := below_up c7w b8 c7w.size
  have c8S := below_up c7S b8 c7S.size
  have o8x0 := o7x0.keep b8
  have o8x1 := o7x1.keep b8
  clear c7w c7S o7x0 o7x1
  go_wp2_with fail
  refine (toInt_l a1 l1 cap1 w8 n1 (hs1.keep c8w)).mono ?_
  rintro e w9 ⟨ay1, capy1, rfl, t9, b9⟩
  have z_b9 := b9.size
  have c9w := below_up c8w b9 c8w.size
  have c9S := below_up c8S b9 c8S.size
  have o9x0 := o8x0.keep b9
  have o9x1 := o8x1.keep b9
  clear c8w c8S o8x0 o8x1
  go_wp2_with fail
  refine (eq_l ax1 ay1 l1 capx1 capy1 w9 n1 o9x1.src t9.src).mono ?_
  rintro e w10 ⟨rfl, b10⟩
  have z_b10 := b10.size
  clear t9
  have c10w := below_up c9w b10 c9w.size
  have c10S := below_up c9S b10 c9S.size
  have o10x0 := o9x0.keep b10
  have o10x1 := o9x1.keep b10
  clear c9w c9S o9x0 o9x1
  go_wp2
  go_ret
  exact ⟨rfl, c10w⟩
set_option maxRecDepth 100000 in
theorem walk (a0 : Option Addr) (len0 cap0 : Nat) (z0 : List Int) (a1 : Option Addr) (len1 cap1 : Nat) (z1 : List Int) (w : World) (hr0 : IsRow .i64 w a0 len0 cap0 z0) (hr1 : IsRow .i64 w a1 len1 cap1 z1) : Calls Try.prog 3 #[.slice a0 len0 cap0, .slice a1 len1 cap1] w fun e w' => e = .returned (.bool true) ∧ Below w.heap.size w w' := by
  obtain ⟨y0, rfl, hs0⟩ := row_list hr0
  obtain ⟨y1, rfl, hs1⟩ := row_list hr1
  by_cases n0 : 1048576 < y0.length
  · have hd : decide ((1048576 : Int) < y0.length) = true := by simp; omega
    go_enter Try.func3, Try.ntmps3
    go_wp2
    go_ret
    exact ⟨rfl, Below.refl _ _⟩
  by_cases n1 : 1048576 < y1.length
  · have hd : decide ((1048576 : Int) < y1.length) = true := by simp; omega
    have hd0 : decide ((1048576 : Int) < y0.length) = false := by simp; omega
    go_enter Try.func3, Try.ntmps3
    go_wp2
    go_ret
    exact ⟨rfl, Below.refl _ _⟩
  exact walk_on a0 y0 cap0 a1 y1 cap1 w hs0 (by omega) hs1 (by omega)
theorem own : ownKnob Try.prog.godebug = none := by kernel_rfl
theorem contract (H : Type) (enc : TypeId × Value → H) (W : World) (base : Nat) (args : Array Value) (ds gs : List (DataW H)) (before : List MemPlace)
    (hval : ∀ (j : Nat) t v, Try.f3.params[j]? = some t → args[j]? = some v → Value.okWide Try.prog W .any base t v)
    (hW : DataW.Whole enc Try.prog Try.f3.params.toList Rows.fnExactDifferSpec.vars false W args.toList ds gs before) :
    Calls Try.prog 3 args W fun e W' => ∃ v, e = .returned v ∧ Rows.fnExactDifferSpec.post enc Try.prog Try.f3 false true false false W args v W' := by
  have hW' := hW
  obtain ⟨p, q, hA0, hV, rfl, hfz, hnd⟩ := hW
  have hA : DataW.TrodAll enc Try.prog W 0 (fun _ => true) true Try.f3.params.toList args.toList ds p := hA0
  rw [Try.params3] at hA hval
  obtain ⟨v0, vs0, d0, ds0, p0, q0, hargs, rfl, rfl, h0, r0⟩ := trodAll_cons hA
  obtain ⟨v1, vs1, d1, ds1, p1, q1, rfl, rfl, rfl, h1, r1⟩ := trodAll_cons r0
  obtain ⟨rfl, rfl, rfl⟩ := trodAll_nil r1
  obtain rfl : args = #[v0, v1] := by cases args; simp_all
  obtain ⟨rfl, rfl⟩ := trodVars_none hV
  obtain ⟨a0, len0, cap0, rfl⟩ := okWide_slice Try.underlying22 (hval 0 22 v0 rfl rfl)
  have k0 := h0
  have lt0 : ∀ x ∈ p0, x.block < W.heap.size := by obtain ⟨m, hm⟩ := k0; exact DataW.trod_lt m _ _ _ hm
  obtain ⟨z0, w0⟩ : ∃ zs, IsRow .i64 W a0 len0 cap0 zs := by
    obtain ⟨fuel, hf⟩ := h0
    rcases open_ints Try.underlying22 Try.underlying3 (by kernel_rfl) hf with ⟨hcs, _⟩ | ⟨x, l, c, zs, hcs, _, hl, hm, hz, _, hcell, hwz⟩
    · simp [Value.cells] at hcs
      obtain ⟨rfl, rfl, rfl⟩ := hcs
      exact ⟨[], .inl ⟨rfl, rfl, rfl, rfl⟩⟩
    · simp [Value.cells] at hcs
      obtain ⟨rfl, rfl, rfl⟩ := hcs
      exact ⟨zs, .inr ⟨_, rfl, hl, hm, by simpa using hz, hcell, hwz⟩⟩
  obtain ⟨a1, len1, cap1, rfl⟩ := okWide_slice Try.underlying22 (hval 1 22 v1 rfl rfl)
  have k1 := h1
  have lt1 : ∀ x ∈ p1, x.block < W.heap.size := by obtain ⟨m, hm⟩ := k1; exact DataW.trod_lt m _ _ _ hm
  obtain ⟨z1, w1⟩ : ∃ zs, IsRow .i64 W a1 len1 cap1 zs := by
    obtain ⟨fuel, hf⟩ := h1
    rcases open_ints Try.underlying22 Try.underlying3 (by kernel_rfl) hf with ⟨hcs, _⟩ | ⟨x, l, c, zs, hcs, _, hl, hm, hz, _, hcell, hwz⟩
    · simp [Value.cells] at hcs
      obtain ⟨rfl, rfl, rfl⟩ := hcs
      exact ⟨[], .inl ⟨rfl, rfl, rfl, rfl⟩⟩
    · simp [Value.cells] at hcs
      obtain ⟨rfl, rfl, rfl⟩ := hcs
      exact ⟨zs, .inr ⟨_, rfl, hl, hm, by simpa using hz, hcell, hwz⟩⟩
  clear hA0
  refine (walk a0 len0 cap0 z0 a1 len1 cap1 z1 W w0 w1).mono fun e W' ⟨he, bel⟩ => ?_
  subst he
  exact ⟨_, rfl, _, _, _, [], _, _, hW', trodAll_mk1 (shut_bool Try.underlying4 _), (trodAll_cons_mk (Below.trod f_laidOut (by kernel_rfl) (of_decide_eq_true (by kernel_rfl)) k0 bel lt0) (trodAll_cons_mk (Below.trod f_laidOut (by kernel_rfl) (of_decide_eq_true (by kernel_rfl)) k1 bel lt1) trodAll_mk0)), rfl, bel.frame _, fun h => by cases h⟩
set_option maxRecDepth 100000 in
theorem lifted (os : Os) (started : os.Started) (H : Type) (enc : TypeId × Value → H) :
    ReturnsInHanded {} Try.checked os 3 .any (Rows.fnExactDifferSpec.pre6 enc Try.prog Try.f3 Rows.fnExactDifferRow.domain false) (Rows.fnExactDifferSpec.post enc Try.prog Try.f3 false true false false) := by
  refine returnsInHanded_of_change (C := Try.checked) own started (by kernel_rfl) Try.func3
    (ChangeSpec.witness6 (enc := enc) (C := Try.checked) false ⟨#[], #[.slice none 0 0, .slice none 0 0], []⟩ 8 (by kernel_rfl) (by kernel_rfl) (by kernel_rfl) (by kernel_rfl)) ?_
  intro W base args ds gs before hval hW _ _
  exact contract H enc W base args ds gs before hval hW
theorem closed : joinedFacts Try.prog 3 Try.f3 Rows.fnExactDifferSpec Rows.fnExactDifferRow = true := by
  unfold joinedFacts
  exact both (both (both (both (both (both (both (both (both (both (both (both (both (both (both (both (both (both (both (both (both (both (both (both (both (both (both (both (both (both (both (by as_aux_lemma => kernel_rfl) f_laidOut) f_mapsRowed) (by as_aux_lemma => kernel_rfl)) (by as_aux_lemma => kernel_rfl)) (by as_aux_lemma => kernel_rfl)) f_stops) (by as_aux_lemma => kernel_rfl)) f_knobs) (by as_aux_lemma => kernel_rfl)) (by as_aux_lemma => kernel_rfl)) (by as_aux_lemma => kernel_rfl)) (by as_aux_lemma => kernel_rfl)) (by as_aux_lemma => kernel_rfl)) (by as_aux_lemma => kernel_rfl)) (by as_aux_lemma => kernel_rfl)) (by as_aux_lemma => kernel_rfl)) (by as_aux_lemma => kernel_rfl)) (by as_aux_lemma => kernel_rfl)) (by as_aux_lemma => kernel_rfl)) (by as_aux_lemma => kernel_rfl)) (by as_aux_lemma => kernel_rfl)) f_keys) (by as_aux_lemma => kernel_rfl)) f_heard) f_enter) f_lifts) f_make) (by as_aux_lemma => kernel_rfl)) (by as_aux_lemma => kernel_rfl)) (by as_aux_lemma => kernel_rfl)) (by as_aux_lemma => kernel_rfl)
end ExactDiffer
theorem fnExactDiffer_holds : Rows.FnExactDifferSaid :=
  OpenClaim.holds_of_wide 3 Try.f3 rfl rfl rfl rfl rfl rfl rfl ⟨rfl, rfl, rfl, rfl, rfl⟩ rfl rfl rfl rfl rfl (by as_aux_lemma => kernel_rfl) Try.func3 ExactDiffer.closed
    (of_decide_eq_true (by as_aux_lemma => kernel_rfl)) (by unfold Func.isWrapper; rw [if_neg (by decide +kernel)]; exact ⟨rfl, rfl⟩)
    (fun os started H enc _ => ExactDiffer.lifted os started H enc)
end Go.Proofs.Ytangofjpnhhfeaa
