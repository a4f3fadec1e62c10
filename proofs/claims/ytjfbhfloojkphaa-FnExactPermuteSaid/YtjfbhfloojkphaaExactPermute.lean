/-
  For every argument the program's Permute answers as the specification's model of it, writes into no argument and answers in memory of its own; no condition.
-/
import Derived.Test.YtjfbhfloojkphaaRows
import Derived.ProofKit
import Derived.OpenShut
import Derived.WalkKit
import Derived.ChangeOld
import Derived.Below
import Derived.Carry
import Derived.Test.YtjfbhfloojkphaaFacts
import Derived.Test.YtjfbhfloojkphaaWalkV
namespace Go.Proofs.Ytjfbhfloojkphaa
open Go.ChangeShapes Go.WideShapes Go.ChangeAt Go.RowKit
namespace ExactPermute
theorem below_grown {B : Nat} {a w w' : World} {g : Nat} (h : Below B a w) (hg : w.grownBy w' (some g)) (hB : B ≤ w.heap.size) (hgB : B ≤ g) : Below B a w' :=
  h.grown hg hB (fun k hk => by injection hk with hk; omega)
theorem below_up {B : Nat} {a w w' : World} (h : Below B a w) (h2 : Below w.heap.size w w') (hB : B ≤ w.heap.size) : Below B a w' := h.trans (h2.mono hB)
theorem own_far {w w' : World} {g g2 n : Nat} {F : Nat → Int} (h : Own w g n F) (hg : w.grownBy w' (some g2)) (hne : g ≠ g2) : Own w' g n F :=
  World.rowIs.of_block h (hg.block g h.lt (fun e => by injection e with e; exact hne e))
set_option maxRecDepth 100000 in
set_option maxHeartbeats 3200000 in
theorem walk_on (a : Option Addr) (n cap k : Nat) (Z : Nat → Int) (w : World) (hs : Src w a n Z) (hk : k ≤ 9) (hn : n = 2 ^ k) :
    Calls Try.prog 6 #[.slice a n cap] w fun e w' => e = .returned (.bool true) ∧ Below w.heap.size w w' := by
  have n1 : n ≤ 1048576 := by
    have : 2 ^ k ≤ 2 ^ 9 := Nat.pow_le_pow_right (by omega) hk
    omega
  have HN := Lib.hid hn
  clear hn
  have hd : decide ((1048576 : Int) < n) = false := by simp; omega
  have hne : ((1 + n : Int) != 1 + n) = false := by simp
  go_enter Try.func6, Try.ntmps6
  go_wp2_with fail
  refine (toInt_c a n cap Z w n1 hs).mono ?_
  rintro e w1 ⟨rfl, o1, b1⟩
  go_wp2_with fail
  refine (sPermute (some ⟨w.heap.size, 0, none⟩) n n k Z w1 hk HN.out o1.src).mono ?_
  rintro e w2 ⟨a5, cap5, rfl, s2, b2⟩
  have c2 := below_up b1 b2 b1.size
  have z2 := c2.size
  clear o1 b1 b2
  go_wp2_with fail
  refine (toInt_c a n cap Z w2 n1 (hs.keep c2)).mono ?_
  rintro e w3 ⟨rfl, o3, b3⟩
  have c3 := below_up c2 b3 c2.size
  have z3 := b3.size
  have q3 := o3.lt
  go_wp2_with fail
  refine (iPermute (some ⟨w2.heap.size, 0, none⟩) n n k Z w3 hk HN.out o3.src).mono ?_
  rintro e w4 ⟨rfl, o4, b4⟩
  have c4 := below_up c3 b4 c3.size
  have d4 := below_up b3 b4 z3
  have z4 := b4.size
  have q4 := o4.lt
  go_wp2_with fail
  refine (eq_c (some ⟨w3.heap.size, 0, none⟩) a5 n n cap5 (fun j => Z (rv j k)) w4 n1 o4.src (s2.keep d4)).mono ?_
  rintro e w5 ⟨rfl, b5⟩
  have c5 := below_up c4 b5 c4.size
  have d5 := below_up d4 b5 d4.size
  have z5 := b5.size
  have o45 := o4.keep b5
  have o35 := (o3.keep b4).keep b5
  clear o4 o3 b3 b4 b5 d4 c4 c3
  go_wp2_with fail
  refine (toInt_c a n cap Z w5 n1 (hs.keep c5)).mono ?_
  rintro e w6 ⟨rfl, o6, b6⟩
  go_wp2_with fail
  refine (eq_c (some ⟨w2.heap.size, 0, none⟩) (some ⟨w5.heap.size, 0, none⟩) n n n Z w6 n1 (o35.keep b6).src o6.src).mono ?_
  rintro e w7 ⟨rfl, b7⟩
  have c7 := below_up (below_up c5 b6 c5.size) b7 (Nat.le_trans c5.size b6.size)
  have d7 := below_up (below_up d5 b6 d5.size) b7 (Nat.le_trans d5.size b6.size)
  have o37 := (o35.keep b6).keep b7
  have o47 := (o45.keep b6).keep b7
  have z7 : w5.heap.size ≤ w7.heap.size := Nat.le_trans b6.size b7.size
  clear o6 b6 b7 o35 o45 c5 d5
  go_wp2_with fail
  refine (mark_c w2.heap.size n n Z 1 w7 n1 (by omega) (by omega) o37).mono ?_
  rintro e w8 ⟨rfl, o38, g8⟩
  have c8 := below_grown c7 g8 c7.size (by omega)
  have d8 := below_grown d7 g8 d7.size (Nat.le_refl _)
  have o48 := own_far o47 g8 (by omega)
  clear o37 o47 g8 c7 d7 o38
  go_wp2_with fail
  refine (eq_c (some ⟨w3.heap.size, 0, none⟩) a5 n n cap5 (fun j => Z (rv j k)) w8 n1 o48.src (s2.keep d8)).mono ?_
  rintro e w9 ⟨rfl, b9⟩
  have c9 := below_up c8 b9 c8.size
  have d9 := below_up d8 b9 d8.size
  have o49 := o48.keep b9
  clear o48 b9 c8 d8
  go_wp2_with fail
  refine (mark_c w3.heap.size n n (fun j => Z (rv j k)) 1 w9 n1 (by omega) (by omega) o49).mono ?_
  rintro e w10 ⟨rfl, o410, g10⟩
  have c10 := below_grown c9 g10 c9.size (by omega)
  have d10 := below_grown d9 g10 d9.size (by omega)
  clear o49 g10 c9 d9
  go_wp2_with fail
  refine (held_c w3.heap.size n n 1 w10 n1 (by omega) (by omega) o410).mono ?_
  rintro e w' ⟨rfl, rfl⟩
  go_wp2_with fail
  refine (toInt_c a n cap Z w10 n1 (hs.keep c10)).mono ?_
  rintro e w11 ⟨rfl, o11, b11⟩
  have c11 := below_up c10 b11 c10.size
  have d11 := below_up d10 b11 d10.size
  have o411 := o410.keep b11
  go_wp2_with fail
  refine (iPermute (some ⟨w10.heap.size, 0, none⟩) n n k Z w11 hk HN.out o11.src).mono ?_
  rintro e w12 ⟨rfl, o12, b12⟩
  have c12 := below_up c11 b12 c11.size
  have d12 := below_up d11 b12 d11.size
  have o412 := o411.keep b12
  go_wp2_with fail
  refine (eq_c (some ⟨w11.heap.size, 0, none⟩) a5 n n cap5 (fun j => Z (rv j k)) w12 n1 o12.src (s2.keep d12)).mono ?_
  rintro e w13 ⟨rfl, b13⟩
  go_wp2_with fail
  refine (held_c w3.heap.size n n 1 w13 n1 (by omega) (by omega) (o412.keep b13)).mono ?_
  rintro e w' ⟨rfl, rfl⟩
  go_wp2
  go_ret
  exact ⟨rfl, below_up c12 b13 c12.size⟩
set_option maxRecDepth 100000 in
set_option maxHeartbeats 3200000 in
theorem walk_off (a : Option Addr) (n cap : Nat) (Z : Nat → Int) (w : World) (hs : Src w a n Z) (hk : mLog n = -1) (n1 : n ≤ 1048576) :
    Calls Try.prog 6 #[.slice a n cap] w fun e w' => e = .returned (.bool true) ∧ Below w.heap.size w w' := by
  have hd : decide ((1048576 : Int) < n) = false := by simp; omega
  have HK := Lib.hid hk
  clear hk
  go_enter Try.func6, Try.ntmps6
  go_wp2_with fail
  refine (toInt_c a n cap Z w n1 hs).mono ?_
  rintro e w1 ⟨rfl, o1, b1⟩
  go_wp2_with fail
  refine (sPermute_off (some ⟨w.heap.size, 0, none⟩) n n w1 HK.out n1).mono ?_
  rintro e w2 ⟨rfl, b2⟩
  have c2 := below_up b1 b2 b1.size
  have z2 := c2.size
  clear o1 b1 b2
  go_wp2_with fail
  refine (toInt_c a n cap Z w2 n1 (hs.keep c2)).mono ?_
  rintro e w3 ⟨rfl, o3, b3⟩
  have c3 := below_up c2 b3 c2.size
  go_wp2_with fail
  refine (iPermute_off (some ⟨w2.heap.size, 0, none⟩) n n w3 HK.out n1).mono ?_
  rintro e w' ⟨rfl, rfl⟩
  go_wp2_with fail
  refine (eq_none none none 0 0 w3).mono ?_
  rintro e w4 ⟨rfl, b4⟩
  have c4 := below_up c3 b4 c3.size
  go_wp2_with fail
  refine (toInt_c a n cap Z w4 n1 (hs.keep c4)).mono ?_
  rintro e w5 ⟨rfl, o5, b5⟩
  go_wp2_with fail
  refine (eq_c (some ⟨w2.heap.size, 0, none⟩) (some ⟨w4.heap.size, 0, none⟩) n n n Z w5 n1 ((o3.keep b4).keep b5).src o5.src).mono ?_
  rintro e w6 ⟨rfl, b6⟩
  have c6 := below_up (below_up c4 b5 c4.size) b6 (Nat.le_trans c4.size b5.size)
  have o36 := ((o3.keep b4).keep b5).keep b6
  clear o3 o5 b3 b4 b5 b6 c3 c4
  go_wp2_with fail
  refine (mark_c w2.heap.size n n Z 1 w6 n1 (by omega) (by omega) o36).mono ?_
  rintro e w7 ⟨rfl, o7, g7⟩
  have c7 := below_grown c6 g7 c6.size (by omega)
  clear o36 g7 c6 o7
  go_wp2_with fail
  refine (eq_none none none 0 0 w7).mono ?_
  rintro e w8 ⟨rfl, b8⟩
  have c8 := below_up c7 b8 c7.size
  go_wp2_with fail
  refine (mark_nil 1 w8).mono ?_
  rintro e w' ⟨rfl, rfl⟩
  go_wp2_with fail
  refine (held_nil 1 w8).mono ?_
  rintro e w' ⟨rfl, rfl⟩
  go_wp2_with fail
  refine (toInt_c a n cap Z w8 n1 (hs.keep c8)).mono ?_
  rintro e w9 ⟨rfl, o9, b9⟩
  have c9 := below_up c8 b9 c8.size
  go_wp2_with fail
  refine (iPermute_off (some ⟨w8.heap.size, 0, none⟩) n n w9 HK.out n1).mono ?_
  rintro e w' ⟨rfl, rfl⟩
  go_wp2_with fail
  refine (eq_none none none 0 0 w9).mono ?_
  rintro e w10 ⟨rfl, b10⟩
  go_wp2_with fail
  refine (held_nil 1 w10).mono ?_
  rintro e w' ⟨rfl, rfl⟩
  go_wp2
  go_ret
  exact ⟨rfl, below_up c9 b10 c9.size⟩
theorem walk (a0 : Option Addr) (len0 cap0 : Nat) (z0 : List Int) (w : World) (hrow : IsRow .i64 w a0 len0 cap0 z0) :
    Calls Try.prog 6 #[.slice a0 len0 cap0] w fun e w' => e = .returned (.bool true) ∧ Below w.heap.size w w' := by
  have hs := src_of_row hrow
  by_cases hn : 1048576 < len0
  · have hd : decide ((1048576 : Int) < len0) = true := by simp; omega
    go_enter Try.func6, Try.ntmps6
    go_wp2
    go_ret
    exact ⟨rfl, Below.refl _ _⟩
  · rcases log_cases len0 with ⟨k, hk, hnk, _⟩ | ⟨_, hlog⟩
    · exact walk_on a0 len0 cap0 k _ w hs hk (by exact_mod_cast hnk)
    · exact walk_off a0 len0 cap0 _ w hs hlog (by omega)
theorem own : ownKnob Try.prog.godebug = none := by kernel_rfl
theorem contract (H : Type) (enc : TypeId × Value → H) (W : World) (base : Nat) (args : Array Value) (ds gs : List (DataW H)) (before : List MemPlace)
    (hval : ∀ (j : Nat) t v, Try.f6.params[j]? = some t → args[j]? = some v → Value.okWide Try.prog W .any base t v)
    (hW : DataW.Whole enc Try.prog Try.f6.params.toList Rows.fnExactPermuteSpec.vars false W args.toList ds gs before) :
    Calls Try.prog 6 args W fun e W' => ∃ v, e = .returned v ∧ Rows.fnExactPermuteSpec.post enc Try.prog Try.f6 false true false false W args v W' := by
  have hW' := hW
  obtain ⟨p, q, hA0, hV, rfl, hfz, hnd⟩ := hW
  have hA : DataW.TrodAll enc Try.prog W 0 (fun _ => true) true Try.f6.params.toList args.toList ds p := hA0
  rw [Try.params6] at hA hval
  obtain ⟨v0, vs0, d0, ds0, p0, q0, hargs, rfl, rfl, h0, r0⟩ := trodAll_cons hA
  obtain ⟨rfl, rfl, rfl⟩ := trodAll_nil r0
  obtain rfl : args = #[v0] := by cases args; simp_all
  obtain ⟨rfl, rfl⟩ := trodVars_none hV
  obtain ⟨a0, len0, cap0, rfl⟩ := okWide_slice Try.underlying24 (hval 0 24 v0 rfl rfl)
  have k0 := h0
  have lt0 : ∀ x ∈ p0, x.block < W.heap.size := by obtain ⟨m, hm⟩ := k0; exact DataW.trod_lt m _ _ _ hm
  obtain ⟨z0, w0⟩ : ∃ zs, IsRow .i64 W a0 len0 cap0 zs := by
    obtain ⟨fuel, hf⟩ := h0
    rcases open_ints Try.underlying24 Try.underlying3 (by kernel_rfl) hf with ⟨hcs, _⟩ | ⟨x, l, c, zs, hcs, _, hl, hm, hz, _, hcell, hwz⟩
    · simp [Value.cells] at hcs
      obtain ⟨rfl, rfl, rfl⟩ := hcs
      exact ⟨[], .inl ⟨rfl, rfl, rfl, rfl⟩⟩
    · simp [Value.cells] at hcs
      obtain ⟨rfl, rfl, rfl⟩ := hcs
      exact ⟨zs, .inr ⟨_, rfl, hl, hm, by simpa using hz, hcell, hwz⟩⟩
  clear hA0
  refine (walk a0 len0 cap0 z0 W w0).mono fun e W' ⟨he, bel⟩ => ?_
  subst he
  exact ⟨_, rfl, _, _, _, [], _, _, hW', trodAll_mk1 (shut_bool Try.underlying4 _), (trodAll_cons_mk (Below.trod f_laidOut (by kernel_rfl) (of_decide_eq_true (by kernel_rfl)) k0 bel lt0) trodAll_mk0), rfl, bel.frame _, fun h => by cases h⟩
set_option maxRecDepth 100000 in
theorem lifted (os : Os) (started : os.Started) (H : Type) (enc : TypeId × Value → H) :
    ReturnsInHanded {} Try.checked os 6 .any (Rows.fnExactPermuteSpec.pre6 enc Try.prog Try.f6 Rows.fnExactPermuteRow.domain false) (Rows.fnExactPermuteSpec.post enc Try.prog Try.f6 false true false false) := by
  refine returnsInHanded_of_change (C := Try.checked) own started (by kernel_rfl) Try.func6
    (ChangeSpec.witness6 (enc := enc) (C := Try.checked) false ⟨#[], #[.slice none 0 0], []⟩ 8 (by kernel_rfl) (by kernel_rfl) (by kernel_rfl) (by kernel_rfl)) ?_
  intro W base args ds gs before hval hW _ _
  exact contract H enc W base args ds gs before hval hW
theorem closed : joinedFacts Try.prog 6 Try.f6 Rows.fnExactPermuteSpec Rows.fnExactPermuteRow = true := by
  unfold joinedFacts
  exact both (both (both (both (both (both (both (both (both (both (both (both (both (both (both (both (both (both (both (both (both (both (both (both (both (both (both (both (both (both (both (by as_aux_lemma => kernel_rfl) f_laidOut) f_mapsRowed) (by as_aux_lemma => kernel_rfl)) (by as_aux_lemma => kernel_rfl)) (by as_aux_lemma => kernel_rfl)) f_stops) (by as_aux_lemma => kernel_rfl)) f_knobs) (by as_aux_lemma => kernel_rfl)) (by as_aux_lemma => kernel_rfl)) (by as_aux_lemma => kernel_rfl)) (by as_aux_lemma => kernel_rfl)) (by as_aux_lemma => kernel_rfl)) (by as_aux_lemma => kernel_rfl)) (by as_aux_lemma => kernel_rfl)) (by as_aux_lemma => kernel_rfl)) (by as_aux_lemma => kernel_rfl)) (by as_aux_lemma => kernel_rfl)) (by as_aux_lemma => kernel_rfl)) (by as_aux_lemma => kernel_rfl)) (by as_aux_lemma => kernel_rfl)) f_keys) (by as_aux_lemma => kernel_rfl)) f_heard) f_enter) f_lifts) f_make) (by as_aux_lemma => kernel_rfl)) (by as_aux_lemma => kernel_rfl)) (by as_aux_lemma => kernel_rfl)) (by as_aux_lemma => kernel_rfl)
end ExactPermute
theorem fnExactPermute_holds : Rows.FnExactPermuteSaid :=
  OpenClaim.holds_of_wide 6 Try.f6 rfl rfl rfl rfl rfl rfl rfl ⟨rfl, rfl, rfl, rfl, rfl⟩ rfl rfl rfl rfl rfl (by as_aux_lemma => kernel_rfl) Try.func6 ExactPermute.closed
    (of_decide_eq_true (by as_aux_lemma => kernel_rfl)) (by unfold Func.isWrapper; rw [if_neg (by decide +kernel)]; exact ⟨rfl, rfl⟩)
    (fun os started H enc _ => ExactPermute.lifted os started H enc)
end Go.Proofs.Ytjfbhfloojkphaa
