/-
  For every argument the program's BatchInverse answers as the specification's model of it, writes into no argument and answers in memory of its own; no condition but the card's own (the table of fields holds what its initialiser lays).
-/
import Derived.Test.YtajlhgiihneeiaaDoorTable
import Derived.ChangeOld
import Derived.Below
import Derived.Carry
import Derived.Test.YtajlhgiihneeiaaDoorFacts
import Derived.Test.YtajlhgiihneeiaaDoorWalkM
namespace Go.Proofs.YtajlhgiihneeiaaDoor
open Go.ChangeShapes Go.WideShapes Go.ChangeAt Go.RowKit
namespace ExactBatchInverse
theorem below_grown {B : Nat} {a w w' : World} {g : Nat} (h : Below B a w) (hg : w.grownBy w' (some g)) (hB : B ≤ w.heap.size) (hgB : B ≤ g) : Below B a w' :=
  h.grown hg hB (fun k hk => by injection hk with hk; omega)
theorem below_up {B : Nat} {a w w' : World} (h : Below B a w) (h2 : Below w.heap.size w w') (hB : B ≤ w.heap.size) : Below B a w' := h.trans (h2.mono hB)
theorem own_far {w w' : World} {g g2 n : Nat} {F : Nat → Int} (h : Own w g n F) (hg : w.grownBy w' (some g2)) (hne : g ≠ g2) : Own w' g n F :=
  World.rowIs.of_block h (hg.block g h.lt (fun e => by injection e with e; exact hne e))
set_option maxRecDepth 100000 in
set_option maxHeartbeats 3200000 in
theorem walk_on (f : Int) (a : Option Addr) (n cap : Nat) (Z : Nat → Int) (w : World) (hs : Src w a n Z) (ht : Tab w) (h0 : 0 ≤ f) (h8 : f ≤ 8) (hn : n ≤ 4096) :
    Calls Tryd.prog 4 #[.int .i64 f, .slice a n cap] w fun e w' => e = .returned (.bool true) ∧ Below w.heap.size w w' := by
  have n1 : n ≤ 1048576 := by omega
  have hd : decide ((1048576 : Int) < n) = false := by simp; omega
  have hne : ((1 + n : Int) != 1 + n) = false := by simp
  go_enter Tryd.func4, Tryd.ntmps4
  go_wp2_with fail
  refine (toInt_c a n cap Z w n1 hs).mono ?_
  rintro e w1 ⟨rfl, o1, b1⟩
  go_wp2_with fail
  refine (sBatch_on f (some ⟨w.heap.size, 0, none⟩) n n Z w1 h0 h8 hn o1.src).mono ?_
  rintro e w2 ⟨a5, cap5, rfl, s2, b2⟩
  have c2 := below_up b1 b2 b1.size
  have z2 := c2.size
  clear o1 b1 b2
  go_wp2_with fail
  refine (toInt_c a n cap Z w2 n1 (hs.keep c2)).mono ?_
  rintro e w3 ⟨rfl, o3, b3⟩
  have c3 := below_up c2 b3 c2.size
  have z3 := b3.size
  have q3 := o3.lt
  go_wp2_with fail
  refine (iBatch_on f (some ⟨w2.heap.size, 0, none⟩) n n Z w3 (ht.below c3) h0 h8 hn o3.src).mono ?_
  rintro e w4 ⟨rfl, o4, b4⟩
  have c4 := below_up c3 b4 c3.size
  have d4 := below_up b3 b4 z3
  have z4 := b4.size
  have q4 := o4.lt
  go_wp2_with fail
  refine (eq_c (some ⟨w3.heap.size, 0, none⟩) a5 n n cap5 (fun j => invF f (Z j)) w4 n1 o4.src (s2.keep d4)).mono ?_
  rintro e w5 ⟨rfl, b5⟩
  have c5 := below_up c4 b5 c4.size
  have d5 := below_up d4 b5 d4.size
  have z5 := b5.size
  have o45 := o4.keep b5
  have o35 := (o3.keep b4).keep b5
  clear o4 o3 b3 b4 b5 d4 c4 c3
  go_wp2_with fail
  refine (toInt_c a n cap Z w5 n1 (hs.keep c5)).mono ?_
  rintro e w6 ⟨rfl, o6, b6⟩
  go_wp2_with fail
  refine (eq_c (some ⟨w2.heap.size, 0, none⟩) (some ⟨w5.heap.size, 0, none⟩) n n n Z w6 n1 (o35.keep b6).src o6.src).mono ?_
  rintro e w7 ⟨rfl, b7⟩
  have c7 := below_up (below_up c5 b6 c5.size) b7 (Nat.le_trans c5.size b6.size)
  have d7 := below_up (below_up d5 b6 d5.size) b7 (Nat.le_trans d5.size b6.size)
  have o37 := (o35.keep b6).keep b7
  have o47 := (o45.keep b6).keep b7
  have z7 : w5.heap.size ≤ w7.heap.size := Nat.le_trans b6.size b7.size
  clear o6 b6 b7 o35 o45 c5 d5
  go_wp2_with fail
  refine (mark_c w2.heap.size n n Z 1 w7 n1 (by omega) (by omega) o37).mono ?_
  rintro e w8 ⟨rfl, o38, g8⟩
  have c8 := below_grown c7 g8 c7.size (by omega)
  have d8 := below_grown d7 g8 d7.size (Nat.le_refl _)
  have o48 := own_far o47 g8 (by omega)
  clear o37 o47 g8 c7 d7 o38
  go_wp2_with fail
  refine (eq_c (some ⟨w3.heap.size, 0, none⟩) a5 n n cap5 (fun j => invF f (Z j)) w8 n1 o48.src (s2.keep d8)).mono ?_
  rintro e w9 ⟨rfl, b9⟩
  have c9 := below_up c8 b9 c8.size
  have d9 := below_up d8 b9 d8.size
  have o49 := o48.keep b9
  clear o48 b9 c8 d8
  go_wp2_with fail
  refine (mark_c w3.heap.size n n (fun j => invF f (Z j)) 1 w9 n1 (by omega) (by omega) o49).mono ?_
  rintro e w10 ⟨rfl, o410, g10⟩
  have c10 := below_grown c9 g10 c9.size (by omega)
  have d10 := below_grown d9 g10 d9.size (by omega)
  clear o49 g10 c9 d9
  go_wp2_with fail
  refine (held_c w3.heap.size n n 1 w10 n1 (by omega) (by omega) o410).mono ?_
  rintro e w' ⟨rfl, rfl⟩
  go_wp2_with fail
  refine (toInt_c a n cap Z w10 n1 (hs.keep c10)).mono ?_
  rintro e w11 ⟨rfl, o11, b11⟩
  have c11 := below_up c10 b11 c10.size
  have d11 := below_up d10 b11 d10.size
  have o411 := o410.keep b11
  go_wp2_with fail
  refine (iBatch_on f (some ⟨w10.heap.size, 0, none⟩) n n Z w11 (ht.below c11) h0 h8 hn o11.src).mono ?_
  rintro e w12 ⟨rfl, o12, b12⟩
  have c12 := below_up c11 b12 c11.size
  have d12 := below_up d11 b12 d11.size
  have o412 := o411.keep b12
  go_wp2_with fail
  refine (eq_c (some ⟨w11.heap.size, 0, none⟩) a5 n n cap5 (fun j => invF f (Z j)) w12 n1 o12.src (s2.keep d12)).mono ?_
  rintro e w13 ⟨rfl, b13⟩
  go_wp2_with fail
  refine (held_c w3.heap.size n n 1 w13 n1 (by omega) (by omega) (o412.keep b13)).mono ?_
  rintro e w' ⟨rfl, rfl⟩
  go_wp2
  go_ret
  exact ⟨rfl, below_up c12 b13 c12.size⟩
set_option maxRecDepth 100000 in
set_option maxHeartbeats 3200000 in
theorem walk_off (f : Int) (a : Option Addr) (n cap : Nat) (Z : Nat → Int) (w : World) (hs : Src w a n Z) (hk : ¬ ((0 ≤ f ∧ f ≤ 8) ∧ n ≤ 4096)) (n1 : n ≤ 1048576) :
    Calls Tryd.prog 4 #[.int .i64 f, .slice a n cap] w fun e w' => e = .returned (.bool true) ∧ Below w.heap.size w w' := by
  have hd : decide ((1048576 : Int) < n) = false := by simp; omega
  have HK := Lib.hid hk
  clear hk
  go_enter Tryd.func4, Tryd.ntmps4
  go_wp2_with fail
  refine (toInt_c a n cap Z w n1 hs).mono ?_
  rintro e w1 ⟨rfl, o1, b1⟩
  go_wp2_with fail
  refine (sBatch_off f (some ⟨w.heap.size, 0, none⟩) n n w1 HK.out n1).mono ?_
  rintro e w2 ⟨rfl, b2⟩
  have c2 := below_up b1 b2 b1.size
  have z2 := c2.size
  clear o1 b1 b2
  go_wp2_with fail
  refine (toInt_c a n cap Z w2 n1 (hs.keep c2)).mono ?_
  rintro e w3 ⟨rfl, o3, b3⟩
  have c3 := below_up c2 b3 c2.size
  go_wp2_with fail
  refine (iBatch_off f (some ⟨w2.heap.size, 0, none⟩) n n w3 HK.out n1).mono ?_
  rintro e w' ⟨rfl, rfl⟩
  go_wp2_with fail
  refine (eq_none none none 0 0 w3).mono ?_
  rintro e w4 ⟨rfl, b4⟩
  have c4 := below_up c3 b4 c3.size
  go_wp2_with fail
  refine (toInt_c a n cap Z w4 n1 (hs.keep c4)).mono ?_
  rintro e w5 ⟨rfl, o5, b5⟩
  go_wp2_with fail
  refine (eq_c (some ⟨w2.heap.size, 0, none⟩) (some ⟨w4.heap.size, 0, none⟩) n n n Z w5 n1 ((o3.keep b4).keep b5).src o5.src).mono ?_
  rintro e w6 ⟨rfl, b6⟩
  have c6 := below_up (below_up c4 b5 c4.size) b6 (Nat.le_trans c4.size b5.size)
  have o36 := ((o3.keep b4).keep b5).keep b6
  clear o3 o5 b3 b4 b5 b6 c3 c4
  go_wp2_with fail
  refine (mark_c w2.heap.size n n Z 1 w6 n1 (by omega) (by omega) o36).mono ?_
  rintro e w7 ⟨rfl, o7, g7⟩
  have c7 := below_grown c6 g7 c6.size (by omega)
  clear o36 g7 c6 o7
  go_wp2_with fail
  refine (eq_none none none 0 0 w7).mono ?_
  rintro e w8 ⟨rfl, b8⟩
  have c8 := below_up c7 b8 c7.size
  go_wp2_with fail
  refine (mark_nil 1 w8).mono ?_
  rintro e w' ⟨rfl, rfl⟩
  go_wp2_with fail
  refine (held_nil 1 w8).mono ?_
  rintro e w' ⟨rfl, rfl⟩
  go_wp2_with fail
  refine (toInt_c a n cap Z w8 n1 (hs.keep c8)).mono ?_
  rintro e w9 ⟨rfl, o9, b9⟩
  have c9 := below_up c8 b9 c8.size
  go_wp2_with fail
  refine (iBatch_off f (some ⟨w8.heap.size, 0, none⟩) n n w9 HK.out n1).mono ?_
  rintro e w' ⟨rfl, rfl⟩
  go_wp2_with fail
  refine (eq_none none none 0 0 w9).mono ?_
  rintro e w10 ⟨rfl, b10⟩
  go_wp2_with fail
  refine (held_nil 1 w10).mono ?_
  rintro e w' ⟨rfl, rfl⟩
  go_wp2
  go_ret
  exact ⟨rfl, below_up c9 b10 c9.size⟩
theorem walk_src (f : Int) (a : Option Addr) (n cap : Nat) (Z : Nat → Int) (w : World) (hs : Src w a n Z) (ht : Tab w) :
    Calls Tryd.prog 4 #[.int .i64 f, .slice a n cap] w fun e w' => e = .returned (.bool true) ∧ Below w.heap.size w w' := by
  by_cases hn : 1048576 < n
  · have hd : decide ((1048576 : Int) < n) = true := by simp; omega
    go_enter Tryd.func4, Tryd.ntmps4
    go_wp2
    go_ret
    exact ⟨rfl, Below.refl _ _⟩
  · by_cases hk : (0 ≤ f ∧ f ≤ 8) ∧ n ≤ 4096
    · exact walk_on f a n cap Z w hs ht hk.1.1 hk.1.2 hk.2
    · exact walk_off f a n cap Z w hs hk (by omega)
theorem walk (a0 : Int) (a1 : Option Addr) (len1 cap1 : Nat) (z1 : List Int) (w : World) (hr1 : IsRow .i64 w a1 len1 cap1 z1) (ht : Tab w) : Calls Tryd.prog 4 #[.int .i64 a0, .slice a1 len1 cap1] w fun e w' => e = .returned (.bool true) ∧ Below w.heap.size w w' :=
  walk_src a0 a1 len1 cap1 _ w (src_of_row hr1) ht
theorem contract (H : Type) (enc : TypeId × Value → H) (W : World) (base : Nat) (args : Array Value) (ds gs : List (DataW H)) (before : List MemPlace)
    (hval : ∀ (j : Nat) t v, Tryd.f4.params[j]? = some t → args[j]? = some v → Value.okWide Tryd.prog W .any base t v)
    (hW : DataW.Whole enc Tryd.prog Tryd.f4.params.toList Rows.fnExactBatchInverseSpec.vars false W args.toList ds gs before) (hL : laidMetH Tryd.prog Rows.fnExactBatchInverseRow.laid W) :
    Calls Tryd.prog 4 args W fun e W' => ∃ v, e = .returned v ∧ Rows.fnExactBatchInverseSpec.post enc Tryd.prog Tryd.f4 false true false false W args v W' := by
  have hvar := table_var hL
  have hW' := hW
  obtain ⟨p, q, hA0, hV, rfl, hfz, hnd⟩ := hW
  have hA : DataW.TrodAll enc Tryd.prog W 0 (fun _ => true) true Tryd.f4.params.toList args.toList ds p := hA0
  rw [Tryd.params4] at hA hval
  obtain ⟨v0, vs0, d0, ds0, p0, q0, hargs, rfl, rfl, h0, r0⟩ := trodAll_cons hA
  obtain ⟨v1, vs1, d1, ds1, p1, q1, rfl, rfl, rfl, h1, r1⟩ := trodAll_cons r0
  obtain ⟨rfl, rfl, rfl⟩ := trodAll_nil r1
  obtain rfl : args = #[v0, v1] := by cases args; simp_all
  obtain ⟨rfl, rfl⟩ := DataW.TrodVars.unique hV (tab_vars enc (fun _ => true) hvar)
  obtain ⟨a0, rfl, rfl, rfl, w0⟩ := open_int Tryd.underlying3 (hval 0 3 v0 rfl rfl) h0
  obtain ⟨a1, len1, cap1, rfl⟩ := okWide_slice Tryd.underlying24 (hval 1 24 v1 rfl rfl)
  have k1 := h1
  have lt1 : ∀ x ∈ p1, x.block < W.heap.size := by obtain ⟨m, hm⟩ := k1; exact DataW.trod_lt m _ _ _ hm
  obtain ⟨z1, w1⟩ : ∃ zs, IsRow .i64 W a1 len1 cap1 zs := by
    obtain ⟨fuel, hf⟩ := h1
    rcases open_ints Tryd.underlying24 Tryd.underlying3 (by kernel_rfl) hf with ⟨hcs, _⟩ | ⟨x, l, c, zs, hcs, _, hl, hm, hz, _, hcell, hwz⟩
    · simp [Value.cells] at hcs
      obtain ⟨rfl, rfl, rfl⟩ := hcs
      exact ⟨[], .inl ⟨rfl, rfl, rfl, rfl⟩⟩
    · simp [Value.cells] at hcs
      obtain ⟨rfl, rfl, rfl⟩ := hcs
      exact ⟨zs, .inr ⟨_, rfl, hl, hm, by simpa using hz, hcell, hwz⟩⟩
  clear hA0
  refine (walk a0 a1 len1 cap1 z1 W w1 (tab_of hvar)).mono fun e W' ⟨he, bel⟩ => ?_
  subst he
  exact ⟨_, rfl, _, _, _, [], _, _, hW', trodAll_mk1 (shut_bool Tryd.underlying4 _), (trodAll_cons_mk (shut_int Tryd.underlying3 w0) (trodAll_cons_mk (Below.trod f_laidOut (by kernel_rfl) (of_decide_eq_true (by kernel_rfl)) k1 bel lt1) trodAll_mk0)), tab_vars enc _ (below_var bel hvar), bel.frame _, fun h => by cases h⟩
theorem laid_met (os : Os) : laidMet Tryd.prog Rows.fnExactBatchInverseRow.laid ((laidWorld os).forCall (fun _ _ => 0) ⟨#[], #[.int .i64 0, .slice none 0 0], []⟩).memory :=
  laidMet_of_run' 8 (by kernel_rfl) (by kernel_rfl)
theorem reads (os : Os) {H : Type} (enc : TypeId × Value → H) : ∃ places, DataW.whole enc Tryd.prog ((laidWorld os).forCall (fun _ _ => 0) ⟨#[], #[.int .i64 0, .slice none 0 0], []⟩).memory Tryd.f4.params.toList Rows.fnExactBatchInverseSpec.vars false #[Value.int .i64 0, Value.slice none 0 0].toList 8 = some ([.lit (.int .i64 0), .nil], [Rows.laid_loop_example_g00710_impl_fieldTable], places) :=
  ⟨MemPlace.row ⟨0, 0, none⟩ 27, by kernel_rfl⟩
set_option maxRecDepth 100000 in
theorem lifted (os : Os) (started : os.Started) (H : Type) (enc : TypeId × Value → H) (F : Stop.Interp) :
    ReturnsInHanded {} Tryd.checked os 4 .any ((OpenSpec.ofChange Rows.fnExactBatchInverseSpec).preRow enc Tryd.prog Tryd.f4 Rows.fnExactBatchInverseRow.domain false Rows.fnExactBatchInverseRow.laid) (((OpenSpec.ofChange Rows.fnExactBatchInverseSpec).at F).post enc Tryd.prog Tryd.f4 false true false false) := by
  obtain ⟨places, hx⟩ := reads os enc
  refine returnsInHanded_of_row (C := Tryd.checked) (s := OpenSpec.ofChange Rows.fnExactBatchInverseSpec) own started (by kernel_rfl) Tryd.func4
    (witness_row_at (enc := enc) (C := Tryd.checked) false (laidWorld os) #[.int .i64 0, .slice none 0 0] rfl (by kernel_rfl) (by kernel_rfl) (by kernel_rfl)
      (OpenSpec.preRow_of_cond 8 hx (by kernel_rfl) (fun k hk => by cases hk) (by kernel_rfl) (laid_met os))) ?_
  intro W base args ds gs before hval hW _ _ _ hL _ _
  exact contract H enc W base args ds gs before hval hW hL
theorem closed : joinedFacts Tryd.prog 4 Tryd.f4 (OpenSpec.ofChange Rows.fnExactBatchInverseSpec).bare Rows.fnExactBatchInverseRow = true := by
  unfold joinedFacts
  exact both (both (both (both (both (both (both (both (both (both (both (both (both (both (both (both (both (both (both (both (both (both (both (both (both (both (both (both (both (both (both (by as_aux_lemma => kernel_rfl) f_laidOut) f_mapsRowed) (by as_aux_lemma => kernel_rfl)) (by as_aux_lemma => kernel_rfl)) (by as_aux_lemma => kernel_rfl)) f_stops) (by as_aux_lemma => kernel_rfl)) f_knobs) (by as_aux_lemma => kernel_rfl)) (by as_aux_lemma => kernel_rfl)) (by as_aux_lemma => kernel_rfl)) (by as_aux_lemma => kernel_rfl)) (by as_aux_lemma => kernel_rfl)) (by as_aux_lemma => kernel_rfl)) (by as_aux_lemma => kernel_rfl)) (by as_aux_lemma => kernel_rfl)) (by as_aux_lemma => kernel_rfl)) (by as_aux_lemma => kernel_rfl)) (by as_aux_lemma => kernel_rfl)) (by as_aux_lemma => kernel_rfl)) (by as_aux_lemma => kernel_rfl)) f_keys) (by as_aux_lemma => kernel_rfl)) f_heard) f_enter) f_lifts) f_make) (by as_aux_lemma => kernel_rfl)) (by as_aux_lemma => kernel_rfl)) (by as_aux_lemma => kernel_rfl)) (by as_aux_lemma => kernel_rfl)
theorem said : Rows.FnExactBatchInverseSaid :=
  OpenClaim.holds_of_cond 4 Tryd.f4 rfl rfl rfl rfl rfl rfl rfl ⟨rfl, rfl, rfl, rfl, rfl⟩ rfl rfl rfl rfl rfl (by as_aux_lemma => kernel_rfl) Tryd.func4 closed
    (of_decide_eq_true (by as_aux_lemma => kernel_rfl)) (by unfold Func.isWrapper; rw [if_neg (by decide +kernel)]; exact ⟨rfl, rfl⟩)
    (fun os started H enc _ F => by rw [OpenClaim.pre_eq_preRow]; exact lifted os started H enc F)
theorem plain (f : FuncId) (fn : Func) (hf : Tryd.pinned.checked.prog.funcNamed "loop.example/g00710/laws.FnExactBatchInverse" = some f) (hfn : Tryd.pinned.checked.prog.funcs[f]? = some fn) :
    false = Tryd.pinned.checked.prog.looks [] ∧ ∀ (j : Nat) t, fn.params[j]? = some t → Tryd.pinned.checked.prog.wantsStandIn t = false := by
  obtain rfl : f = 4 := Option.some.inj ((show Tryd.prog.funcNamed "loop.example/g00710/laws.FnExactBatchInverse" = some 4 by kernel_rfl).symm.trans hf) |>.symm
  obtain rfl : fn = Tryd.f4 := (Option.some.inj (Tryd.func4.symm.trans hfn)).symm
  refine ⟨f_looks, fun j t ht => ?_⟩
  rw [Tryd.params4] at ht
  have hm := Array.mem_of_getElem? ht
  have hm2 : t = 3 ∨ t = 24 := by simpa using hm
  rcases hm2 with rfl | rfl
  · exact (show Tryd.prog.wantsStandIn 3 = false by kernel_rfl)
  · exact (show Tryd.prog.wantsStandIn 24 = false by kernel_rfl)
end ExactBatchInverse
theorem fnExactBatchInverse_card : Rows.FnExactBatchInverseCardSaid :=
  Claim7.holds_tied_plain_at .later [] _ _ _ _ ExactBatchInverse.said (fun _ h => by cases h) (by as_aux_lemma => kernel_rfl) (fun _ h => by cases h) fnExactBatchInverse_row_tie rfl ⟨rfl, rfl⟩ f_main rfl ExactBatchInverse.plain (by as_aux_lemma => kernel_rfl)
end Go.Proofs.YtajlhgiihneeiaaDoor
