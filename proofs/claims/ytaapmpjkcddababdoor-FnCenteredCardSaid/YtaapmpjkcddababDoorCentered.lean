/-
  An integer of absolute value less than half of the product of both primes is recovered from its Split by Centered, and Joined is its residue, for every code that the law draws from; no condition but the card's own (the table of fields holds what its initialiser lays).
-/
import Derived.Test.YtaapmpjkcddababDoorJ3
import Derived.ChangeOld
import Derived.Below
import Derived.Carry
namespace Go.Proofs.YtaapmpjkcddababDoor
open Go.ChangeShapes Go.WideShapes Go.ChangeAt Go.RowKit
namespace Centered
set_option maxHeartbeats 800000 in
theorem drawSplit_c (a : Option Addr) (len cap : Nat) (w : World) (hc : Code w a len) : Calls Tryd.prog 14 #[.slice a len cap] w fun e w' => ∃ x : Int, e = .returned (.int .i64 x) ∧ Below w.heap.size w w' := by
  go_enter Tryd.func14, Tryd.ntmps14
  go_wp2_with fail
  refine (new_c a len cap w hc).mono ?_
  rintro e w1 ⟨rfl, b1, c1⟩
  go_wp2_with fail
  refine (pick_c (fun _ => True) w.heap.size w1.heap.size 2 2 _ (c1.alloc _) (by omega) (by omega) (ints_alloc (fun _ => True) c1.lt #[.int .i64 6, .int .i64 7] 3 (fun j hj => by
    have h3 : j = 0 ∨ j = 1 := by have : j < 2 := hj; omega
    rcases h3 with rfl | rfl <;> exact ⟨_, rfl, trivial⟩))).mono ?_
  rintro e w2 ⟨f, _, rfl, g2, c2⟩
  go_wp2_with fail
  refine (any_c w.heap.size f w2 c2).mono ?_
  rintro e w3 ⟨x, _, rfl, g3, c3⟩
  have b3 := below_of_grown b1 (((World.grownBy_alloc w1 _ (some w.heap.size)).trans g2).trans g3)
  clear b1 g2 g3
  go_wp2
  go_ret
  exact ⟨x, rfl, b3⟩
set_option maxRecDepth 100000 in
set_option maxHeartbeats 3200000 in
theorem walk (a0 : Option Addr) (len0 cap0 : Nat) (z0 : List Int) (w : World) (hrow : IsRow .u8 w a0 len0 cap0 z0) (ht : Tab w) : Calls Tryd.prog 5 #[.slice a0 len0 cap0] w fun e w' => e = .returned (.bool true) ∧ Below w.heap.size w w' := by
  by_cases hl : 1048576 < len0
  · go_enter Tryd.func5, Tryd.ntmps5
    go_wp2_with fail
    refine (big_yes a0 len0 cap0 w hl).mono ?_
    rintro e w' ⟨rfl, rfl⟩
    go_wp2
    go_ret
    exact ⟨rfl, Below.refl _ _⟩
  have hl2 : len0 ≤ 1048576 := by omega
  have hcode := code_of_row hrow (by omega)
  clear hl hrow
  have HM6 : Hid (∀ w, Calls Tryd.prog 15 #[.int .i64 6] w fun e w' => e = .returned (.int .i64 998244353) ∧ w = w') := Lib.hid fun w => by have := sModulus 6 w; rwa [P6] at this
  have HM7 : Hid (∀ w, Calls Tryd.prog 15 #[.int .i64 7] w fun e w' => e = .returned (.int .i64 469762049) ∧ w = w') := Lib.hid fun w => by have := sModulus 7 w; rwa [P7] at this
  go_enter Tryd.func5, Tryd.ntmps5
  go_wp2_with fail
  refine (big_no a0 len0 cap0 w hl2).mono ?_
  rintro e w' ⟨rfl, rfl⟩
  go_wp2_with fail
  refine (drawSplit_c a0 len0 cap0 w hcode).mono ?_
  rintro e w3 ⟨x, rfl, b3⟩
  clear hcode
  go_wp2_with fail
  refine (HM6.out w3).mono ?_
  rintro e w' ⟨rfl, rfl⟩
  go_wp2_with fail
  refine (HM7.out w3).mono ?_
  rintro e w' ⟨rfl, rfl⟩
  by_cases h1 : 234468656333979648 < x
  · have d1 : decide (234468656333979648 < x) = true := decide_eq_true h1
    go_wp2
    go_ret
    exact ⟨rfl, b3⟩
  · have d1 : decide (234468656333979648 < x) = false := decide_eq_false h1
    by_cases h2 : x < -234468656333979648
    · have d2 : decide (x < -234468656333979648) = true := decide_eq_true h2
      go_wp2
      go_ret
      exact ⟨rfl, b3⟩
    · have d2 : decide (x < -234468656333979648) = false := decide_eq_false h2
      have hs := centered_split (x := x) (by unfold MM; omega) (by unfold MM; omega)
      have E0 := Lib.hid hs.1
      have E1 := Lib.hid hs.2.1
      have E2 := hs.2.2
      unfold MM at E2
      have t1 : x.tmod 468937312667959297 = x := by
        by_cases h0 : 0 ≤ x
        · rw [Int.tmod_eq_emod_of_nonneg h0]; omega
        · have := Int.tmod_eq_emod_of_nonneg (a := -x) (b := 468937312667959297) (by omega)
          rw [Int.neg_tmod] at this
          omega
      have i1 : IntKind.i64.wrap (x + 468937312667959297) = x + 468937312667959297 := IntWalk.i64_in _ (by omega)
      have t2 : (x + 468937312667959297).tmod 468937312667959297 = x % 468937312667959297 := by
        rw [Int.tmod_eq_emod_of_nonneg (by omega)]; omega
      have HJE : Hid ((mJoined (RS x (P 6)) (RS x (P 7)) == x % 468937312667959297) = true) := Lib.hid (by rw [E2]; simp)
      have HJ0 : Hid (mJoined (RS x (P 6)) (RS x (P 7)) = x % 468937312667959297) := Lib.hid E2
      have HT3 := Lib.hid (ht.below b3)
      clear hs E2 h1 h2 ht
      go_wp2_with fail
      refine (iSplit x w3 HT3.out).mono ?_
      rintro e w4 ⟨rfl, b4⟩
      have HT4 := Lib.hid (HT3.out.below b4)
      have c4 := below_step b3 b4
      clear b3 b4 HT3
      go_wp2_with fail
      refine (iCentered (RS x (P 6)) (RS x (P 7)) w4 HT4.out).mono ?_
      rintro e w5 ⟨rfl, b5⟩
      have HT5 : Hid (∀ q, Tab (w5.drewN q)) := Lib.hid fun q => Tab.keep (w' := w5.drewN q) (HT4.out.below b5) (fun _ => rfl)
      have c5 := below_step c4 b5
      have c5d : Below w.heap.size w w5.drew := c5.drew
      clear c4 b5 HT4
      rw [E0.out, E1.out]
      generalize RS x (P 6) = u at *
      generalize RS x (P 7) = v at *
      have HJC := Lib.hid (iJoined u v w5.drew (HT5.out 1))
      rw [HJ0.out] at HJC
      have eX : (x == x) = true := by simp
      go_wp2_with fail
      go_region_held3 (fun _ => True) (first | trivial | go_keep)
        (first
          | (go_at_call 18; refine HJC.out.mono ?_; rintro e w6 ⟨rfl, b6⟩; have c6 := below_step c5d b6))
      go_wp2
      go_ret
      exact ⟨by simp, c6⟩
theorem contract (H : Type) (enc : TypeId × Value → H) (W : World) (base : Nat) (args : Array Value) (ds gs : List (DataW H)) (before : List MemPlace)
    (hval : ∀ (j : Nat) t v, Tryd.f5.params[j]? = some t → args[j]? = some v → Value.okWide Tryd.prog W .any base t v)
    (hW : DataW.Whole enc Tryd.prog Tryd.f5.params.toList Rows.fnCenteredSpec.vars false W args.toList ds gs before) (hL : laidMetH Tryd.prog Rows.fnCenteredRow.laid W) :
    Calls Tryd.prog 5 args W fun e W' => ∃ v, e = .returned v ∧ Rows.fnCenteredSpec.post enc Tryd.prog Tryd.f5 false true false false W args v W' := by
  have hvar := table_var hL
  have hW' := hW
  obtain ⟨p, q, hA0, hV, rfl, hfz, hnd⟩ := hW
  have hA : DataW.TrodAll enc Tryd.prog W 0 (fun _ => true) true Tryd.f5.params.toList args.toList ds p := hA0
  rw [Tryd.params5] at hA hval
  obtain ⟨v0, vs0, d0, ds0, p0, q0, hargs, rfl, rfl, h0, r0⟩ := trodAll_cons hA
  obtain ⟨rfl, rfl, rfl⟩ := trodAll_nil r0
  obtain rfl : args = #[v0] := by cases args; simp_all
  obtain ⟨rfl, rfl⟩ := DataW.TrodVars.unique hV (tab_vars enc (fun _ => true) hvar)
  obtain ⟨a0, len0, cap0, rfl⟩ := okWide_slice Tryd.underlying27 (hval 0 27 v0 rfl rfl)
  have k0 := h0
  have lt0 : ∀ x ∈ p0, x.block < W.heap.size := by obtain ⟨m, hm⟩ := k0; exact DataW.trod_lt m _ _ _ hm
  obtain ⟨z0, w0⟩ : ∃ zs, IsRow .u8 W a0 len0 cap0 zs := by
    obtain ⟨fuel, hf⟩ := h0
    rcases open_ints Tryd.underlying27 Tryd.underlying5 (by kernel_rfl) hf with ⟨hcs, _⟩ | ⟨x, l, c, zs, hcs, _, hl, hm, hz, _, hcell, hwz⟩
    · simp [Value.cells] at hcs
      obtain ⟨rfl, rfl, rfl⟩ := hcs
      exact ⟨[], .inl ⟨rfl, rfl, rfl, rfl⟩⟩
    · simp [Value.cells] at hcs
      obtain ⟨rfl, rfl, rfl⟩ := hcs
      exact ⟨zs, .inr ⟨_, rfl, hl, hm, by simpa using hz, hcell, hwz⟩⟩
  clear hA0
  refine (walk a0 len0 cap0 z0 W w0 (tab_of hvar)).mono fun e W' ⟨he, bel⟩ => ?_
  subst he
  exact ⟨_, rfl, _, _, _, [], _, _, hW', trodAll_mk1 (shut_bool Tryd.underlying4 _), (trodAll_cons_mk (Below.trod f_laidOut (by kernel_rfl) (of_decide_eq_true (by kernel_rfl)) k0 bel lt0) trodAll_mk0), tab_vars enc _ (below_var bel hvar), bel.frame _, fun h => by cases h⟩
theorem laid_met (os : Os) : laidMet Tryd.prog Rows.fnCenteredRow.laid ((laidWorld os).forCall (fun _ _ => 0) ⟨#[], #[.slice none 0 0], []⟩).memory :=
  laidMet_of_run' 8 (by kernel_rfl) (by kernel_rfl)
theorem reads (os : Os) {H : Type} (enc : TypeId × Value → H) : ∃ places, DataW.whole enc Tryd.prog ((laidWorld os).forCall (fun _ _ => 0) ⟨#[], #[.slice none 0 0], []⟩).memory Tryd.f5.params.toList Rows.fnCenteredSpec.vars false #[Value.slice none 0 0].toList 8 = some ([.nil], [Rows.laid_loop_example_g00710_impl_fieldTable], places) :=
  ⟨MemPlace.row ⟨0, 0, none⟩ 27, by kernel_rfl⟩
set_option maxRecDepth 100000 in
theorem lifted (os : Os) (started : os.Started) (H : Type) (enc : TypeId × Value → H) (F : Stop.Interp) :
    ReturnsInHanded {} Tryd.checked os 5 .any ((OpenSpec.ofChange Rows.fnCenteredSpec).preRow enc Tryd.prog Tryd.f5 Rows.fnCenteredRow.domain false Rows.fnCenteredRow.laid) (((OpenSpec.ofChange Rows.fnCenteredSpec).at F).post enc Tryd.prog Tryd.f5 false true false false) := by
  obtain ⟨places, hx⟩ := reads os enc
  refine returnsInHanded_of_row (C := Tryd.checked) (s := OpenSpec.ofChange Rows.fnCenteredSpec) own started (by kernel_rfl) Tryd.func5
    (witness_row_at (enc := enc) (C := Tryd.checked) false (laidWorld os) #[.slice none 0 0] rfl (by kernel_rfl) (by kernel_rfl) (by kernel_rfl)
      (OpenSpec.preRow_of_cond 8 hx (by kernel_rfl) (fun k hk => by cases hk) (by kernel_rfl) (laid_met os))) ?_
  intro W base args ds gs before hval hW _ _ _ hL _ _
  exact contract H enc W base args ds gs before hval hW hL
theorem closed : joinedFacts Tryd.prog 5 Tryd.f5 (OpenSpec.ofChange Rows.fnCenteredSpec).bare Rows.fnCenteredRow = true := by
  unfold joinedFacts
  exact both (both (both (both (both (both (both (both (both (both (both (both (both (both (both (both (both (both (both (both (both (both (both (both (both (both (both (both (both (both (both (by as_aux_lemma => kernel_rfl) f_laidOut) f_mapsRowed) (by as_aux_lemma => kernel_rfl)) (by as_aux_lemma => kernel_rfl)) (by as_aux_lemma => kernel_rfl)) f_stops) (by as_aux_lemma => kernel_rfl)) f_knobs) (by as_aux_lemma => kernel_rfl)) (by as_aux_lemma => kernel_rfl)) (by as_aux_lemma => kernel_rfl)) (by as_aux_lemma => kernel_rfl)) (by as_aux_lemma => kernel_rfl)) (by as_aux_lemma => kernel_rfl)) (by as_aux_lemma => kernel_rfl)) (by as_aux_lemma => kernel_rfl)) (by as_aux_lemma => kernel_rfl)) (by as_aux_lemma => kernel_rfl)) (by as_aux_lemma => kernel_rfl)) (by as_aux_lemma => kernel_rfl)) (by as_aux_lemma => kernel_rfl)) f_keys) (by as_aux_lemma => kernel_rfl)) f_heard) f_enter) f_lifts) f_make) (by as_aux_lemma => kernel_rfl)) (by as_aux_lemma => kernel_rfl)) (by as_aux_lemma => kernel_rfl)) (by as_aux_lemma => kernel_rfl)
theorem said : Rows.FnCenteredSaid :=
  OpenClaim.holds_of_cond 5 Tryd.f5 rfl rfl rfl rfl rfl rfl rfl ⟨rfl, rfl, rfl, rfl, rfl⟩ rfl rfl rfl rfl rfl (by as_aux_lemma => kernel_rfl) Tryd.func5 closed
    (of_decide_eq_true (by as_aux_lemma => kernel_rfl)) (by unfold Func.isWrapper; rw [if_neg (by decide +kernel)]; exact ⟨rfl, rfl⟩)
    (fun os started H enc _ F => by rw [OpenClaim.pre_eq_preRow]; exact lifted os started H enc F)
theorem plain (f : FuncId) (fn : Func) (hf : Tryd.pinned.checked.prog.funcNamed "loop.example/g00710/laws.FnCentered" = some f) (hfn : Tryd.pinned.checked.prog.funcs[f]? = some fn) :
    false = Tryd.pinned.checked.prog.looks [] ∧ ∀ (j : Nat) t, fn.params[j]? = some t → Tryd.pinned.checked.prog.wantsStandIn t = false := by
  obtain rfl : f = 5 := Option.some.inj ((show Tryd.prog.funcNamed "loop.example/g00710/laws.FnCentered" = some 5 by kernel_rfl).symm.trans hf) |>.symm
  obtain rfl : fn = Tryd.f5 := (Option.some.inj (Tryd.func5.symm.trans hfn)).symm
  refine ⟨f_looks, fun j t ht => ?_⟩
  rw [Tryd.params5] at ht
  obtain rfl : t = 27 := by simpa using Array.mem_of_getElem? ht
  exact (show Tryd.prog.wantsStandIn 27 = false by kernel_rfl)
end Centered
theorem fnCentered_card : Rows.FnCenteredCardSaid :=
  Claim7.holds_tied_plain_at .later [] _ _ _ _ Centered.said (fun _ h => by cases h) (by as_aux_lemma => kernel_rfl) (fun _ h => by cases h) fnCentered_row_tie rfl ⟨rfl, rfl⟩ f_main rfl Centered.plain (by as_aux_lemma => kernel_rfl)
end Go.Proofs.YtaapmpjkcddababDoor
