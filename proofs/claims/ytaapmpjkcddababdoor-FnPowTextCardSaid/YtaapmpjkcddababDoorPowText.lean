/-
  PowText with exponent e + 1 is that with exponent e times a, where both are defined, for every code that the law draws from; no condition but the card's own (the table of fields holds what its initialiser lays).
-/
import Derived.Test.YtaapmpjkcddababDoorJ4
import Derived.ChangeOld
import Derived.Below
import Derived.Carry
namespace Go.Proofs.YtaapmpjkcddababDoor
open Go.ChangeShapes Go.WideShapes Go.ChangeAt Go.RowKit
namespace PowText
theorem pow_mul {s : ByteArray} {e : Int} (he : 0 ≤ e) (h1 : PowOk s e) (h2 : PowOk s (e + 1)) : mMulText0 (mPowText0 s e) s = mPowText0 s (e + 1) ∧ mMulText1 (mPowText0 s e) s = true ∧ (mPowText0 s e).size ≤ 1048576 := by
  obtain ⟨hd, _, hlt⟩ := h1
  have hA : 0 ≤ numV s := hd.txt.nonneg
  have e0 : mPowText0 s e = txtOf (numV s ^ e.toNat) := by unfold mPowText0; rw [if_pos ⟨hd, by assumption, hlt⟩]
  have e1 : mPowText0 s (e + 1) = txtOf (numV s ^ (e + 1).toNat) := by unfold mPowText0; rw [if_pos h2]
  have ht : TxtOf (numV s ^ e.toNat) (txtOf (numV s ^ e.toNat)) := txt_ex (Int.pow_nonneg hA)
  have hs : (txtOf (numV s ^ e.toNat)).size ≤ 300 := ht.size_le (by omega) (by unfold bigT at hlt; exact hlt)
  have hz : DigOk (txtOf (numV s ^ e.toNat)) := ht.digOk hs
  rw [e0, e1]
  refine ⟨?_, ?_, by omega⟩
  · unfold mMulText0
    rw [if_pos ⟨hz, hd⟩, ht.2, ← Int.pow_succ, show (e + 1).toNat = e.toNat + 1 by omega]
  · unfold mMulText1
    simp [hz, hd]
set_option maxRecDepth 100000 in
set_option maxHeartbeats 3200000 in
theorem walk (a0 : Option Addr) (len0 cap0 : Nat) (z0 : List Int) (w : World) (hrow : IsRow .u8 w a0 len0 cap0 z0) (ht : Tab w) : Calls Tryd.prog 8 #[.slice a0 len0 cap0] w fun e w' => e = .returned (.bool true) ∧ Below w.heap.size w w' := by
  by_cases hl : 1048576 < len0
  · go_enter Tryd.func8, Tryd.ntmps8
    go_wp2_with fail
    refine (big_yes a0 len0 cap0 w hl).mono ?_
    rintro e w' ⟨rfl, rfl⟩
    go_wp2
    go_ret
    exact ⟨rfl, Below.refl _ _⟩
  have hl2 : len0 ≤ 1048576 := by omega
  have hcode := code_of_row hrow (by omega)
  clear hl hrow
  go_enter Tryd.func8, Tryd.ntmps8
  go_wp2_with fail
  refine (big_no a0 len0 cap0 w hl2).mono ?_
  rintro e w' ⟨rfl, rfl⟩
  go_wp2_with fail
  refine (drawPow_c a0 len0 cap0 w hl2 hcode).mono ?_
  rintro e w3 ⟨s, x, rfl, hs, b3⟩
  clear hcode
  by_cases h1 : 1000 < x
  · have d1 : decide (1000 < x) = true := decide_eq_true h1
    go_wp2
    go_ret
    exact ⟨rfl, b3⟩
  have d1 : decide (1000 < x) = false := decide_eq_false h1
  by_cases h0 : x < 0
  · have d0 : decide (x < 0) = true := decide_eq_true h0
    go_wp2
    go_ret
    exact ⟨rfl, b3⟩
  have d0 : decide (x < 0) = false := decide_eq_false h0
  have hs2 : s.size ≤ 1048576 := by omega
  go_wp2_with fail
  refine (sPowText s x w3 hs2).mono ?_
  rintro e w4 ⟨rfl, b4⟩
  have c4 := below_step b3 b4
  clear b3 b4
  go_wp2_with fail
  refine (sPowText s (x + 1) w4 hs2).mono ?_
  rintro e w5 ⟨rfl, b5⟩
  have c5 := below_step c4 b5
  clear c4 b5
  by_cases p1 : PowOk s x
  · by_cases p2 : PowOk s (x + 1)
    · have HP := Lib.hid (pow_mul (by omega) p1 p2)
      have E1 : Hid (mPowText1 s x = true) := Lib.hid (by unfold mPowText1; simp [p1])
      have E2 : Hid (mPowText1 s (x + 1) = true) := Lib.hid (by unfold mPowText1; simp [p2])
      have HT5 := Lib.hid (ht.below c5)
      clear p1 p2
      rw [E1.out, E2.out]
      go_wp2_with fail
      refine (iPowText s (x + 1) w5 hs2 HT5.out).mono ?_
      rintro e w6 ⟨rfl, b6⟩
      have HT6 := Lib.hid (HT5.out.below b6)
      have c6 := below_step c5 b6
      clear c5 b6 HT5
      rw [E2.out]
      go_wp2_with fail
      refine (iPowText s x w6 hs2 HT6.out).mono ?_
      rintro e w7 ⟨rfl, b7⟩
      have HT7 := Lib.hid (HT6.out.below b7)
      have c7 := below_step c6 b7
      clear c6 b7 HT6
      rw [E1.out]
      go_wp2_with fail
      refine (iMulText (mPowText0 s x) s w7 HP.out.2.2 hs2 HT7.out).mono ?_
      rintro e w8 ⟨rfl, b8⟩
      have c8 := below_step c7 b8
      clear c7 b8 HT7
      rw [HP.out.1, HP.out.2.1]
      generalize mPowText0 s x = u at *
      generalize mPowText0 s (x + 1) = v at *
      have q1 : (u.toList == u.toList) = true := by simp
      have q2 : (v.toList == v.toList) = true := by simp
      go_wp2
      go_ret
      exact ⟨rfl, c8⟩
    · have E2 : Hid (mPowText1 s (x + 1) = false) := Lib.hid (by unfold mPowText1; simp [p2])
      have E1 : Hid (mPowText1 s x = true) := Lib.hid (by unfold mPowText1; simp [p1])
      rw [E2.out, E1.out]
      clear p1 p2
      go_wp2
      go_ret
      exact ⟨rfl, c5⟩
  · have E1 : Hid (mPowText1 s x = false) := Lib.hid (by unfold mPowText1; simp [p1])
    rw [E1.out]
    clear p1
    go_wp2
    go_ret
    exact ⟨rfl, c5⟩
theorem contract (H : Type) (enc : TypeId × Value → H) (W : World) (base : Nat) (args : Array Value) (ds gs : List (DataW H)) (before : List MemPlace)
    (hval : ∀ (j : Nat) t v, Tryd.f8.params[j]? = some t → args[j]? = some v → Value.okWide Tryd.prog W .any base t v)
    (hW : DataW.Whole enc Tryd.prog Tryd.f8.params.toList Rows.fnPowTextSpec.vars false W args.toList ds gs before) (hL : laidMetH Tryd.prog Rows.fnPowTextRow.laid W) :
    Calls Tryd.prog 8 args W fun e W' => ∃ v, e = .returned v ∧ Rows.fnPowTextSpec.post enc Tryd.prog Tryd.f8 false true false false W args v W' := by
  have hvar := table_var hL
  have hW' := hW
  obtain ⟨p, q, hA0, hV, rfl, hfz, hnd⟩ := hW
  have hA : DataW.TrodAll enc Tryd.prog W 0 (fun _ => true) true Tryd.f8.params.toList args.toList ds p := hA0
  rw [Tryd.params8] at hA hval
  obtain ⟨v0, vs0, d0, ds0, p0, q0, hargs, rfl, rfl, h0, r0⟩ := trodAll_cons hA
  obtain ⟨rfl, rfl, rfl⟩ := trodAll_nil r0
  obtain rfl : args = #[v0] := by cases args; simp_all
  obtain ⟨rfl, rfl⟩ := DataW.TrodVars.unique hV (tab_vars enc (fun _ => true) hvar)
  obtain ⟨a0, len0, cap0, rfl⟩ := okWide_slice Tryd.underlying27 (hval 0 27 v0 rfl rfl)
  have k0 := h0
  have lt0 : ∀ x ∈ p0, x.block < W.heap.size := by obtain ⟨m, hm⟩ := k0; exact DataW.trod_lt m _ _ _ hm
  obtain ⟨z0, w0⟩ : ∃ zs, IsRow .u8 W a0 len0 cap0 zs := by
    obtain ⟨fuel, hf⟩ := h0
    rcases open_ints Tryd.underlying27 Tryd.underlying5 (by kernel_rfl) hf with ⟨hcs, _⟩ | ⟨x, l, c, zs, hcs, _, hl, hm, hz, _, hcell, hwz⟩
    · simp [Value.cells] at hcs
      obtain ⟨rfl, rfl, rfl⟩ := hcs
      exact ⟨[], .inl ⟨rfl, rfl, rfl, rfl⟩⟩
    · simp [Value.cells] at hcs
      obtain ⟨rfl, rfl, rfl⟩ := hcs
      exact ⟨zs, .inr ⟨_, rfl, hl, hm, by simpa using hz, hcell, hwz⟩⟩
  clear hA0
  refine (walk a0 len0 cap0 z0 W w0 (tab_of hvar)).mono fun e W' ⟨he, bel⟩ => ?_
  subst he
  exact ⟨_, rfl, _, _, _, [], _, _, hW', trodAll_mk1 (shut_bool Tryd.underlying4 _), (trodAll_cons_mk (Below.trod f_laidOut (by kernel_rfl) (of_decide_eq_true (by kernel_rfl)) k0 bel lt0) trodAll_mk0), tab_vars enc _ (below_var bel hvar), bel.frame _, fun h => by cases h⟩
theorem laid_met (os : Os) : laidMet Tryd.prog Rows.fnPowTextRow.laid ((laidWorld os).forCall (fun _ _ => 0) ⟨#[], #[.slice none 0 0], []⟩).memory :=
  laidMet_of_run' 8 (by kernel_rfl) (by kernel_rfl)
theorem reads (os : Os) {H : Type} (enc : TypeId × Value → H) : ∃ places, DataW.whole enc Tryd.prog ((laidWorld os).forCall (fun _ _ => 0) ⟨#[], #[.slice none 0 0], []⟩).memory Tryd.f8.params.toList Rows.fnPowTextSpec.vars false #[Value.slice none 0 0].toList 8 = some ([.nil], [Rows.laid_loop_example_g00710_impl_fieldTable], places) :=
  ⟨MemPlace.row ⟨0, 0, none⟩ 27, by kernel_rfl⟩
set_option maxRecDepth 100000 in
theorem lifted (os : Os) (started : os.Started) (H : Type) (enc : TypeId × Value → H) (F : Stop.Interp) :
    ReturnsInHanded {} Tryd.checked os 8 .any ((OpenSpec.ofChange Rows.fnPowTextSpec).preRow enc Tryd.prog Tryd.f8 Rows.fnPowTextRow.domain false Rows.fnPowTextRow.laid) (((OpenSpec.ofChange Rows.fnPowTextSpec).at F).post enc Tryd.prog Tryd.f8 false true false false) := by
  obtain ⟨places, hx⟩ := reads os enc
  refine returnsInHanded_of_row (C := Tryd.checked) (s := OpenSpec.ofChange Rows.fnPowTextSpec) own started (by kernel_rfl) Tryd.func8
    (witness_row_at (enc := enc) (C := Tryd.checked) false (laidWorld os) #[.slice none 0 0] rfl (by kernel_rfl) (by kernel_rfl) (by kernel_rfl)
      (OpenSpec.preRow_of_cond 8 hx (by kernel_rfl) (fun k hk => by cases hk) (by kernel_rfl) (laid_met os))) ?_
  intro W base args ds gs before hval hW _ _ _ hL _ _
  exact contract H enc W base args ds gs before hval hW hL
theorem closed : joinedFacts Tryd.prog 8 Tryd.f8 (OpenSpec.ofChange Rows.fnPowTextSpec).bare Rows.fnPowTextRow = true := by
  unfold joinedFacts
  exact both (both (both (both (both (both (both (both (both (both (both (both (both (both (both (both (both (both (both (both (both (both (both (both (both (both (both (both (both (both (both (by as_aux_lemma => kernel_rfl) f_laidOut) f_mapsRowed) (by as_aux_lemma => kernel_rfl)) (by as_aux_lemma => kernel_rfl)) (by as_aux_lemma => kernel_rfl)) f_stops) (by as_aux_lemma => kernel_rfl)) f_knobs) (by as_aux_lemma => kernel_rfl)) (by as_aux_lemma => kernel_rfl)) (by as_aux_lemma => kernel_rfl)) (by as_aux_lemma => kernel_rfl)) (by as_aux_lemma => kernel_rfl)) (by as_aux_lemma => kernel_rfl)) (by as_aux_lemma => kernel_rfl)) (by as_aux_lemma => kernel_rfl)) (by as_aux_lemma => kernel_rfl)) (by as_aux_lemma => kernel_rfl)) (by as_aux_lemma => kernel_rfl)) (by as_aux_lemma => kernel_rfl)) (by as_aux_lemma => kernel_rfl)) f_keys) (by as_aux_lemma => kernel_rfl)) f_heard) f_enter) f_lifts) f_make) (by as_aux_lemma => kernel_rfl)) (by as_aux_lemma => kernel_rfl)) (by as_aux_lemma => kernel_rfl)) (by as_aux_lemma => kernel_rfl)
theorem said : Rows.FnPowTextSaid :=
  OpenClaim.holds_of_cond 8 Tryd.f8 rfl rfl rfl rfl rfl rfl rfl ⟨rfl, rfl, rfl, rfl, rfl⟩ rfl rfl rfl rfl rfl (by as_aux_lemma => kernel_rfl) Tryd.func8 closed
    (of_decide_eq_true (by as_aux_lemma => kernel_rfl)) (by unfold Func.isWrapper; rw [if_neg (by decide +kernel)]; exact ⟨rfl, rfl⟩)
    (fun os started H enc _ F => by rw [OpenClaim.pre_eq_preRow]; exact lifted os started H enc F)
theorem plain (f : FuncId) (fn : Func) (hf : Tryd.pinned.checked.prog.funcNamed "loop.example/g00710/laws.FnPowText" = some f) (hfn : Tryd.pinned.checked.prog.funcs[f]? = some fn) :
    false = Tryd.pinned.checked.prog.looks [] ∧ ∀ (j : Nat) t, fn.params[j]? = some t → Tryd.pinned.checked.prog.wantsStandIn t = false := by
  obtain rfl : f = 8 := Option.some.inj ((show Tryd.prog.funcNamed "loop.example/g00710/laws.FnPowText" = some 8 by kernel_rfl).symm.trans hf) |>.symm
  obtain rfl : fn = Tryd.f8 := (Option.some.inj (Tryd.func8.symm.trans hfn)).symm
  refine ⟨f_looks, fun j t ht => ?_⟩
  rw [Tryd.params8] at ht
  obtain rfl : t = 27 := by simpa using Array.mem_of_getElem? ht
  exact (show Tryd.prog.wantsStandIn 27 = false by kernel_rfl)
end PowText
theorem fnPowText_card : Rows.FnPowTextCardSaid :=
  Claim7.holds_tied_plain_at .later [] _ _ _ _ PowText.said (fun _ h => by cases h) (by as_aux_lemma => kernel_rfl) (fun _ h => by cases h) fnPowText_row_tie rfl ⟨rfl, rfl⟩ f_main rfl PowText.plain (by as_aux_lemma => kernel_rfl)
end Go.Proofs.YtaapmpjkcddababDoor
