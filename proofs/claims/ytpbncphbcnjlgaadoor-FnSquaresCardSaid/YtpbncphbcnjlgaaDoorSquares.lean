/-
  The SquareRoot of a square is the smaller of the element and its negative, for every code that the law draws from; no condition but the card's own (the table of fields holds what its initialiser lays).
-/
import Derived.Test.YtpbncphbcnjlgaaDoorTable
import Derived.ChangeOld
import Derived.Below
import Derived.Carry
import Derived.Test.YtpbncphbcnjlgaaDoorFacts
import Derived.Test.YtpbncphbcnjlgaaDoorWalkI
import Derived.Test.YtpbncphbcnjlgaaDoorWalkE
namespace Go.Proofs.YtpbncphbcnjlgaaDoor
open Go.ChangeShapes Go.WideShapes Go.ChangeAt Go.RowKit
namespace Squares
theorem sq_facts {f a : Int} (hk : 0 ≤ f ∧ f ≤ 8) : (P f - RS a (P f) < RS a (P f) → mSqrt f (mMul f a a) = P f - RS a (P f)) ∧ (RS a (P f) ≤ P f - RS a (P f) → mSqrt f (mMul f a a) = RS a (P f)) := by
  have hp := P_bd hk.1 hk.2
  have ba := RS_bd (x := a) (m := P f) (by omega)
  have hf := fldf hk.1 hk.2
  have e : mMul f a a = RS (RS a (P f) * RS a (P f)) (P f) := (show mMul f a a = RS (a * a) (P f) from if_pos hk).trans (RS_mul a a (P f)).symm
  have e2 : RS (mMul f a a) (P f) = RS (RS a (P f) * RS a (P f)) (P f) := by rw [e, RS_RS]
  by_cases hz : RS a (P f) = 0
  · have : mSqrt f (mMul f a a) = 0 := (mSqrt_eq (.inr (.inl ⟨hk, by rw [e2, hz]; unfold RS; simp, rfl⟩))).symm
    rw [this, hz]
    exact ⟨fun h => by omega, fun _ => rfl⟩
  · have hnz : (RS a (P f)).toNat % (P f).toNat ≠ 0 := by rw [Nat.mod_eq_of_lt (by omega)]; omega
    have en := RS_nat hk.1 hk.2 ba.1 ba.1
    have hm := hf.mul_nz hnz hnz
    have hz2 : RS (mMul f a a) (P f) ≠ 0 := by rw [e2, en]; omega
    have ho : PW (P f) (RS (mMul f a a) (P f)) ((P f - 1) / 2) = 1 := by
      rw [PW_one, e2, en, Int.toNat_natCast, Mth.powm (c := (RS a (P f)).toNat * (RS a (P f)).toNat) _ (Nat.mod_mod _ _), Nat.mul_pow, ← Nat.pow_add]
      have hodd := P_odd hk.1 hk.2
      rw [show ((P f - 1) / 2).toNat + ((P f - 1) / 2).toNat = (P f).toNat - 1 by omega]
      exact hf.fermat hnz
    have hs := IsSq_of hk.1 hk.2 hz2 ho ba.1 ba.2 e2.symm
    exact ⟨fun h => (mSqrt_eq (hs.1 h)).symm, fun h => (mSqrt_eq (hs.2 h)).symm⟩
set_option maxRecDepth 100000 in
set_option maxHeartbeats 1600000 in
theorem walk (a : Option Addr) (len cap : Nat) (zs : List Int) (w : World) (hrow : IsRow .u8 w a len cap zs) (ht : Tab w) :
    Calls Tryd.prog 6 #[.slice a len cap] w fun e w' => e = .returned (.bool true) ∧ Below w.heap.size w w' := by
  by_cases hl : 1048576 < len
  · go_enter Tryd.func6, Tryd.ntmps6
    go_wp2_with fail
    refine (big_yes a len cap w hl).mono ?_
    rintro e w' ⟨rfl, rfl⟩
    go_wp2
    go_ret
    exact ⟨rfl, Below.refl _ _⟩
  have hl2 : len ≤ 1048576 := by omega
  have hcode := code_of_row hrow (by omega)
  clear hl hrow
  go_enter Tryd.func6, Tryd.ntmps6
  go_wp2_with fail
  refine (big_no a len cap w hl2).mono ?_
  rintro e w' ⟨rfl, rfl⟩
  go_wp2_with fail
  refine (drawReduce_c a len cap w hcode).mono ?_
  rintro e w3 ⟨f, x, rfl, b1⟩
  have ht3 := ht.below b1
  have BB := Lib.hid b1
  clear b1 hcode
  by_cases hk : 0 ≤ f ∧ f ≤ 8
  · have Rx := Lib.hid (show mReduce f x = _ from if_pos hk)
    have hp := P_bd hk.1 hk.2
    have ba := RS_bd (x := x) (m := P f) (by omega)
    have hs := sq_facts (a := x) hk
    by_cases hm : P f - RS x (P f) < RS x (P f)
    · have e1 : (mSqrt f (mMul f x x) == P f - RS x (P f)) = true := by simpa using hs.1 hm
      clear hs
      go_wp2_with fail
      refine (isField_yes f w3 hk.1 hk.2).mono ?_
      rintro e w' ⟨rfl, rfl⟩
      go_wp2_with fail
      refine (sReduce f x w3).mono ?_
      rintro e w' ⟨rfl, rfl⟩
      rw [Rx.out]
      go_wp2_with fail
      refine (sModulus f w3).mono ?_
      rintro e w' ⟨rfl, rfl⟩
      go_wp2_with fail
      refine (sModulus f w3).mono ?_
      rintro e w' ⟨rfl, rfl⟩
      go_wp2_with fail
      refine (iMul f x x w3 ht3).mono ?_
      rintro e w' ⟨rfl, rfl⟩
      go_wp2_with fail
      refine (iSquareRoot f (mMul f x x) w3 ht3).mono ?_
      rintro e w' ⟨rfl, rfl⟩
      go_wp2
      go_ret
      exact ⟨by simp, BB.out⟩
    · have e1 : (mSqrt f (mMul f x x) == RS x (P f)) = true := by simpa using hs.2 (by omega)
      clear hs
      go_wp2_with fail
      refine (isField_yes f w3 hk.1 hk.2).mono ?_
      rintro e w' ⟨rfl, rfl⟩
      go_wp2_with fail
      refine (sReduce f x w3).mono ?_
      rintro e w' ⟨rfl, rfl⟩
      rw [Rx.out]
      go_wp2_with fail
      refine (sModulus f w3).mono ?_
      rintro e w' ⟨rfl, rfl⟩
      go_wp2_with fail
      refine (iMul f x x w3 ht3).mono ?_
      rintro e w' ⟨rfl, rfl⟩
      go_wp2_with fail
      refine (iSquareRoot f (mMul f x x) w3 ht3).mono ?_
      rintro e w' ⟨rfl, rfl⟩
      go_wp2
      go_ret
      exact ⟨by simp, BB.out⟩
  · go_wp2_with fail
    refine (isField_no f w3 hk).mono ?_
    rintro e w' ⟨rfl, rfl⟩
    go_wp2
    go_ret
    exact ⟨rfl, BB.out⟩

theorem contract (H : Type) (enc : TypeId × Value → H) (W : World) (base : Nat) (args : Array Value) (ds gs : List (DataW H)) (before : List MemPlace)
    (hval : ∀ (j : Nat) t v, Tryd.f6.params[j]? = some t → args[j]? = some v → Value.okWide Tryd.prog W .any base t v)
    (hW : DataW.Whole enc Tryd.prog Tryd.f6.params.toList Rows.fnSquaresSpec.vars false W args.toList ds gs before) (hL : laidMetH Tryd.prog Rows.fnSquaresRow.laid W) :
    Calls Tryd.prog 6 args W fun e W' => ∃ v, e = .returned v ∧ Rows.fnSquaresSpec.post enc Tryd.prog Tryd.f6 false true false false W args v W' := by
  have hvar := table_var hL
  have hW' := hW
  obtain ⟨p, q, hA0, hV, rfl, hfz, hnd⟩ := hW
  have hA : DataW.TrodAll enc Tryd.prog W 0 (fun _ => true) true Tryd.f6.params.toList args.toList ds p := hA0
  rw [Tryd.params6] at hA hval
  obtain ⟨v0, vs0, d0, ds0, p0, q0, hargs, rfl, rfl, h0, r0⟩ := trodAll_cons hA
  obtain ⟨rfl, rfl, rfl⟩ := trodAll_nil r0
  obtain rfl : args = #[v0] := by cases args; simp_all
  obtain ⟨rfl, rfl⟩ := DataW.TrodVars.unique hV (tab_vars enc (fun _ => true) hvar)
  obtain ⟨a0, len0, cap0, rfl⟩ := okWide_slice Tryd.underlying22 (hval 0 22 v0 rfl rfl)
  have k0 := h0
  have lt0 : ∀ x ∈ p0, x.block < W.heap.size := by obtain ⟨m, hm⟩ := k0; exact DataW.trod_lt m _ _ _ hm
  obtain ⟨z0, w0⟩ : ∃ zs, IsRow .u8 W a0 len0 cap0 zs := by
    obtain ⟨fuel, hf⟩ := h0
    rcases open_ints Tryd.underlying22 Tryd.underlying5 (by kernel_rfl) hf with ⟨hcs, _⟩ | ⟨x, l, c, zs, hcs, _, hl, hm, hz, _, hcell, hwz⟩
    · simp [Value.cells] at hcs
      obtain ⟨rfl, rfl, rfl⟩ := hcs
      exact ⟨[], .inl ⟨rfl, rfl, rfl, rfl⟩⟩
    · simp [Value.cells] at hcs
      obtain ⟨rfl, rfl, rfl⟩ := hcs
      exact ⟨zs, .inr ⟨_, rfl, hl, hm, by simpa using hz, hcell, hwz⟩⟩
  clear hA0
  refine (walk a0 len0 cap0 z0 W w0 (tab_of hvar)).mono fun e W' ⟨he, bel⟩ => ?_
  subst he
  exact ⟨_, rfl, _, _, _, [], _, _, hW', trodAll_mk1 (shut_bool Tryd.underlying4 _), (trodAll_cons_mk (Below.trod f_laidOut (by kernel_rfl) (of_decide_eq_true (by kernel_rfl)) k0 bel lt0) trodAll_mk0), tab_vars enc _ (below_var bel hvar), bel.frame _, fun h => by cases h⟩
theorem laid_met (os : Os) : laidMet Tryd.prog Rows.fnSquaresRow.laid ((laidWorld os).forCall (fun _ _ => 0) ⟨#[], #[.slice none 0 0], []⟩).memory :=
  laidMet_of_run' 8 (by kernel_rfl) (by kernel_rfl)
theorem reads (os : Os) {H : Type} (enc : TypeId × Value → H) : ∃ places, DataW.whole enc Tryd.prog ((laidWorld os).forCall (fun _ _ => 0) ⟨#[], #[.slice none 0 0], []⟩).memory Tryd.f6.params.toList Rows.fnSquaresSpec.vars false #[Value.slice none 0 0].toList 8 = some ([.nil], [Rows.laid_loop_example_g00710_impl_fieldTable], places) :=
  ⟨MemPlace.row ⟨0, 0, none⟩ 27, by kernel_rfl⟩
set_option maxRecDepth 100000 in
theorem lifted (os : Os) (started : os.Started) (H : Type) (enc : TypeId × Value → H) (F : Stop.Interp) :
    ReturnsInHanded {} Tryd.checked os 6 .any ((OpenSpec.ofChange Rows.fnSquaresSpec).preRow enc Tryd.prog Tryd.f6 Rows.fnSquaresRow.domain false Rows.fnSquaresRow.laid) (((OpenSpec.ofChange Rows.fnSquaresSpec).at F).post enc Tryd.prog Tryd.f6 false true false false) := by
  obtain ⟨places, hx⟩ := reads os enc
  refine returnsInHanded_of_row (C := Tryd.checked) (s := OpenSpec.ofChange Rows.fnSquaresSpec) own started (by kernel_rfl) Tryd.func6
    (witness_row_at (enc := enc) (C := Tryd.checked) false (laidWorld os) #[.slice none 0 0] rfl (by kernel_rfl) (by kernel_rfl) (by kernel_rfl)
      (OpenSpec.preRow_of_cond 8 hx (by kernel_rfl) (fun k hk => by cases hk) (by kernel_rfl) (laid_met os))) ?_
  intro W base args ds gs before hval hW _ _ _ hL _ _
  exact contract H enc W base args ds gs before hval hW hL
theorem closed : joinedFacts Tryd.prog 6 Tryd.f6 (OpenSpec.ofChange Rows.fnSquaresSpec).bare Rows.fnSquaresRow = true := by
  unfold joinedFacts
  exact both (both (both (both (both (both (both (both (both (both (both (both (both (both (both (both (both (both (both (both (both (both (both (both (both (both (both (both (both (both (both (by as_aux_lemma => kernel_rfl) f_laidOut) f_mapsRowed) (by as_aux_lemma => kernel_rfl)) (by as_aux_lemma => kernel_rfl)) (by as_aux_lemma => kernel_rfl)) f_stops) (by as_aux_lemma => kernel_rfl)) f_knobs) (by as_aux_lemma => kernel_rfl)) (by as_aux_lemma => kernel_rfl)) (by as_aux_lemma => kernel_rfl)) (by as_aux_lemma => kernel_rfl)) (by as_aux_lemma => kernel_rfl)) (by as_aux_lemma => kernel_rfl)) (by as_aux_lemma => kernel_rfl)) (by as_aux_lemma => kernel_rfl)) (by as_aux_lemma => kernel_rfl)) (by as_aux_lemma => kernel_rfl)) (by as_aux_lemma => kernel_rfl)) (by as_aux_lemma => kernel_rfl)) (by as_aux_lemma => kernel_rfl)) f_keys) (by as_aux_lemma => kernel_rfl)) f_heard) f_enter) f_lifts) f_make) (by as_aux_lemma => kernel_rfl)) (by as_aux_lemma => kernel_rfl)) (by as_aux_lemma => kernel_rfl)) (by as_aux_lemma => kernel_rfl)
theorem said : Rows.FnSquaresSaid :=
  OpenClaim.holds_of_cond 6 Tryd.f6 rfl rfl rfl rfl rfl rfl rfl ⟨rfl, rfl, rfl, rfl, rfl⟩ rfl rfl rfl rfl rfl (by as_aux_lemma => kernel_rfl) Tryd.func6 closed
    (of_decide_eq_true (by as_aux_lemma => kernel_rfl)) (by unfold Func.isWrapper; rw [if_neg (by decide +kernel)]; exact ⟨rfl, rfl⟩)
    (fun os started H enc _ F => by rw [OpenClaim.pre_eq_preRow]; exact lifted os started H enc F)
theorem plain (f : FuncId) (fn : Func) (hf : Tryd.pinned.checked.prog.funcNamed "loop.example/g00710/laws.FnSquares" = some f) (hfn : Tryd.pinned.checked.prog.funcs[f]? = some fn) :
    false = Tryd.pinned.checked.prog.looks [] ∧ ∀ (j : Nat) t, fn.params[j]? = some t → Tryd.pinned.checked.prog.wantsStandIn t = false := by
  obtain rfl : f = 6 := Option.some.inj ((show Tryd.prog.funcNamed "loop.example/g00710/laws.FnSquares" = some 6 by kernel_rfl).symm.trans hf) |>.symm
  obtain rfl : fn = Tryd.f6 := (Option.some.inj (Tryd.func6.symm.trans hfn)).symm
  refine ⟨f_looks, fun j t ht => ?_⟩
  rw [Tryd.params6] at ht
  obtain rfl : t = 22 := by simpa using Array.mem_of_getElem? ht
  exact (show Tryd.prog.wantsStandIn 22 = false by kernel_rfl)
end Squares
theorem fnSquares_card : Rows.FnSquaresCardSaid :=
  Claim7.holds_tied_plain_at .later [] _ _ _ _ Squares.said (fun _ h => by cases h) (by as_aux_lemma => kernel_rfl) (fun _ h => by cases h) fnSquares_row_tie rfl ⟨rfl, rfl⟩ f_main rfl Squares.plain (by as_aux_lemma => kernel_rfl)
end Go.Proofs.YtpbncphbcnjlgaaDoor
