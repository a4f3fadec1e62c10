/-
  An element times its inverse is 1, and powers of an element multiply by adding exponents, for every code that the law draws from; no condition but the card's own (the table of fields holds what its initialiser lays).
-/
import Derived.Test.YtpbncphbcnjlgaaDoorTable
import Derived.ChangeOld
import Derived.Below
import Derived.Carry
import Derived.Test.YtpbncphbcnjlgaaDoorFacts
import Derived.Test.YtpbncphbcnjlgaaDoorWalkI
import Derived.Test.YtpbncphbcnjlgaaDoorNumS
namespace Go.Proofs.YtpbncphbcnjlgaaDoor
open Go.ChangeShapes Go.WideShapes Go.ChangeAt Go.RowKit
namespace InverseBack
theorem inv1 {f a : Int} (hk : 0 ≤ f ∧ f ≤ 8) (hz : RS a (P f) ≠ 0) : mMul f (mPower f a (-1)) a = 1 := by
  have hp := P_bd hk.1 hk.2
  have ba := RS_bd (x := a) (m := P f) (by omega)
  have e : mPower f a (-1) = mPower f (RS a (P f)) (-1) := by
    unfold mPower; rw [RS_RS]
  obtain ⟨h1, i0, i1⟩ := inv_at (z := RS a (P f)) (k := 1) hk.1 hk.2 (by omega) ba.2 (by omega)
  rw [← e] at h1 i0 i1
  unfold mMul
  rw [if_pos hk, ← RS_mul, RS_self (by omega) i1]
  have e2 := toNat_RS (m := P f) (by omega) (show 0 ≤ mPower f a (-1) by omega) ba.1
  have hb := RS_bd (x := mPower f a (-1) * RS a (P f)) (m := P f) (by omega)
  rw [show (1 : Int).toNat = 1 from rfl, Nat.pow_one, ← e2] at h1
  omega
theorem inv2 {f a x y : Int} (hk : 0 ≤ f ∧ f ≤ 8) (hz : RS a (P f) ≠ 0) : mMul f (mPower f a x) (mPower f a y) = mPower f a (x + y) := by
  have hp := P_bd hk.1 hk.2
  have ba := RS_bd (x := a) (m := P f) (by omega)
  have bx := RS_bd (x := x) (m := P f - 1) (by omega)
  have bY := RS_bd (x := y) (m := P f - 1) (by omega)
  have bxy := RS_bd (x := x + y) (m := P f - 1) (by omega)
  have hf := fldf hk.1 hk.2
  unfold mMul mPower
  simp only [if_pos hk, if_neg hz]
  rw [RS_nat hk.1 hk.2 (PW_bd (by omega)).1 (PW_bd (by omega)).1, PW_toNat, PW_toNat, ← Nat.mul_mod, ← Nat.pow_add]
  unfold PW
  have hnz : (RS a (P f)).toNat % (P f).toNat ≠ 0 := by rw [Nat.mod_eq_of_lt (by omega)]; omega
  rw [← hf.pow_mod ((RS x (P f - 1)).toNat + (RS y (P f - 1)).toNat) hnz]
  have e : ((RS x (P f - 1)).toNat + (RS y (P f - 1)).toNat) % ((P f).toNat - 1) = (RS (x + y) (P f - 1)).toNat := by
    rw [← RS_add x y]
    unfold RS at *
    generalize x % (P f - 1) = u at *
    generalize y % (P f - 1) = v at *
    have h1 : (((u.toNat + v.toNat) % ((P f).toNat - 1) : Nat) : Int) = (u + v) % (P f - 1) := by
      rw [Int.natCast_emod, show ((u.toNat + v.toNat : Nat) : Int) = u + v by omega, show (((P f).toNat - 1 : Nat) : Int) = P f - 1 by omega]
    rw [← h1, Int.toNat_natCast]
  rw [e]
theorem add_in {x y : Int} (hx : x ≤ 2305843009213693952) (hx2 : -2305843009213693952 ≤ x) (hy : y ≤ 2305843009213693952) (hy2 : -2305843009213693952 ≤ y) : wrap64 (x + y) = x + y := IntWalk.wrap64_in _ (by omega)
set_option maxRecDepth 100000 in
set_option maxHeartbeats 1600000 in
theorem walk (a : Option Addr) (len cap : Nat) (zs : List Int) (w : World) (hrow : IsRow .u8 w a len cap zs) (ht : Tab w) :
    Calls Tryd.prog 4 #[.slice a len cap] w fun e w' => e = .returned (.bool true) ∧ Below w.heap.size w w' := by
  by_cases hl : 1048576 < len
  · go_enter Tryd.func4, Tryd.ntmps4
    go_wp2_with fail
    refine (big_yes a len cap w hl).mono ?_
    rintro e w' ⟨rfl, rfl⟩
    go_wp2
    go_ret
    exact ⟨rfl, Below.refl _ _⟩
  have hl2 : len ≤ 1048576 := by omega
  have hcode := code_of_row hrow (by omega)
  clear hl hrow
  go_enter Tryd.func4, Tryd.ntmps4
  go_wp2_with fail
  refine (big_no a len cap w hl2).mono ?_
  rintro e w' ⟨rfl, rfl⟩
  go_wp2_with fail
  refine (drawPower_c a len cap w hcode).mono ?_
  rintro e w1 ⟨f, x, y, rfl, b1⟩
  go_wp2_with fail
  refine (alt_c a len cap 3 w1 (by omega) (by omega) hl2 (hcode.keep b1)).mono ?_
  rintro e w2 ⟨a2, len2, cap2, rfl, b2, hcode2⟩
  go_wp2_with fail
  refine (drawReduce_c a2 len2 cap2 w2 hcode2).mono ?_
  rintro e w3 ⟨_, z, rfl, b3⟩
  have ht3 := ht.below (below_step (below_step b1 b2) b3)
  have BB := Lib.hid (below_step (below_step b1 b2) b3)
  clear b1 b2 b3 hcode hcode2
  by_cases hk : 0 ≤ f ∧ f ≤ 8
  · have Rx := Lib.hid (show mReduce f x = _ from if_pos hk)
    by_cases hz : RS x (P f) = 0
    · have hb : (RS x (P f) == 0) = true := by simpa using hz
      clear hz
      go_wp2_with fail
      refine (isField_yes f w3 hk.1 hk.2).mono ?_
      rintro e w' ⟨rfl, rfl⟩
      go_wp2_with fail
      refine (sReduce f x w3).mono ?_
      rintro e w' ⟨rfl, rfl⟩
      rw [Rx.out]
      go_wp2
      go_ret
      exact ⟨rfl, BB.out⟩
    · have hb : (RS x (P f) == 0) = false := by simpa using hz
      have e1 : (mMul f (mPower f x (-1)) x != 1) = false := by simp [inv1 hk hz]
      have I2 := Lib.hid (fun y z => inv2 (x := y) (y := z) hk hz)
      clear hz
      go_wp2_with fail
      refine (isField_yes f w3 hk.1 hk.2).mono ?_
      rintro e w' ⟨rfl, rfl⟩
      go_wp2_with fail
      refine (sReduce f x w3).mono ?_
      rintro e w' ⟨rfl, rfl⟩
      rw [Rx.out]
      go_wp2_with fail
      refine (iInverse f x w3 ht3).mono ?_
      rintro e w' ⟨rfl, rfl⟩
      go_wp2_with fail
      refine (iMul f (mPower f x (-1)) x w3 ht3).mono ?_
      rintro e w' ⟨rfl, rfl⟩
      by_cases q1 : 2305843009213693952 < y
      · have hd : decide (2305843009213693952 < y) = true := by simpa using q1
        go_wp2
        go_ret
        exact ⟨rfl, BB.out⟩
      by_cases q2 : y < -2305843009213693952
      · have hd : decide (2305843009213693952 < y) = false := by simpa using q1
        have hd2 : decide (y < -2305843009213693952) = true := by simpa using q2
        go_wp2
        go_ret
        exact ⟨rfl, BB.out⟩
      by_cases q3 : 2305843009213693952 < z
      · have hd : decide (2305843009213693952 < y) = false := by simpa using q1
        have hd2 : decide (y < -2305843009213693952) = false := by simpa using q2
        have hd3 : decide (2305843009213693952 < z) = true := by simpa using q3
        go_wp2
        go_ret
        exact ⟨rfl, BB.out⟩
      by_cases q4 : z < -2305843009213693952
      · have hd : decide (2305843009213693952 < y) = false := by simpa using q1
        have hd2 : decide (y < -2305843009213693952) = false := by simpa using q2
        have hd3 : decide (2305843009213693952 < z) = false := by simpa using q3
        have hd4 : decide (z < -2305843009213693952) = true := by simpa using q4
        go_wp2
        go_ret
        exact ⟨rfl, BB.out⟩
      have hd : decide (2305843009213693952 < y) = false := by simpa using q1
      have hd2 : decide (y < -2305843009213693952) = false := by simpa using q2
      have hd3 : decide (2305843009213693952 < z) = false := by simpa using q3
      have hd4 : decide (z < -2305843009213693952) = false := by simpa using q4
      have e2 : (mMul f (mPower f x y) (mPower f x z) == mPower f x (y + z)) = true := by simpa using I2.out y z
      go_wp2_with fail
      refine (iPower f x y w3 ht3).mono ?_
      rintro e w' ⟨rfl, rfl⟩
      go_wp2_with fail
      refine (iPower f x z w3 ht3).mono ?_
      rintro e w' ⟨rfl, rfl⟩
      go_wp2_with fail
      refine (iMul f (mPower f x y) (mPower f x z) w3 ht3).mono ?_
      rintro e w' ⟨rfl, rfl⟩
      go_wp2_with fail
      refine (iPower f x (y + z) w3 ht3).mono ?_
      rintro e w' ⟨rfl, rfl⟩
      go_wp2
      go_ret
      exact ⟨by simp, BB.out⟩
  · go_wp2_with fail
    refine (isField_no f w3 hk).mono ?_
    rintro e w' ⟨rfl, rfl⟩
    go_wp2
    go_ret
    exact ⟨rfl, BB.out⟩

theorem contract (H : Type) (enc : TypeId × Value → H) (W : World) (base : Nat) (args : Array Value) (ds gs : List (DataW H)) (before : List MemPlace)
    (hval : ∀ (j : Nat) t v, Tryd.f4.params[j]? = some t → args[j]? = some v → Value.okWide Tryd.prog W .any base t v)
    (hW : DataW.Whole enc Tryd.prog Tryd.f4.params.toList Rows.fnInverseBackSpec.vars false W args.toList ds gs before) (hL : laidMetH Tryd.prog Rows.fnInverseBackRow.laid W) :
    Calls Tryd.prog 4 args W fun e W' => ∃ v, e = .returned v ∧ Rows.fnInverseBackSpec.post enc Tryd.prog Tryd.f4 false true false false W args v W' := by
  have hvar := table_var hL
  have hW' := hW
  obtain ⟨p, q, hA0, hV, rfl, hfz, hnd⟩ := hW
  have hA : DataW.TrodAll enc Tryd.prog W 0 (fun _ => true) true Tryd.f4.params.toList args.toList ds p := hA0
  rw [Tryd.params4] at hA hval
  obtain ⟨v0, vs0, d0, ds0, p0, q0, hargs, rfl, rfl, h0, r0⟩ := trodAll_cons hA
  obtain ⟨rfl, rfl, rfl⟩ := trodAll_nil r0
  obtain rfl : args = #[v0] := by cases args; simp_all
  obtain ⟨rfl, rfl⟩ := DataW.TrodVars.unique hV (tab_vars enc (fun _ => true) hvar)
  obtain ⟨a0, len0, cap0, rfl⟩ := okWide_slice Tryd.underlying22 (hval 0 22 v0 rfl rfl)
  have k0 := h0
  have lt0 : ∀ x ∈ p0, x.block < W.heap.size := by obtain ⟨m, hm⟩ := k0; exact DataW.trod_lt m _ _ _ hm
  obtain ⟨z0, w0⟩ : ∃ zs, IsRow .u8 W a0 len0 cap0 zs := by
    obtain ⟨fuel, hf⟩ := h0
    rcases open_ints Tryd.underlying22 Tryd.underlying5 (by kernel_rfl) hf with ⟨hcs, _⟩ | ⟨x, l, c, zs, hcs, _, hl, hm, hz, _, hcell, hwz⟩
    · simp [Value.cells] at hcs
      obtain ⟨rfl, rfl, rfl⟩ := hcs
      exact ⟨[], .inl ⟨rfl, rfl, rfl, rfl⟩⟩
    · simp [Value.cells] at hcs
      obtain ⟨rfl, rfl, rfl⟩ := hcs
      exact ⟨zs, .inr ⟨_, rfl, hl, hm, by simpa using hz, hcell, hwz⟩⟩
  clear hA0
  refine (walk a0 len0 cap0 z0 W w0 (tab_of hvar)).mono fun e W' ⟨he, bel⟩ => ?_
  subst he
  exact ⟨_, rfl, _, _, _, [], _, _, hW', trodAll_mk1 (shut_bool Tryd.underlying4 _), (trodAll_cons_mk (Below.trod f_laidOut (by kernel_rfl) (of_decide_eq_true (by kernel_rfl)) k0 bel lt0) trodAll_mk0), tab_vars enc _ (below_var bel hvar), bel.frame _, fun h => by cases h⟩
theorem laid_met (os : Os) : laidMet Tryd.prog Rows.fnInverseBackRow.laid ((laidWorld os).forCall (fun _ _ => 0) ⟨#[], #[.slice none 0 0], []⟩).memory :=
  laidMet_of_run' 8 (by kernel_rfl) (by kernel_rfl)
theorem reads (os : Os) {H : Type} (enc : TypeId × Value → H) : ∃ places, DataW.whole enc Tryd.prog ((laidWorld os).forCall (fun _ _ => 0) ⟨#[], #[.slice none 0 0], []⟩).memory Tryd.f4.params.toList Rows.fnInverseBackSpec.vars false #[Value.slice none 0 0].toList 8 = some ([.nil], [Rows.laid_loop_example_g00710_impl_fieldTable], places) :=
  ⟨MemPlace.row ⟨0, 0, none⟩ 27, by kernel_rfl⟩
set_option maxRecDepth 100000 in
theorem lifted (os : Os) (started : os.Started) (H : Type) (enc : TypeId × Value → H) (F : Stop.Interp) :
    ReturnsInHanded {} Tryd.checked os 4 .any ((OpenSpec.ofChange Rows.fnInverseBackSpec).preRow enc Tryd.prog Tryd.f4 Rows.fnInverseBackRow.domain false Rows.fnInverseBackRow.laid) (((OpenSpec.ofChange Rows.fnInverseBackSpec).at F).post enc Tryd.prog Tryd.f4 false true false false) := by
  obtain ⟨places, hx⟩ := reads os enc
  refine returnsInHanded_of_row (C := Tryd.checked) (s := OpenSpec.ofChange Rows.fnInverseBackSpec) own started (by kernel_rfl) Tryd.func4
    (witness_row_at (enc := enc) (C := Tryd.checked) false (laidWorld os) #[.slice none 0 0] rfl (by kernel_rfl) (by kernel_rfl) (by kernel_rfl)
      (OpenSpec.preRow_of_cond 8 hx (by kernel_rfl) (fun k hk => by cases hk) (by kernel_rfl) (laid_met os))) ?_
  intro W base args ds gs before hval hW _ _ _ hL _ _
  exact contract H enc W base args ds gs before hval hW hL
theorem closed : joinedFacts Tryd.prog 4 Tryd.f4 (OpenSpec.ofChange Rows.fnInverseBackSpec).bare Rows.fnInverseBackRow = true := by
  unfold joinedFacts
  exact both (both (both (both (both (both (both (both (both (both (both (both (both (both (both (both (both (both (both (both (both (both (both (both (both (both (both (both (both (both (both (by as_aux_lemma => kernel_rfl) f_laidOut) f_mapsRowed) (by as_aux_lemma => kernel_rfl)) (by as_aux_lemma => kernel_rfl)) (by as_aux_lemma => kernel_rfl)) f_stops) (by as_aux_lemma => kernel_rfl)) f_knobs) (by as_aux_lemma => kernel_rfl)) (by as_aux_lemma => kernel_rfl)) (by as_aux_lemma => kernel_rfl)) (by as_aux_lemma => kernel_rfl)) (by as_aux_lemma => kernel_rfl)) (by as_aux_lemma => kernel_rfl)) (by as_aux_lemma => kernel_rfl)) (by as_aux_lemma => kernel_rfl)) (by as_aux_lemma => kernel_rfl)) (by as_aux_lemma => kernel_rfl)) (by as_aux_lemma => kernel_rfl)) (by as_aux_lemma => kernel_rfl)) (by as_aux_lemma => kernel_rfl)) f_keys) (by as_aux_lemma => kernel_rfl)) f_heard) f_enter) f_lifts) f_make) (by as_aux_lemma => kernel_rfl)) (by as_aux_lemma => kernel_rfl)) (by as_aux_lemma => kernel_rfl)) (by as_aux_lemma => kernel_rfl)
theorem said : Rows.FnInverseBackSaid :=
  OpenClaim.holds_of_cond 4 Tryd.f4 rfl rfl rfl rfl rfl rfl rfl ⟨rfl, rfl, rfl, rfl, rfl⟩ rfl rfl rfl rfl rfl (by as_aux_lemma => kernel_rfl) Tryd.func4 closed
    (of_decide_eq_true (by as_aux_lemma => kernel_rfl)) (by unfold Func.isWrapper; rw [if_neg (by decide +kernel)]; exact ⟨rfl, rfl⟩)
    (fun os started H enc _ F => by rw [OpenClaim.pre_eq_preRow]; exact lifted os started H enc F)
theorem plain (f : FuncId) (fn : Func) (hf : Tryd.pinned.checked.prog.funcNamed "loop.example/g00710/laws.FnInverseBack" = some f) (hfn : Tryd.pinned.checked.prog.funcs[f]? = some fn) :
    false = Tryd.pinned.checked.prog.looks [] ∧ ∀ (j : Nat) t, fn.params[j]? = some t → Tryd.pinned.checked.prog.wantsStandIn t = false := by
  obtain rfl : f = 4 := Option.some.inj ((show Tryd.prog.funcNamed "loop.example/g00710/laws.FnInverseBack" = some 4 by kernel_rfl).symm.trans hf) |>.symm
  obtain rfl : fn = Tryd.f4 := (Option.some.inj (Tryd.func4.symm.trans hfn)).symm
  refine ⟨f_looks, fun j t ht => ?_⟩
  rw [Tryd.params4] at ht
  obtain rfl : t = 22 := by simpa using Array.mem_of_getElem? ht
  exact (show Tryd.prog.wantsStandIn 22 = false by kernel_rfl)
end InverseBack
theorem fnInverseBack_card : Rows.FnInverseBackCardSaid :=
  Claim7.holds_tied_plain_at .later [] _ _ _ _ InverseBack.said (fun _ h => by cases h) (by as_aux_lemma => kernel_rfl) (fun _ h => by cases h) fnInverseBack_row_tie rfl ⟨rfl, rfl⟩ f_main rfl InverseBack.plain (by as_aux_lemma => kernel_rfl)
end Go.Proofs.YtpbncphbcnjlgaaDoor
