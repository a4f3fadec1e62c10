/-
  An element raised to its Order is 1, and raised to its Order divided by a prime divisor it is not, for every code that the law draws from; no condition but the card's own (the table of fields holds what its initialiser lays).
-/
import Derived.Test.YtpbncphbcnjlgaaDoorTable
import Derived.ChangeOld
import Derived.Below
import Derived.Carry
import Derived.Test.YtpbncphbcnjlgaaDoorFacts
import Derived.Test.YtpbncphbcnjlgaaDoorWalkI
import Derived.Test.YtpbncphbcnjlgaaDoorWalkD
import Derived.Test.YtpbncphbcnjlgaaDoorNumS
namespace Go.Proofs.YtpbncphbcnjlgaaDoor
open Go.ChangeShapes Go.WideShapes Go.ChangeAt Go.RowKit
namespace OrderLeast
theorem ord_facts {f a : Int} (hk : 0 ≤ f ∧ f ≤ 8) (hz : RS a (P f) ≠ 0) : 1 ≤ mOrder f a ∧ mOrder f a ≤ P f - 1 ∧ ∀ m : Int, 0 ≤ m → (mPower f a m = 1 ↔ mOrder f a ∣ m) := by
  have hp := P_bd hk.1 hk.2
  have hn := P_nat hk.1
  have ba := RS_bd (x := a) (m := P f) (by omega)
  have hf := fldf hk.1 hk.2
  have hnz : (RS a (P f)).toNat % (P f).toNat ≠ 0 := by rw [Nat.mod_eq_of_lt (by omega)]; omega
  have e : mOrder f a = _ := if_pos ⟨hk, hz⟩
  have hpp : Mth.prod (Mth.facs f.toNat) = (P f).toNat - 1 := by rw [P_toNat hk.1]; exact Mth.facs_prod _ (by omega)
  have hd := Mth.ordF_dvd (tst f (RS a (P f))) (Mth.facs f.toNat) ((P f).toNat - 1) (by omega) (by rw [hpp]; exact Nat.dvd_refl _)
  have ho := hf.ordF hnz (Mth.facs f.toNat) (Mth.facs_pr _) hpp (tst f (RS a (P f))) (fun m => by
    unfold tst; rw [decide_eq_true_eq, PW_one, Int.toNat_natCast])
  rw [show (P f).toNat - 1 = Mth.pN f.toNat - 1 by omega] at hd ho
  rw [e]
  generalize Mth.ordF (tst f (RS a (P f))) (Mth.facs f.toNat) (Mth.pN f.toNat - 1) = n at *
  have hle := Nat.le_of_dvd (by omega) hd.2
  refine ⟨by omega, by omega, fun m hm => ?_⟩
  have e2 : mPower f a m = PW (P f) (RS a (P f)) (RS m (P f - 1)) := by unfold mPower; rw [if_pos hk, if_neg hz]
  have e3 : (RS m (P f - 1)).toNat = m.toNat % ((P f).toNat - 1) := by
    have h1 : ((m.toNat % ((P f).toNat - 1) : Nat) : Int) = m % (P f - 1) := by
      rw [Int.natCast_emod, show ((m.toNat : Nat) : Int) = m by omega, show (((P f).toNat - 1 : Nat) : Int) = P f - 1 by omega]
    unfold RS; rw [← h1, Int.toNat_natCast]
  rw [e2, PW_one, e3, hf.pow_mod _ hnz, ho m.toNat]
  constructor
  · intro h
    have := Int.natCast_dvd_natCast.2 h
    rwa [show ((m.toNat : Nat) : Int) = m by omega] at this
  · intro h
    rw [show m = ((m.toNat : Nat) : Int) by omega] at h
    exact Int.natCast_dvd_natCast.1 h
theorem quo_least {n q : Int} (n1 : 1 ≤ n) (q2 : 2 ≤ q) (hd : q ∣ n) : 0 ≤ n / q ∧ ¬ n ∣ n / q ∧ n / q ≤ n := by
  obtain ⟨c, rfl⟩ := hd
  rw [Int.mul_ediv_cancel_left _ (by omega)]
  have c1 : 0 < c := by
    rcases Int.lt_or_le 0 c with h | h
    · exact h
    · have := Int.mul_nonpos_of_nonneg_of_nonpos (show 0 ≤ q by omega) h; omega
  have h2 : 2 * c ≤ q * c := Int.mul_le_mul_of_nonneg_right q2 (by omega)
  refine ⟨by omega, fun h => ?_, by omega⟩
  have := Int.le_of_dvd c1 h; omega
theorem quo_step {r q : Int} (r1 : 1 ≤ r) (q2 : 2 ≤ q) (h : r % q = 0) : 1 ≤ r / q ∧ r / q < r ∧ r / q ∣ r := by
  obtain ⟨c, rfl⟩ := Int.dvd_of_emod_eq_zero h
  rw [Int.mul_ediv_cancel_left _ (by omega)]
  have c1 : 0 < c := by
    rcases Int.lt_or_le 0 c with h | h
    · exact h
    · have := Int.mul_nonpos_of_nonneg_of_nonpos (show 0 ≤ q by omega) h; omega
  have h2 : 2 * c ≤ q * c := Int.mul_le_mul_of_nonneg_right q2 (by omega)
  exact ⟨by omega, by omega, Int.dvd_mul_left _ _⟩
theorem q_bd {q r : Int} (_q2 : 2 ≤ q) (hr : r ≤ 1004535809) (h : q * q ≤ r) : q ≤ 31700 := by
  rcases Int.lt_or_le 31700 q with hq | hq
  · exfalso
    have := Int.mul_le_mul (show (31700 : Int) ≤ q by omega) (show (31700 : Int) ≤ q by omega) (by omega) (by omega)
    omega
  · exact hq
set_option maxRecDepth 100000 in
set_option maxHeartbeats 1600000 in
theorem walk (a : Option Addr) (len cap : Nat) (zs : List Int) (w : World) (hrow : IsRow .u8 w a len cap zs) (ht : Tab w) :
    Calls Tryd.prog 5 #[.slice a len cap] w fun e w' => e = .returned (.bool true) ∧ Below w.heap.size w w' := by
  by_cases hl : 1048576 < len
  · go_enter Tryd.func5, Tryd.ntmps5
    go_wp2_with fail
    refine (big_yes a len cap w hl).mono ?_
    rintro e w' ⟨rfl, rfl⟩
    go_wp2
    go_ret
    exact ⟨rfl, Below.refl _ _⟩
  have hl2 : len ≤ 1048576 := by omega
  have hcode := code_of_row hrow (by omega)
  clear hl hrow
  go_enter Tryd.func5, Tryd.ntmps5
  go_wp2_with fail
  refine (big_no a len cap w hl2).mono ?_
  rintro e w' ⟨rfl, rfl⟩
  go_wp2_with fail
  refine (drawOrder_c a len cap w hcode).mono ?_
  rintro e w3 ⟨f, x, rfl, b1⟩
  have ht3 := ht.below b1
  have BB := Lib.hid b1
  clear b1 hcode
  by_cases hk : 0 ≤ f ∧ f ≤ 8
  · have Rx := Lib.hid (show mReduce f x = _ from if_pos hk)
    by_cases hz : RS x (P f) = 0
    · have hb : (RS x (P f) == 0) = true := by simpa using hz
      clear hz
      go_wp2_with fail
      refine (isField_yes f w3 hk.1 hk.2).mono ?_
      rintro e w' ⟨rfl, rfl⟩
      go_wp2_with fail
      refine (sReduce f x w3).mono ?_
      rintro e w' ⟨rfl, rfl⟩
      rw [Rx.out]
      go_wp2
      go_ret
      exact ⟨rfl, BB.out⟩
    · have hb : (RS x (P f) == 0) = false := by simpa using hz
      have hp := P_bd hk.1 hk.2
      obtain ⟨n1, n2, hord⟩ := ord_facts hk hz
      have HO := Lib.hid hord
      clear hz hord
      have e1 : (mPower f x (mOrder f x) != 1) = false := by
        have := (HO.out (mOrder f x) (by omega)).2 (Int.dvd_refl _)
        simp [this]
      go_wp2_with fail
      refine (isField_yes f w3 hk.1 hk.2).mono ?_
      rintro e w' ⟨rfl, rfl⟩
      go_wp2_with fail
      refine (sReduce f x w3).mono ?_
      rintro e w' ⟨rfl, rfl⟩
      rw [Rx.out]
      go_wp2_with fail
      refine (iOrder f x w3 ht3).mono ?_
      rintro e w' ⟨rfl, rfl⟩
      go_wp2_with fail
      refine (iPower f x (mOrder f x) w3 ht3).mono ?_
      rintro e w' ⟨rfl, rfl⟩
      go_wp2_with fail
      go_loop [6, 7] (fun u v => ∃ r q : Int, u = .int .i64 r ∧ v = .int .i64 q ∧ 1 ≤ r ∧ r ≤ mOrder f x ∧ 2 ≤ q ∧ q ≤ 40000 ∧ Hid (r ∣ mOrder f x)) (fun _ v => (40000 - intOf v).toNat)
      case atStart => exact ⟨_, 2, rfl, rfl, n1, by omega, by omega, by omega, Lib.hid (Int.dvd_refl _)⟩
      case round =>
        obtain ⟨r, q, rfl, rfl, r1, r2, q2, q3, hd⟩ := hrel
        have qq : q * q ≤ 40000 * 40000 := Int.mul_le_mul q3 q3 (by omega) (by omega)
        have qq0 : 4 ≤ q * q := Int.mul_le_mul q2 q2 (by omega) (by omega)
        by_cases hq : q * q ≤ r
        · have q4 := q_bd q2 (by omega) hq
          have hqd : decide (q * q ≤ r) = true := by simpa using hq
          by_cases hm : r % q = 0
          · have hqn : q ∣ mOrder f x := Int.dvd_trans (Int.dvd_of_emod_eq_zero hm) hd.out
            obtain ⟨c0, c1, c2⟩ := quo_least n1 q2 hqn
            have e2 : (mPower f x (mOrder f x / q) == 1) = false := by
              have := mt (HO.out _ c0).1 c1
              simp [this]
            have e3 : (r % q == 0) = true := by simp [hm]
            clear hm hqn c1
            go_wp2_with fail
            refine (iPower f x (mOrder f x / q) w3 ht3).mono ?_
            rintro e w' ⟨rfl, rfl⟩
            go_wp2_with fail
            clear e2 e3
            go_loop [6] (fun u => ∃ r : Int, u = .int .i64 r ∧ 1 ≤ r ∧ r ≤ mOrder f x ∧ Hid (r ∣ mOrder f x)) (fun u => (intOf u).toNat)
            case atStart => exact ⟨_, rfl, r1, r2, hd⟩
            case round =>
              clear hq hqd hd r1 r2
              obtain ⟨r, rfl, r1, r2, hd⟩ := hrel
              by_cases hm : r % q = 0
              · have hb := quo_step r1 q2 hm
                have hd2 : Hid (r / q ∣ mOrder f x) := Lib.hid (Int.dvd_trans hb.2.2 hd.out)
                obtain ⟨b1, b2, _⟩ := hb
                have e3 : (r % q == 0) = true := by simp [hm]
                clear hm
                go_wp2
                go_round
                case rel => exact ⟨_, rfl, b1, by omega, hd2⟩
                case measure => simp [intOf]; omega
              · have e3 : (r % q == 0) = false := by simp [hm]
                clear hm
                go_wp2
                go_round
                case rel => exact ⟨_, _, rfl, rfl, r1, r2, by omega, by omega, hd⟩
                case measure => simp [intOf]; omega
          · have e3 : (r % q == 0) = false := by simp [hm]
            clear hm
            go_wp2_with fail
            go_loop [6] (fun u => ∃ r : Int, u = .int .i64 r ∧ 1 ≤ r ∧ r ≤ mOrder f x ∧ Hid (r ∣ mOrder f x)) (fun u => (intOf u).toNat)
            case atStart => exact ⟨_, rfl, r1, r2, hd⟩
            case round =>
              clear hq hqd hd r1 r2 e3
              obtain ⟨r, rfl, r1, r2, hd⟩ := hrel
              by_cases hm : r % q = 0
              · have hb := quo_step r1 q2 hm
                have hd2 : Hid (r / q ∣ mOrder f x) := Lib.hid (Int.dvd_trans hb.2.2 hd.out)
                obtain ⟨b1, b2, _⟩ := hb
                have e3 : (r % q == 0) = true := by simp [hm]
                clear hm
                go_wp2
                go_round
                case rel => exact ⟨_, rfl, b1, by omega, hd2⟩
                case measure => simp [intOf]; omega
              · have e3 : (r % q == 0) = false := by simp [hm]
                clear hm
                go_wp2
                go_round
                case rel => exact ⟨_, _, rfl, rfl, r1, r2, by omega, by omega, hd⟩
                case measure => simp [intOf]; omega
        · have hqd : decide (q * q ≤ r) = false := by simpa using hq
          by_cases hr : r = 1
          · subst hr
            go_wp2
            go_ret
            exact ⟨rfl, BB.out⟩
          · have e4 : (r == 1) = false := by simpa using hr
            obtain ⟨c0, c1, c2⟩ := quo_least n1 (show 2 ≤ r by omega) hd.out
            have e2 : (mPower f x (mOrder f x / r) != 1) = true := by
              have := mt (HO.out _ c0).1 c1
              simp [this]
            clear hr c1
            go_wp2_with fail
            refine (iPower f x (mOrder f x / r) w3 ht3).mono ?_
            rintro e w' ⟨rfl, rfl⟩
            go_wp2
            go_ret
            exact ⟨by simp, BB.out⟩
  · go_wp2_with fail
    refine (isField_no f w3 hk).mono ?_
    rintro e w' ⟨rfl, rfl⟩
    go_wp2
    go_ret
    exact ⟨rfl, BB.out⟩

theorem contract (H : Type) (enc : TypeId × Value → H) (W : World) (base : Nat) (args : Array Value) (ds gs : List (DataW H)) (before : List MemPlace)
    (hval : ∀ (j : Nat) t v, Tryd.f5.params[j]? = some t → args[j]? = some v → Value.okWide Tryd.prog W .any base t v)
    (hW : DataW.Whole enc Tryd.prog Tryd.f5.params.toList Rows.fnOrderLeastSpec.vars false W args.toList ds gs before) (hL : laidMetH Tryd.prog Rows.fnOrderLeastRow.laid W) :
    Calls Tryd.prog 5 args W fun e W' => ∃ v, e = .returned v ∧ Rows.fnOrderLeastSpec.post enc Tryd.prog Tryd.f5 false true false false W args v W' := by
  have hvar := table_var hL
  have hW' := hW
  obtain ⟨p, q, hA0, hV, rfl, hfz, hnd⟩ := hW
  have hA : DataW.TrodAll enc Tryd.prog W 0 (fun _ => true) true Tryd.f5.params.toList args.toList ds p := hA0
  rw [Tryd.params5] at hA hval
  obtain ⟨v0, vs0, d0, ds0, p0, q0, hargs, rfl, rfl, h0, r0⟩ := trodAll_cons hA
  obtain ⟨rfl, rfl, rfl⟩ := trodAll_nil r0
  obtain rfl : args = #[v0] := by cases args; simp_all
  obtain ⟨rfl, rfl⟩ := DataW.TrodVars.unique hV (tab_vars enc (fun _ => true) hvar)
  obtain ⟨a0, len0, cap0, rfl⟩ := okWide_slice Tryd.underlying22 (hval 0 22 v0 rfl rfl)
  have k0 := h0
  have lt0 : ∀ x ∈ p0, x.block < W.heap.size := by obtain ⟨m, hm⟩ := k0; exact DataW.trod_lt m _ _ _ hm
  obtain ⟨z0, w0⟩ : ∃ zs, IsRow .u8 W a0 len0 cap0 zs := by
    obtain ⟨fuel, hf⟩ := h0
    rcases open_ints Tryd.underlying22 Tryd.underlying5 (by kernel_rfl) hf with ⟨hcs, _⟩ | ⟨x, l, c, zs, hcs, _, hl, hm, hz, _, hcell, hwz⟩
    · simp [Value.cells] at hcs
      obtain ⟨rfl, rfl, rfl⟩ := hcs
      exact ⟨[], .inl ⟨rfl, rfl, rfl, rfl⟩⟩
    · simp [Value.cells] at hcs
      obtain ⟨rfl, rfl, rfl⟩ := hcs
      exact ⟨zs, .inr ⟨_, rfl, hl, hm, by simpa using hz, hcell, hwz⟩⟩
  clear hA0
  refine (walk a0 len0 cap0 z0 W w0 (tab_of hvar)).mono fun e W' ⟨he, bel⟩ => ?_
  subst he
  exact ⟨_, rfl, _, _, _, [], _, _, hW', trodAll_mk1 (shut_bool Tryd.underlying4 _), (trodAll_cons_mk (Below.trod f_laidOut (by kernel_rfl) (of_decide_eq_true (by kernel_rfl)) k0 bel lt0) trodAll_mk0), tab_vars enc _ (below_var bel hvar), bel.frame _, fun h => by cases h⟩
theorem laid_met (os : Os) : laidMet Tryd.prog Rows.fnOrderLeastRow.laid ((laidWorld os).forCall (fun _ _ => 0) ⟨#[], #[.slice none 0 0], []⟩).memory :=
  laidMet_of_run' 8 (by kernel_rfl) (by kernel_rfl)
theorem reads (os : Os) {H : Type} (enc : TypeId × Value → H) : ∃ places, DataW.whole enc Tryd.prog ((laidWorld os).forCall (fun _ _ => 0) ⟨#[], #[.slice none 0 0], []⟩).memory Tryd.f5.params.toList Rows.fnOrderLeastSpec.vars false #[Value.slice none 0 0].toList 8 = some ([.nil], [Rows.laid_loop_example_g00710_impl_fieldTable], places) :=
  ⟨MemPlace.row ⟨0, 0, none⟩ 27, by kernel_rfl⟩
set_option maxRecDepth 100000 in
theorem lifted (os : Os) (started : os.Started) (H : Type) (enc : TypeId × Value → H) (F : Stop.Interp) :
    ReturnsInHanded {} Tryd.checked os 5 .any ((OpenSpec.ofChange Rows.fnOrderLeastSpec).preRow enc Tryd.prog Tryd.f5 Rows.fnOrderLeastRow.domain false Rows.fnOrderLeastRow.laid) (((OpenSpec.ofChange Rows.fnOrderLeastSpec).at F).post enc Tryd.prog Tryd.f5 false true false false) := by
  obtain ⟨places, hx⟩ := reads os enc
  refine returnsInHanded_of_row (C := Tryd.checked) (s := OpenSpec.ofChange Rows.fnOrderLeastSpec) own started (by kernel_rfl) Tryd.func5
    (witness_row_at (enc := enc) (C := Tryd.checked) false (laidWorld os) #[.slice none 0 0] rfl (by kernel_rfl) (by kernel_rfl) (by kernel_rfl)
      (OpenSpec.preRow_of_cond 8 hx (by kernel_rfl) (fun k hk => by cases hk) (by kernel_rfl) (laid_met os))) ?_
  intro W base args ds gs before hval hW _ _ _ hL _ _
  exact contract H enc W base args ds gs before hval hW hL
theorem closed : joinedFacts Tryd.prog 5 Tryd.f5 (OpenSpec.ofChange Rows.fnOrderLeastSpec).bare Rows.fnOrderLeastRow = true := by
  unfold joinedFacts
  exact both (both (both (both (both (both (both (both (both (both (both (both (both (both (both (both (both (both (both (both (both (both (both (both (both (both (both (both (both (both (both (by as_aux_lemma => kernel_rfl) f_laidOut) f_mapsRowed) (by as_aux_lemma => kernel_rfl)) (by as_aux_lemma => kernel_rfl)) (by as_aux_lemma => kernel_rfl)) f_stops) (by as_aux_lemma => kernel_rfl)) f_knobs) (by as_aux_lemma => kernel_rfl)) (by as_aux_lemma => kernel_rfl)) (by as_aux_lemma => kernel_rfl)) (by as_aux_lemma => kernel_rfl)) (by as_aux_lemma => kernel_rfl)) (by as_aux_lemma => kernel_rfl)) (by as_aux_lemma => kernel_rfl)) (by as_aux_lemma => kernel_rfl)) (by as_aux_lemma => kernel_rfl)) (by as_aux_lemma => kernel_rfl)) (by as_aux_lemma => kernel_rfl)) (by as_aux_lemma => kernel_rfl)) (by as_aux_lemma => kernel_rfl)) f_keys) (by as_aux_lemma => kernel_rfl)) f_heard) f_enter) f_lifts) f_make) (by as_aux_lemma => kernel_rfl)) (by as_aux_lemma => kernel_rfl)) (by as_aux_lemma => kernel_rfl)) (by as_aux_lemma => kernel_rfl)
theorem said : Rows.FnOrderLeastSaid :=
  OpenClaim.holds_of_cond 5 Tryd.f5 rfl rfl rfl rfl rfl rfl rfl ⟨rfl, rfl, rfl, rfl, rfl⟩ rfl rfl rfl rfl rfl (by as_aux_lemma => kernel_rfl) Tryd.func5 closed
    (of_decide_eq_true (by as_aux_lemma => kernel_rfl)) (by unfold Func.isWrapper; rw [if_neg (by decide +kernel)]; exact ⟨rfl, rfl⟩)
    (fun os started H enc _ F => by rw [OpenClaim.pre_eq_preRow]; exact lifted os started H enc F)
theorem plain (f : FuncId) (fn : Func) (hf : Tryd.pinned.checked.prog.funcNamed "loop.example/g00710/laws.FnOrderLeast" = some f) (hfn : Tryd.pinned.checked.prog.funcs[f]? = some fn) :
    false = Tryd.pinned.checked.prog.looks [] ∧ ∀ (j : Nat) t, fn.params[j]? = some t → Tryd.pinned.checked.prog.wantsStandIn t = false := by
  obtain rfl : f = 5 := Option.some.inj ((show Tryd.prog.funcNamed "loop.example/g00710/laws.FnOrderLeast" = some 5 by kernel_rfl).symm.trans hf) |>.symm
  obtain rfl : fn = Tryd.f5 := (Option.some.inj (Tryd.func5.symm.trans hfn)).symm
  refine ⟨f_looks, fun j t ht => ?_⟩
  rw [Tryd.params5] at ht
  obtain rfl : t = 22 := by simpa using Array.mem_of_getElem? ht
  exact (show Tryd.prog.wantsStandIn 22 = false by kernel_rfl)
end OrderLeast
theorem fnOrderLeast_card : Rows.FnOrderLeastCardSaid :=
  Claim7.holds_tied_plain_at .later [] _ _ _ _ OrderLeast.said (fun _ h => by cases h) (by as_aux_lemma => kernel_rfl) (fun _ h => by cases h) fnOrderLeast_row_tie rfl ⟨rfl, rfl⟩ f_main rfl OrderLeast.plain (by as_aux_lemma => kernel_rfl)
end Go.Proofs.YtpbncphbcnjlgaaDoor
