/-
  Dot of BatchInverse and the list is the number of invertible elements, as an element, for every code that the law draws from; no condition but the card's own (the table of fields holds what its initialiser lays).
-/
import Derived.Test.YtajlhgiihneeiaaDoorTable
import Derived.ChangeOld
import Derived.Below
import Derived.Carry
import Derived.Test.YtajlhgiihneeiaaDoorFacts
import Derived.Test.YtajlhgiihneeiaaDoorWalkN
namespace Go.Proofs.YtajlhgiihneeiaaDoor
open Go.ChangeShapes Go.WideShapes Go.ChangeAt Go.RowKit
namespace Batch
/-- How many of the first k have an inverse. -/
def cntF (f : Int) (Z : Nat → Int) : Nat → Nat
  | 0 => 0
  | k + 1 => if RS (Z k) (P f) = 0 then cntF f Z k else cntF f Z k + 1
theorem cntF_le (f : Int) (Z : Nat → Int) (k : Nat) : cntF f Z k ≤ k := by
  induction k with
  | zero => exact Nat.le_refl _
  | succ k ih => rw [cntF]; split <;> omega
theorem dot_cnt {f : Int} (h0 : 0 ≤ f) (h8 : f ≤ 8) (Z : Nat → Int) (k : Nat) : dotF f (fun j => invF f (Z j)) Z k = RS (cntF f Z k) (P f) := by
  have hp := P_bd h0 h8
  induction k with
  | zero => show (0 : Int) = RS ((0 : Nat) : Int) (P f); rw [RS_self (by omega) (by omega)]; rfl
  | succ k ih =>
    rw [dotF, ih, cntF, mAdd, if_pos ⟨h0, h8⟩, mMul, if_pos ⟨h0, h8⟩]
    by_cases hz : RS (Z k) (P f) = 0
    · rw [if_pos hz, invF, if_pos hz, Int.zero_mul]
      have : RS 0 (P f) = 0 := RS_self (by omega) (by omega)
      rw [this, Int.add_zero, RS_RS]
    · rw [if_neg hz, invF, if_neg hz]
      have h1 := (inv_one h0 h8 hz).1
      have e : RS (mPower f (Z k) (-1) * Z k) (P f) = 1 := by
        rw [← RS_mul] at h1 ⊢
        rw [RS_RS] at h1
        exact h1
      rw [e, show ((cntF f Z k + 1 : Nat) : Int) = (cntF f Z k : Int) + 1 by omega]
      unfold RS
      rw [Int.emod_add_emod]
set_option maxRecDepth 100000 in
set_option maxHeartbeats 3200000 in
theorem walk (a : Option Addr) (len cap : Nat) (zs : List Int) (w : World) (hrow : IsRow .u8 w a len cap zs) (ht : Tab w) :
    Calls Tryd.prog 3 #[.slice a len cap] w fun e w' => e = .returned (.bool true) ∧ Below w.heap.size w w' := by
  by_cases hl : 1048576 < len
  · go_enter Tryd.func3, Tryd.ntmps3
    go_wp2_with fail
    refine (big_yes a len cap w hl).mono ?_
    rintro e w' ⟨rfl, rfl⟩
    go_wp2
    go_ret
    exact ⟨rfl, Below.refl _ _⟩
  have hl2 : len ≤ 1048576 := by omega
  have hcode := code_of_row hrow (by omega)
  clear hl hrow
  go_enter Tryd.func3, Tryd.ntmps3
  go_wp2_with fail
  refine (big_no a len cap w hl2).mono ?_
  rintro e w' ⟨rfl, rfl⟩
  go_wp2_with fail
  refine (drawBatch_c a len cap w hl2 hcode).mono ?_
  rintro e w3 ⟨f, a2, n, cap2, Z, rfl, hn, hs, b1⟩
  clear hcode
  by_cases hk : 0 ≤ f ∧ f ≤ 8
  · obtain ⟨h0, h8⟩ := hk
    by_cases h4 : n ≤ 4096
    · have hd : decide ((4096 : Int) < n) = false := by simp; omega
      have ht3 := ht.below b1
      go_wp2_with fail
      refine (isField_yes f w3 h0 h8).mono ?_
      rintro e w' ⟨rfl, rfl⟩
      go_wp2_with fail
      go_loop [5, 6] (fun u i => ∃ k : Nat, i = .int .i64 k ∧ k ≤ n ∧ u = .int .i64 (cntF f Z k)) (fun _ i => n - (intOf i).toNat)
      case atStart => exact ⟨0, rfl, Nat.zero_le _, rfl⟩
      case round =>
        obtain ⟨k, rfl, hk, rfl⟩ := hrel
        have hcnt := cntF_le f Z k
        by_cases h1 : k < n
        · rcases hs with hz | ⟨bb, off, rfl, hlt, hc⟩
          · omega
          · have c1 := hc k h1
            have HC := Lib.hid hc
            have Rz := Lib.hid (show mReduce f (Z k) = RS (Z k) (P f) from if_pos ⟨h0, h8⟩)
            clear hc
            by_cases hz : RS (Z k) (P f) = 0
            · have e1 : (RS (Z k) (P f) != 0) = false := by simp [hz]
              have HP : Hid (cntF f Z k = cntF f Z (k + 1)) := Lib.hid (by rw [cntF, if_pos hz])
              clear hz
              go_wp2_with fail
              refine (sReduce f (Z k) w3).mono ?_
              rintro e w' ⟨rfl, rfl⟩
              rw [Rz.out]
              go_wp2
              go_round
              case rel => exact ⟨k + 1, by go_num, by omega, by rw [← HP.out]⟩
              case measure => simp [intOf]; omega
            · have e1 : (RS (Z k) (P f) != 0) = true := by simp [hz]
              have HP : Hid (((cntF f Z k : Nat) : Int) + 1 = (cntF f Z (k + 1) : Nat)) := Lib.hid (by rw [cntF, if_neg hz]; omega)
              clear hz
              go_wp2_with fail
              refine (sReduce f (Z k) w3).mono ?_
              rintro e w' ⟨rfl, rfl⟩
              rw [Rz.out]
              go_wp2
              go_round
              case rel => exact ⟨k + 1, by go_num, by omega, vint HP.out⟩
              case measure => simp [intOf]; omega
        · have hd2 : decide (k < n) = false := by simpa using h1
          obtain rfl : k = n := by omega
          have HD : Hid (mDot f (fun j => invF f (Z j)) Z k k = mReduce f (cntF f Z k)) := Lib.hid (by
            rw [mDot, if_pos ⟨⟨h0, h8⟩, h4, h4⟩, Nat.min_self, dot_cnt h0 h8, mReduce, if_pos ⟨h0, h8⟩])
          have e2 : (mDot f (fun j => invF f (Z j)) Z k k == mReduce f (cntF f Z k)) = true := by simp [HD.out]
          clear h1 hk hd2
          go_wp2_with fail
          refine (cp_c a2 k cap2 Z w3 (by omega) hs).mono ?_
          rintro e w4 ⟨a4, cap4, rfl, s4, b4⟩
          have q4 := below_step b1 b4
          go_wp2_with fail
          refine (iBatch_on f a4 k cap4 Z w4 (ht.below q4) h0 h8 h4 s4).mono ?_
          rintro e w5 ⟨rfl, o5, b5⟩
          have q5 := below_step q4 b5
          have s5 := hs.keep (below_step b4 b5)
          clear s4 b4 b5 q4
          go_wp2_with fail
          refine (cp_c a2 k cap2 Z w5 (by omega) s5).mono ?_
          rintro e w6 ⟨a6, cap6, rfl, s6, b6⟩
          have q6 := below_step q5 b6
          go_wp2_with fail
          refine (iDot f (some ⟨w4.heap.size, 0, none⟩) a6 k k k cap6 (fun j => invF f (Z j)) Z w6 (ht.below q6) (by omega) (by omega) (o5.keep b6).src s6).mono ?_
          rintro e w7 ⟨rfl, b7⟩
          go_wp2_with fail
          refine (sReduce f (cntF f Z k) w7).mono ?_
          rintro e w' ⟨rfl, rfl⟩
          go_wp2
          go_ret
          exact ⟨by simp, below_step q6 b7⟩
    · have hd : decide ((4096 : Int) < n) = true := by simp; omega
      go_wp2_with fail
      refine (isField_yes f w3 h0 h8).mono ?_
      rintro e w' ⟨rfl, rfl⟩
      go_wp2
      go_ret
      exact ⟨rfl, b1⟩
  · go_wp2_with fail
    refine (isField_no f w3 hk).mono ?_
    rintro e w' ⟨rfl, rfl⟩
    go_wp2
    go_ret
    exact ⟨rfl, b1⟩
theorem contract (H : Type) (enc : TypeId × Value → H) (W : World) (base : Nat) (args : Array Value) (ds gs : List (DataW H)) (before : List MemPlace)
    (hval : ∀ (j : Nat) t v, Tryd.f3.params[j]? = some t → args[j]? = some v → Value.okWide Tryd.prog W .any base t v)
    (hW : DataW.Whole enc Tryd.prog Tryd.f3.params.toList Rows.fnBatchSpec.vars false W args.toList ds gs before) (hL : laidMetH Tryd.prog Rows.fnBatchRow.laid W) :
    Calls Tryd.prog 3 args W fun e W' => ∃ v, e = .returned v ∧ Rows.fnBatchSpec.post enc Tryd.prog Tryd.f3 false true false false W args v W' := by
  have hvar := table_var hL
  have hW' := hW
  obtain ⟨p, q, hA0, hV, rfl, hfz, hnd⟩ := hW
  have hA : DataW.TrodAll enc Tryd.prog W 0 (fun _ => true) true Tryd.f3.params.toList args.toList ds p := hA0
  rw [Tryd.params3] at hA hval
  obtain ⟨v0, vs0, d0, ds0, p0, q0, hargs, rfl, rfl, h0, r0⟩ := trodAll_cons hA
  obtain ⟨rfl, rfl, rfl⟩ := trodAll_nil r0
  obtain rfl : args = #[v0] := by cases args; simp_all
  obtain ⟨rfl, rfl⟩ := DataW.TrodVars.unique hV (tab_vars enc (fun _ => true) hvar)
  obtain ⟨a0, len0, cap0, rfl⟩ := okWide_slice Tryd.underlying22 (hval 0 22 v0 rfl rfl)
  have k0 := h0
  have lt0 : ∀ x ∈ p0, x.block < W.heap.size := by obtain ⟨m, hm⟩ := k0; exact DataW.trod_lt m _ _ _ hm
  obtain ⟨z0, w0⟩ : ∃ zs, IsRow .u8 W a0 len0 cap0 zs := by
    obtain ⟨fuel, hf⟩ := h0
    rcases open_ints Tryd.underlying22 Tryd.underlying5 (by kernel_rfl) hf with ⟨hcs, _⟩ | ⟨x, l, c, zs, hcs, _, hl, hm, hz, _, hcell, hwz⟩
    · simp [Value.cells] at hcs
      obtain ⟨rfl, rfl, rfl⟩ := hcs
      exact ⟨[], .inl ⟨rfl, rfl, rfl, rfl⟩⟩
    · simp [Value.cells] at hcs
      obtain ⟨rfl, rfl, rfl⟩ := hcs
      exact ⟨zs, .inr ⟨_, rfl, hl, hm, by simpa using hz, hcell, hwz⟩⟩
  clear hA0
  refine (walk a0 len0 cap0 z0 W w0 (tab_of hvar)).mono fun e W' ⟨he, bel⟩ => ?_
  subst he
  exact ⟨_, rfl, _, _, _, [], _, _, hW', trodAll_mk1 (shut_bool Tryd.underlying4 _), (trodAll_cons_mk (Below.trod f_laidOut (by kernel_rfl) (of_decide_eq_true (by kernel_rfl)) k0 bel lt0) trodAll_mk0), tab_vars enc _ (below_var bel hvar), bel.frame _, fun h => by cases h⟩
theorem laid_met (os : Os) : laidMet Tryd.prog Rows.fnBatchRow.laid ((laidWorld os).forCall (fun _ _ => 0) ⟨#[], #[.slice none 0 0], []⟩).memory :=
  laidMet_of_run' 8 (by kernel_rfl) (by kernel_rfl)
theorem reads (os : Os) {H : Type} (enc : TypeId × Value → H) : ∃ places, DataW.whole enc Tryd.prog ((laidWorld os).forCall (fun _ _ => 0) ⟨#[], #[.slice none 0 0], []⟩).memory Tryd.f3.params.toList Rows.fnBatchSpec.vars false #[Value.slice none 0 0].toList 8 = some ([.nil], [Rows.laid_loop_example_g00710_impl_fieldTable], places) :=
  ⟨MemPlace.row ⟨0, 0, none⟩ 27, by kernel_rfl⟩
set_option maxRecDepth 100000 in
theorem lifted (os : Os) (started : os.Started) (H : Type) (enc : TypeId × Value → H) (F : Stop.Interp) :
    ReturnsInHanded {} Tryd.checked os 3 .any ((OpenSpec.ofChange Rows.fnBatchSpec).preRow enc Tryd.prog Tryd.f3 Rows.fnBatchRow.domain false Rows.fnBatchRow.laid) (((OpenSpec.ofChange Rows.fnBatchSpec).at F).post enc Tryd.prog Tryd.f3 false true false false) := by
  obtain ⟨places, hx⟩ := reads os enc
  refine returnsInHanded_of_row (C := Tryd.checked) (s := OpenSpec.ofChange Rows.fnBatchSpec) own started (by kernel_rfl) Tryd.func3
    (witness_row_at (enc := enc) (C := Tryd.checked) false (laidWorld os) #[.slice none 0 0] rfl (by kernel_rfl) (by kernel_rfl) (by kernel_rfl)
      (OpenSpec.preRow_of_cond 8 hx (by kernel_rfl) (fun k hk => by cases hk) (by kernel_rfl) (laid_met os))) ?_
  intro W base args ds gs before hval hW _ _ _ hL _ _
  exact contract H enc W base args ds gs before hval hW hL
theorem closed : joinedFacts Tryd.prog 3 Tryd.f3 (OpenSpec.ofChange Rows.fnBatchSpec).bare Rows.fnBatchRow = true := by
  unfold joinedFacts
  exact both (both (both (both (both (both (both (both (both (both (both (both (both (both (both (both (both (both (both (both (both (both (both (both (both (both (both (both (both (both (both (by as_aux_lemma => kernel_rfl) f_laidOut) f_mapsRowed) (by as_aux_lemma => kernel_rfl)) (by as_aux_lemma => kernel_rfl)) (by as_aux_lemma => kernel_rfl)) f_stops) (by as_aux_lemma => kernel_rfl)) f_knobs) (by as_aux_lemma => kernel_rfl)) (by as_aux_lemma => kernel_rfl)) (by as_aux_lemma => kernel_rfl)) (by as_aux_lemma => kernel_rfl)) (by as_aux_lemma => kernel_rfl)) (by as_aux_lemma => kernel_rfl)) (by as_aux_lemma => kernel_rfl)) (by as_aux_lemma => kernel_rfl)) (by as_aux_lemma => kernel_rfl)) (by as_aux_lemma => kernel_rfl)) (by as_aux_lemma => kernel_rfl)) (by as_aux_lemma => kernel_rfl)) (by as_aux_lemma => kernel_rfl)) f_keys) (by as_aux_lemma => kernel_rfl)) f_heard) f_enter) f_lifts) f_make) (by as_aux_lemma => kernel_rfl)) (by as_aux_lemma => kernel_rfl)) (by as_aux_lemma => kernel_rfl)) (by as_aux_lemma => kernel_rfl)
theorem said : Rows.FnBatchSaid :=
  OpenClaim.holds_of_cond 3 Tryd.f3 rfl rfl rfl rfl rfl rfl rfl ⟨rfl, rfl, rfl, rfl, rfl⟩ rfl rfl rfl rfl rfl (by as_aux_lemma => kernel_rfl) Tryd.func3 closed
    (of_decide_eq_true (by as_aux_lemma => kernel_rfl)) (by unfold Func.isWrapper; rw [if_neg (by decide +kernel)]; exact ⟨rfl, rfl⟩)
    (fun os started H enc _ F => by rw [OpenClaim.pre_eq_preRow]; exact lifted os started H enc F)
theorem plain (f : FuncId) (fn : Func) (hf : Tryd.pinned.checked.prog.funcNamed "loop.example/g00710/laws.FnBatch" = some f) (hfn : Tryd.pinned.checked.prog.funcs[f]? = some fn) :
    false = Tryd.pinned.checked.prog.looks [] ∧ ∀ (j : Nat) t, fn.params[j]? = some t → Tryd.pinned.checked.prog.wantsStandIn t = false := by
  obtain rfl : f = 3 := Option.some.inj ((show Tryd.prog.funcNamed "loop.example/g00710/laws.FnBatch" = some 3 by kernel_rfl).symm.trans hf) |>.symm
  obtain rfl : fn = Tryd.f3 := (Option.some.inj (Tryd.func3.symm.trans hfn)).symm
  refine ⟨f_looks, fun j t ht => ?_⟩
  rw [Tryd.params3] at ht
  obtain rfl : t = 22 := by simpa using Array.mem_of_getElem? ht
  exact (show Tryd.prog.wantsStandIn 22 = false by kernel_rfl)
end Batch
theorem fnBatch_card : Rows.FnBatchCardSaid :=
  Claim7.holds_tied_plain_at .later [] _ _ _ _ Batch.said (fun _ h => by cases h) (by as_aux_lemma => kernel_rfl) (fun _ h => by cases h) fnBatch_row_tie rfl ⟨rfl, rfl⟩ f_main rfl Batch.plain (by as_aux_lemma => kernel_rfl)
end Go.Proofs.YtajlhgiihneeiaaDoor
