/-
  The elements of Roots are all unlike, each is its predecessor times the second one, and RootSum is the sum of their powers, for every code that the law draws from; no condition but the card's own (the table of fields holds what its initialiser lays).
-/
import Derived.Test.YtjfbhfloojkphaaDoorTable
import Derived.ChangeOld
import Derived.Below
import Derived.Carry
import Derived.Test.YtjfbhfloojkphaaDoorFacts
import Derived.Test.YtjfbhfloojkphaaDoorWalkS
import Derived.Test.YtjfbhfloojkphaaDoorWalkI
namespace Go.Proofs.YtjfbhfloojkphaaDoor
open Go.ChangeShapes Go.WideShapes Go.ChangeAt Go.RowKit
namespace RootsTurn
set_option maxHeartbeats 800000 in
theorem drawLog_c (g : Nat) (f : Int) (w : World) (hc : Cur g w) : Calls Tryd.prog 26 #[.pointer (some ⟨g, 0, none⟩), .int .i64 f] w (DrawInt g w (fun _ => True)) := by
  have hT := T_le f
  go_enter Tryd.func26, Tryd.ntmps26
  go_wp2_with fail
  refine (once_c g 12 w hc (by omega) (by omega)).mono ?_
  rintro e w1 ⟨b, rfl, g1, c1⟩
  cases b
  · go_wp2_with fail
    refine (sTwoPower f w1).mono ?_
    rintro e w' ⟨rfl, rfl⟩
    by_cases ht : T f < 0
    · go_wp2_with fail
      refine (below_c g 10 w1 c1 (by omega) (by omega)).mono ?_
      rintro e w2 ⟨x, ⟨x0, x1⟩, rfl, g2, c2⟩
      go_wp2
      go_ret
      exact ⟨_, trivial, rfl, g1.trans g2, c2⟩
    · go_wp2_with fail
      refine (below_c g (T f + 1) w1 c1 (by omega) (by omega)).mono ?_
      rintro e w2 ⟨x, ⟨x0, x1⟩, rfl, g2, c2⟩
      go_wp2
      go_ret
      exact ⟨_, trivial, rfl, g1.trans g2, c2⟩
  · go_wp2_with fail
    refine (pick_c (fun _ => True) g w1.heap.size 5 5 _ (c1.alloc _) (by omega) (by omega) (ints_alloc (fun _ => True) c1.lt #[.int .i64 (-1), .int .i64 10, .int .i64 24, .int .i64 64, .int .i64 1000] 3 (fun j hj => by
      have h3 : j = 0 ∨ j = 1 ∨ j = 2 ∨ j = 3 ∨ j = 4 := by have : j < 5 := hj; omega
      rcases h3 with rfl | rfl | rfl | rfl | rfl <;> exact ⟨_, rfl, trivial⟩))).mono ?_
    rintro e w2 ⟨x, _, rfl, g2, c2⟩
    go_wp2
    go_ret
    exact ⟨_, trivial, rfl, (g1.trans (World.grownBy_alloc _ _ _)).trans g2, c2⟩
set_option maxHeartbeats 800000 in
theorem drawRootSum_c (a : Option Addr) (len cap : Nat) (w : World) (hc : Code w a len) : Calls Tryd.prog 9 #[.slice a len cap] w (Draw3 w) := by
  go_enter Tryd.func9, Tryd.ntmps9
  go_wp2_with fail
  refine (new_c a len cap w hc).mono ?_
  rintro e w1 ⟨rfl, b1, c1⟩
  go_wp2_with fail
  refine (field_c w.heap.size w1 c1).mono ?_
  rintro e w2 ⟨f, _, rfl, g2, c2⟩
  go_wp2_with fail
  refine (drawLog_c w.heap.size f w2 c2).mono ?_
  rintro e w3 ⟨k, _, rfl, g3, c3⟩
  go_wp2_with fail
  refine (any_c w.heap.size f w3 c3).mono ?_
  rintro e w4 ⟨x, _, rfl, g4, c4⟩
  go_wp2_with fail
  refine (once_c w.heap.size 2 w4 c4 (by omega) (by omega)).mono ?_
  rintro e w5 ⟨b, rfl, g5, c5⟩
  have b5 := below_of_grown b1 (((g2.trans g3).trans g4).trans g5)
  clear b1 g2 g3 g4 g5 c1 c2 c3 c4
  cases b
  · go_wp2
    go_ret3
    exact ⟨f, k, x, rfl, b5⟩
  · go_wp2_with fail
    refine (below_c w.heap.size 20 w5 c5 (by omega) (by omega)).mono ?_
    rintro e w6 ⟨y, ⟨y0, y1⟩, rfl, g6, c6⟩
    go_wp2_with fail
    refine (below_c w.heap.size 10 w6 c6 (by omega) (by omega)).mono ?_
    rintro e w7 ⟨z, ⟨z0, z1⟩, rfl, g7, c7⟩
    go_wp2
    go_ret3
    exact ⟨f, k, _, rfl, below_of_grown b5 (g6.trans g7)⟩
/-- What stands between two rounds of the law's loop. -/
def At (f : Int) (k n : Nat) (G : Nat) (w wr : World) : Prop := Own wr G n (rootsF f k) ∧ Below w.heap.size w wr
theorem turn_mul {f : Int} {k m : Nat} (h : hasK f k) : mMul f (rootsF f k m) (rootsF f k 1) = rootsF f k (m + 1) := by
  have rb := root_bd h
  unfold mMul
  rw [if_pos h.1]
  have e : rootsF f k 1 = mRoot f k := PW_self (by omega) rb.2
  rw [e]
  exact rootsF_step h m
set_option maxRecDepth 100000 in
set_option maxHeartbeats 3200000 in
theorem walk (a0 : Option Addr) (len0 cap0 : Nat) (z0 : List Int) (w : World) (hrow : IsRow .u8 w a0 len0 cap0 z0) (ht : Tab w) : Calls Tryd.prog 3 #[.slice a0 len0 cap0] w fun e w' => e = .returned (.bool true) ∧ Below w.heap.size w w' := by
  by_cases hl : 1048576 < len0
  · go_enter Tryd.func3, Tryd.ntmps3
    go_wp2_with fail
    refine (big_yes a0 len0 cap0 w hl).mono ?_
    rintro e w' ⟨rfl, rfl⟩
    go_wp2
    go_ret
    exact ⟨rfl, Below.refl _ _⟩
  have hl2 : len0 ≤ 1048576 := by omega
  have hcode := code_of_row hrow (by omega)
  clear hl hrow
  go_enter Tryd.func3, Tryd.ntmps3
  go_wp2_with fail
  refine (big_no a0 len0 cap0 w hl2).mono ?_
  rintro e w' ⟨rfl, rfl⟩
  go_wp2_with fail
  refine (drawRootSum_c a0 len0 cap0 w hcode).mono ?_
  rintro e w3 ⟨f, k, j, rfl, b3⟩
  clear hcode
  have ht3 := ht.below b3
  by_cases hk : hasK f k
  · have rb := root_bd hk
    have r0 : ¬ mRoot f k < 0 := by omega
    by_cases k9 : k ≤ 9
    · obtain ⟨k, rfl⟩ := Int.eq_ofNat_of_zero_le hk.2.1
      obtain ⟨n, hn⟩ : ∃ n, n = 2 ^ k := ⟨_, rfl⟩
      have n9 : n ≤ 512 := by
        have : 2 ^ k ≤ 2 ^ 9 := Nat.pow_le_pow_right (by omega) (by omega)
        omega
      have n0 : 0 < n := by rw [hn]; exact Nat.pow_pos (by omega)
      have ek : wrap64 (2 ^ k) = (n : Int) := by
        have := shl_at (k := (k : Int)) (by omega) (by omega)
        rw [Int.toNat_natCast] at this
        rw [this, two_nat (by omega), hn, Int.toNat_natCast]
      have HN := Lib.hid hn
      have HK := Lib.hid hk
      have e0 : ((n : Int) != n) = false := by simp
      have HE : Hid (sumF f k j n = mRootSum f k j) := Lib.hid (by rw [hn]; have := sumF_end (j := j) hk k9; rwa [Int.toNat_natCast] at this)
      have HO : Hid (∀ i, 0 < i → i < n → rootsF f k i ≠ 1) := Lib.hid (fun i i0 i1 e => by
        have := (rootsF_one hk).1 e
        rw [Int.toNat_natCast, ← hn] at this
        have := Nat.le_of_dvd i0 this
        omega)
      have HI := Lib.hid (root_is hk)
      have e00 : rootsF f k 0 = 1 := (rootsF_one hk).2 (Nat.dvd_zero _)
      have e01 : (rootsF f k 0 != 1) = false := by simp [e00]
      clear hn hk
      go_wp2_with fail
      refine (sRootOf f k w3).mono ?_
      rintro e w' ⟨rfl, rfl⟩
      go_wp2_with fail
      refine (iRoots_on f k n w3 ht3 HK.out (by omega) HN.out).mono ?_
      rintro e w4 ⟨rfl, o4, b4⟩
      have c0 := World.rowIs.cell o4 n0
      have b4w := below_step b3 b4
      clear b4
      go_wp2_with fail
      clear ek e0 e00 e01 c0
      go_loopw [7, 8] (fun s i wr => ∃ m : Nat, i = .int .i64 m ∧ m ≤ n ∧ s = .int .i64 (sumF f k j m) ∧ At f k n w3.heap.size w wr) (fun _ i _ => n - (intOf i).toNat)
      case atStart => exact ⟨0, rfl, Nat.zero_le _, rfl, o4, b4w⟩
      case round =>
        obtain ⟨m, rfl, hm, rfl, ho, hb⟩ := hrel
        by_cases h1 : m < n
        · have cm := World.rowIs.cell ho h1
          by_cases hm0 : m = 0
          · subst hm0
            go_wp2
            go_quiet (fail)
            go_wp2_with fail
            refine (sPower f (rootsF f k 0) j _).mono ?_
            rintro e w' ⟨rfl, rfl⟩
            go_wp2_with fail
            refine (sAdd f (sumF f k j 0) (mPower f (rootsF f k 0) j) _).mono ?_
            rintro e w' ⟨rfl, rfl⟩
            go_wp2
            go_roundw
            case rel => exact ⟨1, by go_num, by omega, rfl, ho, below_drewN hb _⟩
            case measure => simp [intOf]; omega
          · obtain ⟨p, rfl⟩ : ∃ p, m = p + 1 := ⟨m - 1, by omega⟩
            have cp := World.rowIs.cell ho (show p < n by omega)
            have c1 := World.rowIs.cell ho (show 1 < n by omega)
            have e1 : (rootsF f k (p + 1) != mMul f (rootsF f k p) (rootsF f k 1)) = false := by simp [turn_mul HK.out]
            have e2 : (rootsF f k (p + 1) == 1) = false := by simpa using HO.out (p + 1) (by omega) h1
            have hd : decide ((0 : Int) < ((p + 1 : Nat) : Int)) = true := by rw [decide_eq_true_iff]; omega
            clear hm0
            go_wp2
            go_quiet ((go_at_call 12; exact qleft (sMul f (rootsF f k p) (rootsF f k 1) _)))
            go_wp2_with fail
            refine (sPower f (rootsF f k (p + 1)) j _).mono ?_
            rintro e w' ⟨rfl, rfl⟩
            go_wp2_with fail
            refine (sAdd f (sumF f k j (p + 1)) (mPower f (rootsF f k (p + 1)) j) _).mono ?_
            rintro e w' ⟨rfl, rfl⟩
            go_wp2
            go_roundw
            case rel => exact ⟨p + 1 + 1, by go_num, by omega, rfl, ho, below_drewN hb _⟩
            case measure => simp [intOf]; omega
        · have hd : decide (m < n) = false := by simpa using h1
          obtain rfl : m = n := by omega
          have e3 : (mRootSum f k j == sumF f k j m) = true := by simp [HE.out]
          have htr := ht.below hb
          go_wp2_with fail
          refine (iRootSum f k j wr htr).mono ?_
          rintro e w' ⟨rfl, rfl⟩
          go_wp2_with fail
          refine (iRootOf f k wr htr).mono ?_
          rintro e w' ⟨rfl, rfl⟩
          go_wp2_with fail
          refine (iIsRoot f (mRoot f k) k wr htr).mono ?_
          rintro e w5 ⟨rfl, b5⟩
          rw [HI.out]
          go_wp2
          go_ret
          exact ⟨rfl, below_step hb b5⟩
    · clear hk
      go_wp2_with fail
      refine (sRootOf f k w3).mono ?_
      rintro e w' ⟨rfl, rfl⟩
      go_wp2
      go_ret
      exact ⟨rfl, b3⟩
  · have HR := Lib.hid (mRoot_off hk)
    clear hk
    go_wp2_with fail
    refine (sRootOf f k w3).mono ?_
    rintro e w' ⟨rfl, rfl⟩
    rw [HR.out]
    go_wp2
    go_ret
    exact ⟨rfl, b3⟩
theorem contract (H : Type) (enc : TypeId × Value → H) (W : World) (base : Nat) (args : Array Value) (ds gs : List (DataW H)) (before : List MemPlace)
    (hval : ∀ (j : Nat) t v, Tryd.f3.params[j]? = some t → args[j]? = some v → Value.okWide Tryd.prog W .any base t v)
    (hW : DataW.Whole enc Tryd.prog Tryd.f3.params.toList Rows.fnRootsTurnSpec.vars false W args.toList ds gs before) (hL : laidMetH Tryd.prog Rows.fnRootsTurnRow.laid W) :
    Calls Tryd.prog 3 args W fun e W' => ∃ v, e = .returned v ∧ Rows.fnRootsTurnSpec.post enc Tryd.prog Tryd.f3 false true false false W args v W' := by
  have hvar := table_var hL
  have hW' := hW
  obtain ⟨p, q, hA0, hV, rfl, hfz, hnd⟩ := hW
  have hA : DataW.TrodAll enc Tryd.prog W 0 (fun _ => true) true Tryd.f3.params.toList args.toList ds p := hA0
  rw [Tryd.params3] at hA hval
  obtain ⟨v0, vs0, d0, ds0, p0, q0, hargs, rfl, rfl, h0, r0⟩ := trodAll_cons hA
  obtain ⟨rfl, rfl, rfl⟩ := trodAll_nil r0
  obtain rfl : args = #[v0] := by cases args; simp_all
  obtain ⟨rfl, rfl⟩ := DataW.TrodVars.unique hV (tab_vars enc (fun _ => true) hvar)
  obtain ⟨a0, len0, cap0, rfl⟩ := okWide_slice Tryd.underlying22 (hval 0 22 v0 rfl rfl)
  have k0 := h0
  have lt0 : ∀ x ∈ p0, x.block < W.heap.size := by obtain ⟨m, hm⟩ := k0; exact DataW.trod_lt m _ _ _ hm
  obtain ⟨z0, w0⟩ : ∃ zs, IsRow .u8 W a0 len0 cap0 zs := by
    obtain ⟨fuel, hf⟩ := h0
    rcases open_ints Tryd.underlying22 Tryd.underlying5 (by kernel_rfl) hf with ⟨hcs, _⟩ | ⟨x, l, c, zs, hcs, _, hl, hm, hz, _, hcell, hwz⟩
    · simp [Value.cells] at hcs
      obtain ⟨rfl, rfl, rfl⟩ := hcs
      exact ⟨[], .inl ⟨rfl, rfl, rfl, rfl⟩⟩
    · simp [Value.cells] at hcs
      obtain ⟨rfl, rfl, rfl⟩ := hcs
      exact ⟨zs, .inr ⟨_, rfl, hl, hm, by simpa using hz, hcell, hwz⟩⟩
  clear hA0
  refine (walk a0 len0 cap0 z0 W w0 (tab_of hvar)).mono fun e W' ⟨he, bel⟩ => ?_
  subst he
  exact ⟨_, rfl, _, _, _, [], _, _, hW', trodAll_mk1 (shut_bool Tryd.underlying4 _), (trodAll_cons_mk (Below.trod f_laidOut (by kernel_rfl) (of_decide_eq_true (by kernel_rfl)) k0 bel lt0) trodAll_mk0), tab_vars enc _ (below_var bel hvar), bel.frame _, fun h => by cases h⟩
theorem laid_met (os : Os) : laidMet Tryd.prog Rows.fnRootsTurnRow.laid ((laidWorld os).forCall (fun _ _ => 0) ⟨#[], #[.slice none 0 0], []⟩).memory :=
  laidMet_of_run' 8 (by kernel_rfl) (by kernel_rfl)
theorem reads (os : Os) {H : Type} (enc : TypeId × Value → H) : ∃ places, DataW.whole enc Tryd.prog ((laidWorld os).forCall (fun _ _ => 0) ⟨#[], #[.slice none 0 0], []⟩).memory Tryd.f3.params.toList Rows.fnRootsTurnSpec.vars false #[Value.slice none 0 0].toList 8 = some ([.nil], [Rows.laid_loop_example_g00710_impl_fieldTable], places) :=
  ⟨MemPlace.row ⟨0, 0, none⟩ 27, by kernel_rfl⟩
set_option maxRecDepth 100000 in
theorem lifted (os : Os) (started : os.Started) (H : Type) (enc : TypeId × Value → H) (F : Stop.Interp) :
    ReturnsInHanded {} Tryd.checked os 3 .any ((OpenSpec.ofChange Rows.fnRootsTurnSpec).preRow enc Tryd.prog Tryd.f3 Rows.fnRootsTurnRow.domain false Rows.fnRootsTurnRow.laid) (((OpenSpec.ofChange Rows.fnRootsTurnSpec).at F).post enc Tryd.prog Tryd.f3 false true false false) := by
  obtain ⟨places, hx⟩ := reads os enc
  refine returnsInHanded_of_row (C := Tryd.checked) (s := OpenSpec.ofChange Rows.fnRootsTurnSpec) own started (by kernel_rfl) Tryd.func3
    (witness_row_at (enc := enc) (C := Tryd.checked) false (laidWorld os) #[.slice none 0 0] rfl (by kernel_rfl) (by kernel_rfl) (by kernel_rfl)
      (OpenSpec.preRow_of_cond 8 hx (by kernel_rfl) (fun k hk => by cases hk) (by kernel_rfl) (laid_met os))) ?_
  intro W base args ds gs before hval hW _ _ _ hL _ _
  exact contract H enc W base args ds gs before hval hW hL
theorem closed : joinedFacts Tryd.prog 3 Tryd.f3 (OpenSpec.ofChange Rows.fnRootsTurnSpec).bare Rows.fnRootsTurnRow = true := by
  unfold joinedFacts
  exact both (both (both (both (both (both (both (both (both (both (both (both (both (both (both (both (both (both (both (both (both (both (both (both (both (both (both (both (both (both (both (by as_aux_lemma => kernel_rfl) f_laidOut) f_mapsRowed) (by as_aux_lemma => kernel_rfl)) (by as_aux_lemma => kernel_rfl)) (by as_aux_lemma => kernel_rfl)) f_stops) (by as_aux_lemma => kernel_rfl)) f_knobs) (by as_aux_lemma => kernel_rfl)) (by as_aux_lemma => kernel_rfl)) (by as_aux_lemma => kernel_rfl)) (by as_aux_lemma => kernel_rfl)) (by as_aux_lemma => kernel_rfl)) (by as_aux_lemma => kernel_rfl)) (by as_aux_lemma => kernel_rfl)) (by as_aux_lemma => kernel_rfl)) (by as_aux_lemma => kernel_rfl)) (by as_aux_lemma => kernel_rfl)) (by as_aux_lemma => kernel_rfl)) (by as_aux_lemma => kernel_rfl)) (by as_aux_lemma => kernel_rfl)) f_keys) (by as_aux_lemma => kernel_rfl)) f_heard) f_enter) f_lifts) f_make) (by as_aux_lemma => kernel_rfl)) (by as_aux_lemma => kernel_rfl)) (by as_aux_lemma => kernel_rfl)) (by as_aux_lemma => kernel_rfl)
theorem said : Rows.FnRootsTurnSaid :=
  OpenClaim.holds_of_cond 3 Tryd.f3 rfl rfl rfl rfl rfl rfl rfl ⟨rfl, rfl, rfl, rfl, rfl⟩ rfl rfl rfl rfl rfl (by as_aux_lemma => kernel_rfl) Tryd.func3 closed
    (of_decide_eq_true (by as_aux_lemma => kernel_rfl)) (by unfold Func.isWrapper; rw [if_neg (by decide +kernel)]; exact ⟨rfl, rfl⟩)
    (fun os started H enc _ F => by rw [OpenClaim.pre_eq_preRow]; exact lifted os started H enc F)
theorem plain (f : FuncId) (fn : Func) (hf : Tryd.pinned.checked.prog.funcNamed "loop.example/g00710/laws.FnRootsTurn" = some f) (hfn : Tryd.pinned.checked.prog.funcs[f]? = some fn) :
    false = Tryd.pinned.checked.prog.looks [] ∧ ∀ (j : Nat) t, fn.params[j]? = some t → Tryd.pinned.checked.prog.wantsStandIn t = false := by
  obtain rfl : f = 3 := Option.some.inj ((show Tryd.prog.funcNamed "loop.example/g00710/laws.FnRootsTurn" = some 3 by kernel_rfl).symm.trans hf) |>.symm
  obtain rfl : fn = Tryd.f3 := (Option.some.inj (Tryd.func3.symm.trans hfn)).symm
  refine ⟨f_looks, fun j t ht => ?_⟩
  rw [Tryd.params3] at ht
  obtain rfl : t = 22 := by simpa using Array.mem_of_getElem? ht
  exact (show Tryd.prog.wantsStandIn 22 = false by kernel_rfl)
end RootsTurn
theorem fnRootsTurn_card : Rows.FnRootsTurnCardSaid :=
  Claim7.holds_tied_plain_at .later [] _ _ _ _ RootsTurn.said (fun _ h => by cases h) (by as_aux_lemma => kernel_rfl) (fun _ h => by cases h) fnRootsTurn_row_tie rfl ⟨rfl, rfl⟩ f_main rfl RootsTurn.plain (by as_aux_lemma => kernel_rfl)
end Go.Proofs.YtjfbhfloojkphaaDoor
