/-
  Trace is the sum of the images by all odd exponents, for every code that the law draws from; no condition but the card's own (the table of fields holds what its initialiser lays).
-/
import Derived.Test.YtoonpnfhcmghmaaDoorK4
import Derived.ChangeOld
import Derived.Below
import Derived.Carry
namespace Go.Proofs.YtoonpnfhcmghmaaDoor
open Go.ChangeShapes Go.WideShapes Go.ChangeAt Go.RowKit
namespace Trace
set_option maxRecDepth 100000 in
set_option maxHeartbeats 1600000 in
theorem walk (a0 : Option Addr) (len0 cap0 : Nat) (z0 : List Int) (w : World) (hrow : IsRow .u8 w a0 len0 cap0 z0) (ht : Tab w) : Calls Tryd.prog 4 #[.slice a0 len0 cap0] w fun e w' => e = .returned (.bool true) ∧ Below w.heap.size w w' := by
  by_cases hl : 1048576 < len0
  · go_enter Tryd.func4, Tryd.ntmps4
    go_wp2_with fail
    refine (big_yes a0 len0 cap0 w hl).mono ?_
    rintro e w' ⟨rfl, rfl⟩
    go_wp2
    go_ret
    exact ⟨rfl, Below.refl _ _⟩
  have hl2 : len0 ≤ 1048576 := by omega
  have hcode := code_of_row hrow (by omega)
  clear hl hrow
  go_enter Tryd.func4, Tryd.ntmps4
  go_wp2_with fail
  refine (big_no a0 len0 cap0 w hl2).mono ?_
  rintro e w' ⟨rfl, rfl⟩
  go_wp2_with fail
  refine (drawTrace_c a0 len0 cap0 w hl2 hcode).mono ?_
  rintro e w1 ⟨f, a, l, cap, rfl, hln, hs, b1⟩
  clear hcode
  have c1 := b1
  have R1 := sVectorOk f a l cap w1 hln hs
  by_cases k1 : VecOk f l
  rotate_left
  · rw [vok_not.2 k1] at R1
    have HR := Lib.hid R1
    clear k1 hs R1
    go_wp2_with fail
    refine HR.out.mono ?_
    rintro e w' ⟨rfl, rfl⟩
    go_wp2
    go_ret
    exact ⟨rfl, b1⟩
  rw [vok_iff.2 k1] at R1
  have HR1 := Lib.hid R1
  have HV_1 := Lib.hid hs
  clear R1 hs
  by_cases h64 : 64 < l.length
  · have d64 : decide ((64 : Int) < l.length) = true := decide_eq_true (by omega)
    clear k1
    go_wp2_with fail
    refine HR1.out.mono ?_
    rintro e w' ⟨rfl, rfl⟩
    clear HR1
    go_wp2
    go_ret
    exact ⟨rfl, c1⟩
  have d64 : decide ((64 : Int) < l.length) = false := decide_eq_false (by omega)
  have hn0 := k1.pos.1
  have HAUT : Hid (∀ k : Nat, k < l.length → mAutomorph f l (2 * (k : Int) + 1) = autL f l (2 * k + 1)) := Lib.hid fun k hk => by
    rw [mAut_on k1 (by omega), show 2 * (k : Int) + 1 = ((2 * k + 1 : Nat) : Int) by omega, expN_small (by omega)]
  have HSTEP : Hid (∀ k t, t < l.length → RS (tsF f l k t + lf (autL f l (2 * k + 1)) t) (P f) = tsF f l (k + 1) t) := Lib.hid fun k t ht => ts_step ht
  have HZERO : Hid (∀ t, tsF f l 0 t = 0) := Lib.hid (ts_zero f l)
  have HEND : Hid (∀ t, t < l.length → tsF f l l.length t = lf (trL f l) t) := Lib.hid fun t ht => ts_end k1 ht
  have h08 := k1.f08
  have HADD : Hid (∀ x y W, Calls Tryd.prog 21 #[.int .i64 f, .int .i64 x, .int .i64 y] W fun e w' => e = .returned (.int .i64 (RS (x + y) (P f))) ∧ W = w') := Lib.hid fun x y W => by
    have := sAdd f x y W
    rwa [mAdd, if_pos h08] at this
  have HAC : Hid (∀ (k : Nat) (W : World) (a3 : Option Addr) (cap3 : Nat), k < l.length → Below w.heap.size w W → Src W a3 l.length (lf l) → Calls Tryd.prog 16 #[.int .i64 f, .slice a3 l.length cap3, .int .i64 (2 * (k : Int) + 1)] W fun e w' => ∃ (b cap2 : Nat), e = .returned (.slice (some ⟨b, 0, none⟩) l.length cap2) ∧ W.heap.size ≤ b ∧ (∀ j, j < l.length → w'.cell? ⟨b, j, none⟩ = some (.int .i64 (lf (autL f l (2 * k + 1)) j))) ∧ Below W.heap.size W w') := Lib.hid fun k W a3 cap3 hk hb h => (iAutomorph f a3 l cap3 _ W hln h (ht.below hb)).mono fun e w' h2 => by
    rw [HAUT.out k hk] at h2
    obtain ⟨a4, c4, rfl, o4, b4⟩ := h2
    have e4 := autL_len f l (2 * k + 1)
    rcases o4 with ⟨_, _, h0⟩ | ⟨g, rfl, _, hg, ho⟩
    · exact absurd (e4.symm.trans h0) (by omega)
    · rw [e4]
      exact ⟨g, c4, rfl, hg, fun j hj => World.rowIs.cell ho (by omega), b4⟩
  have HTRC : Hid (∀ (W : World) (a3 : Option Addr) (cap3 : Nat), Below w.heap.size w W → Src W a3 l.length (lf l) → Calls Tryd.prog 22 #[.int .i64 f, .slice a3 l.length cap3] W fun e w' => ∃ (a4 : Option Addr) (c4 : Nat), e = .returned (.slice a4 l.length c4) ∧ Src w' a4 l.length (lf (trL f l)) ∧ Below W.heap.size W w') := Lib.hid fun W a3 cap3 hb h => (iTrace f a3 l cap3 W hln h (ht.below hb)).mono fun e w' h2 => by
    rw [show mTrace f l = trL f l by unfold mTrace; rw [if_pos k1]] at h2
    obtain ⟨a4, c4, rfl, o4, b4⟩ := h2
    have s4 := o4.src
    rw [trL_len] at s4 ⊢
    exact ⟨a4, c4, rfl, s4, b4⟩
  have HSAME : Hid (∀ (W : World) (a2 a3 : Option Addr) (cap2 cap3 : Nat), Src W a2 l.length (lf (trL f l)) → Src W a3 l.length (lf (trL f l)) → Calls Tryd.prog 19 #[.slice a2 l.length cap2, .slice a3 l.length cap3] W (TrueP W)) := Lib.hid fun W a2 a3 cap2 cap3 h2 h3 => by
    have e := trL_len f l
    have := sameZ a2 a3 (trL f l) cap2 cap3 W (by omega) (by rw [e]; exact h2) (by rw [e]; exact h3)
    rwa [e] at this
  have hs1 := HV_1.out
  have HCP : Hid (∀ W, Below w1.heap.size w1 W → Calls Tryd.prog 18 #[.slice a l.length cap] W fun e w' => ∃ (a2 : Option Addr) (c2 : Nat), e = .returned (.slice a2 l.length c2) ∧ Src w' a2 l.length (lf l) ∧ Below W.heap.size W w') := Lib.hid fun W hb => by
    have h := hs1.keep hb
    exact cp_l a l cap W hln h
  obtain ⟨i0, hi, hz0, hz1, hz2⟩ := info_parts info3
  have HI := Lib.hid hi
  have HZ0 := Lib.hid hz0
  have HZ1 := Lib.hid hz1
  have HZ2 := Lib.hid hz2
  clear hi hz0 hz1 hz2 HV_1 hs1 k1 HAUT ht
  go_wp2_with fail
  refine HR1.out.mono ?_
  rintro e w' ⟨rfl, rfl⟩
  clear HR1 b1
  generalize tsF f l = TS at *
  generalize hTR : lf (trL f l) = TR at *
  generalize hAU : (fun k j => lf (autL f l (2 * k + 1)) j) = AU at *
  have HAU : Hid (∀ k j, lf (autL f l (2 * k + 1)) j = AU k j) := Lib.hid fun k j => by rw [← hAU]
  clear hTR hAU
  generalize lf l = A at *
  generalize l.length = n at *
  go_wp2_with fail
  go_loopw [5, 6] (fun v i wr => ∃ k : Nat, i = .int .i64 k ∧ k ≤ n ∧ wr.ownsRow w1.heap.size 3 1 v k (xsF (fun _ => 0) k) ∧ Below w1.heap.size w1 wr) (fun _ i _ => n - (intOf i).toNat)
  case atStart => exact ⟨0, rfl, Nat.zero_le _, own_empty w1 _, (Below.refl _ _).alloc (Nat.le_refl _) _⟩
  case round =>
    obtain ⟨k, rfl, hk, hown, hnx⟩ := hrel
    have hs := hnx.size
    by_cases h1 : k < n
    · have hd1 : decide ((k : Int) < n) = true := decide_eq_true (by omega)
      clear HAC HTRC HSAME HCP HSTEP HZERO HEND HADD HAU
      go_wp2_with (at_builtin; refine wpList_append_own _ rfl _ _ 24 rfl w1.heap.size 3 i0 (.int .i64 0) 1 8 Tryd.underlying24 HI.out HZ0.out HZ1.out HZ2.out rfl (by decide) _ _ _ rfl (hown.alloc _) ⟨wr.heap.size, 0, none⟩ 1 1 [.int .i64 0] rfl rfl ?c1 ?c2 ?c3 ?c4 ?c5 ?_)
      case c1 => exact cell_one_new _ _ _
      case c2 => first | rfl | (intro u hu; simp at hu; subst hu; rfl)
      case c3 => unfold maxLen; omega
      case c4 => omega
      case c5 => first | omega | (simp; omega)
      intro v' w2 hown' hgrow _
      have hbel : Below w1.heap.size w1 w2 := (hnx.alloc hs _).grown hgrow (by simp; omega) (own_ge hown)
      rw [xsF_succ (fun _ => 0)] at hown'
      clear hgrow hown
      go_wp2
      go_roundw
      case rel => exact ⟨k + 1, by go_num, by omega, hown', hbel⟩
      case measure => simp [intOf]; omega
    · have hd1 : decide ((k : Int) < n) = false := decide_eq_false (by omega)
      obtain rfl : k = n := by omega
      obtain ⟨gs, caps, rfl, hgs, hov⟩ := OwnV.of_owns hown (by omega)
      have HO := Lib.hid (hov.congr fun t _ => (HZERO.out t).symm)
      have hnx1 := hnx
      clear hown hov hnx HZERO HI HZ0 HZ1 HZ2
      go_wp2_with fail
      go_loopw [7, 8, 9] (fun g _ _ W => ∃ r : Nat, g = .int .i64 (2 * (r : Int) + 1) ∧ r ≤ k ∧ Hid (OwnV W gs k caps (TS r)) ∧ Below w1.heap.size w1 W) (fun g _ _ _ => 2 * k + 1 - (intOf g).toNat)
      case atStart => exact ⟨0, rfl, Nat.zero_le _, HO, hnx1⟩
      case round =>
        clear HO hnx1
        obtain ⟨r, rfl, hr, HO, hb⟩ := hrel
        have bw := below_step c1 hb
        by_cases h2 : r < k
        · have hd2 : decide (2 * (r : Int) + 1 < 2 * k) = true := decide_eq_true (by omega)
          go_wp2_with fail
          refine (HCP.out _ hb).mono ?_
          rintro e w3 ⟨a3, cap3, rfl, s3, b3⟩
          have bw3 := below_step bw b3
          have bb3 := below_up hb b3 hb.size
          have HO3 := Lib.hid (HO.out.keep b3)
          have HS3 := Lib.hid s3
          have hgs3 := HO3.out.lt
          clear HO s3 bw hb b3
          go_wp2_with fail
          refine (HAC.out r w3 a3 cap3 h2 bw3 HS3.out).mono ?_
          rintro e w4 ⟨bx, cx, rfl, hbx, hX, b4⟩
          have HX := Lib.hid fun j hj => (hX j hj).trans (by rw [HAU.out])
          have bb4 := below_up bb3 b4 bb3.size
          have HO4 := Lib.hid (HO3.out.keep b4)
          have hne : bx ≠ gs := by omega
          clear HO3 HS3 hX b4 bw3 bb3 hbx hgs3
          have e3 : ((k : Int) != k) = false := by simp
          have HST : Hid (∀ t, t < k → RS (TS r t + AU r t) (P f) = TS (r + 1) t) := Lib.hid fun t ht => by rw [← HAU.out]; exact HSTEP.out r t ht
          go_wp2_with fail
          go_loopw [9] (fun i W => ∃ j : Nat, i = .int .i64 j ∧ j ≤ k ∧ Hid (OwnV W gs k caps (fun t => if t < j then TS (r + 1) t else TS r t)) ∧ Hid (∀ j, j < k → W.cell? ⟨bx, j, none⟩ = some (.int .i64 (AU r j))) ∧ Below w1.heap.size w1 W) (fun i _ => k - (intOf i).toNat)
          case atStart => exact ⟨0, rfl, Nat.zero_le _, Lib.hid (HO4.out.congr fun t _ => by simp), HX, bb4⟩
          case round =>
            clear HO4 HX bb4
            obtain ⟨j, rfl, hj, HO, HX, hb⟩ := hrel
            by_cases h3 : j < k
            · have hd3 : decide ((j : Int) < k) = true := decide_eq_true (by omega)
              have hod : OwnV wr.drew gs k caps (fun t => if t < j then TS (r + 1) t else TS r t) := HO.out
              have hbd : Below w1.heap.size w1 wr.drew := hb.drew
              have cS := HO.out.cell h3
              have cX := HX.out j h3
              have cS1 := hod.cell h3
              have cX1 : wr.drew.cell? ⟨bx, j, none⟩ = some (.int .i64 (AU r j)) := cX
              have fS := hod.frozen j
              simp only [Nat.lt_irrefl, if_false] at cS cS1
              have HAk : Hid (Calls Tryd.prog 21 #[.int .i64 f, .int .i64 (TS r j), .int .i64 (AU r j)] wr.drew fun e w' => e = .returned (.int .i64 (TS (r + 1) j)) ∧ wr.drew = w') := Lib.hid (by
                have := HADD.out (TS r j) (AU r j) wr.drew
                rwa [HST.out j h3] at this)
              have HS1 : Hid (OwnV (wr.drew.setCell ⟨gs, j, none⟩ (.int .i64 (TS (r + 1) j))) gs k caps (fun t => if t < j + 1 then TS (r + 1) t else TS r t)) := Lib.hid ((OwnV.set (s := j) (x := TS (r + 1) j) hod).congr fun t ht => by
                show (if t = j then TS (r + 1) j else (if t < j then TS (r + 1) t else TS r t)) = _
                by_cases e1 : t = j
                · rw [if_pos e1, if_pos (by omega), e1]
                · rw [if_neg e1]
                  by_cases e2 : t < j
                  · rw [if_pos e2, if_pos (by omega)]
                  · rw [if_neg e2, if_neg (by omega)])
              have HS2 : Hid (∀ i, i < k → (wr.drew.setCell ⟨gs, j, none⟩ (.int .i64 (TS (r + 1) j))).cell? ⟨bx, i, none⟩ = some (.int .i64 (AU r i))) := Lib.hid fun i hi => (by
                unfold World.cell?
                rw [show (wr.drew.setCell ⟨gs, j, none⟩ (.int .i64 (TS (r + 1) j))).heap[bx]? = wr.drew.heap[bx]? from Below.heap_setCell wr.drew ⟨gs, j, none⟩ _ bx hne]
                exact HX.out i hi)
              have HS3 := Lib.hid (hbd.setCell (p := ⟨gs, j, none⟩) hgs (.int .i64 (TS (r + 1) j)))
              have i1 : (0 : Int) ≤ (j : Int) := by omega
              have i2 : (j : Int) < (k : Int) := by omega
              clear HO HX hod hbd hb HST
              go_wp2
              refine wp_region_still_tail 13 (by kernel_rfl) (by kernel_rfl) ?_
              simp only [List.take_succ_cons, List.take_zero, List.drop_succ_cons, List.drop_zero]
              still_step
              still_step
              still_step
              still_step
              still_step
              still_step
              still_step
              still_step
              still_step
              still_step
              still_step
              still_call (HAk.out.mono fun _ _ h => ⟨h.1, h.2.symm⟩)
              still_step
              refine wpStill_nil ?_
              change wpList _ _ _ _ _ wr.drew
              clear cS cX
              generalize wr.drew = W2 at *
              go_wp2
              go_roundw
              case rel => exact ⟨j + 1, by go_num, by omega, HS1, HS2, HS3.out⟩
              case measure => simp [intOf] <;> omega
            · have hd3 : decide ((j : Int) < k) = false := decide_eq_false (by omega)
              obtain rfl : j = k := by omega
              have HOF : Hid (OwnV wr gs j caps (TS (r + 1))) := Lib.hid (HO.out.congr fun t ht => if_pos ht)
              clear HO HX HST
              go_wp2
              go_roundw
              case rel => exact ⟨r + 1, vint (by omega), by omega, HOF, hb⟩
              case measure => simp [intOf] <;> omega
        · have hd2 : decide (2 * (r : Int) + 1 < 2 * k) = false := decide_eq_false (by omega)
          obtain rfl : r = k := by omega
          clear HAC HSTEP HADD HAU
          go_wp2_with fail
          refine (HCP.out _ hb).mono ?_
          rintro e w3 ⟨a3, cap3, rfl, s3, b3⟩
          have bw3 := below_step bw b3
          have HO3 := Lib.hid (HO.out.keep b3)
          have HS3 := Lib.hid s3
          clear HO s3 bw hb b3
          go_wp2_with fail
          refine (HTRC.out w3 a3 cap3 bw3 HS3.out).mono ?_
          rintro e w4 ⟨a4, c4, rfl, s4, b4⟩
          have bw4 := below_step bw3 b4
          have HO4 : Hid (Src w4 (some ⟨gs, 0, none⟩) r TR) := Lib.hid ((HO3.out.keep b4).congr HEND.out).src
          have HS4 := Lib.hid s4
          clear HO3 HS3 s4 b4 bw3 HEND HTRC HCP
          go_wp2_with fail
          refine (HSAME.out w4 _ _ _ _ HS4.out HO4.out).mono ?_
          rintro e w5 ⟨rfl, b5⟩
          have bw5 := below_step bw4 b5
          clear HS4 HO4 b5 bw4 HSAME
          go_wp2
          go_ret
          exact ⟨rfl, bw5⟩
set_option maxRecDepth 100000 in
theorem contract (H : Type) (enc : TypeId × Value → H) (W : World) (base : Nat) (args : Array Value) (ds gs : List (DataW H)) (before : List MemPlace)
    (hval : ∀ (j : Nat) t v, Tryd.f4.params[j]? = some t → args[j]? = some v → Value.okWide Tryd.prog W .any base t v)
    (hW : DataW.Whole enc Tryd.prog Tryd.f4.params.toList Rows.fnTraceSpec.vars false W args.toList ds gs before) (hL : laidMetH Tryd.prog Rows.fnTraceRow.laid W) :
    Calls Tryd.prog 4 args W fun e W' => ∃ v, e = .returned v ∧ Rows.fnTraceSpec.post enc Tryd.prog Tryd.f4 false true false false W args v W' := by
  have hvar := table_var hL
  have hW' := hW
  obtain ⟨p, q, hA0, hV, rfl, hfz, hnd⟩ := hW
  have hA : DataW.TrodAll enc Tryd.prog W 0 (fun _ => true) true Tryd.f4.params.toList args.toList ds p := hA0
  rw [Tryd.params4] at hA hval
  obtain ⟨v0, vs0, d0, ds0, p0, q0, hargs, rfl, rfl, h0, r0⟩ := trodAll_cons hA
  obtain ⟨rfl, rfl, rfl⟩ := trodAll_nil r0
  obtain rfl : args = #[v0] := by cases args; simp_all
  obtain ⟨rfl, rfl⟩ := DataW.TrodVars.unique hV (tab_vars enc (fun _ => true) hvar)
  obtain ⟨a0, len0, cap0, rfl⟩ := okWide_slice Tryd.underlying22 (hval 0 22 v0 rfl rfl)
  have k0 := h0
  have lt0 : ∀ x ∈ p0, x.block < W.heap.size := by obtain ⟨m, hm⟩ := k0; exact DataW.trod_lt m _ _ _ hm
  obtain ⟨z0, w0⟩ : ∃ zs, IsRow .u8 W a0 len0 cap0 zs := by
    obtain ⟨fuel, hf⟩ := h0
    rcases open_ints Tryd.underlying22 Tryd.underlying5 (by kernel_rfl) hf with ⟨hcs, _⟩ | ⟨x, l, c, zs, hcs, _, hl, hm, hz, _, hcell, hwz⟩
    · simp [Value.cells] at hcs
      obtain ⟨rfl, rfl, rfl⟩ := hcs
      exact ⟨[], .inl ⟨rfl, rfl, rfl, rfl⟩⟩
    · simp [Value.cells] at hcs
      obtain ⟨rfl, rfl, rfl⟩ := hcs
      exact ⟨zs, .inr ⟨_, rfl, hl, hm, by simpa using hz, hcell, hwz⟩⟩
  clear hA0
  refine (walk a0 len0 cap0 z0 W w0 (tab_of hvar)).mono fun e W' ⟨he, bel⟩ => ?_
  subst he
  exact ⟨_, rfl, _, _, _, [], _, _, hW', trodAll_mk1 (shut_bool Tryd.underlying4 _), (trodAll_cons_mk (Below.trod f_laidOut (by kernel_rfl) (of_decide_eq_true (by kernel_rfl)) k0 bel lt0) trodAll_mk0), tab_vars enc _ (below_var bel hvar), bel.frame _, fun h => by cases h⟩
theorem laid_met (os : Os) : laidMet Tryd.prog Rows.fnTraceRow.laid ((laidWorld os).forCall (fun _ _ => 0) ⟨#[], #[.slice none 0 0], []⟩).memory :=
  laidMet_of_run' 8 (by kernel_rfl) (by kernel_rfl)
theorem reads (os : Os) {H : Type} (enc : TypeId × Value → H) : ∃ places, DataW.whole enc Tryd.prog ((laidWorld os).forCall (fun _ _ => 0) ⟨#[], #[.slice none 0 0], []⟩).memory Tryd.f4.params.toList Rows.fnTraceSpec.vars false #[Value.slice none 0 0].toList 8 = some ([.nil], [Rows.laid_loop_example_g00710_impl_fieldTable], places) :=
  ⟨MemPlace.row ⟨0, 0, none⟩ 27, by kernel_rfl⟩
set_option maxRecDepth 100000 in
theorem lifted (os : Os) (started : os.Started) (H : Type) (enc : TypeId × Value → H) (F : Stop.Interp) :
    ReturnsInHanded {} Tryd.checked os 4 .any ((OpenSpec.ofChange Rows.fnTraceSpec).preRow enc Tryd.prog Tryd.f4 Rows.fnTraceRow.domain false Rows.fnTraceRow.laid) (((OpenSpec.ofChange Rows.fnTraceSpec).at F).post enc Tryd.prog Tryd.f4 false true false false) := by
  obtain ⟨places, hx⟩ := reads os enc
  refine returnsInHanded_of_row (C := Tryd.checked) (s := OpenSpec.ofChange Rows.fnTraceSpec) own started (by kernel_rfl) Tryd.func4
    (witness_row_at (enc := enc) (C := Tryd.checked) false (laidWorld os) #[.slice none 0 0] rfl (by kernel_rfl) (by kernel_rfl) (by kernel_rfl)
      (OpenSpec.preRow_of_cond 8 hx (by kernel_rfl) (fun k hk => by cases hk) (by kernel_rfl) (laid_met os))) ?_
  intro W base args ds gs before hval hW _ _ _ hL _ _
  exact contract H enc W base args ds gs before hval hW hL
theorem closed : joinedFacts Tryd.prog 4 Tryd.f4 (OpenSpec.ofChange Rows.fnTraceSpec).bare Rows.fnTraceRow = true := by
  unfold joinedFacts
  exact both (both (both (both (both (both (both (both (both (both (both (both (both (both (both (both (both (both (both (both (both (both (both (both (both (both (both (both (both (both (both (by as_aux_lemma => kernel_rfl) f_laidOut) f_mapsRowed) (by as_aux_lemma => kernel_rfl)) (by as_aux_lemma => kernel_rfl)) (by as_aux_lemma => kernel_rfl)) f_stops) (by as_aux_lemma => kernel_rfl)) f_knobs) (by as_aux_lemma => kernel_rfl)) (by as_aux_lemma => kernel_rfl)) (by as_aux_lemma => kernel_rfl)) (by as_aux_lemma => kernel_rfl)) (by as_aux_lemma => kernel_rfl)) (by as_aux_lemma => kernel_rfl)) (by as_aux_lemma => kernel_rfl)) (by as_aux_lemma => kernel_rfl)) (by as_aux_lemma => kernel_rfl)) (by as_aux_lemma => kernel_rfl)) (by as_aux_lemma => kernel_rfl)) (by as_aux_lemma => kernel_rfl)) (by as_aux_lemma => kernel_rfl)) f_keys) (by as_aux_lemma => kernel_rfl)) f_heard) f_enter) f_lifts) f_make) (by as_aux_lemma => kernel_rfl)) (by as_aux_lemma => kernel_rfl)) (by as_aux_lemma => kernel_rfl)) (by as_aux_lemma => kernel_rfl)
theorem said : Rows.FnTraceSaid :=
  OpenClaim.holds_of_cond 4 Tryd.f4 rfl rfl rfl rfl rfl rfl rfl ⟨rfl, rfl, rfl, rfl, rfl⟩ rfl rfl rfl rfl rfl (by as_aux_lemma => kernel_rfl) Tryd.func4 closed
    (of_decide_eq_true (by as_aux_lemma => kernel_rfl)) (by unfold Func.isWrapper; rw [if_neg (by decide +kernel)]; exact ⟨rfl, rfl⟩)
    (fun os started H enc _ F => by rw [OpenClaim.pre_eq_preRow]; exact lifted os started H enc F)
theorem plain (f : FuncId) (fn : Func) (hf : Tryd.pinned.checked.prog.funcNamed "loop.example/g00710/laws.FnTrace" = some f) (hfn : Tryd.pinned.checked.prog.funcs[f]? = some fn) :
    false = Tryd.pinned.checked.prog.looks [] ∧ ∀ (j : Nat) t, fn.params[j]? = some t → Tryd.pinned.checked.prog.wantsStandIn t = false := by
  obtain rfl : f = 4 := Option.some.inj ((show Tryd.prog.funcNamed "loop.example/g00710/laws.FnTrace" = some 4 by kernel_rfl).symm.trans hf) |>.symm
  obtain rfl : fn = Tryd.f4 := (Option.some.inj (Tryd.func4.symm.trans hfn)).symm
  refine ⟨f_looks, fun j t ht => ?_⟩
  rw [Tryd.params4] at ht
  obtain rfl : t = 22 := by simpa using Array.mem_of_getElem? ht
  exact (show Tryd.prog.wantsStandIn 22 = false by kernel_rfl)
end Trace
theorem fnTrace_card : Rows.FnTraceCardSaid :=
  Claim7.holds_tied_plain_at .later [] _ _ _ _ Trace.said (fun _ h => by cases h) (by as_aux_lemma => kernel_rfl) (fun _ h => by cases h) fnTrace_row_tie rfl ⟨rfl, rfl⟩ f_main rfl Trace.plain (by as_aux_lemma => kernel_rfl)
end Go.Proofs.YtoonpnfhcmghmaaDoor
