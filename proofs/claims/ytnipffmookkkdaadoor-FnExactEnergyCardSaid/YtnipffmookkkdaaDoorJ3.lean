/-
  Texts of the proofs of this seat, joined (part 3).
-/
import Derived.StillTailTactics
import Derived.Test.YtnipffmookkkdaaDoorJ2
namespace Go.Proofs.YtnipffmookkkdaaDoor
open Go.RowKit
theorem zero_uint64 : ((Tryd.prog.info? 59).bind (fun i => i.zero)).map (fun z => z.cells) = some (madeCells #[.int .u64 0] 512) := by kernel_rfl
theorem alloc_uint64 (w : World) : (Instr.alloc 59 true (.tuple #[])).run Tryd.prog w = .ok (.pointer (some ⟨w.heap.size, 0, none⟩)) (w.alloc (.cells (madeCells #[.int .u64 0] 512) 59)) := by
  obtain ⟨z, hz, hcz⟩ := Option.map_eq_some_iff.1 zero_uint64
  obtain ⟨i, hi, hiz⟩ := Option.bind_eq_some_iff.1 hz
  generalize madeCells #[.int .u64 0] 512 = M at *
  simp [Instr.alloc, zeroValue, typeInfo, hi, hiz, newVar, newRow, hcz]
theorem wpList_arr_uint64 {w : World} {ops : Array Oper} {rest : List Oper} {o : Oper} {a : Act} {Q : Exit → Act → World → Prop} (hgd : o.guard = none) (ho : o.op = .alloc 59)
    (h : ∀ w', w'.heap.size = w.heap.size + 1 → Hid (RowW .u64 59 w' w.heap.size 512 (fun _ => 0)) → Below w.heap.size w w' → wpList Tryd.prog ops Q rest (a.put o.dst (.pointer (some ⟨w.heap.size, 0, none⟩))) w') : wpList Tryd.prog ops Q (o :: rest) a w := by
  refine wpList_plain hgd fun K hK' => ?_
  have hrun := alloc_uint64 w
  have hK := h _ (World.size_alloc _ _) (Lib.hid (World.rowIs_made w (.int .u64 0) 512 59)) ((Below.refl _ _).alloc (Nat.le_refl _) _)
  clear h
  generalize w.alloc (.cells (madeCells #[.int .u64 0] 512) 59) = W at *
  unfold Oper.wp
  simp [execOp, ho, hrun, Result.andThen]
  exact hK' _ _ hK
theorem arr_uint64 : Tryd.prog.underlying 59 = some (.array 512 48) := by kernel_rfl
set_option maxRecDepth 100000 in
set_option maxHeartbeats 2000000 in
theorem levelsIn_uint64 (f : Int) (l : List Int) (b off n cap s m k E : Nat) (w : World) (ht : Tab w) (h : VecOk f l) (hn : l.length = n) (hk : n = 2 ^ k) (k9 : k ≤ 9) (hh : hasK f k) (hlog : mLog n = k) (hE : E = s + m) (hEk : E ≤ k) (hlt : b < w.heap.size)
    (hc : ∀ j, j < n → w.cell? ⟨b, off + j, none⟩ = some (.int .i64 (lf l j))) :
    Calls Tryd.prog 75 #[.int .i64 f, .slice (some ⟨b, off, none⟩) n cap, .int .i64 s, .int .i64 E] w (OwnG w (lvL f l s m)) := by
  have HVO := Lib.hid h
  have hpos := h.pos
  rw [hn] at hpos
  have hp := P_bd h.f08.1 h.f08.2
  obtain ⟨h0, h8⟩ := h.f08
  have HN := Lib.hid hn
  have HK := Lib.hid hk
  have HH := Lib.hid hh
  have HC := Lib.hid hc
  have HLOG := Lib.hid hlog
  have HLEN : Hid (∀ t, (lvL f l s t).length = n) := Lib.hid fun t => by rw [lvL_len, HN.out]
  have HX : Hid (∀ t, rootL f (lvL f l s t) = mRoot f k) := Lib.hid fun t => by unfold rootL; rw [HLEN.out t, HLOG.out]
  have HE := Lib.hid hE
  have hsmE : s + m = E := hE.symm
  clear h hn hk hh hc hlog hE hsmE
  have hsl : ∀ (g : Nat) (w : World), (Instr.sliceAt 59 (.pointer (some ⟨g, 0, none⟩)) none (some (.int .i64 n)) (some (.int .i64 n))).run Tryd.prog w = .ok (.slice (some ⟨g, 0, none⟩) n n) w := fun g w => slice_arr arr_uint64 info_uint64 g n hpos.2 w
  go_enter Tryd.func75, Tryd.ntmps75
  go_wp2_with (with_reducible refine wpList_arr_uint64 rfl rfl ?_)
  intro w1 z1 r1 b1
  go_wp2_with (with_reducible refine wpList_arr_uint64 rfl rfl ?_)
  intro w2 z2 r2 b2
  have r1' : Hid (RowW .u64 59 w2 w.heap.size 512 (fun _ => 0)) := Lib.hid (r1.out.keep (by rw [z1]; exact b2))
  have b3 : Below w.heap.size w w2 := b1.trans (b2.mono (by omega))
  have z3 : w2.heap.size = w.heap.size + 2 := by omega
  clear r1 b1 b2 z1 z2
  go_wp2
  go_quiet (fail)
  have r3 : RowW .u64 59 (w2.drewN nq) w.heap.size 512 (fun _ => 0) := r1'.out
  have r4 : RowW .u64 59 (w2.drewN nq) (w.heap.size + 1) 512 (fun _ => 0) := r2.out
  have b4 := below_drewN b3 nq
  have z4 : (w2.drewN nq).heap.size = w2.heap.size := rfl
  clear r1' r2 b3 hsl
  generalize w2.drewN nq = W2 at *
  go_wp2_with fail
  refine (fill_uint64 59 w.heap.size n 512 b off cap (fun _ => 0) (lf l) W2 r3 hpos.2 (by omega) (by omega) (by omega) (fun j => by have := HVO.out.lt j; omega) (fun j hj => (b4.cell (p := ⟨b, off + j, none⟩) hlt).trans (HC.out j hj))).mono ?_
  rintro e W3 ⟨rfl, r5, gb5⟩
  have r6 := r4.other gb5 (show w.heap.size + 1 ≠ w.heap.size by omega)
  have b6 : Below w.heap.size w W3 := b4.grown gb5 (by omega) (fun r hr => by injection hr with hr; omega)
  have z6 := gb5.size
  clear r3 r4 b4 gb5
  go_wp2_with fail
  refine (iLogOf n W3).mono ?_
  rintro e w' ⟨rfl, rfl⟩
  rw [HLOG.out]
  go_wp2_with fail
  refine (iRoots_on f k n W3 (ht.below b6) HH.out k9 HK.out).mono ?_
  rintro e W4 ⟨rfl, o4, b7⟩
  have r7 := r5.keep b7
  have r8 := r6.keep b7
  have b8 := below_up b6 b7 b6.size
  have z8 := b7.size
  clear r5 r6 b6 b7
  go_wp2_with fail
  refine (fill_uint64 59 (w.heap.size + 1) n 512 W3.heap.size 0 n (fun _ => 0) (rootsF f k) W4 r8 hpos.2 (by omega) (by omega) o4.lt (fun j => by have := rootsF_bd HH.out j; omega) (fun j hj => by rw [Nat.zero_add]; exact World.rowIs.cell o4 hj)).mono ?_
  rintro e W5 ⟨rfl, r9, gb9⟩
  have r10 := r7.other gb9 (show w.heap.size ≠ w.heap.size + 1 by omega)
  have b10 : Below w.heap.size w W5 := b8.grown gb9 (by omega) (fun r hr => by injection hr with hr; omega)
  have r11 : Hid (RowW .u64 59 W5 w.heap.size 512 (lf (lvL f l s 0))) := Lib.hid (r10.congr fun j _ => by
    show (if j < n then lf l j else 0) = lf l j
    by_cases hj : j < n
    · rw [if_pos hj]
    · rw [if_neg hj, lf_out l (by rw [HN.out]; omega)])
  have r9' := Lib.hid r9
  clear r7 r8 b8 r9 r10 gb9 o4
  go_wp2_with fail
  go_loopw [14] (fun i wr => ∃ t : Nat, i = .int .i64 ((s + t : Nat) : Int) ∧ t ≤ m ∧ RowW .u64 59 wr w.heap.size 512 (lf (lvL f l s t)) ∧ RowW .u64 59 wr (w.heap.size + 1) 512 (fun j => if j < n then rootsF f k j else 0) ∧ Below w.heap.size w wr) (fun i _ => E - (intOf i).toNat)
  case atStart => exact ⟨0, rfl, Nat.zero_le _, r11.out, r9'.out, b10⟩
  case round =>
    clear r11 r9' b10
    obtain ⟨t, rfl, htm, ho, hr, hb⟩ := hrel
    by_cases h1 : t < m
    · obtain ⟨q, hq⟩ : ∃ q, s + t = q := ⟨_, rfl⟩
      have HNX : Hid (((q + 1 : Nat) : Int) = ((s + (t + 1) : Nat) : Int)) := Lib.hid (by omega)
      have hqk : q < k := by have := HE.out; omega
      have HST : Hid (∀ j, stp f (mRoot f k) (2 ^ q) (2 ^ (k - q - 1)) (lf (lvL f l s t)) (2 ^ (k - q - 1)) 0 j = lf (lvL f l s (t + 1)) j) := Lib.hid fun j => by
        have := stp_list (f := f) (l := lvL f l s t) (k := k) (q := q) (by rw [HLEN.out, HK.out]) hqk j
        rw [HX.out t] at this
        rw [this, ← hq]
        rfl
      rw [hq]
      have hqE : q < E := by have := HE.out; omega
      clear hq
      have hd1 : decide ((q : Int) < E) = true := decide_eq_true (by omega)
      have HEH : Hid (wrap64 (2 ^ q) = ((2 ^ q : Nat) : Int)) := Lib.hid (by rw [shl_nat (by omega)]; unfold two; rw [Int.toNat_natCast, Int.natCast_pow]; rfl)
      have kP : IntKind.u64.wrap (P f) = P f := IntWalk.u64_in _ (by omega)
      have HBT := Lib.hid (fun (W : World) (ho : RowW .u64 59 W w.heap.size 512 (lf (lvL f l s t))) (hr : RowW .u64 59 W (w.heap.size + 1) 512 (fun j => if j < n then rootsF f k j else 0)) => butter_uint64 f (mRoot f k) 59 w.heap.size (w.heap.size + 1) n 512 (2 ^ q) (2 ^ (k - q - 1)) (lf (lvL f l s t)) (fun j => if j < n then rootsF f k j else 0) W h0 h8 ho hr (by omega) hpos.2 (by omega) (Nat.pow_pos (by omega)) (by rw [HK.out, pow_half hqk]) hpos.1 (fun j _ => (HVO.out.lv s t).lt j) (fun j hj => by show (if j < n then rootsF f k j else 0) = _; rw [if_pos hj, rootsF_pow HH.out]))
      have ho2 : Hid (RowW .u64 59 wr.drew w.heap.size 512 (lf (lvL f l s t))) := Lib.hid ho
      have hr2 : Hid (RowW .u64 59 wr.drew (w.heap.size + 1) 512 (fun j => if j < n then rootsF f k j else 0)) := Lib.hid hr
      have hb2 : Below w.heap.size w wr.drew := ⟨hb.os, hb.tape, hb.output, hb.size, hb.block⟩
      have htd := ht.below hb2
      clear ho hr hb
      go_wp2
      refine wp_region_still_tail 7 (by kernel_rfl) (by kernel_rfl) ?_
      simp only [List.take_succ_cons, List.take_zero, List.drop_succ_cons, List.drop_zero]
      still_step
      still_step
      still_step
      still_call ((prime_c f wr.drew htd h0 h8).mono fun _ _ h => ⟨h.1, h.2.symm⟩)
      still_step
      still_step
      still_step
      refine wpStill_nil ?_
      change wpList _ _ _ _ _ wr.drew
      generalize wr.drew = W at *
      go_wp2_with fail
      rw [HEH.out]
      refine (HBT.out W ho2.out hr2.out).mono ?_
      rintro e W' ⟨rfl, ro, rg⟩
      have ro2 : Hid (RowW .u64 59 W' w.heap.size 512 (lf (lvL f l s (t + 1)))) := Lib.hid (ro.congr fun j _ => HST.out j)
      have rr2 := Lib.hid (hr2.out.other rg (show w.heap.size + 1 ≠ w.heap.size by omega))
      have rb : Below w.heap.size w W' := hb2.grown rg (by have := hb2.size; omega) (fun r hr => by injection hr with hr; omega)
      clear ro rg HBT HST ho2 hr2 hb2 htd HEH
      go_wp2
      go_roundw
      case rel => exact ⟨t + 1, vint (by rw [← HNX.out]; omega), by omega, ro2.out, rr2.out, rb⟩
      case measure => simp [intOf]; omega
    · obtain rfl : t = m := by omega
      have hd1 : decide ((E : Int) < E) = false := decide_eq_false (by omega)
      rw [← HE.out]
      obtain ⟨wo, hwo⟩ : ∃ wo, wo = wr := ⟨_, rfl⟩
      subst hwo
      have hmk := made_n n (by omega)
      have zw := hb.size
      go_wp2_with fail
      clear hmk hr
      go_loopw [16, 17, 53] (fun _ _ i W => ∃ j : Nat, i = .int .i64 j ∧ j ≤ n ∧ Own W wo.heap.size n (fun x => if x < j then lf (lvL f l s t) x else 0) ∧ Below wo.heap.size wo W) (fun _ _ i _ => n - (intOf i).toNat)
      case atStart =>
        refine ⟨0, rfl, Nat.zero_le _, ?_, (Below.refl _ _).alloc (Nat.le_refl _) _⟩
        exact (World.rowIs_made wo (.int .i64 0) n 3).congr fun j _ => by simp
      case round =>
        obtain ⟨j, rfl, hj, ho2, hb2⟩ := hrel
        by_cases h2 : j < n
        · have c1 : wr.cell? ⟨w.heap.size, j, none⟩ = some (.int .u64 (lf (lvL f l s t) j)) := (ho.keep hb2).cell (by omega)
          have hd2 : decide ((j : Int) < n) = true := decide_eq_true (by omega)
          have HS := Lib.hid (copy_set (w := wo) (F := lf (lvL f l s t)) ho2)
          have c3 := World.rowIs.cell ho2 h2
          have c4 := World.rowIs.frozen ho2 j
          have bv := (HVO.out.lv s t).lt j
          have q1 : IntKind.i64.wrap (lf (lvL f l s t) j) = lf (lvL f l s t) j := IntWalk.i64_in _ (by omega)
          clear ho2
          go_wp2
          go_roundw
          case rel => exact ⟨j + 1, by go_num, by omega, HS.out, hb2.setCell (Nat.le_refl _) _⟩
          case measure => simp [intOf]; omega
        · have hd2 : decide ((j : Int) < n) = false := decide_eq_false (by omega)
          obtain rfl : j = n := by omega
          have HF : Hid (OwnG w (lvL f l s t) (.returned (.slice (some ⟨wo.heap.size, 0, none⟩) j j)) wr) := Lib.hid (OwnG.of_own ho2 (HLEN.out t).symm zw (fun x hx => by simp [hx]) (below_up hb hb2 zw))
          clear ho2
          go_wp2
          go_ret
          exact HF.out
end Go.Proofs.YtnipffmookkkdaaDoor
namespace Go.Proofs.YtnipffmookkkdaaDoor
open Go.RowKit
theorem levels_c (f : Int) (a : Option Addr) (l : List Int) (cap s m E : Nat) (w : World) (ht : Tab w) (h : VecOk f l) (hs : Src w a l.length (lf l)) (hE : E = s + m) (hEk : (E : Int) ≤ mLog l.length) :
    Calls Tryd.prog 60 #[.int .i64 f, .slice a l.length cap, .int .i64 s, .int .i64 E] w (OwnG w (lvL f l s m)) := by
  obtain ⟨k, k9, hn, hl, hh⟩ := h.log
  obtain ⟨b, off, rfl, hlt, hc⟩ := vec_some hs h.pos.1
  obtain ⟨h0, h8⟩ := h.f08
  by_cases hP : P f < 65536
  · have H := Lib.hid (levelsIn_uint32 f l b off l.length cap s m k E w ht h hP rfl hn k9 hh hl hE (by omega) hlt hc)
    have hd : decide (P f < 65536) = true := decide_eq_true hP
    clear hs hc hE hEk hn hl hh h
    go_enter Tryd.func60, Tryd.ntmps60
    go_wp2_with fail
    refine (prime_c f w ht h0 h8).mono ?_
    rintro e w' ⟨rfl, rfl⟩
    go_wp2_with fail
    refine H.out.mono ?_
    rintro e w' ⟨g, rfl, hr⟩
    have HR := Lib.hid hr
    clear hr
    go_wp2
    go_ret
    exact ⟨g, rfl, HR.out⟩
  · have H := Lib.hid (levelsIn_uint64 f l b off l.length cap s m k E w ht h rfl hn k9 hh hl hE (by omega) hlt hc)
    have hd : decide (P f < 65536) = false := decide_eq_false hP
    clear hs hc hE hEk hn hl hh h
    go_enter Tryd.func60, Tryd.ntmps60
    go_wp2_with fail
    refine (prime_c f w ht h0 h8).mono ?_
    rintro e w' ⟨rfl, rfl⟩
    go_wp2_with fail
    refine H.out.mono ?_
    rintro e w' ⟨g, rfl, hr⟩
    have HR := Lib.hid hr
    clear hr
    go_wp2
    go_ret
    exact ⟨g, rfl, HR.out⟩
end Go.Proofs.YtnipffmookkkdaaDoor
namespace Go.Proofs.YtnipffmookkkdaaDoor
open Go.RowKit
set_option maxRecDepth 100000 in
set_option maxHeartbeats 1600000 in
theorem sEnergy_on (f : Int) (b off n cap : Nat) (A : Nat → Int) (w : World) (HV : Hid (Calls Tryd.prog 13 #[.int .i64 f, .slice (some ⟨b, off, none⟩) n cap] w (SameB w true))) (h0 : 0 ≤ f) (h8 : f ≤ 8) (n0 : 0 < n) (hn5 : n ≤ 512) (_hA : ∀ j, 0 ≤ A j ∧ A j < P f) (hlt : b < w.heap.size)
    (hc : ∀ j, j < n → w.cell? ⟨b, off + j, none⟩ = some (.int .i64 (A j))) :
    Calls Tryd.prog 31 #[.int .i64 f, .slice (some ⟨b, off, none⟩) n cap] w (IntP w (RS (enF n A) (P f))) := by
  have HC := Lib.hid hc
  have hp := P_bd h0 h8
  clear hc _hA
  have HMU : Hid (∀ x y w, Calls Tryd.prog 47 #[.int .i64 f, .int .i64 x, .int .i64 y] w fun e w' => e = .returned (.int .i64 (RS (x * y) (P f))) ∧ w = w') := Lib.hid fun x y w => by have := sMul f x y w; rwa [mMul, if_pos ⟨h0, h8⟩] at this
  have HAD : Hid (∀ x y w, Calls Tryd.prog 58 #[.int .i64 f, .int .i64 x, .int .i64 y] w fun e w' => e = .returned (.int .i64 (RS (x + y) (P f))) ∧ w = w') := Lib.hid fun x y w => by have := sAdd f x y w; rwa [mAdd, if_pos ⟨h0, h8⟩] at this
  go_enter Tryd.func31, Tryd.ntmps31
  go_wp2_with fail
  refine HV.out.mono ?_
  rintro e w' ⟨rfl, rfl⟩
  clear HV
  go_wp2_with fail
  go_loopw [5, 7] (fun s i wr => ∃ k : Nat, i = .int .i64 k ∧ k ≤ n ∧ s = .int .i64 (RS (sumN (fun i => A i * A ((n - i) % n)) k) (P f)) ∧ Below w.heap.size w wr) (fun _ i _ => n - (intOf i).toNat)
  case atStart => exact ⟨0, rfl, Nat.zero_le _, by simp [sumN, RS], Below.refl _ _⟩
  case round =>
    obtain ⟨k, rfl, hk, rfl, hb⟩ := hrel
    by_cases h1 : k < n
    · have hd1 : decide ((k : Int) < n) = true := decide_eq_true (by omega)
      have c1 : wr.cell? ⟨b, off + k, none⟩ = some (.int .i64 (A k)) := (hb.cell (p := ⟨b, off + k, none⟩) hlt).trans (HC.out k h1)
      have hlk : (n - k) % n < n := Nat.mod_lt _ n0
      have c2 : wr.cell? ⟨b, off + (n - k) % n, none⟩ = some (.int .i64 (A ((n - k) % n))) := (hb.cell (p := ⟨b, off + (n - k) % n, none⟩) hlt).trans (HC.out _ hlk)
      have HS : Hid (RS (RS (sumN (fun i => A i * A ((n - i) % n)) k) (P f) + RS (A k * A ((n - k) % n)) (P f)) (P f) = RS (sumN (fun i => A i * A ((n - i) % n)) (k + 1)) (P f)) := Lib.hid (by rw [RS_add]; rfl)
      have qa : IntKind.i64.wrap ((n : Int) - k) = (n : Int) - k := IntWalk.i64_in _ (by omega)
      have tm : ((n : Int) - k).tmod n = (((n - k) % n : Nat) : Int) := by rw [show (n : Int) - k = ((n - k : Nat) : Int) by omega, Int.tmod_eq_emod_of_nonneg (by omega), Int.natCast_emod]
      have q2 : ((((n - k) % n : Nat) : Int)).toNat = (n - k) % n := by omega
      have q3 : (0 : Int) ≤ (((n - k) % n : Nat) : Int) := by omega
      have q4 : (((n - k) % n : Nat) : Int) < n := by omega
      have kz : ((n : Int) == 0) = false := by rw [beq_eq_false_iff_ne]; omega
      have kz2 : ¬ (n : Int) = 0 := by omega
      generalize A ((n - k) % n) = Y at *
      generalize (n - k) % n = U at *
      generalize RS (sumN (fun i => A i * A ((n - i) % n)) k) (P f) = X at *
      go_wp2
      go_quiet ((first | (go_at_call 47; exact quiet_left (HMU.out (A k) Y _)) | (go_at_call 58; exact quiet_left (HAD.out X (RS (A k * Y) (P f)) _))))
      go_wp2
      go_roundw
      case rel => exact ⟨k + 1, by go_num, by omega, vint HS.out, below_drewN hb _⟩
      case measure => simp [intOf]; omega
    · have hd1 : decide ((k : Int) < n) = false := decide_eq_false (by omega)
      obtain rfl : k = n := by omega
      go_wp2
      go_ret
      exact ⟨rfl, hb⟩
theorem sEnergy (f : Int) (a : Option Addr) (l : List Int) (cap : Nat) (w : World) (hn : l.length ≤ 1048576) (hs : Src w a l.length (lf l)) : Calls Tryd.prog 31 #[.int .i64 f, .slice a l.length cap] w (IntP w (mEnergy f l)) := by
  have R1 := sVectorOk f a l cap w hn hs
  by_cases h : VecOk f l
  · rw [vok_iff.2 h] at R1
    rw [show mEnergy f l = RS (enF l.length (lf l)) (P f) by unfold mEnergy; rw [if_pos h]]
    obtain ⟨b, off, rfl, hlt, hc⟩ := vec_some hs h.pos.1
    exact sEnergy_on f b off l.length cap (lf l) w (Lib.hid R1) h.f08.1 h.f08.2 h.pos.1 h.pos.2 h.lt hlt hc
  · rw [vok_not.2 h] at R1
    rw [show mEnergy f l = -1 by unfold mEnergy; rw [if_neg h]]
    have HR1 := Lib.hid R1
    clear R1 hs h
    go_enter Tryd.func31, Tryd.ntmps31
    go_wp2_with fail
    refine HR1.out.mono ?_
    rintro e w' ⟨rfl, rfl⟩
    go_wp2
    go_ret
    exact ⟨rfl, Below.refl _ _⟩
set_option maxRecDepth 100000 in
set_option maxHeartbeats 1600000 in
theorem sRotate_on (f r : Int) (b off n cap : Nat) (A : Nat → Int) (w : World) (HV : Hid (Calls Tryd.prog 13 #[.int .i64 f, .slice (some ⟨b, off, none⟩) n cap] w (SameB w true))) (n0 : 0 < n) (hn5 : n ≤ 512) (hlt : b < w.heap.size)
    (hc : ∀ j, j < n → w.cell? ⟨b, off + j, none⟩ = some (.int .i64 (A j))) :
    Calls Tryd.prog 33 #[.int .i64 f, .slice (some ⟨b, off, none⟩) n cap, .int .i64 r] w (ListL w (tab n (rotF n (turnN n r) A))) := by
  have HCP := Lib.hid (copy_c (some ⟨b, off, none⟩) n cap A w (by omega) (.inr ⟨b, off, rfl, hlt, hc⟩))
  have HC := Lib.hid hc
  obtain ⟨t1, t2, t3⟩ := turn_int n0 r
  have hcn := turn_lt n0 r
  have kz : ((n : Int) == 0) = false := by rw [beq_eq_false_iff_ne]; omega
  have kz2 : ¬ (n : Int) = 0 := by omega
  have qa : IntKind.i64.wrap (r.tmod n) = r.tmod n := IntWalk.i64_in _ (by omega)
  have qb : IntKind.i64.wrap (r.tmod n + n) = r.tmod n + n := IntWalk.i64_in _ (by omega)
  have nz : ¬ n = 0 := by omega
  generalize turnN n r = c at *
  clear hc
  go_enter Tryd.func33, Tryd.ntmps33
  go_wp2_with fail
  refine HV.out.mono ?_
  rintro e w' ⟨rfl, rfl⟩
  clear HV
  go_wp2_with fail
  refine HCP.out.mono ?_
  rintro e w1 ⟨v1, rfl, ho1, hb1⟩
  obtain ⟨g, cap1, rfl, hg, hov⟩ := OwnV.of_owns ho1 (by omega)
  have HOV : Hid (OwnV w1 g n cap1 (rtp n c 0 A)) := Lib.hid (hov.congr fun j _ => (rtp_zero n c A j).symm)
  clear ho1 hov HCP qa qb t2 t3
  generalize r.tmod n = R at *
  go_wp2_with fail
  go_loopw [10] (fun i wr => ∃ k : Nat, i = .int .i64 k ∧ k ≤ n ∧ OwnV wr g n cap1 (rtp n c k A) ∧ Below w.heap.size w wr) (fun i _ => n - (intOf i).toNat)
  case atStart => exact ⟨0, rfl, Nat.zero_le _, HOV.out, hb1⟩
  case round =>
    clear HOV
    obtain ⟨k, rfl, hk, ho, hb⟩ := hrel
    by_cases h1 : k < n
    · have hd1 : decide ((k : Int) < n) = true := decide_eq_true (by omega)
      have hb3 : Below w.heap.size w wr.drew := ⟨hb.os, hb.tape, hb.output, hb.size, hb.block⟩
      have ho1 : OwnV wr.drew g n cap1 (rtp n c k A) := ho
      have c1 : wr.cell? ⟨b, off + k, none⟩ = some (.int .i64 (A k)) := (hb.cell (p := ⟨b, off + k, none⟩) hlt).trans (HC.out k h1)
      have c1d : wr.drew.cell? ⟨b, off + k, none⟩ = some (.int .i64 (A k)) := c1
      have hU : (k + c) % n < n := Nat.mod_lt _ n0
      have HS1 : Hid (OwnV (wr.drew.setCell ⟨g, (k + c) % n, none⟩ (.int .i64 (A k))) g n cap1 (rtp n c (k + 1) A)) := Lib.hid ((OwnV.set (s := (k + c) % n) (x := A k) ho1).congr fun t ht => rtp_step hcn h1 A ht)
      have HS3 := Lib.hid (hb3.setCell (p := ⟨g, (k + c) % n, none⟩) (show w.heap.size ≤ g by have := hb1.size; omega) (.int .i64 (A k)))
      have cU := ho1.cell hU
      have fU := ho1.frozen ((k + c) % n)
      have tm : ((k : Int) + c).tmod n = (((k + c) % n : Nat) : Int) := by rw [show (k : Int) + c = ((k + c : Nat) : Int) by omega, Int.tmod_eq_emod_of_nonneg (by omega), Int.natCast_emod]
      have qc : IntKind.i64.wrap ((k : Int) + c) = (k : Int) + c := IntWalk.i64_in _ (by omega)
      have q2 : ((((k + c) % n : Nat) : Int)).toNat = (k + c) % n := by omega
      have q3 : (0 : Int) ≤ (((k + c) % n : Nat) : Int) := by omega
      have q4 : (((k + c) % n : Nat) : Int) < n := by omega
      have q5 : IntKind.i64.wrap ((((k + c) % n : Nat) : Int)) = (((k + c) % n : Nat) : Int) := IntWalk.i64_in _ (by omega)
      clear ho ho1
      generalize rtp n c k A ((k + c) % n) = OLD at *
      generalize (k + c) % n = U at *
      go_wp2
      refine wp_region_still_tail 11 (by kernel_rfl) (by kernel_rfl) ?_
      simp only [List.take_succ_cons, List.take_zero, List.drop_succ_cons, List.drop_zero]
      still_step
      still_step
      still_step
      still_step
      still_step
      still_step
      still_step
      still_step
      still_step
      still_step
      still_step
      refine wpStill_nil ?_
      change wpList _ _ _ _ _ wr.drew
      clear c1
      generalize wr.drew = W2 at *
      go_wp2
      go_roundw
      case rel => exact ⟨k + 1, by go_num, by omega, HS1.out, HS3.out⟩
      case measure => simp [intOf]; omega
    · have hd1 : decide ((k : Int) < n) = false := decide_eq_false (by omega)
      obtain rfl : k = n := by omega
      have HF : Hid (Src wr (some ⟨g, 0, none⟩) (tab k (rotF k c A)).length (lf (tab k (rotF k c A)))) := Lib.hid (by
        rw [tab_len]
        refine (ho.congr (G := lf (tab k (rotF k c A))) fun t ht => ?_).src
        rw [lf_tab, if_pos ht, rtp_full c n0])
      have HLEN : Hid ((tab k (rotF k c A)).length = k) := Lib.hid (tab_len _ _)
      clear ho
      go_wp2
      go_ret
      exact ⟨_, cap1, by rw [HLEN.out]; rfl, HF.out, hb⟩
theorem sRotate (f : Int) (a : Option Addr) (l : List Int) (cap : Nat) (r : Int) (w : World) (hn : l.length ≤ 1048576) (hs : Src w a l.length (lf l)) : Calls Tryd.prog 33 #[.int .i64 f, .slice a l.length cap, .int .i64 r] w (ListL w (mRotate f l r)) := by
  have R1 := sVectorOk f a l cap w hn hs
  by_cases h : VecOk f l
  · rw [vok_iff.2 h] at R1
    rw [show mRotate f l r = rotL l r by unfold mRotate; rw [if_pos h]]
    obtain ⟨b, off, rfl, hlt, hc⟩ := vec_some hs h.pos.1
    exact sRotate_on f r b off l.length cap (lf l) w (Lib.hid R1) h.pos.1 h.pos.2 hlt hc
  · rw [vok_not.2 h] at R1
    rw [show mRotate f l r = [] by unfold mRotate; rw [if_neg h]]
    have HR1 := Lib.hid R1
    clear R1 hs h
    go_enter Tryd.func33, Tryd.ntmps33
    go_wp2_with fail
    refine HR1.out.mono ?_
    rintro e w' ⟨rfl, rfl⟩
    go_wp2
    go_ret
    exact ⟨none, 0, rfl, .inl rfl, Below.refl _ _⟩
set_option maxRecDepth 100000 in
set_option maxHeartbeats 3200000 in
theorem sStage_on (f x : Int) (s b off n cap h d L : Nat) (A : Nat → Int) (w : World) (HV : Hid (Calls Tryd.prog 13 #[.int .i64 f, .slice (some ⟨b, off, none⟩) n cap] w (SameB w true))) (h0 : 0 ≤ f) (h8 : f ≤ 8) (n0 : 0 < n) (hn5 : n ≤ 512) (hlt : b < w.heap.size)
    (hc : ∀ j, j < n → w.cell? ⟨b, off + j, none⟩ = some (.int .i64 (A j))) (hL : mLog n = L) (hsL : s < L) (hL9 : L ≤ 9) (hx : mRoot f L = x) (hh : h = 2 ^ s) (hnd : n = d * (2 * h)) (hpw : ∀ e : Nat, e < n → mPower f x e = x ^ e % P f) :
    Calls Tryd.prog 29 #[.int .i64 f, .slice (some ⟨b, off, none⟩) n cap, .int .i64 s] w (ListL w (tab n (stgF f x h d A))) := by
  have HCP := Lib.hid (copy_c (some ⟨b, off, none⟩) n cap A w (by omega) (.inr ⟨b, off, rfl, hlt, hc⟩))
  have HC := Lib.hid hc
  have hp := P_bd h0 h8
  have hpos : 0 < h := by rw [hh]; exact Nat.pow_pos (by omega)
  have HEH : Hid (wrap64 (2 ^ s) = (h : Int)) := Lib.hid (by rw [shl_nat (by omega)]; unfold two; rw [hh, Int.toNat_natCast, Int.natCast_pow]; rfl)
  have d0 : 0 < d := by
    rcases Nat.eq_zero_or_pos d with hz | hz
    · rw [hz, Nat.zero_mul] at hnd; omega
    · exact hz
  have hhn : 2 * h ≤ n := by rw [hnd]; exact Nat.le_mul_of_pos_left _ d0
  have HLOG := Lib.hid hL
  have HROOT := Lib.hid hx
  have HPWR := Lib.hid hpw
  have HND := Lib.hid hnd
  have HMU : Hid (∀ x y w, Calls Tryd.prog 47 #[.int .i64 f, .int .i64 x, .int .i64 y] w fun e w' => e = .returned (.int .i64 (RS (x * y) (P f))) ∧ w = w') := Lib.hid fun x y w => by have := sMul f x y w; rwa [mMul, if_pos ⟨h0, h8⟩] at this
  have HAD : Hid (∀ x y w, Calls Tryd.prog 58 #[.int .i64 f, .int .i64 x, .int .i64 y] w fun e w' => e = .returned (.int .i64 (RS (x + y) (P f))) ∧ w = w') := Lib.hid fun x y w => by have := sAdd f x y w; rwa [mAdd, if_pos ⟨h0, h8⟩] at this
  have HSU : Hid (∀ x y w, Calls Tryd.prog 59 #[.int .i64 f, .int .i64 x, .int .i64 y] w fun e w' => e = .returned (.int .i64 (RS (x - y) (P f))) ∧ w = w') := Lib.hid fun x y w => by have := sSub f x y w; rwa [mSub, if_pos ⟨h0, h8⟩] at this
  have HIN : Hid (Calls Tryd.prog 55 #[.int .i64 s, .int .i64 0, .int .i64 ((L : Int) - 1)] w (SameB w true)) := Lib.hid (by
    have := in_c s 0 ((L : Int) - 1) w
    rwa [show decide (0 ≤ (s : Int) ∧ (s : Int) ≤ (L : Int) - 1) = true from decide_eq_true (by omega)] at this)
  clear hc hL hx hpw hnd hh
  go_enter Tryd.func29, Tryd.ntmps29
  go_wp2_with fail
  refine HV.out.mono ?_
  rintro e w' ⟨rfl, rfl⟩
  clear HV
  go_wp2_with fail
  refine (sLogOf n w).mono ?_
  rintro e w' ⟨rfl, rfl⟩
  rw [HLOG.out]
  go_wp2_with fail
  refine HIN.out.mono ?_
  rintro e w' ⟨rfl, rfl⟩
  clear HIN
  go_wp2_with fail
  refine (sLogOf n w).mono ?_
  rintro e w' ⟨rfl, rfl⟩
  rw [HLOG.out]
  go_wp2_with fail
  refine (sRootOf f L w).mono ?_
  rintro e w' ⟨rfl, rfl⟩
  rw [HROOT.out]
  go_wp2_with fail
  rw [HEH.out]
  refine HCP.out.mono ?_
  rintro e w1 ⟨v1, rfl, ho1, hb1⟩
  obtain ⟨g, cap1, rfl, hg, hov⟩ := OwnV.of_owns ho1 (by omega)
  have HOV : Hid (OwnV w1 g n cap1 (stp f x h d A 0 0)) := Lib.hid (hov.congr fun j _ => (stp_start f x h d A j).symm)
  clear ho1 hov HCP HLOG HROOT HEH
  go_wp2_with fail
  go_loopw [11, 12, 13, 14] (fun i _ _ _ wr => ∃ B : Nat, i = .int .i64 ((B * (2 * h) : Nat) : Int) ∧ B ≤ d ∧ OwnV wr g n cap1 (stp f x h d A B 0) ∧ Below w.heap.size w wr) (fun i _ _ _ _ => n - (intOf i).toNat)
  case atStart => exact ⟨0, by simp, Nat.zero_le _, HOV.out, hb1⟩
  case round =>
    clear HOV
    obtain ⟨B, rfl, hB, ho, hb⟩ := hrel
    by_cases h1 : B < d
    · have hBn : B * (2 * h) + 2 * h ≤ n := by
        have := Nat.mul_le_mul_right (2 * h) (show B + 1 ≤ d by omega)
        rw [Nat.add_mul, Nat.one_mul, ← HND.out] at this
        exact this
      have hd1 : decide (((B * (2 * h) : Nat) : Int) < n) = true := decide_eq_true (by omega)
      obtain ⟨I, hI⟩ : ∃ I, B * (2 * h) = I := ⟨_, rfl⟩
      have HNX : Hid (((I + 2 * h : Nat) : Int) = (((B + 1) * (2 * h) : Nat) : Int)) := Lib.hid (by rw [Nat.add_mul, Nat.one_mul, hI])
      have HOI := Lib.hid ho
      have HRD : Hid (∀ j, j < h → stp f x h d A B j (I + j) = A (I + j) ∧ stp f x h d A B j (I + j + h) = A (I + j + h)) := Lib.hid fun j hj => by rw [← hI]; exact stp_read hj
      have HST : Hid (∀ j, j < h → ∀ t, (if t = I + j + h then RS (A (I + j) - RS (A (I + j + h) * x ^ (j * d)) (P f)) (P f) else if t = I + j then RS (A (I + j) + RS (A (I + j + h) * x ^ (j * d)) (P f)) (P f) else stp f x h d A B j t) = stp f x h d A B (j + 1) t) := Lib.hid fun j hj t => by
        have := stp_step (f := f) (w := x) (d := d) (V := A) (B := B) hj t
        rw [stp_low hj, stp_high hj, hI] at this
        exact this
      have HFULL : Hid (∀ t, stp f x h d A B h t = stp f x h d A (B + 1) 0 t) := Lib.hid fun t => stp_next f x d A B t hpos
      clear ho
      rw [hI] at hd1 hBn ⊢
      clear hI
      have hIn : I < n := by omega
      go_wp2_with fail
      go_loopw [12, 13, 14] (fun jj _ _ W => ∃ j : Nat, jj = .int .i64 j ∧ j ≤ h ∧ OwnV W g n cap1 (stp f x h d A B j) ∧ Below w.heap.size w W) (fun jj _ _ _ => h - (intOf jj).toNat)
      case atStart => exact ⟨0, rfl, Nat.zero_le _, HOI.out, hb⟩
      case round =>
        clear HOI hb
        obtain ⟨j, rfl, hj, ho, hb⟩ := hrel
        by_cases h2 : j < h
        · have hd2 : decide ((j : Int) < h) = true := decide_eq_true (by omega)
          have c1 : wr.cell? ⟨b, off + (I + j), none⟩ = some (.int .i64 (A (I + j))) := (hb.cell (p := ⟨b, off + (I + j), none⟩) hlt).trans (HC.out _ (by omega))
          have c2 : wr.cell? ⟨b, off + (I + j + h), none⟩ = some (.int .i64 (A (I + j + h))) := (hb.cell (p := ⟨b, off + (I + j + h), none⟩) hlt).trans (HC.out _ (by omega))
          have jn : (j : Int) * n = ((j * n : Nat) : Int) := by rw [Int.natCast_mul]
          have jnb : j * n ≤ 512 * 512 := Nat.mul_le_mul (by omega) (by omega)
          have td : ((j : Int) * n).tdiv (2 * (h : Int)) = ((j * d : Nat) : Int) := by
            rw [jn, show 2 * (h : Int) = ((2 * h : Nat) : Int) by omega, Int.tdiv_eq_ediv_of_nonneg (by omega), ← Int.natCast_ediv, HND.out, ← Nat.mul_assoc, Nat.mul_div_cancel _ (by omega)]
          have td2 : ((j : Int) * n) / (2 * (h : Int)) = ((j * d : Nat) : Int) := by rw [← td, Int.tdiv_eq_ediv_of_nonneg (by omega)]
          have hjd : j * d < n := by
            have : j * d < 2 * h * d := Nat.mul_lt_mul_of_pos_right (by omega) d0
            rw [Nat.mul_comm (2 * h) d, ← HND.out] at this
            exact this
          have qa : IntKind.i64.wrap ((I : Int) + j) = (I : Int) + j := IntWalk.i64_in _ (by omega)
          have qb : IntKind.i64.wrap ((I : Int) + j + h) = (I : Int) + j + h := IntWalk.i64_in _ (by omega)
          have qc : IntKind.i64.wrap ((j : Int) * n) = (j : Int) * n := IntWalk.i64_in _ (by omega)
          have qd : IntKind.i64.wrap (2 * (h : Int)) = 2 * (h : Int) := IntWalk.i64_in _ (by omega)
          have hz2 : (2 * (h : Int) == 0) = false := by rw [beq_eq_false_iff_ne]; omega
          have hz3 : ¬ 2 * (h : Int) = 0 := by omega
          have i1 : (0 : Int) ≤ (I : Int) + j := by omega
          have i2 : (I : Int) + j < n := by omega
          have i3 : ((I : Int) + j).toNat = I + j := by omega
          have i4 : (0 : Int) ≤ (I : Int) + j + h := by omega
          have i5 : (I : Int) + j + h < n := by omega
          have i6 : ((I : Int) + j + h).toNat = I + j + h := by omega
          have HPW : Hid (∀ w, Calls Tryd.prog 57 #[.int .i64 f, .int .i64 x, .int .i64 ((j * d : Nat) : Int)] w fun e w' => e = .returned (.int .i64 (x ^ (j * d) % P f)) ∧ w = w') := Lib.hid fun w => by have := sPower f x ((j * d : Nat) : Int) w; rwa [HPWR.out _ hjd] at this
          have HY : Hid (RS (A (I + j + h) * (x ^ (j * d) % P f)) (P f) = RS (A (I + j + h) * x ^ (j * d)) (P f)) := Lib.hid (by unfold RS; exact emod_mul_congr rfl (Int.emod_emod_of_dvd _ (Int.dvd_refl _)))
          have HOW := Lib.hid ho
          have HRDj := Lib.hid (HRD.out j h2)
          have HSTj := Lib.hid (HST.out j h2)
          clear ho
          have eb : 0 ≤ ((j * d : Nat) : Int) ∧ ((j * d : Nat) : Int) < 512 := by omega
          clear jn jnb hjd
          generalize ((j * d : Nat) : Int) = E at *
          have qe : wrap64 E = E := by unfold wrap64; omega
          clear eb
          go_wp2
          go_quiet ((first | (go_at_call 57; exact quiet_left (HPW.out _)) | (go_at_call 47; exact quiet_left (HMU.out (A (I + j + h)) (x ^ (j * d) % P f) _))))
          rw [HY.out]
          generalize hYY : RS (A (I + j + h) * x ^ (j * d)) (P f) = Y at *
          have how2 : OwnV (wr.drewN nq) g n cap1 (stp f x h d A B j) := HOW.out
          have hb2 := below_drewN hb nq
          clear c1 c2 hb HOW td td2 HPW HRDj HY hYY
          generalize wr.drewN nq = W2 at *
          have cI := how2.cell (show I + j < n by omega)
          have fI := how2.frozen (I + j)
          have hgw : w.heap.size ≤ g := by have := hb1.size; omega
          have how3 := OwnV.set (s := I + j) (x := RS (A (I + j) + Y) (P f)) how2
          have hb3 := hb2.setCell (p := ⟨g, I + j, none⟩) hgw (.int .i64 (RS (A (I + j) + Y) (P f)))
          obtain ⟨W3, hW3⟩ : ∃ W3, W2.setCell ⟨g, I + j, none⟩ (.int .i64 (RS (A (I + j) + Y) (P f))) = W3 := ⟨_, rfl⟩
          have HW3 := Lib.hid hW3
          rw [hW3] at how3 hb3
          have cH := how3.cell (show I + j + h < n by omega)
          have fH := how3.frozen (I + j + h)
          have HOW4 : Hid (OwnV (W3.setCell ⟨g, I + j + h, none⟩ (.int .i64 (RS (A (I + j) - Y) (P f)))) g n cap1 (stp f x h d A B (j + 1))) := Lib.hid ((OwnV.set (s := I + j + h) (x := RS (A (I + j) - Y) (P f)) how3).congr fun t _ => HSTj.out t)
          have HB4 := Lib.hid (hb3.setCell (p := ⟨g, I + j + h, none⟩) hgw (.int .i64 (RS (A (I + j) - Y) (P f))))
          clear how2 how3 hb2 hb3 hW3 HSTj
          go_wp2_with fail
          refine (HAD.out (A (I + j)) Y _).mono ?_
          rintro e w' ⟨rfl, rfl⟩
          go_wp2_with fail
          rw [HW3.out]
          refine (HSU.out (A (I + j)) Y _).mono ?_
          rintro e w' ⟨rfl, rfl⟩
          clear cI fI
          go_wp2
          go_roundw
          case rel => exact ⟨j + 1, by go_num, by omega, HOW4.out, HB4.out⟩
          case measure => simp [intOf]; omega
        · have hd2 : decide ((j : Int) < h) = false := decide_eq_false (by omega)
          obtain rfl : j = h := by omega
          have HOF : Hid (OwnV wr g n cap1 (stp f x j d A (B + 1) 0)) := Lib.hid (ho.congr fun t _ => HFULL.out t)
          clear ho HFULL HST HRD
          go_wp2
          go_roundw
          case rel => exact ⟨B + 1, vint (by rw [← HNX.out]; omega), by omega, HOF.out, hb⟩
          case measure => simp [intOf]; omega
    · have hBn : B * (2 * h) = n := by
        have : B = d := by omega
        rw [this, ← HND.out]
      have hd1 : decide ((n : Int) < n) = false := decide_eq_false (by omega)
      rw [hBn]
      have HF : Hid (Src wr (some ⟨g, 0, none⟩) (tab n (stgF f x h d A)).length (lf (tab n (stgF f x h d A)))) := Lib.hid (by
        rw [tab_len]
        refine (ho.congr (G := lf (tab n (stgF f x h d A))) fun t ht => ?_).src
        have hBd : B = d := by omega
        subst hBd
        rw [lf_tab, if_pos ht, stp_end HND.out A ht])
      have HLEN : Hid ((tab n (stgF f x h d A)).length = n) := Lib.hid (tab_len _ _)
      clear ho hBn
      go_wp2
      go_ret
      exact ⟨_, cap1, by rw [HLEN.out]; rfl, HF.out, hb⟩
theorem sStage (f : Int) (a : Option Addr) (l : List Int) (cap : Nat) (s : Int) (w : World) (hn : l.length ≤ 1048576) (hs : Src w a l.length (lf l)) : Calls Tryd.prog 29 #[.int .i64 f, .slice a l.length cap, .int .i64 s] w (ListL w (mStage f l s)) := by
  have R1 := sVectorOk f a l cap w hn hs
  by_cases h : VecOk f l
  · rw [vok_iff.2 h] at R1
    by_cases hk : 0 ≤ s ∧ s < mLog l.length
    · rw [show mStage f l s = stgL f l s.toNat by unfold mStage; rw [if_pos ⟨h, hk⟩]]
      obtain ⟨k, hk9, hln, hlog, hasr⟩ := h.log
      obtain ⟨t, rfl⟩ : ∃ t : Nat, s = (t : Int) := ⟨s.toNat, by omega⟩
      have htk : t < k := by omega
      have hnd : l.length = l.length / (2 * 2 ^ t) * (2 * 2 ^ t) := by
        rw [hln, pow_half htk, Nat.mul_div_cancel _ (by have : 0 < 2 ^ t := Nat.pow_pos (by omega); omega)]
      obtain ⟨b, off, rfl, hlt, hc⟩ := vec_some hs h.pos.1
      have := sStage_on f (rootL f l) t b off l.length cap (2 ^ t) (l.length / (2 * 2 ^ t)) k (lf l) w (Lib.hid R1) h.f08.1 h.f08.2 h.pos.1 h.pos.2 hlt hc hlog htk hk9 (by unfold rootL; rw [hlog]) rfl hnd (fun e he => power_root h he)
      rw [Int.toNat_natCast]
      exact this
    · rw [show mStage f l s = [] by unfold mStage; rw [if_neg fun hh => hk hh.2]]
      have HIN : Hid (Calls Tryd.prog 55 #[.int .i64 s, .int .i64 0, .int .i64 (mLog l.length - 1)] w (SameB w false)) := Lib.hid (by
        have := in_c s 0 (mLog l.length - 1) w
        rwa [show decide (0 ≤ s ∧ s ≤ mLog l.length - 1) = false from decide_eq_false (by omega)] at this)
      obtain ⟨k, hk9, hln, hlog, hasr⟩ := h.log
      have HR1 := Lib.hid R1
      have lb : -1 ≤ mLog l.length ∧ mLog l.length ≤ 9 := by omega
      clear R1 hs h hk hln hlog hasr
      go_enter Tryd.func29, Tryd.ntmps29
      go_wp2_with fail
      refine HR1.out.mono ?_
      rintro e w' ⟨rfl, rfl⟩
      go_wp2_with fail
      refine (sLogOf l.length w).mono ?_
      rintro e w' ⟨rfl, rfl⟩
      go_wp2_with fail
      refine HIN.out.mono ?_
      rintro e w' ⟨rfl, rfl⟩
      go_wp2
      go_ret
      exact ⟨none, 0, rfl, .inl rfl, Below.refl _ _⟩
  · rw [vok_not.2 h] at R1
    rw [show mStage f l s = [] by unfold mStage; rw [if_neg fun hh => h hh.1]]
    have HR1 := Lib.hid R1
    clear R1 hs h
    go_enter Tryd.func29, Tryd.ntmps29
    go_wp2_with fail
    refine HR1.out.mono ?_
    rintro e w' ⟨rfl, rfl⟩
    go_wp2
    go_ret
    exact ⟨none, 0, rfl, .inl rfl, Below.refl _ _⟩
end Go.Proofs.YtnipffmookkkdaaDoor
namespace Go.Proofs.YtnipffmookkkdaaDoor
open Go.RowKit
theorem dot_sumP {f : Int} (h0 : 0 ≤ f) (h8 : f ≤ 8) (A B : Nat → Int) (k : Nat) : dotF f A B k = RS (sumN (fun j => A j * B j) k) (P f) := by
  induction k with
  | zero => simp [dotF, sumN, RS]
  | succ k ih =>
    rw [dotF, ih, mAdd, if_pos ⟨h0, h8⟩, mMul, if_pos ⟨h0, h8⟩, RS_add]
    rfl
theorem transform_c (f : Int) (a : Option Addr) (l : List Int) (cap : Nat) (w : World) (ht : Tab w) (h : VecOk f l) (hs : Src w a l.length (lf l)) : Calls Tryd.prog 45 #[.int .i64 f, .slice a l.length cap] w (OwnG w (fwdL f l)) := by
  obtain ⟨k, k9, hn, hl, hh⟩ := h.log
  have HP := Lib.hid (iPermute a l.length cap k (lf l) w k9 hn hs)
  have HL : Hid (∀ w, Calls Tryd.prog 41 #[.int .i64 l.length] w fun e w' => e = .returned (.int .i64 k) ∧ w = w') := Lib.hid fun w => by have := iLogOf l.length w; rwa [hl] at this
  have hpl := permL_len l k
  have HV : Hid (∀ (g : Nat) (w1 : World), Tab w1 → Own w1 g l.length (fun j => lf l (rv j k)) → Calls Tryd.prog 60 #[.int .i64 f, .slice (some ⟨g, 0, none⟩) l.length l.length, .int .i64 0, .int .i64 k] w1 (OwnG w1 (fwdL f l))) := Lib.hid fun g w1 ht1 ho => by
    have hsrc : Src w1 (some ⟨g, 0, none⟩) (permL l k).length (lf (permL l k)) := by
      rw [hpl]
      exact (own_congr ho rfl (fun j hj => by unfold permL; rw [lf_tab, if_pos hj])).src
    have := levels_c f (some ⟨g, 0, none⟩) (permL l k) l.length 0 k k w1 ht1 (h.perm k) hsrc (by omega) (by rw [hpl, hl]; exact Int.le_refl _)
    rw [lv_fwd h hn, hpl] at this
    exact this
  clear hs hn hl hh h hpl
  go_enter Tryd.func45, Tryd.ntmps45
  go_wp2_with fail
  refine HP.out.mono ?_
  rintro e w1 ⟨rfl, o1, b1⟩
  have HO1 := Lib.hid o1
  clear o1 HP
  go_wp2_with fail
  refine (HL.out w1).mono ?_
  rintro e w' ⟨rfl, rfl⟩
  go_wp2_with fail
  refine (HV.out w.heap.size w1 (ht.below b1) HO1.out).mono ?_
  rintro e w2 h2
  have HR := Lib.hid (h2.up b1)
  obtain ⟨g, rfl, _⟩ := h2
  clear HV HO1
  go_wp2
  go_ret
  exact HR.out
set_option maxRecDepth 100000 in
set_option maxHeartbeats 1600000 in
theorem transformBack_c (f : Int) (a : Option Addr) (l : List Int) (cap : Nat) (w : World) (ht : Tab w) (h : VecOk f l) (hs : Src w a l.length (lf l)) : Calls Tryd.prog 48 #[.int .i64 f, .slice a l.length cap] w (OwnG w (bwdL f l)) := by
  obtain ⟨h0, h8⟩ := h.f08
  have hpos := h.pos
  have hp := P_bd h0 h8
  have HT := Lib.hid (transform_c f a l cap w ht h hs)
  have hfl := fwdL_len f l
  have hml := mirL_len (fwdL f l)
  obtain ⟨k, k9, hn, hl, hh⟩ := h.log
  have hle : (l.length : Int) < P f := by
    have hle := two_le hh
    have e : two (k : Int) = (l.length : Int) := by unfold two; rw [hn, Int.toNat_natCast, Int.natCast_pow]; rfl
    omega
  have hinv : PW (P f) (l.length : Int) (P f - 2) = mPower f l.length (-1) := by
    rw [inverse_inv h0 h8 (by omega) hle]
    unfold invF
    rw [RS_self (by omega) hle, if_neg (by omega)]
  have HI : Hid (∀ w, Tab w → Calls Tryd.prog 70 #[.int .i64 f, .int .i64 l.length] w fun e w' => e = .returned (.int .i64 (mPower f l.length (-1))) ∧ w = w') := Lib.hid fun w ht => by
    have := inverse_c f l.length w ht h0 h8 (by omega) hle
    rwa [hinv] at this
  have hib : 0 ≤ mPower f l.length (-1) ∧ mPower f l.length (-1) < P f := by
    have := (inv_one h0 h8 (z := (l.length : Int)) (by rw [RS_self (by omega) hle]; omega)).2
    omega
  have HEQ : Hid (∀ j, j < l.length → RS (lf (mirL (fwdL f l)) j * mPower f l.length (-1)) (P f) = lf (bwdL f l) j) := Lib.hid fun j hj => bwd_by_fwd h hj
  have HFB : Hid (∀ j, 0 ≤ lf (mirL (fwdL f l)) j ∧ lf (mirL (fwdL f l)) j < P f) := Lib.hid fun j => h.fwd.mir.lt j
  have HMR : Hid (∀ (g : Nat) (w1 : World), Own w1 g l.length (lf (fwdL f l)) → Calls Tryd.prog 62 #[.slice (some ⟨g, 0, none⟩) l.length l.length] w1 fun e w' => ∃ g2, e = .returned (.slice (some ⟨g2, 0, none⟩) l.length l.length) ∧ w1.heap.size ≤ g2 ∧ Own w' g2 l.length (lf (mirL (fwdL f l))) ∧ Below w1.heap.size w1 w') := Lib.hid fun g w1 ho => by
    have hsrc : Src w1 (some ⟨g, 0, none⟩) (fwdL f l).length (lf (fwdL f l)) := by rw [hfl]; exact ho.src
    have := mirrored_c (some ⟨g, 0, none⟩) (fwdL f l) l.length w1 (by omega) (by omega) hsrc
    rw [hfl] at this
    refine this.mono ?_
    rintro e w' ⟨g2, rfl, hg2, ho2, hb2⟩
    rw [hml, hfl] at ho2
    refine ⟨g2, ?_, hg2, ho2, hb2⟩
    rw [hml, hfl]
  have HBL := Lib.hid (bwdL_len f l)
  have HFL := Lib.hid hfl
  clear hs hn hl hh h hfl hml hinv hle
  generalize mPower f l.length (-1) = c at *
  generalize hnn : l.length = n at *
  generalize lf (mirL (fwdL f l)) = M at *
  clear hnn
  go_enter Tryd.func48, Tryd.ntmps48
  go_wp2_with fail
  refine HT.out.mono ?_
  rintro e w1 ⟨g, rfl, hg, o1, b1⟩
  rw [HFL.out] at o1 ⊢
  have HO1 := Lib.hid o1
  clear o1 HT
  go_wp2_with fail
  refine (HMR.out g w1 HO1.out).mono ?_
  rintro e w2 ⟨g2, rfl, hg2, o2, b2⟩
  have HO2 := Lib.hid o2
  have b3 := below_up b1 b2 b1.size
  have hg3 : w.heap.size ≤ g2 := Nat.le_trans b1.size hg2
  clear o2 HO1 HMR b1 b2 hg hg2
  go_wp2_with fail
  refine (HI.out w2 (ht.below b3)).mono ?_
  rintro e w' ⟨rfl, rfl⟩
  clear HI
  go_wp2_with fail
  go_loopw [7, 8, 19] (fun _ _ i wr => ∃ j : Nat, i = .int .i64 j ∧ j ≤ n ∧ Own wr g2 n (fun x => if x < j then RS (M x * c) (P f) else M x) ∧ Below w.heap.size w wr) (fun _ _ i _ => n - (intOf i).toNat)
  case atStart => exact ⟨0, rfl, Nat.zero_le _, own_congr HO2.out rfl (fun j _ => by simp), b3⟩
  case round =>
    clear HO2 b3
    obtain ⟨j, rfl, hj, ho, hb⟩ := hrel
    by_cases h1 : j < n
    · have c1 : wr.cell? ⟨g2, j, none⟩ = some (.int .i64 (M j)) := by have := World.rowIs.cell ho h1; simpa using this
      have c4 := World.rowIs.frozen ho j
      have hd1 : decide ((j : Int) < n) = true := decide_eq_true (by omega)
      have HS : Hid (Own (wr.setCell ⟨g2, j, none⟩ (.int .i64 (RS (M j * c) (P f)))) g2 n (fun x => if x < j + 1 then RS (M x * c) (P f) else M x)) := Lib.hid ((World.rowIs.set ho j (.int .i64 (RS (M j * c) (P f)))).congr fun x _ => by
        by_cases e : x = j
        · subst e; simp
        · by_cases e2 : x < j
          · simp [e, e2, show x < j + 1 by omega]
          · simp [e, e2, show ¬ x < j + 1 by omega])
      have hm := HFB.out j
      clear ho
      go_wp2_with fail
      refine (mul_c f (M j) c wr (ht.below hb) h0 h8 hm.1 hm.2 hib.1 hib.2).mono ?_
      rintro e w' ⟨rfl, rfl⟩
      go_wp2
      go_roundw
      case rel => exact ⟨j + 1, by go_num, by omega, HS.out, hb.setCell hg3 _⟩
      case measure => simp [intOf]; omega
    · have hd1 : decide ((j : Int) < n) = false := decide_eq_false (by omega)
      obtain rfl : j = n := by omega
      have HF : Hid (OwnG w (bwdL f l) (.returned (.slice (some ⟨g2, 0, none⟩) j j)) wr) := Lib.hid (OwnG.of_own ho HBL.out.symm hg3 (fun x hx => by simp [hx]; exact HEQ.out x hx) hb)
      clear ho
      go_wp2
      go_ret
      exact HF.out
theorem cyclic_c (f : Int) (a : Option Addr) (l : List Int) (cap : Nat) (a2 : Option Addr) (m : List Int) (cap2 : Nat) (w : World) (ht : Tab w) (h : TwoOk f l m) (hs : Src w a l.length (lf l)) (hs2 : Src w a2 m.length (lf m)) : Calls Tryd.prog 53 #[.int .i64 f, .slice a l.length cap, .slice a2 m.length cap2] w (OwnG w (cycL f l m)) := by
  have HT1 := Lib.hid (transform_c f a l cap w ht h.2.1 hs)
  have HT2 : Hid (∀ w1, Below w.heap.size w w1 → Calls Tryd.prog 45 #[.int .i64 f, .slice a2 m.length cap2] w1 (OwnG w1 (fwdL f m))) := Lib.hid fun w1 hb => transform_c f a2 m cap2 w1 (ht.below hb) h.2.2 (hs2.keep hb)
  have hfl := fwdL_len f l
  have hfm := fwdL_len f m
  have h2 : TwoOk f (fwdL f l) (fwdL f m) := ⟨by rw [hfl, hfm, h.1], h.2.1.fwd, h.2.2.fwd⟩
  have HPW : Hid (∀ (g g2 : Nat) (w1 : World), Tab w1 → Own w1 g (fwdL f l).length (lf (fwdL f l)) → Own w1 g2 (fwdL f m).length (lf (fwdL f m)) → Calls Tryd.prog 51 #[.int .i64 f, .slice (some ⟨g, 0, none⟩) (fwdL f l).length (fwdL f l).length, .slice (some ⟨g2, 0, none⟩) (fwdL f m).length (fwdL f m).length] w1 (OwnG w1 (ptwL f (fwdL f l) (fwdL f m)))) := Lib.hid fun g g2 w1 ht1 o1 o2 => pointwise_c f _ _ _ _ _ _ w1 o1.src o2.src ht1 h2
  have hv : VecOk f (ptwL f (fwdL f l) (fwdL f m)) := h2.2.1.tab rfl _ fun _ _ => RS_bd (P_pos h.2.1.f08.1 h.2.1.f08.2)
  have HB : Hid (∀ (g : Nat) (w1 : World), Tab w1 → Own w1 g (ptwL f (fwdL f l) (fwdL f m)).length (lf (ptwL f (fwdL f l) (fwdL f m))) → Calls Tryd.prog 48 #[.int .i64 f, .slice (some ⟨g, 0, none⟩) (ptwL f (fwdL f l) (fwdL f m)).length (ptwL f (fwdL f l) (fwdL f m)).length] w1 (OwnG w1 (cycL f l m))) := Lib.hid fun g w1 ht1 o1 => by
    have := transformBack_c f (some ⟨g, 0, none⟩) _ (ptwL f (fwdL f l) (fwdL f m)).length w1 ht1 hv o1.src
    rwa [cyc_by_fwd h] at this
  clear hs hs2 h h2 hv hfl hfm
  generalize ptwL f (fwdL f l) (fwdL f m) = PT at *
  generalize fwdL f l = FL at *
  generalize fwdL f m = FM at *
  go_enter Tryd.func53, Tryd.ntmps53
  go_wp2_with fail
  refine HT1.out.mono ?_
  rintro e w1 ⟨g, rfl, hg, o1, b1⟩
  have HO1 := Lib.hid o1
  clear o1 HT1
  go_wp2_with fail
  refine (HT2.out w1 b1).mono ?_
  rintro e w2 ⟨g2, rfl, hg2, o2, b2⟩
  have HO2 := Lib.hid o2
  have HO3 := Lib.hid (HO1.out.keep b2)
  have b3 := below_up b1 b2 b1.size
  clear o2 HT2 b1 b2 HO1
  go_wp2_with fail
  refine (HPW.out g g2 w2 (ht.below b3) HO3.out HO2.out).mono ?_
  rintro e w3 ⟨g3, rfl, hg3, o3, b4⟩
  have HO4 := Lib.hid o3
  have b5 := below_up b3 b4 b3.size
  clear o3 b3 b4 HPW HO2 HO3
  go_wp2_with fail
  refine (HB.out g3 w3 (ht.below b5) HO4.out).mono ?_
  rintro e w4 h4
  have HR := Lib.hid (h4.up b5)
  obtain ⟨g4, rfl, _⟩ := h4
  clear HB HO4
  go_wp2
  go_ret
  exact HR.out
theorem twi_at {f : Int} {n : Nat} {A B : Nat → Int} (hA : ∀ j, n ≤ j → A j = 0) (hB : ∀ j, n ≤ j → B j = 0) {x : Nat} (hx : x < n) :
    (if x < n - 1 then RS (RS (cpar A B x n) (P f) - RS (cpar A B (n + x) n) (P f)) (P f) else RS (cpar A B x n) (P f)) = RS (twiF n A B x) (P f) := by
  rw [twi_fold hx hA hB, cpar_end x hA, cpar_end (n + x) hA, Nat.add_comm n x]
  by_cases h : x < n - 1
  · rw [if_pos h]
    unfold RS
    rw [← Int.sub_emod]
  · rw [if_neg h, cv_out (k := x + n) hA hB (by omega), Int.sub_zero]
set_option maxRecDepth 100000 in
set_option maxHeartbeats 1600000 in
theorem twisted_some (f : Int) (b off b2 off2 n cap cap2 : Nat) (A B : Nat → Int) (w : World) (ht : Tab w) (h0 : 0 ≤ f) (h8 : f ≤ 8) (n0 : 0 < n) (hn : n ≤ 512) (hA : ∀ j, 0 ≤ A j ∧ A j < P f) (hB : ∀ j, 0 ≤ B j ∧ B j < P f) (hB2 : ∀ j, n ≤ j → B j = 0) (hlt : b < w.heap.size) (hlt2 : b2 < w.heap.size)
    (hc : ∀ j, j < n → w.cell? ⟨b, off + j, none⟩ = some (.int .i64 (A j))) (hc2 : ∀ j, j < n → w.cell? ⟨b2, off2 + j, none⟩ = some (.int .i64 (B j))) :
    Calls Tryd.prog 54 #[.int .i64 f, .slice (some ⟨b, off, none⟩) n cap, .slice (some ⟨b2, off2, none⟩) n cap2] w fun e w' => ∃ g, e = .returned (.slice (some ⟨g, 0, none⟩) n n) ∧ w.heap.size ≤ g ∧ Own w' g n (fun x => if x < n - 1 then RS (RS (cpar A B x n) (P f) - RS (cpar A B (n + x) n) (P f)) (P f) else RS (cpar A B x n) (P f)) ∧ Below w.heap.size w w' := by
  have hp := P_bd h0 h8
  obtain ⟨N, hN⟩ : ∃ N, n + n = N + 1 := ⟨n + n - 1, by omega⟩
  have HPR := Lib.hid (product_some f b off b2 off2 n n cap cap2 N A B w ht h0 h8 (by omega) (by omega) n0 n0 hN hA hB hB2 hlt hlt2 hc hc2)
  obtain ⟨C, hC⟩ : ∃ C : Nat → Int, C = fun k => RS (cpar A B k n) (P f) := ⟨_, rfl⟩
  have HCB : Hid (∀ j, 0 ≤ C j ∧ C j < P f) := Lib.hid fun j => by rw [hC]; exact RS_bd (by omega)
  have hmk := made_n n (by omega)
  obtain ⟨q, hq⟩ : ∃ q, n = q + 1 := ⟨n - 1, by omega⟩
  have HG : Hid (∀ (g : Nat) (e : Ending) (w' : World), e = .returned (.slice (some ⟨g, 0, none⟩) n n) → w.heap.size ≤ g → Own w' g n (fun x => if x < q then RS (C x - C (n + x)) (P f) else C x) → Below w.heap.size w w' → ∃ g, e = .returned (.slice (some ⟨g, 0, none⟩) n n) ∧ w.heap.size ≤ g ∧ Own w' g n (fun x => if x < n - 1 then RS (RS (cpar A B x n) (P f) - RS (cpar A B (n + x) n) (P f)) (P f) else RS (cpar A B x n) (P f)) ∧ Below w.heap.size w w') := Lib.hid fun g e w' h1 h2 h3 h4 => ⟨g, h1, h2, by rw [hC] at h3; rw [show n - 1 = q by omega]; exact h3, h4⟩
  have HSL : Hid (∀ g : Nat, ∃ p : Option Addr, (0 < q → p = some ⟨g, n, none⟩) ∧ ∀ w : World, (Instr.slice 22 (.slice (some ⟨g, 0, none⟩) N N) (some (.int .i64 n)) none none).run Tryd.prog w = .ok (.slice p q q) w) := Lib.hid fun g => by
    obtain ⟨i, hi, hzz⟩ := Option.map_eq_some_iff.1 info3
    simp only [Prod.mk.injEq] at hzz
    by_cases hz : q = 0
    · refine ⟨some ⟨g, 0, none⟩, fun h => absurd hz (by omega), fun w => ?_⟩
      have e1 : N = n := by omega
      have e2 : n = 1 := by omega
      subst e1
      simp [Instr.slice, run_underlying Tryd.underlying22, Instr.sliceBounds, Instr.sliceBound, asIntOf, sizeOf, typeInfo, hi, hz]
    · refine ⟨some ⟨g, n, none⟩, fun _ => rfl, fun w => ?_⟩
      have e1 : ¬ N = n := by omega
      have e2 : n ≤ N := by omega
      have e3 : N - n = q := by omega
      simp [Instr.slice, run_underlying Tryd.underlying22, Instr.sliceBounds, Instr.sliceBound, asIntOf, sizeOf, typeInfo, hi, hzz.2.1, e1, e2, e3, Addr.add_lit]
  rw [← hC] at HPR
  have HQ := Lib.hid hq
  have HNN := Lib.hid hN
  clear hc hc2 hA hB hB2 hq hN hC
  go_enter Tryd.func54, Tryd.ntmps54
  go_wp2_with fail
  refine HPR.out.mono ?_
  rintro e w1 ⟨rfl, o1, b1⟩
  have HO1 := Lib.hid o1
  have HS1 := Lib.hid o1.src
  clear o1 HPR
  have hz1 := b1.size
  have hnN : n ≤ N := by have := HNN.out; omega
  go_wp2_with (with_reducible refine wpList_copy_made rfl _ _ rfl n 0 n n N N _ _ C rfl rfl (fun _ => rfl) hnN (by omega) HS1.out ?_)
  intro w2 HO2 b2
  have HO3 : Hid (Own w2 w1.heap.size n C) := Lib.hid (own_congr HO2.out rfl (fun j hj => show _ = C j by simp [hj]))
  have HO4 := Lib.hid (HO1.out.keep b2)
  have b3 := below_up b1 b2 b1.size
  obtain ⟨p, hpp, hsl⟩ := HSL.out w.heap.size
  have HPP := Lib.hid hpp
  have hg1 : w1.heap.size ≠ w.heap.size := by have := HO1.out.lt; omega
  clear hmk HO1 HO2 HS1 b1 b2 hpp HSL
  go_wp2_with fail
  clear hsl
  go_loopw [9, 10, 26] (fun _ _ i wr => ∃ j : Nat, i = .int .i64 j ∧ j ≤ q ∧ Own wr w1.heap.size n (fun x => if x < j then RS (C x - C (n + x)) (P f) else C x) ∧ Own wr w.heap.size N C ∧ Below w.heap.size w wr) (fun _ _ i _ => q - (intOf i).toNat)
  case atStart => exact ⟨0, rfl, Nat.zero_le _, own_congr HO3.out rfl (fun j _ => by simp), HO4.out, b3⟩
  case round =>
    clear HO3 HO4 b3
    obtain ⟨j, rfl, hj, ho, ho1, hb⟩ := hrel
    by_cases h1 : j < q
    · have hjn : j < n := by have := HQ.out; omega
      have hp1 := HPP.out (by omega)
      subst hp1
      have c0 : wr.cell? ⟨w.heap.size, n + j, none⟩ = some (.int .i64 (C (n + j))) := World.rowIs.cell ho1 (by have := HQ.out; have := HNN.out; omega)
      have c1 : wr.cell? ⟨w1.heap.size, j, none⟩ = some (.int .i64 (C j)) := by have := World.rowIs.cell ho hjn; simpa using this
      have c4 := World.rowIs.frozen ho j
      have hd1 : decide ((j : Int) < q) = true := decide_eq_true (by omega)
      have hjn2 : (j : Int) < n := by omega
      have HS : Hid (Own (wr.setCell ⟨w1.heap.size, j, none⟩ (.int .i64 (RS (C j - C (n + j)) (P f)))) w1.heap.size n (fun x => if x < j + 1 then RS (C x - C (n + x)) (P f) else C x)) := Lib.hid ((World.rowIs.set ho j (.int .i64 (RS (C j - C (n + j)) (P f)))).congr fun x _ => by
        by_cases e : x = j
        · subst e; simp
        · by_cases e2 : x < j
          · simp [e, e2, show x < j + 1 by omega]
          · simp [e, e2, show ¬ x < j + 1 by omega])
      have HS2 : Hid (Own (wr.setCell ⟨w1.heap.size, j, none⟩ (.int .i64 (RS (C j - C (n + j)) (P f)))) w.heap.size N C) := Lib.hid (World.rowIs.setOther ho1 (fun e => hg1 e.symm) _)
      have hm1 := HCB.out j
      have hm2 := HCB.out (n + j)
      clear ho ho1
      go_wp2_with fail
      refine (sub_c f (C j) (C (n + j)) wr (ht.below hb) h0 h8 hm1.1 hm1.2 hm2.1 hm2.2).mono ?_
      rintro e w' ⟨rfl, rfl⟩
      go_wp2
      go_roundw
      case rel => exact ⟨j + 1, by go_num, by omega, HS.out, HS2.out, hb.setCell hz1 _⟩
      case measure => simp [intOf]; omega
    · have hd1 : decide ((j : Int) < q) = false := decide_eq_false (by omega)
      obtain rfl : j = q := by omega
      have HF := Lib.hid (HG.out w1.heap.size _ wr rfl hz1 ho hb)
      clear ho ho1 HG
      go_wp2
      go_ret
      exact HF.out
theorem twisted_c (f : Int) (a : Option Addr) (l : List Int) (cap : Nat) (a2 : Option Addr) (m : List Int) (cap2 : Nat) (w : World) (ht : Tab w) (h : TwoOk f l m) (hs : Src w a l.length (lf l)) (hs2 : Src w a2 m.length (lf m)) : Calls Tryd.prog 54 #[.int .i64 f, .slice a l.length cap, .slice a2 m.length cap2] w (OwnG w (twiL f l m)) := by
  obtain ⟨hlm, hl, hm⟩ := h
  have hp := hl.pos
  obtain ⟨b, off, rfl, hlt, hc⟩ := vec_some hs hp.1
  obtain ⟨b2, off2, rfl, hlt2, hc2⟩ := vec_some hs2 hm.pos.1
  rw [← hlm] at hc2 ⊢
  refine (twisted_some f b off b2 off2 l.length cap cap2 (lf l) (lf m) w ht hl.f08.1 hl.f08.2 hp.1 hp.2 hl.lt hm.lt (fun j hj => lf_out m (by omega)) hlt hlt2 hc hc2).mono ?_
  rintro e w' ⟨g, rfl, hg, ho, hb⟩
  exact OwnG.of_own ho (tab_len _ _).symm hg (fun j hj => by unfold twiL; rw [lf_tab, if_pos hj]; exact twi_at (fun t ht => lf_out l ht) (fun t ht => lf_out m (by omega)) hj) hb
theorem iVectorOkB (f : Int) (a : Option Addr) (l : List Int) (cap : Nat) (w : World) (hn : l.length ≤ 1048576) (hs : Src w a l.length (lf l)) (ht : Tab w) : Calls Tryd.prog 15 #[.int .i64 f, .slice a l.length cap] w (BoolP w (mVectorOk f l)) :=
  (iVectorOk f a l cap w hn hs ht).mono fun _ _ h => ⟨h.1, h.2 ▸ Below.refl _ _⟩
theorem sVectorOkB (f : Int) (a : Option Addr) (l : List Int) (cap : Nat) (w : World) (hn : l.length ≤ 1048576) (hs : Src w a l.length (lf l)) : Calls Tryd.prog 13 #[.int .i64 f, .slice a l.length cap] w (BoolP w (mVectorOk f l)) :=
  (sVectorOk f a l cap w hn hs).mono fun _ _ h => ⟨h.1, h.2 ▸ Below.refl _ _⟩
theorem iForward (f : Int) (a : Option Addr) (l : List Int) (cap : Nat) (w : World) (hn : l.length ≤ 1048576) (hs : Src w a l.length (lf l)) (ht : Tab w) : Calls Tryd.prog 18 #[.int .i64 f, .slice a l.length cap] w (OwnL w (mForward f l)) := by
  have R1 := iVectorOk f a l cap w hn hs ht
  by_cases h : VecOk f l
  · rw [vok_iff.2 h] at R1
    rw [show mForward f l = fwdL f l by unfold mForward; rw [if_pos h]]
    have HR1 := Lib.hid R1
    have HT := Lib.hid (transform_c f a l cap w ht h hs)
    clear R1 hs h
    go_enter Tryd.func18, Tryd.ntmps18
    go_wp2_with fail
    refine HR1.out.mono ?_
    rintro e w' ⟨rfl, rfl⟩
    go_wp2_with fail
    refine HT.out.mono ?_
    rintro e w1 h1
    have HR := Lib.hid h1.own
    obtain ⟨g, rfl, _⟩ := h1
    go_wp2
    go_ret
    exact HR.out
  · rw [vok_not.2 h] at R1
    rw [show mForward f l = [] by unfold mForward; rw [if_neg h]]
    have HR1 := Lib.hid R1
    clear R1 hs h
    go_enter Tryd.func18, Tryd.ntmps18
    go_wp2_with fail
    refine HR1.out.mono ?_
    rintro e w' ⟨rfl, rfl⟩
    go_wp2
    go_ret
    exact ⟨none, 0, rfl, OwnA.nil rfl, Below.refl _ _⟩
theorem iBackward (f : Int) (a : Option Addr) (l : List Int) (cap : Nat) (w : World) (hn : l.length ≤ 1048576) (hs : Src w a l.length (lf l)) (ht : Tab w) : Calls Tryd.prog 22 #[.int .i64 f, .slice a l.length cap] w (OwnL w (mBackward f l)) := by
  have R1 := iVectorOk f a l cap w hn hs ht
  by_cases h : VecOk f l
  · rw [vok_iff.2 h] at R1
    rw [show mBackward f l = bwdL f l by unfold mBackward; rw [if_pos h]]
    have HR1 := Lib.hid R1
    have HT := Lib.hid (transformBack_c f a l cap w ht h hs)
    clear R1 hs h
    go_enter Tryd.func22, Tryd.ntmps22
    go_wp2_with fail
    refine HR1.out.mono ?_
    rintro e w' ⟨rfl, rfl⟩
    go_wp2_with fail
    refine HT.out.mono ?_
    rintro e w1 h1
    have HR := Lib.hid h1.own
    obtain ⟨g, rfl, _⟩ := h1
    go_wp2
    go_ret
    exact HR.out
  · rw [vok_not.2 h] at R1
    rw [show mBackward f l = [] by unfold mBackward; rw [if_neg h]]
    have HR1 := Lib.hid R1
    clear R1 hs h
    go_enter Tryd.func22, Tryd.ntmps22
    go_wp2_with fail
    refine HR1.out.mono ?_
    rintro e w' ⟨rfl, rfl⟩
    go_wp2
    go_ret
    exact ⟨none, 0, rfl, OwnA.nil rfl, Below.refl _ _⟩
theorem iPointwise (f : Int) (a : Option Addr) (l : List Int) (cap : Nat) (a2 : Option Addr) (m : List Int) (cap2 : Nat) (w : World) (hn : l.length ≤ 1048576) (hn2 : m.length ≤ 1048576) (hs : Src w a l.length (lf l)) (hs2 : Src w a2 m.length (lf m)) (ht : Tab w) : Calls Tryd.prog 24 #[.int .i64 f, .slice a l.length cap, .slice a2 m.length cap2] w (OwnL w (mPointwise f l m)) := by
  have R1 := areVectors_c f a a2 l m cap cap2 w hn hn2 hs hs2 ht
  by_cases h : TwoOk f l m
  · rw [two_iff.2 h] at R1
    rw [show mPointwise f l m = ptwL f l m by unfold mPointwise; rw [if_pos h]]
    have HR1 := Lib.hid R1
    have HT := Lib.hid (pointwise_c f a l cap a2 m cap2 w hs hs2 ht h)
    clear R1 hs hs2 h
    go_enter Tryd.func24, Tryd.ntmps24
    go_wp2_with fail
    refine HR1.out.mono ?_
    rintro e w' ⟨rfl, rfl⟩
    go_wp2_with fail
    refine HT.out.mono ?_
    rintro e w1 h1
    have HR := Lib.hid h1.own
    obtain ⟨g, rfl, _⟩ := h1
    go_wp2
    go_ret
    exact HR.out
  · rw [two_not.2 h] at R1
    rw [show mPointwise f l m = [] by unfold mPointwise; rw [if_neg h]]
    have HR1 := Lib.hid R1
    clear R1 hs hs2 h
    go_enter Tryd.func24, Tryd.ntmps24
    go_wp2_with fail
    refine HR1.out.mono ?_
    rintro e w' ⟨rfl, rfl⟩
    go_wp2
    go_ret
    exact ⟨none, 0, rfl, OwnA.nil rfl, Below.refl _ _⟩
theorem iCyclic (f : Int) (a : Option Addr) (l : List Int) (cap : Nat) (a2 : Option Addr) (m : List Int) (cap2 : Nat) (w : World) (hn : l.length ≤ 1048576) (hn2 : m.length ≤ 1048576) (hs : Src w a l.length (lf l)) (hs2 : Src w a2 m.length (lf m)) (ht : Tab w) : Calls Tryd.prog 26 #[.int .i64 f, .slice a l.length cap, .slice a2 m.length cap2] w (OwnL w (mCyclic f l m)) := by
  have R1 := areVectors_c f a a2 l m cap cap2 w hn hn2 hs hs2 ht
  by_cases h : TwoOk f l m
  · rw [two_iff.2 h] at R1
    rw [show mCyclic f l m = cycL f l m by unfold mCyclic; rw [if_pos h]]
    have HR1 := Lib.hid R1
    have HT := Lib.hid (cyclic_c f a l cap a2 m cap2 w ht h hs hs2)
    clear R1 hs hs2 h
    go_enter Tryd.func26, Tryd.ntmps26
    go_wp2_with fail
    refine HR1.out.mono ?_
    rintro e w' ⟨rfl, rfl⟩
    go_wp2_with fail
    refine HT.out.mono ?_
    rintro e w1 h1
    have HR := Lib.hid h1.own
    obtain ⟨g, rfl, _⟩ := h1
    go_wp2
    go_ret
    exact HR.out
  · rw [two_not.2 h] at R1
    rw [show mCyclic f l m = [] by unfold mCyclic; rw [if_neg h]]
    have HR1 := Lib.hid R1
    clear R1 hs hs2 h
    go_enter Tryd.func26, Tryd.ntmps26
    go_wp2_with fail
    refine HR1.out.mono ?_
    rintro e w' ⟨rfl, rfl⟩
    go_wp2
    go_ret
    exact ⟨none, 0, rfl, OwnA.nil rfl, Below.refl _ _⟩
theorem iTwisted (f : Int) (a : Option Addr) (l : List Int) (cap : Nat) (a2 : Option Addr) (m : List Int) (cap2 : Nat) (w : World) (hn : l.length ≤ 1048576) (hn2 : m.length ≤ 1048576) (hs : Src w a l.length (lf l)) (hs2 : Src w a2 m.length (lf m)) (ht : Tab w) : Calls Tryd.prog 28 #[.int .i64 f, .slice a l.length cap, .slice a2 m.length cap2] w (OwnL w (mTwisted f l m)) := by
  have R1 := areVectors_c f a a2 l m cap cap2 w hn hn2 hs hs2 ht
  by_cases h : TwoOk f l m
  · rw [two_iff.2 h] at R1
    rw [show mTwisted f l m = twiL f l m by unfold mTwisted; rw [if_pos h]]
    have HR1 := Lib.hid R1
    have HT := Lib.hid (twisted_c f a l cap a2 m cap2 w ht h hs hs2)
    clear R1 hs hs2 h
    go_enter Tryd.func28, Tryd.ntmps28
    go_wp2_with fail
    refine HR1.out.mono ?_
    rintro e w' ⟨rfl, rfl⟩
    go_wp2_with fail
    refine HT.out.mono ?_
    rintro e w1 h1
    have HR := Lib.hid h1.own
    obtain ⟨g, rfl, _⟩ := h1
    go_wp2
    go_ret
    exact HR.out
  · rw [two_not.2 h] at R1
    rw [show mTwisted f l m = [] by unfold mTwisted; rw [if_neg h]]
    have HR1 := Lib.hid R1
    clear R1 hs hs2 h
    go_enter Tryd.func28, Tryd.ntmps28
    go_wp2_with fail
    refine HR1.out.mono ?_
    rintro e w' ⟨rfl, rfl⟩
    go_wp2
    go_ret
    exact ⟨none, 0, rfl, OwnA.nil rfl, Below.refl _ _⟩
theorem iCorrelate (f : Int) (a : Option Addr) (l : List Int) (cap : Nat) (a2 : Option Addr) (m : List Int) (cap2 : Nat) (w : World) (hn : l.length ≤ 1048576) (hn2 : m.length ≤ 1048576) (hs : Src w a l.length (lf l)) (hs2 : Src w a2 m.length (lf m)) (ht : Tab w) : Calls Tryd.prog 36 #[.int .i64 f, .slice a l.length cap, .slice a2 m.length cap2] w (OwnL w (mCorrelate f l m)) := by
  have R1 := areVectors_c f a a2 l m cap cap2 w hn hn2 hs hs2 ht
  by_cases h : TwoOk f l m
  · rw [two_iff.2 h] at R1
    rw [show mCorrelate f l m = corL f l m by unfold mCorrelate; rw [if_pos h]]
    have HR1 := Lib.hid R1
    have hml := mirL_len l
    have HMR := Lib.hid (mirrored_c a l cap w h.2.1.pos.1 hn hs)
    have HT : Hid (∀ (g : Nat) (w1 : World), Below w.heap.size w w1 → Own w1 g (mirL l).length (lf (mirL l)) → Calls Tryd.prog 53 #[.int .i64 f, .slice (some ⟨g, 0, none⟩) (mirL l).length (mirL l).length, .slice a2 m.length cap2] w1 (OwnG w1 (corL f l m))) := Lib.hid fun g w1 hb o1 => by
      have := cyclic_c f (some ⟨g, 0, none⟩) (mirL l) (mirL l).length a2 m cap2 w1 (ht.below hb) ⟨by rw [hml, h.1], h.2.1.mir, h.2.2⟩ o1.src (hs2.keep hb)
      rwa [cor_by_cyc h] at this
    clear R1 hs hs2 h hml
    generalize mirL l = ML at *
    go_enter Tryd.func36, Tryd.ntmps36
    go_wp2_with fail
    refine HR1.out.mono ?_
    rintro e w' ⟨rfl, rfl⟩
    go_wp2_with fail
    refine HMR.out.mono ?_
    rintro e w1 ⟨g, rfl, hg, o1, b1⟩
    have HO1 := Lib.hid o1
    clear o1
    go_wp2_with fail
    refine (HT.out g w1 b1 HO1.out).mono ?_
    rintro e w2 h2
    have HR := Lib.hid (h2.up b1).own
    obtain ⟨g2, rfl, _⟩ := h2
    clear HO1 HT HMR
    go_wp2
    go_ret
    exact HR.out
  · rw [two_not.2 h] at R1
    rw [show mCorrelate f l m = [] by unfold mCorrelate; rw [if_neg h]]
    have HR1 := Lib.hid R1
    clear R1 hs hs2 h
    go_enter Tryd.func36, Tryd.ntmps36
    go_wp2_with fail
    refine HR1.out.mono ?_
    rintro e w' ⟨rfl, rfl⟩
    go_wp2
    go_ret
    exact ⟨none, 0, rfl, OwnA.nil rfl, Below.refl _ _⟩
theorem iEnergy (f : Int) (a : Option Addr) (l : List Int) (cap : Nat) (w : World) (hn : l.length ≤ 1048576) (hs : Src w a l.length (lf l)) (ht : Tab w) : Calls Tryd.prog 32 #[.int .i64 f, .slice a l.length cap] w (IntP w (mEnergy f l)) := by
  have R1 := iVectorOk f a l cap w hn hs ht
  by_cases h : VecOk f l
  · rw [vok_iff.2 h] at R1
    have hml := mirL_len l
    have hpos := h.pos
    have HMR := Lib.hid (mirrored_c a l cap w hpos.1 hn hs)
    have HT : Hid (∀ (g : Nat) (w1 : World), Below w.heap.size w w1 → Own w1 g (mirL l).length (lf (mirL l)) → Calls Tryd.prog 61 #[.int .i64 f, .slice a l.length cap, .slice (some ⟨g, 0, none⟩) (mirL l).length (mirL l).length] w1 (IntP w1 (mEnergy f l))) := Lib.hid fun g w1 hb o1 => by
      have := iDot f a (some ⟨g, 0, none⟩) l.length (mirL l).length cap (mirL l).length (lf l) (lf (mirL l)) w1 (ht.below hb) (by omega) (by omega) (hs.keep hb) o1.src
      have e : mDot f (lf l) (lf (mirL l)) l.length (mirL l).length = mEnergy f l := by
        rw [mDot, if_pos ⟨h.f08, by omega, by omega⟩, hml, Nat.min_self, dot_sumP h.f08.1 h.f08.2]
        unfold mEnergy
        rw [if_pos h]
        congr 1
        unfold enF
        exact sumN_congr fun i hi => by rw [lf_mirL hi]
      rwa [e] at this
    have HR1 := Lib.hid R1
    clear R1 hs h hml
    generalize mirL l = ML at *
    go_enter Tryd.func32, Tryd.ntmps32
    go_wp2_with fail
    refine HR1.out.mono ?_
    rintro e w' ⟨rfl, rfl⟩
    go_wp2_with fail
    refine HMR.out.mono ?_
    rintro e w1 ⟨g, rfl, hg, o1, b1⟩
    have HO1 := Lib.hid o1
    clear o1
    go_wp2_with fail
    refine (HT.out g w1 b1 HO1.out).mono ?_
    rintro e w2 ⟨rfl, b2⟩
    have b3 := below_up b1 b2 b1.size
    clear HO1 HT HMR
    go_wp2
    go_ret
    exact ⟨rfl, b3⟩
  · rw [vok_not.2 h] at R1
    rw [show mEnergy f l = -1 by unfold mEnergy; rw [if_neg h]]
    have HR1 := Lib.hid R1
    clear R1 hs h
    go_enter Tryd.func32, Tryd.ntmps32
    go_wp2_with fail
    refine HR1.out.mono ?_
    rintro e w' ⟨rfl, rfl⟩
    go_wp2
    go_ret
    exact ⟨rfl, Below.refl _ _⟩
theorem iRotate (f : Int) (a : Option Addr) (l : List Int) (cap : Nat) (r : Int) (w : World) (hn : l.length ≤ 1048576) (hs : Src w a l.length (lf l)) (ht : Tab w) : Calls Tryd.prog 34 #[.int .i64 f, .slice a l.length cap, .int .i64 r] w (OwnL w (mRotate f l r)) := by
  have R1 := iVectorOk f a l cap w hn hs ht
  by_cases h : VecOk f l
  · rw [vok_iff.2 h] at R1
    rw [show mRotate f l r = rotL l r by unfold mRotate; rw [if_pos h]]
    have hpos := h.pos
    obtain ⟨b, off, rfl, hlt, hc⟩ := vec_some hs hpos.1
    have HRS : Hid (Calls Tryd.prog 64 #[.int .i64 r, .int .i64 l.length] w fun e w' => e = .returned (.int .i64 (turnN l.length r : Nat)) ∧ w = w') := Lib.hid (by
      have := residue_c r l.length w (by omega) (by omega)
      rwa [show RS r l.length = (turnN l.length r : Int) by unfold RS turnN; rw [Int.toNat_of_nonneg (Int.emod_nonneg _ (by omega))]] at this)
    have HT := Lib.hid (rotated_some b off l.length cap (turnN l.length r) (lf l) w hpos.1 hn (turn_lt hpos.1 r) hlt hc)
    have HLEN := Lib.hid (rotL_len l r)
    have HLF : Hid (∀ j, j < l.length → rotF l.length (turnN l.length r) (lf l) j = lf (rotL l r) j) := Lib.hid fun j hj => by unfold rotL; rw [lf_tab, if_pos hj]
    have HR1 := Lib.hid R1
    clear R1 hs h hc
    generalize turnN l.length r = c at *
    generalize rotF l.length c (lf l) = F at *
    go_enter Tryd.func34, Tryd.ntmps34
    go_wp2_with fail
    refine HR1.out.mono ?_
    rintro e w' ⟨rfl, rfl⟩
    go_wp2_with fail
    refine HRS.out.mono ?_
    rintro e w' ⟨rfl, rfl⟩
    go_wp2_with fail
    refine HT.out.mono ?_
    rintro e w1 ⟨rfl, o1, b1⟩
    have HR := Lib.hid (OwnG.of_own o1 HLEN.out.symm (Nat.le_refl _) HLF.out b1).own
    clear o1
    go_wp2
    go_ret
    exact HR.out
  · rw [vok_not.2 h] at R1
    rw [show mRotate f l r = [] by unfold mRotate; rw [if_neg h]]
    have HR1 := Lib.hid R1
    clear R1 hs h
    go_enter Tryd.func34, Tryd.ntmps34
    go_wp2_with fail
    refine HR1.out.mono ?_
    rintro e w' ⟨rfl, rfl⟩
    go_wp2
    go_ret
    exact ⟨none, 0, rfl, OwnA.nil rfl, Below.refl _ _⟩
set_option maxHeartbeats 800000 in
theorem iStage (f : Int) (a : Option Addr) (l : List Int) (cap : Nat) (s : Int) (w : World) (hn : l.length ≤ 1048576) (hs : Src w a l.length (lf l)) (ht : Tab w) : Calls Tryd.prog 30 #[.int .i64 f, .slice a l.length cap, .int .i64 s] w (OwnL w (mStage f l s)) := by
  have R1 := iVectorOk f a l cap w hn hs ht
  have hl9 := mLog_le l.length
  by_cases h : VecOk f l
  · rw [vok_iff.2 h] at R1
    have HL := Lib.hid (iLogOf l.length w)
    by_cases hs0 : s < 0
    · rw [show mStage f l s = [] by unfold mStage; rw [if_neg fun hk => by have := hk.2.1; omega]]
      have hd : decide (s < 0) = true := decide_eq_true hs0
      have HR1 := Lib.hid R1
      clear R1 hs h
      go_enter Tryd.func30, Tryd.ntmps30
      go_wp2_with fail
      refine HR1.out.mono ?_
      rintro e w' ⟨rfl, rfl⟩
      go_wp2
      go_ret
      exact ⟨none, 0, rfl, OwnA.nil rfl, Below.refl _ _⟩
    · have hd : decide (s < 0) = false := decide_eq_false hs0
      by_cases hs1 : mLog l.length ≤ s
      · rw [show mStage f l s = [] by unfold mStage; rw [if_neg fun hk => by have := hk.2.2; omega]]
        have hd1 : decide (mLog l.length ≤ s) = true := decide_eq_true hs1
        have HR1 := Lib.hid R1
        clear R1 hs h
        generalize mLog l.length = L at *
        go_enter Tryd.func30, Tryd.ntmps30
        go_wp2_with fail
        refine HR1.out.mono ?_
        rintro e w' ⟨rfl, rfl⟩
        go_wp2_with fail
        refine HL.out.mono ?_
        rintro e w' ⟨rfl, rfl⟩
        go_wp2
        go_ret
        exact ⟨none, 0, rfl, OwnA.nil rfl, Below.refl _ _⟩
      · have hd1 : decide (mLog l.length ≤ s) = false := decide_eq_false hs1
        have hk : okStage f l s := ⟨h, by omega, by omega⟩
        rw [show mStage f l s = stgL f l s.toNat by unfold mStage; rw [if_pos hk]]
        have HT : Hid (Calls Tryd.prog 60 #[.int .i64 f, .slice a l.length cap, .int .i64 s, .int .i64 (s + 1)] w (OwnG w (stgL f l s.toNat))) := Lib.hid (by
          have := levels_c f a l cap s.toNat 1 (s.toNat + 1) w ht h hs rfl (by omega)
          rw [show ((s.toNat : Nat) : Int) = s by omega, show ((s.toNat + 1 : Nat) : Int) = s + 1 by omega] at this
          exact this)
        have HR1 := Lib.hid R1
        have q1 : IntKind.i64.wrap (s + 1) = s + 1 := IntWalk.i64_in _ (by omega)
        clear R1 hs h hk
        generalize mLog l.length = L at *
        go_enter Tryd.func30, Tryd.ntmps30
        go_wp2_with fail
        refine HR1.out.mono ?_
        rintro e w' ⟨rfl, rfl⟩
        go_wp2_with fail
        refine HL.out.mono ?_
        rintro e w' ⟨rfl, rfl⟩
        go_wp2_with fail
        refine HT.out.mono ?_
        rintro e w1 h1
        have HR := Lib.hid h1.own
        obtain ⟨g, rfl, _⟩ := h1
        go_wp2
        go_ret
        exact HR.out
  · rw [vok_not.2 h] at R1
    rw [show mStage f l s = [] by unfold mStage; rw [if_neg fun hk => h hk.1]]
    have HR1 := Lib.hid R1
    clear R1 hs h
    go_enter Tryd.func30, Tryd.ntmps30
    go_wp2_with fail
    refine HR1.out.mono ?_
    rintro e w' ⟨rfl, rfl⟩
    go_wp2
    go_ret
    exact ⟨none, 0, rfl, OwnA.nil rfl, Below.refl _ _⟩
end Go.Proofs.YtnipffmookkkdaaDoor
