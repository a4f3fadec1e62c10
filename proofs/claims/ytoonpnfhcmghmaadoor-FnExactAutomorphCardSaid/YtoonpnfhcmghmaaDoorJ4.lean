/-
  Texts of the proofs of this seat, joined (part 4).
-/
import Derived.Test.YtoonpnfhcmghmaaDoorJ3
namespace Go.Proofs.YtoonpnfhcmghmaaDoor
open Go.RowKit
theorem own_set8 {W : World} {g n s : Nat} {F G : Nat → Int} {x : Int} (h : Own W g n F) (e : ∀ t, t < n → (if t = s then x else F t) = G t) : Own (W.setCell ⟨g, s, none⟩ (.int .i64 x)) g n G :=
  (World.rowIs.set h s (.int .i64 x)).congr fun t ht => by
    rw [← e t ht]
    by_cases hs : t = s
    · simp [hs]
    · simp [hs]
set_option maxRecDepth 100000 in
set_option maxHeartbeats 3200000 in
theorem substitute_on (f r : Int) (b off n cap B : Nat) (A : Nat → Int) (w : World) (ht : Tab w) (h08 : 0 ≤ f ∧ f ≤ 8) (hA : ∀ j, 0 ≤ A j ∧ A j < P f) (n0 : 0 < n) (hn5 : n ≤ 512) (h2 : ∃ k, n = 2 ^ k) (hr : r % 2 ≠ 0) (hB : B = expN n r) (hlt : b < w.heap.size)
    (hc : ∀ j, j < n → w.cell? ⟨b, off + j, none⟩ = some (.int .i64 (A j))) :
    Calls Tryd.prog 54 #[.int .i64 r, .agg #[.int .i64 f, .slice (some ⟨b, off, none⟩) n cap]] w (fun e w' => ∃ g, e = .returned (.agg #[.int .i64 f, .slice (some ⟨g, 0, none⟩) n n]) ∧ w.heap.size ≤ g ∧ Own w' g n (fun t => RS (sgF n A (t * B ^ (n - 1))) (P f)) ∧ Below w.heap.size w w') := by
  have HT : Hid (∀ W, Below w.heap.size w W → Tab W) := Lib.hid fun W hb => ht.below hb
  have HC := Lib.hid hc
  have hBn : B < 2 * n := by rw [hB]; exact expN_lt n0 r
  have hBo : B % 2 = 1 := by rw [hB]; exact expN_odd n0 hr
  have HRES : Hid (RS r (2 * (n : Int)) = (B : Int)) := Lib.hid (by
    rw [hB]
    unfold RS expN turnN
    have e : ((2 * n : Nat) : Int) = 2 * (n : Int) := by omega
    rw [e, Int.toNat_of_nonneg (Int.emod_nonneg _ (by omega))])
  have kz : ((2 * (n : Int)) == 0) = false := by rw [beq_eq_false_iff_ne]; omega
  have kz2 : ¬ (2 * (n : Int)) = 0 := by omega
  have HSTEP : Hid (∀ k t, k < n → t < n → (if t = auQ n B k then auV f n B k A else auP f n B k A (fun _ => 0) t) = auP f n B (k + 1) A (fun _ => 0) t) := Lib.hid fun k t hk ht => au_step (fun _ => 0) n0 h2 hBo hk (hA k) ht
  have HEND : Hid (∀ t, auP f n B n A (fun _ => 0) t = RS (sgF n A (t * B ^ (n - 1))) (P f)) := Lib.hid fun t => au_end f n0 B A _ t
  have HST0 : Hid (∀ t, auP f n B 0 A (fun _ => 0) t = 0) := Lib.hid fun t => au_start f n B A _ t
  have HA := Lib.hid hA
  have hp := P_bd h08.1 h08.2
  obtain ⟨t0, t1, hb2⟩ := two_start8 w (.int .i64 f) (.slice (some ⟨b, off, none⟩) n cap) (.int .i64 0) (.slice none 0 0) 58 58
  have HB0 := Lib.hid t0
  have HB1 := Lib.hid t1
  have HRS : Hid (∀ W, Calls Tryd.prog 102 #[.int .i64 r, .int .i64 (2 * (n : Int))] W fun e w' => e = .returned (.int .i64 (B : Int)) ∧ W = w') := Lib.hid fun W => by
    have := residue_c r (2 * (n : Int)) W (by omega) (by omega)
    rwa [HRES.out] at this
  generalize auP f n B = AU at *
  clear hc hr hB hBo h2 hA ht t0 t1 HRES
  have hmk := made_n n (by omega)
  go_enter Tryd.func54, Tryd.ntmps54
  go_wp2_with fail
  generalize ((w.alloc (.cells #[.int .i64 f, .slice (some ⟨b, off, none⟩) n cap] 58)).alloc (.cells #[.int .i64 0, .slice none 0 0] 58)) = W0 at *
  obtain ⟨z0, z1⟩ := HB0.out.c
  go_wp2_with fail
  refine (size8_c f (some ⟨b, off, none⟩) n cap W0).mono ?_
  rintro e w1 ⟨rfl, b1⟩
  have c1 := below_up hb2 b1 hb2.size
  have t0 := HB0.out.keep b1 HB0.out.lt
  have t1 := HB1.out.keep b1 HB1.out.lt
  have HT0 := Lib.hid t0
  have HT1 := Lib.hid t1
  have hl0 : w.heap.size < w1.heap.size := t0.lt
  have hl1 : w.heap.size + 1 < w1.heap.size := t1.lt
  clear z0 z1 HB0 HB1 t0 t1 b1 hb2
  go_wp2_with fail
  refine (HRS.out w1).mono ?_
  rintro e w' ⟨rfl, rfl⟩
  clear HRS
  have hbm := below_alloc w1 (.cells (madeCells #[.int .i64 0] n) 3)
  have HTM := Lib.hid (HT0.out.keep hbm hl0)
  obtain ⟨z0, z1⟩ := HTM.out.c
  have HOM : Hid (Own (w1.alloc (.cells (madeCells #[.int .i64 0] n) 3)) w1.heap.size n (AU 0 A (fun _ => 0))) := Lib.hid ((World.rowIs_made w1 (.int .i64 0) n 3).congr fun j _ => by rw [HST0.out])
  go_wp2_with fail
  clear hmk z0 z1
  go_loopw [8, 9, 10, 24] (fun _ _ _ i wr => ∃ k : Nat, i = .int .i64 k ∧ k ≤ n ∧ Own wr w1.heap.size n (AU k A (fun _ => 0)) ∧ Below w1.heap.size w1 wr) (fun _ _ _ i _ => n - (intOf i).toNat)
  case atStart => exact ⟨0, rfl, Nat.zero_le _, HOM.out, hbm⟩
  case round =>
    clear HOM HTM hbm
    obtain ⟨k, rfl, hk, ho, hb⟩ := hrel
    by_cases h1 : k < n
    · have hd1 : decide ((k : Int) < n) = true := decide_eq_true (by omega)
      have cw := below_up c1 hb c1.size
      have d1 : wr.cell? ⟨b, off + k, none⟩ = some (.int .i64 (A k)) := (cw.cell (p := ⟨b, off + k, none⟩) hlt).trans (HC.out k h1)
      obtain ⟨z0, z1⟩ := (HT0.out.keep hb hl0).c
      obtain ⟨KM, hKM⟩ : ∃ KM : Nat, KM = k * B := ⟨_, rfl⟩
      have kb : KM ≤ 512 * 1024 := by rw [hKM]; exact Nat.mul_le_mul (by omega) (by omega)
      have km : (k : Int) * (B : Int) = (KM : Int) := by rw [hKM, Int.natCast_mul]
      have hS := fun t => HSTEP.out k t h1
      unfold auQ auV at hS
      rw [← hKM] at hS
      clear hKM
      have hU : KM % (2 * n) < 2 * n := Nat.mod_lt _ (by omega)
      have qc : IntKind.i64.wrap ((k : Int) * (B : Int)) = (KM : Int) := by rw [km]; exact IntWalk.i64_in _ (by omega)
      have tm : (KM : Int).tmod (2 * (n : Int)) = ((KM % (2 * n) : Nat) : Int) := by
        rw [Int.tmod_eq_emod_of_nonneg (by omega), Int.natCast_emod]; rfl
      generalize KM % (2 * n) = U at *
      have q5 : IntKind.i64.wrap ((U : Nat) : Int) = ((U : Nat) : Int) := IntWalk.i64_in _ (by omega)
      by_cases hUn : U < n
      · have hdu : decide ((n : Int) ≤ (U : Int)) = false := decide_eq_false (by omega)
        simp only [if_pos hUn] at hS
        have HS1 := Lib.hid (own_set8 (s := U) (x := A k) ho hS)
        have HS3 := Lib.hid (hb.setCell (p := ⟨w1.heap.size, U, none⟩) (Nat.le_refl _) (.int .i64 (A k)))
        have cU := World.rowIs.cell ho hUn
        have fU := World.rowIs.frozen ho U
        have q2 : ((U : Nat) : Int).toNat = U := by omega
        have q3 : (0 : Int) ≤ ((U : Nat) : Int) := by omega
        have q4 : ((U : Nat) : Int) < n := by omega
        clear ho hS km z0 z1
        generalize AU k A (fun _ => 0) U = OLD at *
        go_wp2
        go_roundw
        case rel => exact ⟨k + 1, by go_num, by omega, HS1.out, HS3.out⟩
        case measure => simp [intOf]; omega
      · have hdu : decide ((n : Int) ≤ (U : Int)) = true := decide_eq_true (by omega)
        simp only [if_neg hUn] at hS
        obtain ⟨Q, hQ⟩ : ∃ Q, Q = U - n := ⟨_, rfl⟩
        rw [← hQ] at hS
        have hQn : Q < n := by omega
        have hak := HA.out k
        have HSB := Lib.hid (sub_c f 0 (A k) wr (HT.out _ cw) h08.1 h08.2 (by omega) (by omega) hak.1 hak.2)
        obtain ⟨X, hX⟩ : ∃ X, RS (0 - A k) (P f) = X := ⟨_, rfl⟩
        rw [hX] at hS HSB
        have HS1 := Lib.hid (own_set8 (s := Q) (x := X) ho hS)
        have HS3 := Lib.hid (hb.setCell (p := ⟨w1.heap.size, Q, none⟩) (Nat.le_refl _) (.int .i64 X))
        have cU := World.rowIs.cell ho hQn
        have fU := World.rowIs.frozen ho Q
        have e1 : (U : Int) - n = (Q : Int) := by omega
        have q2 : ((Q : Nat) : Int).toNat = Q := by omega
        have q3 : (0 : Int) ≤ ((Q : Nat) : Int) := by omega
        have q4 : ((Q : Nat) : Int) < n := by omega
        have q6 : IntKind.i64.wrap ((U : Int) - n) = (Q : Int) := by rw [e1]; exact IntWalk.i64_in _ (by omega)
        clear ho hS km hQ hX
        generalize AU k A (fun _ => 0) Q = OLD at *
        go_wp2_with fail
        refine HSB.out.mono ?_
        rintro e w' ⟨rfl, rfl⟩
        go_wp2
        go_roundw
        case rel => exact ⟨k + 1, by go_num, by omega, HS1.out, HS3.out⟩
        case measure => simp [intOf]; omega
    · have hd1 : decide ((k : Int) < n) = false := decide_eq_false (by omega)
      obtain rfl : k = n := by omega
      have cw := below_up c1 hb c1.size
      obtain ⟨z0, z1⟩ := (HT0.out.keep hb hl0).c
      have r4 := HT1.out.keep hb hl1
      have rr0 := r4.c.1
      have rr1 := r4.c.2
      have rf0 := heap_frozen (j := 0) r4
      have rf1 := heap_frozen (j := 1) r4
      obtain ⟨e0, e1⟩ := store_cells (u := .int .i64 f) (v := .slice (some ⟨w1.heap.size, 0, none⟩) k k) r4
      have ne4 : w1.heap.size ≠ w.heap.size + 1 := by omega
      have HF : Hid (w.heap.size ≤ w1.heap.size ∧ Own ((wr.setCell ⟨w.heap.size + 1, 0, none⟩ (.int .i64 f)).setCell ⟨w.heap.size + 1, 1, none⟩ (.slice (some ⟨w1.heap.size, 0, none⟩) k k)) w1.heap.size k (fun t => RS (sgF k A (t * B ^ (k - 1))) (P f)) ∧ Below w.heap.size w ((wr.setCell ⟨w.heap.size + 1, 0, none⟩ (.int .i64 f)).setCell ⟨w.heap.size + 1, 1, none⟩ (.slice (some ⟨w1.heap.size, 0, none⟩) k k))) := Lib.hid ⟨by omega, own_store (World.rowIs.congr ho fun t _ => by rw [HEND.out]) ne4, below_store cw (by omega)⟩
      clear ho r4 cw
      go_wp2
      refine bodyPost_ret (v := .agg #[.int .i64 f, .slice (some ⟨w1.heap.size, 0, none⟩) k k]) (by simp [results, Tryd.results54, go_sem, *]) rfl ?_
      exact ⟨_, rfl, HF.out⟩
theorem substitute_c (f g : Int) (a : Option Addr) (l : List Int) (cap : Nat) (w : World) (ht : Tab w) (h : VecOk f l) (hg : g % 2 ≠ 0) (hs : Src w a l.length (lf l)) : Calls Tryd.prog 54 #[.int .i64 g, .agg #[.int .i64 f, .slice a l.length cap]] w (OwnVec f w (autL f l (expN l.length g))) := by
  obtain ⟨b, off, rfl, hlt, hc⟩ := vec_some hs h.pos.1
  refine (substitute_on f g b off l.length cap (expN l.length g) (lf l) w ht h.f08 h.lt h.pos.1 h.pos.2 h.pow2 hg rfl hlt hc).mono ?_
  rintro e w' ⟨g4, rfl, hg4, ho, hb⟩
  have hl := autL_len f l (expN l.length g)
  refine ⟨g4, by rw [hl], hg4, ?_, hb⟩
  rw [hl]
  exact World.rowIs.congr ho fun t ht => by unfold autL; rw [lf_tab, if_pos ht]
theorem iAutomorph (f : Int) (a : Option Addr) (l : List Int) (cap : Nat) (g : Int) (w : World) (hn : l.length ≤ 1048576) (hs : Src w a l.length (lf l)) (ht : Tab w) : Calls Tryd.prog 16 #[.int .i64 f, .slice a l.length cap, .int .i64 g] w (OwnL w (mAutomorph f l g)) := by
  have hV := iVectorOk f a l cap w hn hs ht
  by_cases h : VecOk f l
  · rw [vok_iff.2 h] at hV
    have HV := Lib.hid hV
    by_cases hg : g % 2 = 0
    · rw [show mAutomorph f l g = [] by unfold mAutomorph; rw [if_neg fun x => x.2 hg]]
      have hr3 : g.tmod 2 = 0 := odd_tmod.2 hg
      clear hs h hV hg
      go_enter Tryd.func16, Tryd.ntmps16
      go_wp2_with fail
      refine HV.out.mono ?_
      rintro e w' ⟨rfl, rfl⟩
      go_wp2
      go_ret
      exact nil_own w
    · rw [show mAutomorph f l g = autL f l (expN l.length g) by unfold mAutomorph; rw [if_pos ⟨h, hg⟩]]
      have hr2 : (g.tmod 2 == 0) = false := by rw [beq_eq_false_iff_ne]; exact fun h => hg (odd_tmod.1 h)
      have hr3 : ¬ g.tmod 2 = 0 := fun h => hg (odd_tmod.1 h)
      have HO : Hid (∀ W, Below w.heap.size w W → Calls Tryd.prog 54 #[.int .i64 g, .agg #[.int .i64 f, .slice a l.length cap]] W (OwnVec f W (autL f l (expN l.length g)))) := Lib.hid fun W hb => substitute_c f g a l cap W (ht.below hb) h hg (hs.keep hb)
      clear hs h hV hg
      generalize autL f l (expN l.length g) = R at *
      have hfe := field_el
      have hfv := field_vec
      go_enter Tryd.func16, Tryd.ntmps16
      go_wp2_with fail
      refine HV.out.mono ?_
      rintro e w' ⟨rfl, rfl⟩
      go_wp2_with fail
      refine (ringOf_c f a l.length cap w).mono ?_
      rintro e w1 ⟨rfl, b1⟩
      go_wp2_with fail
      refine (HO.out w1 b1).mono ?_
      rintro e w2 h2
      obtain ⟨g2, rfl, h3⟩ := h2.to b1
      have HF := Lib.hid h3
      clear h3 HV HO h2
      go_wp2
      go_ret
      exact HF.out
  · rw [show mAutomorph f l g = [] by unfold mAutomorph; rw [if_neg fun x => h x.1]]
    rw [vok_not.2 h] at hV
    have HV := Lib.hid hV
    clear hs h hV
    go_enter Tryd.func16, Tryd.ntmps16
    go_wp2_with fail
    refine HV.out.mono ?_
    rintro e w' ⟨rfl, rfl⟩
    go_wp2
    go_ret
    exact nil_own w
end Go.Proofs.YtoonpnfhcmghmaaDoor
namespace Go.Proofs.YtoonpnfhcmghmaaDoor
theorem len_mRingOne (f n : Int) : (mRingOne f n).length ≤ 1048576 := by
  unfold mRingOne; split
  · rename_i h
    rcases log_cases n with ⟨k, hk, rfl, _⟩ | ⟨_, hl⟩
    · have : 2 ^ k ≤ 2 ^ 9 := Nat.pow_le_pow_right (by omega) hk
      have e : ((2 : Int) ^ k).toNat = 2 ^ k := by rw [show (2 : Int) ^ k = ((2 ^ k : Nat) : Int) by rw [Int.natCast_pow]; rfl, Int.toNat_natCast]
      rw [oneL_len, e]; omega
    · omega
  · exact Nat.zero_le _
theorem sqS_len (f : Int) : ∀ (n : Nat) (o x : List Int), o.length = x.length → (sqS f o x n).length = o.length := by
  intro n
  induction n using Nat.strongRecOn with
  | _ n ih =>
    intro o x h
    by_cases h0 : n = 0
    · subst h0; rw [sqS_zero]
    · by_cases h1 : n % 2 = 1
      · rw [sqS_odd _ _ _ h1, ih (n / 2) (by omega) _ _ (by rw [twiL_len, twiL_len, h]), twiL_len]
      · rw [sqS_even _ _ _ (by omega) h1, ih (n / 2) (by omega) _ _ (by rw [twiL_len, h])]
theorem len_mRingPower0 (f : Int) (l : List Int) (e : Int) (n : l.length ≤ 1048576) : (mRingPower0 f l e).length ≤ 1048576 := by
  unfold mRingPower0; split
  · rw [sqS_len _ _ _ _ (oneL_len _), oneL_len]; exact n
  · exact Nat.zero_le _
theorem len_mAutomorph (f : Int) (l : List Int) (g : Int) (n : l.length ≤ 1048576) : (mAutomorph f l g).length ≤ 1048576 := by
  unfold mAutomorph; split
  · rw [autL_len]; exact n
  · exact Nat.zero_le _
theorem len_mOddValues (f : Int) (l : List Int) (n : l.length ≤ 1048576) : (mOddValues f l).length ≤ 1048576 := by
  unfold mOddValues; split
  · rw [ovL_len]; exact n
  · exact Nat.zero_le _
end Go.Proofs.YtoonpnfhcmghmaaDoor
namespace Go.Proofs.YtoonpnfhcmghmaaDoor
open Mth
theorem odd_mul {g k : Int} (hg : g % 2 ≠ 0) (hk : k % 2 ≠ 0) : g * k % 2 ≠ 0 := by
  have h1 : g % 2 = 1 := by omega
  have h2 : k % 2 = 1 := by omega
  rw [Int.mul_emod, h1, h2]
  decide
theorem mAut_on {f : Int} {l : List Int} (h : VecOk f l) {g : Int} (hg : g % 2 ≠ 0) : mAutomorph f l g = autL f l (expN l.length g) := by unfold mAutomorph; rw [if_pos ⟨h, hg⟩]
theorem mTwi_on {f : Int} {l m : List Int} (h : TwoOk f l m) : mTwisted f l m = twiL f l m := by unfold mTwisted; rw [if_pos h]
theorem aut_facts {f : Int} {l m : List Int} (h : TwoOk f l m) {g k : Int} (hg : g % 2 ≠ 0) (hk : k % 2 ≠ 0) :
    mAutomorph f (mTwisted f l m) g = mTwisted f (mAutomorph f l g) (mAutomorph f m g) ∧ (mAutomorph f (mTwisted f l m) g).length = l.length ∧ mAutomorph f (mAutomorph f l g) k = mAutomorph f l (g * k) ∧ mAutomorph f l 1 = l := by
  have hn := h.2.1.pos.1
  have e1 : mAutomorph f (mTwisted f l m) g = autL f (twiL f l m) (expN l.length g) := by
    rw [mTwi_on h, mAut_on h.2.1.twi hg, twiL_len]
  have ha : TwoOk f (autL f l (expN l.length g)) (autL f m (expN l.length g)) := ⟨by rw [autL_len, autL_len, h.1], h.2.1.aut _, h.2.2.aut _⟩
  refine ⟨?_, ?_, ?_, ?_⟩
  · rw [e1, mAut_on h.2.1 hg, mAut_on h.2.2 hg, ← h.1, mTwi_on ha]
    exact aut_twi h (expN_odd hn hg)
  · rw [e1, autL_len, twiL_len]
  · rw [mAut_on h.2.1 hg, mAut_on (h.2.1.aut _) hk, autL_len, mAut_on h.2.1 (odd_mul hg hk)]
    exact aut_aut h.2.1 hg
  · rw [mAut_on h.2.1 (by decide)]
    exact aut_one h.2.1
theorem odd8_facts {f : Int} {l m : List Int} (h : TwoOk f l m) (hT : mLog l.length + 1 ≤ T f) :
    (mOddValues f (mTwisted f l m)).length = l.length ∧ mOddBack f (mOddValues f l) = l ∧ mPointwise f (mOddValues f l) (mOddValues f m) = mOddValues f (mTwisted f l m) ∧ mNorm f (mTwisted f l m) = mMul f (mNorm f l) (mNorm f m) := by
  have hl : OpenOk f l := ⟨h.2.1, hT⟩
  have hm : OpenOk f m := ⟨h.2.2, by rw [← h.1]; exact hT⟩
  have ht := hl.to h.2.1.twi (twiL_len f l m)
  have h08 := h.2.1.f08
  have eo : ∀ {x}, OpenOk f x → mOddValues f x = ovL f x := fun hx => by unfold mOddValues; rw [if_pos hx]
  have en : ∀ {x}, OpenOk f x → mNorm f x = nmL f x := fun hx => by unfold mNorm; rw [if_pos hx]
  rw [mTwi_on h, eo ht, eo hl, eo hm, en ht, en hl, en hm]
  refine ⟨by rw [ovL_len, twiL_len], ?_, ?_, ?_⟩
  · unfold mOddBack
    rw [if_pos (hl.to h.2.1.ov (ovL_len f l)), back_ov hl]
  · unfold mPointwise
    rw [if_pos ⟨by rw [ovL_len, ovL_len, h.1], h.2.1.ov, h.2.2.ov⟩, ov_prod hl h.1]
  · unfold mMul
    rw [if_pos h08, norm_prod hl h.1]
end Go.Proofs.YtoonpnfhcmghmaaDoor
namespace Go.Proofs.YtoonpnfhcmghmaaDoor
open Go.RowKit
theorem store_block {W : World} {R : Nat} {t : TypeId} {u v x y : Value} (h : TwoB R x y t W) : TwoB R u v t ((W.setCell ⟨R, 0, none⟩ u).setCell ⟨R, 1, none⟩ v) := by
  have r0 : W.rowIs R t 2 (fun j => if j = 0 then x else y) := ⟨#[x, y], h, rfl, fun j hj => by
    rcases (show j = 0 ∨ j = 1 by omega) with rfl | rfl <;> rfl⟩
  obtain ⟨cur, h1, h2, h3⟩ := World.rowIs.set (World.rowIs.set r0 0 u) 1 v
  have e : cur = #[u, v] := by
    have a0 := h3 0 (by omega)
    have a1 := h3 1 (by omega)
    apply Array.ext
    · simpa using h2
    · intro i hi1 hi2
      have hi : i = 0 ∨ i = 1 := by simp at hi2; omega
      rcases hi with rfl | rfl
      · simp at a0; rw [Array.getElem?_eq_getElem (by omega)] at a0; simpa using a0
      · simp at a1; rw [Array.getElem?_eq_getElem (by omega)] at a1; simpa using a1
  rw [e] at h1
  exact h1
theorem TwoB.other {W : World} {s R : Nat} {t : TypeId} {u v x y : Value} (h : TwoB s u v t W) (hne : s ≠ R) : TwoB s u v t ((W.setCell ⟨R, 0, none⟩ x).setCell ⟨R, 1, none⟩ y) :=
  ((Below.heap_setCell _ ⟨R, 1, none⟩ y s hne).trans (Below.heap_setCell _ ⟨R, 0, none⟩ x s hne)).trans h
theorem src_store {W : World} {a : Option Addr} {n R : Nat} {F : Nat → Int} {u v : Value} (h : Src W a n F) (ho : ∀ p, a = some p → p.block ≠ R) : Src ((W.setCell ⟨R, 0, none⟩ u).setCell ⟨R, 1, none⟩ v) a n F := by
  rcases h with h | ⟨b, off, rfl, hlt, hc⟩
  · exact .inl h
  · have hne : b ≠ R := ho _ rfl
    refine .inr ⟨b, off, rfl, by simpa using hlt, fun j hj => ?_⟩
    rw [cell_set8 hne, cell_set8 hne]
    exact hc j hj
theorem src_lies {w : World} {a : Option Addr} {n : Nat} {F : Nat → Int} (h : Src w a n F) (hn : 0 < n) : ∀ p, a = some p → p.block < w.heap.size := by
  rcases h with h | ⟨b, off, rfl, hlt, _⟩
  · omega
  · intro p hp; cases hp; exact hlt
set_option maxRecDepth 100000 in
set_option maxHeartbeats 3200000 in
theorem times_c (f : Int) (a a2 : Option Addr) (l m : List Int) (cap cap2 : Nat) (w : World) (ht : Tab w) (h : TwoOk f l m) (hs : Src w a l.length (lf l)) (hs2 : Src w a2 m.length (lf m)) : Calls Tryd.prog 121 #[.agg #[.int .i64 f, .slice a l.length cap], .agg #[.int .i64 f, .slice a2 m.length cap2]] w (OwnVec f w (twiL f l m)) := by
  have HTW : Hid (∀ W, Below w.heap.size w W → Calls Tryd.prog 57 #[.int .i64 f, .slice a l.length cap, .slice a2 m.length cap2] W (OwnG W (twiL f l m))) := Lib.hid fun W hb => twisted_c f a l cap a2 m cap2 W (ht.below hb) h (hs.keep hb) (hs2.keep hb)
  clear hs hs2 h ht
  generalize twiL f l m = R at *
  generalize l.length = n at *
  generalize m.length = n2 at *
  obtain ⟨t0, t1, hb1⟩ := two_start8 w (.int .i64 f) (.slice a n cap) (.int .i64 f) (.slice a2 n2 cap2) 58 58
  have hz : ((w.alloc (.cells #[.int .i64 f, .slice a n cap] 58)).alloc (.cells #[.int .i64 f, .slice a2 n2 cap2] 58)).heap.size = w.heap.size + 2 := by simp
  generalize hV : ((w.alloc (.cells #[.int .i64 f, .slice a n cap] 58)).alloc (.cells #[.int .i64 f, .slice a2 n2 cap2] 58)) = V at *
  have t2 := twoB_new V (.int .i64 0) (.slice none 0 0) 58
  have hb2 := below_alloc V (.cells #[.int .i64 0, .slice none 0 0] 58)
  have t0' := t0.keep hb2 t0.lt
  have t1' := t1.keep hb2 t1.lt
  have hbw := below_up hb1 hb2 hb1.size
  rw [hz] at t2
  rw [← hV] at t0' t1' t2 hbw
  have HK := Lib.hid (FourT.mk t0'.c t1'.c)
  have HB2 := Lib.hid t2
  have hlt0 : w.heap.size + 1 < V.heap.size := t1.lt
  clear t0 t1 t2 t0' t1' hb1 hb2 hz hV hlt0
  go_enter Tryd.func121, Tryd.ntmps121
  go_wp2_with fail
  generalize (((w.alloc (.cells #[.int .i64 f, .slice a n cap] 58)).alloc (.cells #[.int .i64 f, .slice a2 n2 cap2] 58)).alloc (.cells #[.int .i64 0, .slice none 0 0] 58)) = W0 at *
  have kk := HK.out
  have kkd : FourT w.heap.size (w.heap.size + 1) (.int .i64 f) (.slice a n cap) (.int .i64 f) (.slice a2 n2 cap2) W0.drew := kk
  have c3d : Below w.heap.size w W0.drew := hbw.drew
  have r3d : TwoB (w.heap.size + 2) (.int .i64 0) (.slice none 0 0) 58 W0.drew := HB2.out
  have l3d := r3d.lt
  have HPP := Lib.hid (HTW.out _ c3d)
  clear HTW
  go_region_held3 (fun W => W.cell? ⟨w.heap.size, 0, none⟩ = some (.int .i64 f) ∧ W.cell? ⟨w.heap.size, 1, none⟩ = some (.slice a n cap) ∧ W.cell? ⟨w.heap.size + 1, 0, none⟩ = some (.int .i64 f) ∧ W.cell? ⟨w.heap.size + 1, 1, none⟩ = some (.slice a2 n2 cap2))
    (first | exact kk | exact kkd | exact kk4 | exact kk4.store2 _ _ (by omega) (by omega) | go_keep)
    (first
      | (go_at_call 57; refine HPP.out.mono ?_; rintro e w4 ⟨g4, rfl, hg4, o4, b4⟩; have kk4 := kkd.keep b4 (by omega) (by omega); have c4 := below_up c3d b4 c3d.size; have r4 := r3d.keep b4 l3d; have rr0 := r4.c.1; have rr1 := r4.c.2; have rf0 := heap_frozen (j := 0) r4; have rf1 := heap_frozen (j := 1) r4; have ne4 : g4 ≠ w.heap.size + 2 := (by omega); have HO4 := Lib.hid o4))
  obtain ⟨e0, e1⟩ := store_cells (u := .int .i64 f) (v := .slice (some ⟨g4, 0, none⟩) R.length R.length) r4
  have HF : Hid (OwnVec f w R (.returned (.agg #[.int .i64 f, .slice (some ⟨g4, 0, none⟩) R.length R.length])) ((w4.setCell ⟨w.heap.size + 2, 0, none⟩ (.int .i64 f)).setCell ⟨w.heap.size + 2, 1, none⟩ (.slice (some ⟨g4, 0, none⟩) R.length R.length))) := Lib.hid ⟨g4, rfl, Nat.le_trans c3d.size hg4, own_store HO4.out ne4, below_store c4 (by omega)⟩
  clear kk kkd kk4 r4 rr0 rr1 rf0 rf1 HO4 c4 c3d b4 r3d
  generalize ((w4.setCell ⟨w.heap.size + 2, 0, none⟩ (.int .i64 f)).setCell ⟨w.heap.size + 2, 1, none⟩ (.slice (some ⟨g4, 0, none⟩) R.length R.length)) = W5 at *
  go_wp2
  refine bodyPost_ret (v := .agg #[.int .i64 f, .slice (some ⟨g4, 0, none⟩) R.length R.length]) (by simp [results, Tryd.results121, go_sem, *]) rfl ?_
  exact HF.out
/-- Between two rounds of squaring; s: the heap's size at the call. -/
def SqAt (f : Int) (w : World) (N g1 : Nat) (R : List Int) (t : TypeId) (kk : Int) (wr : World) : Prop :=
  ∃ (gO cx : Nat) (ax : Option Addr) (O X : List Int), Hid (RPow f N R O X kk) ∧ TwoB (w.heap.size + 3) (.int .i64 f) (.slice (some ⟨gO, 0, none⟩) O.length O.length) t wr ∧ TwoB (w.heap.size + 1) (.int .i64 f) (.slice ax X.length cx) t wr ∧ TwoB (w.heap.size + 2) (.int .i64 0) (.slice none 0 0) t wr ∧ Own wr gO O.length (lf O) ∧ Src wr ax X.length (lf X) ∧ (gO = g1 ∨ w.heap.size + 3 < gO) ∧ (∀ p, ax = some p → p.block < w.heap.size ∨ w.heap.size + 3 < p.block) ∧ Below w.heap.size w wr
theorem four_start8 (w : World) (u v u1 v1 u2 v2 u3 v3 : Value) (t : TypeId) :
    TwoB (w.heap.size + 1) u1 v1 t ((((w.alloc (.cells #[u, v] t)).alloc (.cells #[u1, v1] t)).alloc (.cells #[u2, v2] t)).alloc (.cells #[u3, v3] t)) ∧ TwoB (w.heap.size + 2) u2 v2 t ((((w.alloc (.cells #[u, v] t)).alloc (.cells #[u1, v1] t)).alloc (.cells #[u2, v2] t)).alloc (.cells #[u3, v3] t)) ∧ TwoB (w.heap.size + 3) u3 v3 t ((((w.alloc (.cells #[u, v] t)).alloc (.cells #[u1, v1] t)).alloc (.cells #[u2, v2] t)).alloc (.cells #[u3, v3] t)) ∧ Below w.heap.size w ((((w.alloc (.cells #[u, v] t)).alloc (.cells #[u1, v1] t)).alloc (.cells #[u2, v2] t)).alloc (.cells #[u3, v3] t)) := by
  obtain ⟨_, a1, b1⟩ := two_start8 w u v u1 v1 t t
  have hz : ((w.alloc (.cells #[u, v] t)).alloc (.cells #[u1, v1] t)).heap.size = w.heap.size + 2 := by simp
  generalize ((w.alloc (.cells #[u, v] t)).alloc (.cells #[u1, v1] t)) = V at *
  obtain ⟨a2, a3, b2⟩ := two_start8 V u2 v2 u3 v3 t t
  rw [hz] at a2 a3
  exact ⟨a1.keep b2 a1.lt, a2, a3, below_up b1 b2 b1.size⟩
end Go.Proofs.YtoonpnfhcmghmaaDoor
namespace Go.Proofs.YtoonpnfhcmghmaaDoor
open Go.RowKit
set_option maxRecDepth 100000 in
set_option maxHeartbeats 6400000 in
theorem bySqRing_c (f e : Int) (g1 : Nat) (a2 : Option Addr) (l : List Int) (c2 : Nat) (w : World) (ht : Tab w) (h : VecOk f l) (e0 : 0 ≤ e) (e1 : e ≤ 1000000) (hs1 : Own w g1 (oneL l.length).length (lf (oneL l.length))) (hs2 : Src w a2 l.length (lf l)) :
    Calls Tryd.prog 119 #[.agg #[.int .i64 f, .slice (some ⟨g1, 0, none⟩) (oneL l.length).length (oneL l.length).length], .agg #[.int .i64 f, .slice a2 l.length c2], .int .i64 e, .func (.func 121) #[] #[]] w (fun e' w' => ∃ g, e' = .returned (.agg #[.int .i64 f, .slice (some ⟨g, 0, none⟩) (sqS f (oneL l.length) l e.toNat).length (sqS f (oneL l.length) l e.toNat).length]) ∧ (g = g1 ∨ w.heap.size ≤ g) ∧ Own w' g (sqS f (oneL l.length) l e.toNat).length (lf (sqS f (oneL l.length) l e.toNat)) ∧ Below w.heap.size w w') := by
  have HE : Hid (∀ args W, (callFunc 121 args).run Tryd.prog W = .ok (.enter 121 args) W) := Lib.hid fun args W => enters_of Tryd.func121 (by kernel_rfl) rfl args W
  have HT : Hid (∀ W, Below w.heap.size w W → Tab W) := Lib.hid fun W hb => ht.below hb
  have HR0 : Hid (RPow f l.length (sqS f (oneL l.length) l e.toNat) (oneL l.length) l e) := Lib.hid ⟨⟨h.one8, h, oneL_len _, rfl⟩, rfl⟩
  have hl0 := h.pos.1
  have hg1 := hs1.lt
  obtain ⟨t1, t2, t3, hb4⟩ := four_start8 w (.int .i64 f) (.slice (some ⟨g1, 0, none⟩) (oneL l.length).length (oneL l.length).length) (.int .i64 f) (.slice a2 l.length c2) (.int .i64 0) (.slice none 0 0) (.int .i64 f) (.slice (some ⟨g1, 0, none⟩) (oneL l.length).length (oneL l.length).length) 58
  have HST : Hid (SqAt f w l.length g1 (sqS f (oneL l.length) l e.toNat) 58 e ((((w.alloc (.cells #[.int .i64 f, .slice (some ⟨g1, 0, none⟩) (oneL l.length).length (oneL l.length).length] 58)).alloc (.cells #[.int .i64 f, .slice a2 l.length c2] 58)).alloc (.cells #[.int .i64 0, .slice none 0 0] 58)).alloc (.cells #[.int .i64 f, .slice (some ⟨g1, 0, none⟩) (oneL l.length).length (oneL l.length).length] 58))) := Lib.hid ⟨g1, c2, a2, oneL l.length, l, HR0, t3, t1, t2, hs1.keep hb4, hs2.keep hb4, .inl rfl, fun p hp => .inl (src_lies hs2 hl0 p hp), hb4⟩
  clear t1 t2 t3 hb4 hs1 hs2 HR0 ht
  generalize sqS f (oneL l.length) l e.toNat = R at *
  generalize oneL l.length = O1 at *
  have HN : Hid (0 < l.length) := Lib.hid hl0
  clear hl0 h
  generalize l.length = N at *
  go_enter Tryd.func119, Tryd.ntmps119
  go_wp2_with fail
  go_loopw [2] (fun k wr => ∃ kk : Int, k = .int .i64 kk ∧ 0 ≤ kk ∧ kk ≤ 1000000 ∧ SqAt f w N g1 R 58 kk wr) (fun k _ => (intOf k).toNat)
  case atStart => exact ⟨e, rfl, e0, e1, HST.out⟩
  case round =>
    clear HST
    obtain ⟨k, rfl, k0, k1, gO, cx, ax, O, X, HK, r9, r5, r8, oO, sX, hgO, hax, hb⟩ := hrel
    have hl9 := r9.lt
    by_cases hk : 0 < k
    · have HTX : Hid (∀ W, Below w.heap.size w W → Src W ax X.length (lf X) → Calls Tryd.prog 121 #[.agg #[.int .i64 f, .slice ax X.length cx], .agg #[.int .i64 f, .slice ax X.length cx]] W (OwnVec f W (twiL f X X))) := Lib.hid fun W hb2 hs => by
        obtain ⟨⟨hO, hX, h1, h2⟩, _⟩ := HK.out
        exact times_c f ax ax X X cx cx W (HT.out W hb2) ⟨rfl, hX, hX⟩ hs hs
      have HRST : Hid (∀ (g2 : Nat) (O2 : List Int) (W : World), TwoB (w.heap.size + 3) (.int .i64 f) (.slice (some ⟨g2, 0, none⟩) O2.length O2.length) 58 W → TwoB (w.heap.size + 1) (.int .i64 f) (.slice ax X.length cx) 58 W → TwoB (w.heap.size + 2) (.int .i64 0) (.slice none 0 0) 58 W → Own W g2 O2.length (lf O2) → (g2 = g1 ∨ w.heap.size + 3 < g2) → Below w.heap.size w W → RPow f N R O2 (twiL f X X) (k / 2) →
          ∀ (e' : Ending) (w6 : World), OwnVec f W (twiL f X X) e' w6 → ∃ g6, e' = .returned (.agg #[.int .i64 f, .slice (some ⟨g6, 0, none⟩) (twiL f X X).length (twiL f X X).length]) ∧ TwoB (w.heap.size + 1) (.int .i64 f) (.slice ax X.length cx) 58 w6 ∧ Hid (SqAt f w N g1 R 58 (k / 2) ((w6.setCell ⟨w.heap.size + 1, 0, none⟩ (.int .i64 f)).setCell ⟨w.heap.size + 1, 1, none⟩ (.slice (some ⟨g6, 0, none⟩) (twiL f X X).length (twiL f X X).length)))) := Lib.hid (by
        rintro g2 O2 W q9 q5 q8 oO2 hg2 hbW hRP e' w6 ⟨g6, rfl, hg6, o6, b6⟩
        have l9 := q9.lt
        have hg2l := oO2.lt
        refine ⟨g6, rfl, q5.keep b6 q5.lt, Lib.hid ⟨g2, (twiL f X X).length, some ⟨g6, 0, none⟩, O2, twiL f X X, Lib.hid hRP, (q9.keep b6 q9.lt).other (by omega), store_block (q5.keep b6 q5.lt), (q8.keep b6 q8.lt).other (by omega), own_store (oO2.keep b6) (by rcases hg2 with h | h <;> omega), (own_store o6 (by omega)).src, hg2, fun p hp => ?_, below_store (below_up hbW b6 hbW.size) (by omega)⟩⟩
        cases hp
        right
        show w.heap.size + 3 < g6
        omega)
      obtain ⟨z90, z91⟩ := r9.c
      obtain ⟨z50, z51⟩ := r5.c
      by_cases h2 : k % 2 = 1
      · have ek : (k % 2 == 1) = true := by simp [h2]
        have HTO : Hid (Calls Tryd.prog 121 #[.agg #[.int .i64 f, .slice (some ⟨gO, 0, none⟩) O.length O.length], .agg #[.int .i64 f, .slice ax X.length cx]] wr (OwnVec f wr (twiL f O X))) := Lib.hid (by
          obtain ⟨⟨hO, hX, h1, h2⟩, _⟩ := HK.out
          exact times_c f (some ⟨gO, 0, none⟩) ax O X O.length cx wr (HT.out _ hb) ⟨h1.trans h2.symm, hO, hX⟩ oO.src sX)
        have HRP : Hid (RPow f N R (twiL f O X) (twiL f X X) (k / 2)) := Lib.hid (by
          obtain ⟨⟨hO, hX, h1, h3⟩, hq⟩ := HK.out
          refine ⟨⟨hO.twi8, hX.twi8, (twiL_len _ _ _).trans h1, (twiL_len _ _ _).trans h3⟩, ?_⟩
          rw [← hq, sqS_odd f O X (n := k.toNat) (by omega)]
          congr 1
          omega)
        have hE1 := HE.out #[.agg #[.int .i64 f, .slice (some ⟨gO, 0, none⟩) O.length O.length], .agg #[.int .i64 f, .slice ax X.length cx]] wr
        clear h2
        go_wp2_with fail
        refine HTO.out.mono ?_
        rintro e w4 ⟨g4, rfl, hg4, o4, b4⟩
        clear hE1 z90 z91 z50 z51 HTO
        have q9 := r9.keep b4 hl9
        have q5 := r5.keep b4 r5.lt
        have q8 := r8.keep b4 r8.lt
        have sX4 := sX.keep b4
        have rr0 := q9.c.1
        have rr1 := q9.c.2
        have rf0 := heap_frozen (j := 0) q9
        have rf1 := heap_frozen (j := 1) q9
        have s9 := store_block (u := .int .i64 f) (v := .slice (some ⟨g4, 0, none⟩) (twiL f O X).length (twiL f O X).length) q9
        have s5 := q5.other (R := w.heap.size + 3) (x := .int .i64 f) (y := .slice (some ⟨g4, 0, none⟩) (twiL f O X).length (twiL f O X).length) (by omega)
        have s8 := q8.other (R := w.heap.size + 3) (x := .int .i64 f) (y := .slice (some ⟨g4, 0, none⟩) (twiL f O X).length (twiL f O X).length) (by omega)
        have sO := own_store (R := w.heap.size + 3) (u := .int .i64 f) (v := .slice (some ⟨g4, 0, none⟩) (twiL f O X).length (twiL f O X).length) o4 (by omega)
        have sX5 := src_store (R := w.heap.size + 3) (u := .int .i64 f) (v := .slice (some ⟨g4, 0, none⟩) (twiL f O X).length (twiL f O X).length) sX4 (fun p hp => by rcases hax p hp with h | h <;> omega)
        have b5 := below_store (R := w.heap.size + 3) (u := .int .i64 f) (v := .slice (some ⟨g4, 0, none⟩) (twiL f O X).length (twiL f O X).length) (below_up hb b4 hb.size) (by omega)
        clear q9 q5 q8 sX4 r9 r5 r8 oO sX b4
        have hgg : g4 = g1 ∨ w.heap.size + 3 < g4 := .inr (by omega)
        go_upto_region 6 with fail
        generalize ((w4.setCell ⟨w.heap.size + 3, 0, none⟩ (.int .i64 f)).setCell ⟨w.heap.size + 3, 1, none⟩ (.slice (some ⟨g4, 0, none⟩) (twiL f O X).length (twiL f O X).length)) = W5 at *
        clear rr0 rr1 rf0 rf1
        obtain ⟨z50, z51⟩ := s5.c
        have hE2 := HE.out #[.agg #[.int .i64 f, .slice ax X.length cx], .agg #[.int .i64 f, .slice ax X.length cx]] W5
        go_wp2_with fail
        refine (HTX.out W5 b5 sX5).mono ?_
        rintro e w6 h6
        obtain ⟨g6, rfl, q56, HSQ⟩ := HRST.out g4 (twiL f O X) W5 s9 s5 s8 sO hgg b5 HRP.out e w6 h6
        clear hE2 z50 z51 s9 s5 s8 sO sX5 b5 h6 HTX HRST
        have ss0 := q56.c.1
        have ss1 := q56.c.2
        have sf0 := heap_frozen (j := 0) q56
        have sf1 := heap_frozen (j := 1) q56
        clear q56
        go_wp2
        go_roundw
        case rel => exact ⟨k / 2, rfl, by omega, by omega, HSQ.out⟩
        case measure => simp [intOf] <;> omega
      · have ek : (k % 2 == 1) = false := by simp [h2]
        have HRP : Hid (RPow f N R O (twiL f X X) (k / 2)) := Lib.hid (by
          obtain ⟨⟨hO, hX, h1, h3⟩, hq⟩ := HK.out
          refine ⟨⟨hO, hX.twi8, h1, (twiL_len _ _ _).trans h3⟩, ?_⟩
          rw [← hq, sqS_even f O X (n := k.toNat) (by omega) (by omega)]
          congr 1
          omega)
        have hE2 := HE.out #[.agg #[.int .i64 f, .slice ax X.length cx], .agg #[.int .i64 f, .slice ax X.length cx]] wr
        clear h2
        go_wp2_with fail
        refine (HTX.out wr hb sX).mono ?_
        rintro e w6 h6
        obtain ⟨g6, rfl, q56, HSQ⟩ := HRST.out gO O wr r9 r5 r8 oO hgO hb HRP.out e w6 h6
        clear hE2 z50 z51 z90 z91 r9 r5 r8 oO sX hb h6 HTX HRST HK
        have ss0 := q56.c.1
        have ss1 := q56.c.2
        have sf0 := heap_frozen (j := 0) q56
        have sf1 := heap_frozen (j := 1) q56
        clear q56
        go_wp2
        go_roundw
        case rel => exact ⟨k / 2, rfl, by omega, by omega, HSQ.out⟩
        case measure => simp [intOf] <;> omega
    · obtain rfl : k = 0 := by omega
      obtain ⟨z0, z1⟩ := r9.c
      have rr0 := r8.c.1
      have rr1 := r8.c.2
      have rf0 := heap_frozen (j := 0) r8
      have rf1 := heap_frozen (j := 1) r8
      have hq := HK.out.2
      rw [Int.toNat_zero, sqS_zero] at hq
      subst hq
      obtain ⟨e0, e1⟩ := store_cells (u := .int .i64 f) (v := .slice (some ⟨gO, 0, none⟩) O.length O.length) r8
      have ne8 : gO ≠ w.heap.size + 2 := by rcases hgO with h | h <;> omega
      have HF : Hid ((gO = g1 ∨ w.heap.size ≤ gO) ∧ Own ((wr.setCell ⟨w.heap.size + 2, 0, none⟩ (.int .i64 f)).setCell ⟨w.heap.size + 2, 1, none⟩ (.slice (some ⟨gO, 0, none⟩) O.length O.length)) gO O.length (lf O) ∧ Below w.heap.size w ((wr.setCell ⟨w.heap.size + 2, 0, none⟩ (.int .i64 f)).setCell ⟨w.heap.size + 2, 1, none⟩ (.slice (some ⟨gO, 0, none⟩) O.length O.length))) := Lib.hid ⟨by rcases hgO with h | h <;> omega, own_store oO ne8, below_store hb (by omega)⟩
      clear oO sX r9 r5 r8 hgO hax hb HK
      go_wp2
      refine bodyPost_ret (v := .agg #[.int .i64 f, .slice (some ⟨gO, 0, none⟩) O.length O.length]) (by simp [results, Tryd.results119, go_sem, *]) rfl ?_
      exact ⟨gO, rfl, HF.out⟩
end Go.Proofs.YtoonpnfhcmghmaaDoor
namespace Go.Proofs.YtoonpnfhcmghmaaDoor
open Go.RowKit
set_option maxRecDepth 100000 in
set_option maxHeartbeats 3200000 in
theorem one_c (f : Int) (a : Option Addr) (n cap : Nat) (w : World) (n1 : 1 ≤ n) (hn : n ≤ 512) : Calls Tryd.prog 120 #[.agg #[.int .i64 f, .slice a n cap]] w (OwnVec f w (oneL n)) := by
  have HPD : Hid (∀ g W, Own W g [(1 : Int)].length (lf [1]) → Calls Tryd.prog 93 #[.slice (some ⟨g, 0, none⟩) 1 1, .int .i64 n] W (OwnG W (oneL n))) := Lib.hid fun g W ho => by
    have := padded_c (some ⟨g, 0, none⟩) [1] 1 n W n1 (by omega) ho.src
    rwa [pad_one] at this
  generalize oneL n = R at *
  obtain ⟨t0, t1, hb2⟩ := two_start8 w (.int .i64 f) (.slice a n cap) (.int .i64 0) (.slice none 0 0) 58 58
  have HB0 := Lib.hid t0
  have HB1 := Lib.hid t1
  clear t0 t1
  go_enter Tryd.func120, Tryd.ntmps120
  go_wp2_with fail
  generalize ((w.alloc (.cells #[.int .i64 f, .slice a n cap] 58)).alloc (.cells #[.int .i64 0, .slice none 0 0] 58)) = W0 at *
  have kb := HB0.out.c
  have k0 : TwoC w.heap.size (.int .i64 f) (.slice a n cap) W0.drew := kb.drew
  have hl0 : w.heap.size + 1 < W0.heap.size := HB1.out.lt
  have hl0d : w.heap.size + 1 < W0.drew.heap.size := hl0
  have hba := below_alloc W0 (.cells #[.int .i64 1] 3)
  have ka : TwoC w.heap.size (.int .i64 f) (.slice a n cap) (W0.alloc (.cells #[.int .i64 1] 3)).drew := (kb.keep hba (show w.heap.size < W0.heap.size by omega)).drew
  have ra : TwoB (w.heap.size + 1) (.int .i64 0) (.slice none 0 0) 58 (W0.alloc (.cells #[.int .i64 1] 3)).drew := (show TwoB _ _ _ _ (W0.alloc (.cells #[.int .i64 1] 3)) from HB1.out.keep hba hl0)
  have ca : Below w.heap.size w (W0.alloc (.cells #[.int .i64 1] 3)).drew := (below_up hb2 hba hb2.size).drew
  have oa : Own (W0.alloc (.cells #[.int .i64 1] 3)).drew W0.heap.size 1 (lf [1]) := (show Own (W0.alloc (.cells #[.int .i64 1] 3)) W0.heap.size 1 (lf [1]) from own_one W0)
  have hla := ra.lt
  go_region_held3 (fun W => W.cell? ⟨w.heap.size, 0, none⟩ = some (.int .i64 f) ∧ W.cell? ⟨w.heap.size, 1, none⟩ = some (.slice a n cap))
    (first | exact kb | exact k0 | exact ka | exact k1 | exact k2 | exact k4 | exact k4.store2 _ _ (by omega) | go_keep)
    (first
      | (go_at_call 94; refine (poly1_c _ (W0.alloc (.cells #[.int .i64 1] 3)).drew oa).mono ?_; rintro e w1 ⟨g1, rfl, hg1, o1, b1⟩; have k1 := ka.keep b1 (by omega); have c1 := below_up ca b1 ca.size; have r1 := ra.keep b1 hla; have l1 := r1.lt)
      | (go_at_call 101; refine (size8_c f a n cap _).mono ?_; rintro e w2 ⟨rfl, b2⟩; have k2 := k1.keep b2 (by omega); have c2 := below_up c1 b2 c1.size; have r2 := r1.keep b2 l1; have o2 := o1.keep b2; have l2 := r2.lt)
      | (go_at_call 93; refine (HPD.out g1 _ o2).mono ?_; rintro e w4 ⟨g4, rfl, hg4, o4, b4⟩; have k4 := k2.keep b4 (by omega); have c4 := below_up c2 b4 c2.size; have r4 := r2.keep b4 l2; have rr0 := r4.c.1; have rr1 := r4.c.2; have rf0 := heap_frozen (j := 0) r4; have rf1 := heap_frozen (j := 1) r4; have ne4 : g4 ≠ w.heap.size + 1 := (by omega); have HO4 := Lib.hid o4))
  obtain ⟨e0, e1⟩ := store_cells (u := .int .i64 f) (v := .slice (some ⟨g4, 0, none⟩) R.length R.length) r4
  have HF : Hid (OwnVec f w R (.returned (.agg #[.int .i64 f, .slice (some ⟨g4, 0, none⟩) R.length R.length])) ((w4.setCell ⟨w.heap.size + 1, 0, none⟩ (.int .i64 f)).setCell ⟨w.heap.size + 1, 1, none⟩ (.slice (some ⟨g4, 0, none⟩) R.length R.length))) := Lib.hid ⟨g4, rfl, Nat.le_trans c2.size hg4, own_store HO4.out ne4, below_store c4 (by omega)⟩
  clear kb k0 ka k1 k2 k4 r4 rr0 rr1 rf0 rf1 HO4 c4 c2 c1 ca b4 r1 r2 ra b1 b2 o1 o2 oa hba
  generalize ((w4.setCell ⟨w.heap.size + 1, 0, none⟩ (.int .i64 f)).setCell ⟨w.heap.size + 1, 1, none⟩ (.slice (some ⟨g4, 0, none⟩) R.length R.length)) = W5 at *
  go_wp2
  refine bodyPost_ret (v := .agg #[.int .i64 f, .slice (some ⟨g4, 0, none⟩) R.length R.length]) (by simp [results, Tryd.results120, go_sem, *]) rfl ?_
  exact HF.out
set_option maxRecDepth 100000 in
set_option maxHeartbeats 3200000 in
theorem ringPower_c (f e : Int) (a : Option Addr) (l : List Int) (cap : Nat) (w : World) (ht : Tab w) (h : VecOk f l) (e0 : 0 ≤ e) (e1 : e ≤ 1000000) (hs : Src w a l.length (lf l)) : Calls Tryd.prog 73 #[.agg #[.int .i64 f, .slice a l.length cap], .int .i64 e] w (OwnVec f w (sqS f (oneL l.length) l e.toNat)) := by
  have HON : Hid (∀ W, Calls Tryd.prog 120 #[.agg #[.int .i64 f, .slice a l.length cap]] W (OwnVec f W (oneL l.length))) := Lib.hid fun W => one_c f a l.length cap W h.pos.1 h.pos.2
  have HSQ : Hid (∀ g1 W, Below w.heap.size w W → Own W g1 (oneL l.length).length (lf (oneL l.length)) → Calls Tryd.prog 119 #[.agg #[.int .i64 f, .slice (some ⟨g1, 0, none⟩) (oneL l.length).length (oneL l.length).length], .agg #[.int .i64 f, .slice a l.length cap], .int .i64 e, .func (.func 121) #[] #[]] W (fun e' w' => ∃ g, e' = .returned (.agg #[.int .i64 f, .slice (some ⟨g, 0, none⟩) (sqS f (oneL l.length) l e.toNat).length (sqS f (oneL l.length) l e.toNat).length]) ∧ (g = g1 ∨ W.heap.size ≤ g) ∧ Own w' g (sqS f (oneL l.length) l e.toNat).length (lf (sqS f (oneL l.length) l e.toNat)) ∧ Below W.heap.size W w')) := Lib.hid fun g1 W hb ho => bySqRing_c f e g1 a l cap W (ht.below hb) h e0 e1 ho (hs.keep hb)
  clear hs h ht
  generalize sqS f (oneL l.length) l e.toNat = R at *
  generalize oneL l.length = O1 at *
  generalize l.length = n at *
  obtain ⟨t0, t1, hb2⟩ := two_start8 w (.int .i64 f) (.slice a n cap) (.int .i64 0) (.slice none 0 0) 58 58
  have HB0 := Lib.hid t0
  have HB1 := Lib.hid t1
  clear t0 t1
  go_enter Tryd.func73, Tryd.ntmps73
  go_wp2_with fail
  generalize ((w.alloc (.cells #[.int .i64 f, .slice a n cap] 58)).alloc (.cells #[.int .i64 0, .slice none 0 0] 58)) = W0 at *
  have kb := HB0.out.c
  have k0 : TwoC w.heap.size (.int .i64 f) (.slice a n cap) W0.drew := kb.drew
  have c0 : Below w.heap.size w W0.drew := hb2.drew
  have r0 : TwoB (w.heap.size + 1) (.int .i64 0) (.slice none 0 0) 58 W0.drew := HB1.out
  have hl0d := r0.lt
  go_region_held3 (fun W => W.cell? ⟨w.heap.size, 0, none⟩ = some (.int .i64 f) ∧ W.cell? ⟨w.heap.size, 1, none⟩ = some (.slice a n cap))
    (first | exact kb | exact k0 | exact k1 | exact k4 | exact k4.store2 _ _ (by omega) | go_keep)
    (first
      | (go_at_call 120; refine (HON.out _).mono ?_; rintro e w1 ⟨g1, rfl, hg1, o1, b1⟩; have k1 := k0.keep b1 (by omega); have c1 := below_up c0 b1 c0.size; have r1 := r0.keep b1 hl0d; have l1 := r1.lt)
      | (go_at_call 119; refine (HSQ.out g1 _ c1 o1).mono ?_; rintro e w4 ⟨g4, rfl, hg4, o4, b4⟩; have k4 := k1.keep b4 (by omega); have c4 := below_up c1 b4 c1.size; have r4 := r1.keep b4 l1; have rr0 := r4.c.1; have rr1 := r4.c.2; have rf0 := heap_frozen (j := 0) r4; have rf1 := heap_frozen (j := 1) r4; have ne4 : g4 ≠ w.heap.size + 1 := (by rcases hg4 with h | h <;> omega); have ng4 : w.heap.size ≤ g4 := (by rcases hg4 with h | h <;> omega); have HO4 := Lib.hid o4))
  obtain ⟨e0, e1⟩ := store_cells (u := .int .i64 f) (v := .slice (some ⟨g4, 0, none⟩) R.length R.length) r4
  have HF : Hid (OwnVec f w R (.returned (.agg #[.int .i64 f, .slice (some ⟨g4, 0, none⟩) R.length R.length])) ((w4.setCell ⟨w.heap.size + 1, 0, none⟩ (.int .i64 f)).setCell ⟨w.heap.size + 1, 1, none⟩ (.slice (some ⟨g4, 0, none⟩) R.length R.length))) := Lib.hid ⟨g4, rfl, ng4, own_store HO4.out ne4, below_store c4 (by omega)⟩
  clear kb k0 k1 k4 r4 rr0 rr1 rf0 rf1 HO4 c4 c1 b4 r1 b1 o1 HSQ HON hg4
  generalize ((w4.setCell ⟨w.heap.size + 1, 0, none⟩ (.int .i64 f)).setCell ⟨w.heap.size + 1, 1, none⟩ (.slice (some ⟨g4, 0, none⟩) R.length R.length)) = W5 at *
  go_wp2
  refine bodyPost_ret (v := .agg #[.int .i64 f, .slice (some ⟨g4, 0, none⟩) R.length R.length]) (by simp [results, Tryd.results73, go_sem, *]) rfl ?_
  exact HF.out
theorem iRingPower (f : Int) (a : Option Addr) (l : List Int) (cap : Nat) (e : Int) (w : World) (hn : l.length ≤ 1048576) (hs : Src w a l.length (lf l)) (ht : Tab w) : Calls Tryd.prog 34 #[.int .i64 f, .slice a l.length cap, .int .i64 e] w (OwnLB w (mRingPower0 f l e) (mRingPower1 f l e)) := by
  have hV := iVectorOk f a l cap w hn hs ht
  by_cases h : VecOk f l
  · rw [vok_iff.2 h] at hV
    have HV := Lib.hid hV
    by_cases he : 0 ≤ e ∧ e ≤ 1000000
    · have h0 : mRingPower0 f l e = sqS f (oneL l.length) l e.toNat := by unfold mRingPower0; rw [if_pos ⟨h, he⟩]
      have h1 : mRingPower1 f l e = true := by simp only [mRingPower1, decide_eq_true_eq]; exact ⟨h, he⟩
      rw [h0, h1]
      have d1 : decide (e < 0) = false := decide_eq_false (by omega)
      have d2 : decide (1000000 < e) = false := decide_eq_false (by omega)
      have HO : Hid (∀ W, Below w.heap.size w W → Calls Tryd.prog 73 #[.agg #[.int .i64 f, .slice a l.length cap], .int .i64 e] W (OwnVec f W (sqS f (oneL l.length) l e.toNat))) := Lib.hid fun W hb => ringPower_c f e a l cap W (ht.below hb) h he.1 he.2 (hs.keep hb)
      clear hs h hV h0 h1
      generalize sqS f (oneL l.length) l e.toNat = R at *
      have hfe := field_el
      have hfv := field_vec
      go_enter Tryd.func34, Tryd.ntmps34
      go_wp2_with fail
      refine HV.out.mono ?_
      rintro e w' ⟨rfl, rfl⟩
      go_wp2_with fail
      refine (ringOf_c f a l.length cap w).mono ?_
      rintro e w1 ⟨rfl, b1⟩
      go_wp2_with fail
      refine (HO.out w1 b1).mono ?_
      rintro e w2 h2
      obtain ⟨g2, rfl, h3⟩ := h2.to b1
      obtain ⟨a6, c6, he6, o6, b6⟩ := h3
      cases he6
      have HF : Hid (OwnLB w R true (.returned (.tuple #[.slice (some ⟨g2, 0, none⟩) R.length R.length, .bool true])) w2) := Lib.hid ⟨_, _, rfl, o6, b6⟩
      clear o6 b6 h2 HV HO
      go_wp2
      go_ret2
      exact HF.out
    · have h0 : mRingPower0 f l e = [] := by unfold mRingPower0; rw [if_neg fun x => he x.2]
      have h1 : mRingPower1 f l e = false := by simp only [mRingPower1, decide_eq_false_iff_not]; exact fun x => he x.2
      rw [h0, h1]
      by_cases hb1 : e < 0
      · have d1 : decide (e < 0) = true := decide_eq_true hb1
        clear hs h hV h0 h1 he
        go_enter Tryd.func34, Tryd.ntmps34
        go_wp2_with fail
        refine HV.out.mono ?_
        rintro e w' ⟨rfl, rfl⟩
        go_wp2
        go_ret2
        exact ⟨none, 0, rfl, OwnA.nil rfl, Below.refl _ _⟩
      · have d1 : decide (e < 0) = false := decide_eq_false hb1
        have d2 : decide (1000000 < e) = true := decide_eq_true (by omega)
        clear hs h hV h0 h1 he
        go_enter Tryd.func34, Tryd.ntmps34
        go_wp2_with fail
        refine HV.out.mono ?_
        rintro e w' ⟨rfl, rfl⟩
        go_wp2
        go_ret2
        exact ⟨none, 0, rfl, OwnA.nil rfl, Below.refl _ _⟩
  · rw [vok_not.2 h] at hV
    have h0 : mRingPower0 f l e = [] := by unfold mRingPower0; rw [if_neg fun x => h x.1]
    have h1 : mRingPower1 f l e = false := by simp only [mRingPower1, decide_eq_false_iff_not]; exact fun x => h x.1
    rw [h0, h1]
    have HV := Lib.hid hV
    clear hs h h0 h1 hV
    go_enter Tryd.func34, Tryd.ntmps34
    go_wp2_with fail
    refine HV.out.mono ?_
    rintro e w' ⟨rfl, rfl⟩
    go_wp2
    go_ret2
    exact ⟨none, 0, rfl, OwnA.nil rfl, Below.refl _ _⟩
end Go.Proofs.YtoonpnfhcmghmaaDoor
