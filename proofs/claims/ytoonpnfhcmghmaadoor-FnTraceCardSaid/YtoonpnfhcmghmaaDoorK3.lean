/-
  Texts of the proofs of this seat, joined (part 3).
-/
import Derived.RangeFuncBox
import Derived.RangeFuncLeaves
import Derived.RangeFuncCalls
import Derived.Shelf.Abstract
import Derived.OwnWalkIn
import Derived.TacticsInMore
import Derived.LoopNIn
import Derived.LoopIn
import Derived.StillTailTactics
import Derived.Maps.AppendAt
import Derived.BigRegion
import Derived.Outline
import Derived.Deep.CutBlock
import Derived.Deep.CutRange
import Derived.Deep.RegionHeld3
import Derived.Deep.AppendLies
import Derived.Test.YtoonpnfhcmghmaaDoorK2
namespace Go.Proofs.YtoonpnfhcmghmaaDoor
open Mth
/-- n levels from level s on. -/
def lvL (f : Int) (l : List Int) (s : Nat) : Nat → List Int
  | 0 => l
  | n + 1 => stgL f (lvL f l s n) (s + n)
theorem lvL_len (f : Int) (l : List Int) (s n : Nat) : (lvL f l s n).length = l.length := by
  induction n with
  | zero => rfl
  | succ n ih => show (stgL f _ _).length = _; rw [stgL_len, ih]
theorem VecOk.lv {f : Int} {l : List Int} (h : VecOk f l) (s n : Nat) : VecOk f (lvL f l s n) := by
  induction n with
  | zero => exact h
  | succ n ih => exact ih.stg _
theorem lv_lev {f : Int} {l : List Int} {k s : Nat} {X : Nat → Int} (h : VecOk f l) (hk : l.length = 2 ^ k) (hl : Lev f (rootL f l) k s X (lf l)) : ∀ n, s + n ≤ k → Lev f (rootL f l) k (s + n) X (lf (lvL f l s n))
  | 0, _ => hl
  | n + 1, hn => by
    have h1 := lv_lev h hk hl n (by omega)
    have e : rootL f (lvL f l s n) = rootL f l := rootL_len (lvL_len f l s n)
    rw [← e] at h1 ⊢
    exact stage_lev (h.lv s n) (by rw [lvL_len, hk]) (show s + n < k by omega) h1
/-- A level, written place by place, is the list of the level. -/
theorem stp_list {f : Int} {l : List Int} {k q : Nat} (hk : l.length = 2 ^ k) (hq : q < k) (j : Nat) : stp f (rootL f l) (2 ^ q) (2 ^ (k - q - 1)) (lf l) (2 ^ (k - q - 1)) 0 j = lf (stgL f l q) j := by
  have g0 : 0 < 2 ^ q := Nat.pow_pos (by omega)
  have hn : l.length = 2 ^ (k - q - 1) * (2 * 2 ^ q) := by rw [hk, pow_half hq]
  unfold stgL
  rw [lf_tab]
  by_cases hj : j < l.length
  · rw [if_pos hj, stp_end hn _ hj]
    rw [hn, Nat.mul_div_cancel _ (by omega)]
  · rw [if_neg hj]
    unfold stp
    rw [if_neg, lf_out l (by omega)]
    rintro (h1 | ⟨_, h1⟩)
    · omega
    · omega
def permL (l : List Int) (k : Nat) : List Int := tab l.length fun j => lf l (rv j k)
theorem permL_len (l : List Int) (k : Nat) : (permL l k).length = l.length := tab_len _ _
theorem VecOk.perm {f : Int} {l : List Int} (h : VecOk f l) (k : Nat) : VecOk f (permL l k) := h.tab rfl _ fun _ _ => h.lt _
/-- Reversed bits, then all levels: the transform. -/
theorem lv_fwd {f : Int} {l : List Int} {k : Nat} (h : VecOk f l) (hk : l.length = 2 ^ k) : lvL f (permL l k) 0 k = fwdL f l := by
  have hp := permL_len l k
  have hlev : Lev f (rootL f (permL l k)) k 0 (lf l) (lf (permL l k)) := Lev.start fun j hj => by unfold permL; rw [lf_tab, if_pos (by omega)]
  have h1 := lv_lev (h.perm k) (by rw [hp, hk]) hlev k (by omega)
  rw [Nat.zero_add, rootL_len hp] at h1
  exact lev_fwd h ((h.perm k).lv 0 k) hk (by rw [lvL_len, hp]) h1
/-- The numbers at the negated places. -/
def mirL (l : List Int) : List Int := tab l.length fun j => lf l ((l.length - j) % l.length)
theorem mirL_len (l : List Int) : (mirL l).length = l.length := tab_len _ _
theorem lf_mirL {l : List Int} {j : Nat} (h : j < l.length) : lf (mirL l) j = lf l ((l.length - j) % l.length) := by unfold mirL; rw [lf_tab, if_pos h]
theorem VecOk.mir {f : Int} {l : List Int} (h : VecOk f l) : VecOk f (mirL l) := h.tab rfl _ fun _ _ => h.lt _
theorem mir_inv {n i : Nat} (hi : i < n) : (n - (n - i) % n) % n = i := by
  by_cases h : i = 0
  · subst h; rw [Nat.sub_zero, Nat.mod_self, Nat.sub_zero, Nat.mod_self]
  · rw [Nat.mod_eq_of_lt (show n - i < n by omega), show n - (n - i) = i by omega, Nat.mod_eq_of_lt hi]
theorem mir_at {n j k : Nat} (hj : j < n) (hk : k < n) : (n - j) % n = k ↔ j = (n - k) % n := by
  constructor
  · intro h; rw [← h, mir_inv hj]
  · intro h; rw [h, mir_inv hk]
/-- A transform at a negated place is the transform by the inverse root. -/
theorem ft_mirror {f w v : Int} {n : Nat} (h : Rt f w v n) (A : Nat → Int) {j : Nat} (hj : j < n) : ftF w n A ((n - j) % n) % P f = ftF v n A j % P f := by
  unfold ftF
  refine sumN_mod fun t _ => emod_mul_congr rfl ?_
  have e4 : w ^ ((n - j) % n * t) % P f = w ^ ((n - j) * t) % P f := h.exp (by rw [Nat.mul_mod, Nat.mod_mod, ← Nat.mul_mod])
  rw [e4]
  have e5 : (v ^ (j * t) * (v ^ ((n - j) * t) * w ^ ((n - j) * t))) % P f = (v ^ (j * t) * 1) % P f := emod_mul_congr rfl (h.swap.wv _)
  have e6 : v ^ (j * t) * (v ^ ((n - j) * t) * w ^ ((n - j) * t)) = v ^ (n * t) * w ^ ((n - j) * t) := by
    rw [← Int.mul_assoc, ← Int.pow_add, ← Nat.add_mul, Nat.add_sub_cancel' (Nat.le_of_lt hj)]
  have e7 : (v ^ (n * t) * w ^ ((n - j) * t)) % P f = (1 * w ^ ((n - j) * t)) % P f := emod_mul_congr ((h.swap.ord _).2 (Nat.dvd_mul_right n t)) rfl
  rw [Int.mul_one] at e5
  rw [Int.one_mul] at e7
  rw [← e5, e6, e7]
/-- The transform back, as the program makes it. -/
theorem bwd_by_fwd {f : Int} {l : List Int} (h : VecOk f l) {i : Nat} (hi : i < l.length) : RS (lf (mirL (fwdL f l)) i * mPower f l.length (-1)) (P f) = lf (bwdL f l) i := by
  have hf := fwdL_len f l
  rw [lf_mirL (by rw [hf]; exact hi), hf, lf_fwdL (Nat.mod_lt _ (by omega)), lf_bwdL hi, RS]
  have e := ft_mirror h.rt (lf l) hi
  rw [e]
  exact emod_mul_congr (Int.emod_emod_of_dvd _ (Int.dvd_refl _)) rfl
/-- Zeros behind. -/
def padL (l : List Int) (n : Nat) : List Int := tab n (lf l)
theorem padL_len (l : List Int) (n : Nat) : (padL l n).length = n := tab_len _ _
theorem lf_padL (l : List Int) {n : Nat} (h : l.length ≤ n) (j : Nat) : lf (padL l n) j = lf l j := by
  unfold padL
  rw [lf_tab]
  by_cases hj : j < n
  · rw [if_pos hj]
  · rw [if_neg hj, lf_out l (by omega)]
end Go.Proofs.YtoonpnfhcmghmaaDoor
namespace Go.Proofs.YtoonpnfhcmghmaaDoor
open Go.RowKit
theorem mLog_le (n : Int) : mLog n ≤ 9 := by
  rcases log_cases n with ⟨k, hk, _, hl⟩ | ⟨_, hl⟩ <;> omega
set_option maxHeartbeats 800000 in
theorem iVectorOk (f : Int) (a : Option Addr) (l : List Int) (cap : Nat) (w : World) (hn : l.length ≤ 1048576) (hs : Src w a l.length (lf l)) (ht : Tab w) : Calls Tryd.prog 53 #[.int .i64 f, .slice a l.length cap] w (SameB w (mVectorOk f l)) := by
  have hl9 := mLog_le l.length
  by_cases hk : hasK f (mLog l.length)
  · have H1 := Lib.hid (hasRoots_yes f (mLog l.length) w ht hk hl9)
    obtain ⟨h0, h8⟩ := hk.1
    have hv : mVectorOk f l = true ↔ AllIn f l := by
      rw [vok_iff]
      exact ⟨fun h => h.2, fun h => ⟨(hasK_iff f _).1 hk, h⟩⟩
    have H2 := Lib.hid (hasAll_c f a l cap w ht h0 h8 hn hs (mVectorOk f l) hv)
    clear hs hv hk hl9
    have H3 := Lib.hid (iLogOf l.length w)
    generalize mLog l.length = L at *
    go_enter Tryd.func53, Tryd.ntmps53
    go_wp2_with fail
    refine H3.out.mono ?_
    rintro e w' ⟨rfl, rfl⟩
    go_wp2_with fail
    refine H1.out.mono ?_
    rintro e w' ⟨rfl, rfl⟩
    go_wp2_with fail
    refine H2.out.mono ?_
    rintro e w' ⟨rfl, rfl⟩
    go_wp2
    go_ret
    exact ⟨rfl, rfl⟩
  · have H1 := Lib.hid (hasRoots_no f (mLog l.length) w ht (fun h => hk h.1))
    have HB := Lib.hid (vok_not.2 fun h : VecOk f l => hk ((hasK_iff f _).2 h.1))
    clear hs hk hl9
    have H3 := Lib.hid (iLogOf l.length w)
    generalize mLog l.length = L at *
    go_enter Tryd.func53, Tryd.ntmps53
    go_wp2_with fail
    refine H3.out.mono ?_
    rintro e w' ⟨rfl, rfl⟩
    go_wp2_with fail
    refine H1.out.mono ?_
    rintro e w' ⟨rfl, rfl⟩
    go_wp2
    go_ret
    exact ⟨by rw [HB.out]; rfl, rfl⟩
set_option maxHeartbeats 800000 in
theorem areVectors_c (f : Int) (a a2 : Option Addr) (l m : List Int) (cap cap2 : Nat) (w : World) (hn : l.length ≤ 1048576) (hn2 : m.length ≤ 1048576) (hs : Src w a l.length (lf l)) (hs2 : Src w a2 m.length (lf m)) (ht : Tab w) : Calls Tryd.prog 56 #[.int .i64 f, .slice a l.length cap, .slice a2 m.length cap2] w (SameB w (mTwo f l m)) := by
  by_cases he : l.length = m.length
  · have hd : ((l.length : Int) == m.length) = true := by rw [beq_iff_eq]; omega
    have R1 := iVectorOk f a l cap w hn hs ht
    have R2 := iVectorOk f a2 m cap2 w hn2 hs2 ht
    by_cases h1 : VecOk f l
    · rw [vok_iff.2 h1] at R1
      have HM : Hid (mTwo f l m = mVectorOk f m) := Lib.hid (by
        by_cases h2 : VecOk f m
        · rw [vok_iff.2 h2, two_iff.2 ⟨he, h1, h2⟩]
        · rw [vok_not.2 h2, two_not.2 fun h => h2 h.2.2])
      have HR1 := Lib.hid R1
      have HR2 := Lib.hid R2
      clear R1 R2 hs hs2 h1 he
      go_enter Tryd.func56, Tryd.ntmps56
      go_wp2_with fail
      refine HR1.out.mono ?_
      rintro e w' ⟨rfl, rfl⟩
      go_wp2_with fail
      refine HR2.out.mono ?_
      rintro e w' ⟨rfl, rfl⟩
      go_wp2
      go_ret
      exact ⟨by rw [HM.out]; rfl, rfl⟩
    · rw [vok_not.2 h1] at R1
      have HM := Lib.hid (two_not.2 fun h : TwoOk f l m => h1 h.2.1)
      have HR1 := Lib.hid R1
      clear R1 R2 hs hs2 h1 he
      go_enter Tryd.func56, Tryd.ntmps56
      go_wp2_with fail
      refine HR1.out.mono ?_
      rintro e w' ⟨rfl, rfl⟩
      go_wp2
      go_ret
      exact ⟨by rw [HM.out]; rfl, rfl⟩
  · have hd : ((l.length : Int) == m.length) = false := by rw [beq_eq_false_iff_ne]; omega
    have HM := Lib.hid (two_not.2 fun h : TwoOk f l m => he h.1)
    clear hs hs2 he
    go_enter Tryd.func56, Tryd.ntmps56
    go_wp2
    go_ret
    exact ⟨by rw [HM.out]; rfl, rfl⟩
/-- A list of n numbers of which the first k have been put at their places, by a map of places that is one to one. -/
theorem place_set {wr : World} {g n k : Nat} {F : Nat → Int} (q : Nat → Nat) (u : Nat) (hq : ∀ j, j < n → (q j = k ↔ j = u)) (h : Own wr g n (fun j => if q j < k then F (q j) else 0)) :
    Own (wr.setCell ⟨g, u, none⟩ (.int .i64 (F k))) g n (fun j => if q j < k + 1 then F (q j) else 0) := by
  refine (World.rowIs.set h u (.int .i64 (F k))).congr fun j hj => ?_
  by_cases h1 : j = u
  · have := (hq j hj).2 h1
    simp [h1]
    rw [← h1, this]
    simp
  · have h2 : q j ≠ k := fun e => h1 ((hq j hj).1 e)
    by_cases h3 : q j < k
    · simp [h1, h3, show q j < k + 1 by omega]
    · simp [h1, h3, show ¬ q j < k + 1 by omega]
set_option maxRecDepth 100000 in
set_option maxHeartbeats 800000 in
theorem mirrored_some (b off n cap : Nat) (F : Nat → Int) (w : World) (n0 : 0 < n) (hn : n ≤ 1048576) (hlt : b < w.heap.size) (hc : ∀ j, j < n → w.cell? ⟨b, off + j, none⟩ = some (.int .i64 (F j))) :
    Calls Tryd.prog 132 #[.slice (some ⟨b, off, none⟩) n cap] w (CopyP w n (fun j => F ((n - j) % n))) := by
  have HC := Lib.hid hc
  clear hc
  have hmk := made_n n hn
  have kz : ((n : Int) == 0) = false := by rw [beq_eq_false_iff_ne]; omega
  go_enter Tryd.func132, Tryd.ntmps132
  go_wp2_with fail
  clear hmk
  go_loopw [4, 5, 11] (fun _ _ i wr => ∃ j : Nat, i = .int .i64 j ∧ j ≤ n ∧ Own wr w.heap.size n (fun x => if (n - x) % n < j then F ((n - x) % n) else 0) ∧ Below w.heap.size w wr) (fun _ _ i _ => n - (intOf i).toNat)
  case atStart =>
    refine ⟨0, rfl, Nat.zero_le _, ?_, (Below.refl _ _).alloc (Nat.le_refl _) _⟩
    exact (World.rowIs_made w (.int .i64 0) n 3).congr fun j _ => by simp
  case round =>
    obtain ⟨j, rfl, hj, ho, hb⟩ := hrel
    by_cases h1 : j < n
    · have c1 : wr.cell? ⟨b, off + j, none⟩ = some (.int .i64 (F j)) := (hb.cell (p := ⟨b, off + j, none⟩) hlt).trans (HC.out j h1)
      have hd1 : decide ((j : Int) < n) = true := decide_eq_true (by omega)
      have HS := Lib.hid (place_set (fun x => (n - x) % n) ((n - j) % n) (fun x hx => mir_at hx h1) ho)
      have hU : (n - j) % n < n := Nat.mod_lt _ n0
      have c2 := World.rowIs.cell ho hU
      have c3 := World.rowIs.frozen ho ((n - j) % n)
      have tm : ((n : Int) - j).tmod n = (((n - j) % n : Nat) : Int) := by rw [show (n : Int) - j = ((n - j : Nat) : Int) by omega, Int.tmod_eq_emod_of_nonneg (by omega), Int.natCast_emod]
      have qc : IntKind.i64.wrap ((n : Int) - j) = (n : Int) - j := IntWalk.i64_in _ (by omega)
      clear ho
      generalize (n - j) % n = U at *
      go_wp2
      go_roundw
      case rel => exact ⟨j + 1, by go_num, by omega, HS.out, hb.setCell (Nat.le_refl _) _⟩
      case measure => simp [intOf]; omega
    · have hd : decide (j < n) = false := by simpa using h1
      obtain rfl : j = n := by omega
      go_wp2
      go_ret
      exact ⟨rfl, World.rowIs.congr ho (fun x _ => by simp [show (j - x) % j < j from Nat.mod_lt _ n0]), hb⟩
theorem mirrored_c (a : Option Addr) (l : List Int) (cap : Nat) (w : World) (n0 : 0 < l.length) (hn : l.length ≤ 1048576) (hs : Src w a l.length (lf l)) : Calls Tryd.prog 132 #[.slice a l.length cap] w (OwnG w (mirL l)) := by
  obtain ⟨b, off, rfl, hlt, hc⟩ := vec_some hs n0
  refine (mirrored_some b off l.length cap (lf l) w n0 hn hlt hc).mono ?_
  rintro e w' ⟨rfl, ho, hb⟩
  exact OwnG.of_own ho (mirL_len l).symm (Nat.le_refl _) (fun j hj => (lf_mirL hj).symm) hb
set_option maxRecDepth 100000 in
set_option maxHeartbeats 1600000 in
theorem pointwise_some (f : Int) (b off b2 off2 n cap cap2 : Nat) (A B : Nat → Int) (w : World) (ht : Tab w) (h0 : 0 ≤ f) (h8 : f ≤ 8) (hn : n ≤ 1048576) (hA : ∀ j, 0 ≤ A j ∧ A j < P f) (hB : ∀ j, 0 ≤ B j ∧ B j < P f) (hlt : b < w.heap.size) (hlt2 : b2 < w.heap.size)
    (hc : ∀ j, j < n → w.cell? ⟨b, off + j, none⟩ = some (.int .i64 (A j))) (hc2 : ∀ j, j < n → w.cell? ⟨b2, off2 + j, none⟩ = some (.int .i64 (B j))) :
    Calls Tryd.prog 64 #[.int .i64 f, .slice (some ⟨b, off, none⟩) n cap, .slice (some ⟨b2, off2, none⟩) n cap2] w (CopyP w n (fun j => RS (A j * B j) (P f))) := by
  have HC := Lib.hid hc
  have HC2 := Lib.hid hc2
  have HA := Lib.hid hA
  have HB := Lib.hid hB
  clear hc hc2 hA hB
  have hmk := made_n n hn
  go_enter Tryd.func64, Tryd.ntmps64
  go_wp2_with fail
  clear hmk
  go_loopw [8, 9, 15] (fun _ _ i wr => ∃ j : Nat, i = .int .i64 j ∧ j ≤ n ∧ Own wr w.heap.size n (fun x => if x < j then RS (A x * B x) (P f) else 0) ∧ Below w.heap.size w wr) (fun _ _ i _ => n - (intOf i).toNat)
  case atStart =>
    refine ⟨0, rfl, Nat.zero_le _, ?_, (Below.refl _ _).alloc (Nat.le_refl _) _⟩
    exact (World.rowIs_made w (.int .i64 0) n 3).congr fun j _ => by simp
  case round =>
    obtain ⟨j, rfl, hj, ho, hb⟩ := hrel
    by_cases h1 : j < n
    · have c1 : wr.cell? ⟨b, off + j, none⟩ = some (.int .i64 (A j)) := (hb.cell (p := ⟨b, off + j, none⟩) hlt).trans (HC.out j h1)
      have c2 : wr.cell? ⟨b2, off2 + j, none⟩ = some (.int .i64 (B j)) := (hb.cell (p := ⟨b2, off2 + j, none⟩) hlt2).trans (HC2.out j h1)
      have hd1 : decide ((j : Int) < n) = true := decide_eq_true (by omega)
      have HS := Lib.hid (copy_set (w := w) (F := fun x => RS (A x * B x) (P f)) ho)
      have c3 := World.rowIs.cell ho h1
      have c4 := World.rowIs.frozen ho j
      have hAj := HA.out j
      have hBj := HB.out j
      clear ho
      go_wp2_with fail
      refine (mul_c f (A j) (B j) wr (ht.below hb) h0 h8 hAj.1 hAj.2 hBj.1 hBj.2).mono ?_
      rintro e w' ⟨rfl, rfl⟩
      go_wp2
      go_roundw
      case rel => exact ⟨j + 1, by go_num, by omega, HS.out, hb.setCell (Nat.le_refl _) _⟩
      case measure => simp [intOf]; omega
    · have hd : decide (j < n) = false := by simpa using h1
      obtain rfl : j = n := by omega
      go_wp2
      go_ret
      exact ⟨rfl, World.rowIs.congr ho (fun x hx => by simp [hx]), hb⟩
theorem pointwise_c (f : Int) (a : Option Addr) (l : List Int) (cap : Nat) (a2 : Option Addr) (m : List Int) (cap2 : Nat) (w : World) (hs : Src w a l.length (lf l)) (hs2 : Src w a2 m.length (lf m)) (ht : Tab w) (h : TwoOk f l m) : Calls Tryd.prog 64 #[.int .i64 f, .slice a l.length cap, .slice a2 m.length cap2] w (OwnG w (ptwL f l m)) := by
  obtain ⟨hlm, hl, hm⟩ := h
  have hp := hl.pos
  obtain ⟨b, off, rfl, hlt, hc⟩ := vec_some hs hp.1
  obtain ⟨b2, off2, rfl, hlt2, hc2⟩ := vec_some hs2 hm.pos.1
  rw [← hlm] at hc2 ⊢
  refine (pointwise_some f b off b2 off2 l.length cap cap2 (lf l) (lf m) w ht hl.f08.1 hl.f08.2 (by omega) hl.lt hm.lt hlt hlt2 hc hc2).mono ?_
  rintro e w' ⟨rfl, ho, hb⟩
  exact OwnG.of_own ho (tab_len _ _).symm (Nat.le_refl _) (fun j hj => by unfold ptwL; rw [lf_tab, if_pos hj]) hb
end Go.Proofs.YtoonpnfhcmghmaaDoor
namespace Go.Proofs.YtoonpnfhcmghmaaDoor
open Go.RowKit Go.Shelf
attribute [local go_sem] Oper.semAt_some
/-- The first c powers of r. -/
def pws (f r : Int) (c : Nat) : List Int := (List.range c).map fun (j : Nat) => PW (P f) r (j : Int)
theorem pws_len (f r : Int) (c : Nat) : (pws f r c).length = c := by simp [pws]
theorem pws_succ (f r : Int) (c : Nat) : pws f r (c + 1) = pws f r c ++ [PW (P f) r c] := by simp [pws, List.range_succ]
theorem pws_pre (f r : Int) {j c : Nat} (h : j ≤ c) : pws f r j <+: pws f r c := by
  refine ⟨((List.range c).drop j).map fun (j : Nat) => PW (P f) r (j : Int), ?_⟩
  unfold pws
  rw [← List.map_append]
  congr 1
  conv => rhs; rw [← List.take_append_drop j (List.range c)]
  rw [List.take_range, Nat.min_eq_left h]
/-- What a round keeps: whatever lay below n₀, and the two boxes that the iterator reads again. -/
def KeepsBoxes (n₀ Bn Ba : Nat) (W W' : World) : Prop := Below n₀ W W' ∧ W'.heap[Bn]? = W.heap[Bn]? ∧ W'.heap[Ba]? = W.heap[Ba]?
theorem cell_same {W W' : World} {B : Nat} (h : W'.heap[B]? = W.heap[B]?) (o : Nat) : W'.cell? ⟨B, o, none⟩ = W.cell? ⟨B, o, none⟩ := by
  unfold World.cell?
  simp only [h]
theorem Tab.from {n₀ : Nat} {w w' : World} (h : Tab w) (h0 : 0 < n₀) (hb : Below n₀ w w') : Tab w' := h.keep fun o => hb.cell (p := ⟨0, o, none⟩) h0
set_option maxRecDepth 100000 in
set_option maxHeartbeats 1000000 in
theorem powers1_in (n : Nat) (hn : 1 ≤ n) (l Bc Bn Ba n₀ : Nat) (f r : Int) (c : Nat) (h0 : 0 ≤ f) (h8 : f ≤ 8) (r0 : 0 ≤ r) (r1 : r < P f) (c9 : c ≤ 1048576) (hn0 : 0 < n₀) (J Jx : List Int → World → Prop)
    (hY : ∀ pre x W, J pre W → pre.length < c → YieldAt Fence.wide (n - 1) Tryd.prog l #[.int .i64 x] W fun e W' =>
      (e = .returned (.bool true) ∧ J (pre ++ [x]) W' ∧ KeepsBoxes n₀ Bn Ba W W') ∨ (e = .returned (.bool false) ∧ Jx (pre ++ [x]) W'))
    (W : World) (ht : Tab W) (hc : W.cell? ⟨Bc, 0, none⟩ = some (.int .i64 c)) (hf : W.cell? ⟨Bn, 0, none⟩ = some (.int .i64 f)) (hr : W.cell? ⟨Ba, 0, none⟩ = some (.int .i64 r)) (hj : J [] W) :
    CallsIn Fence.wide n Tryd.prog 137 #[.func (.yield l) #[] #[], .pointer (some ⟨Bc, 0, none⟩), .pointer (some ⟨Bn, 0, none⟩), .pointer (some ⟨Ba, 0, none⟩)] W fun e W' => (∃ v, e = .returned v) ∧
      ((∃ ys, ys = pws f r c ∧ J ys W') ∨ (∃ pre, pre <+: pws f r c ∧ Jx pre W')) := by
  have hp := P_bd h0 h8
  refine callsIn_of_wp Tryd.func137 rfl trivial ?_ rfl
  simp only [Tryd.ntmps137, List.size_toArray, List.length_cons, List.length_nil, Nat.reduceAdd, Nat.reduceSub, Array.replicate_succ, Array.replicate_zero, List.push_toArray, List.append_toArray, List.nil_append, List.cons_append]
  gi_wp2
  gi_loopw [5, 7] (fun x i wr => ∃ j : Nat, i = .int .i64 j ∧ j ≤ c ∧ x = .int .i64 (PW (P f) r j) ∧ J (pws f r j) wr ∧ Tab wr ∧ wr.cell? ⟨Bn, 0, none⟩ = some (.int .i64 f) ∧ wr.cell? ⟨Ba, 0, none⟩ = some (.int .i64 r)) (fun _ i _ => c - (intOf i).toNat)
  case atStart =>
    exact ⟨0, rfl, Nat.zero_le _, by rw [show ((0 : Nat) : Int) = 0 from rfl, PW_zero h0 h8], hj, ht, hf, hr⟩
  case round =>
    obtain ⟨j, rfl, hjc, rfl, hJ, htr, hfr, hrr⟩ := hrel
    by_cases hlt : j < c
    · obtain ⟨fn, tmps, assign, body, hy, hR⟩ := hY (pws f r j) (PW (P f) r j) wr hJ (by rw [pws_len]; exact hlt)
      have bj := PW_bd (m := P f) (x := r) (e := (j : Int)) (by omega)
      have HS := Lib.hid (PW_succ h0 h8 r0 j)
      gi_wp2
      refine hR.mono ?_
      rintro e W3 (⟨rfl, hJ3, hk3⟩ | ⟨rfl, hJx3⟩)
      · have ht3 := htr.from hn0 hk3.1
        have hf3 : W3.cell? ⟨Bn, 0, none⟩ = some (.int .i64 f) := (cell_same hk3.2.1 0).trans hfr
        have hr3 : W3.cell? ⟨Ba, 0, none⟩ = some (.int .i64 r) := (cell_same hk3.2.2 0).trans hrr
        rw [← pws_succ] at hJ3
        clear hR hy hk3
        gi_wp2_with (refine ⟨trivial, ?_⟩; gi_at_call 113; refine (callsIn_wide.2 (mul_c f (PW (P f) r j) r W3 ht3 h0 h8 bj.1 bj.2 r0 r1)).mono ?_; rintro e w' ⟨rfl, rfl⟩)
        go_roundw
        case rel => exact ⟨j + 1, by go_num, by omega, vint HS.out, hJ3, ht3, hf3, hr3⟩
        case measure => simp [intOf]; omega
      · rw [← pws_succ] at hJx3
        gi_wp2
        refine bodyPost_ret (results_none rfl _ _ _) rfl ?_
        exact ⟨⟨_, rfl⟩, .inr ⟨_, pws_pre f r (by omega), hJx3⟩⟩
    · have hd : decide (j < c) = false := by simpa using hlt
      obtain rfl : j = c := by omega
      gi_wp2
      go_end0
      exact ⟨⟨_, rfl⟩, .inl ⟨_, rfl, hJ⟩⟩
theorem powers_stops (n : Nat) (hn : 1 ≤ n) (Bc Bn Ba n₀ : Nat) (f r : Int) (c : Nat) (h0 : 0 ≤ f) (h8 : f ≤ 8) (r0 : 0 ≤ r) (r1 : r < P f) (c9 : c ≤ 1048576) (hn0 : 0 < n₀) (w : World) (hsz : 0 < w.heap.size) (ht : Tab w)
    (hBc : Bc < w.heap.size) (hBn : Bn < w.heap.size) (hBa : Ba < w.heap.size) (hc : w.cell? ⟨Bc, 0, none⟩ = some (.int .i64 c)) (hf : w.cell? ⟨Bn, 0, none⟩ = some (.int .i64 f)) (hr : w.cell? ⟨Ba, 0, none⟩ = some (.int .i64 r)) :
    SeqStopsK Fence.wide n Tryd.prog 137 #[.pointer (some ⟨Bc, 0, none⟩), .pointer (some ⟨Bn, 0, none⟩), .pointer (some ⟨Ba, 0, none⟩)] (fun x : Int => #[Value.int .i64 x]) (KeepsBoxes n₀ Bn Ba) (fun ys => ys = pws f r c) (fun pre => pre <+: pws f r c) c w :=
  fun l J Jx W hW _ _ hY hj => powers1_in n hn l Bc Bn Ba n₀ f r c h0 h8 r0 r1 c9 hn0 J Jx hY W (ht.from hsz hW)
    ((hW.cell (p := ⟨Bc, 0, none⟩) hBc).trans hc) ((hW.cell (p := ⟨Bn, 0, none⟩) hBn).trans hf) ((hW.cell (p := ⟨Ba, 0, none⟩) hBa).trans hr) hj
theorem powers_c (f r x : Int) (w : World) : Calls Tryd.prog 128 #[.int .i64 f, .int .i64 r, .int .i64 x] w fun e w' =>
    e = .returned (.func (.func 137) #[] #[.pointer (some ⟨w.heap.size + 2, 0, none⟩), .pointer (some ⟨w.heap.size, 0, none⟩), .pointer (some ⟨w.heap.size + 1, 0, none⟩)]) ∧
    w' = ((w.alloc (.cells #[.int .i64 f] 54)).alloc (.cells #[.int .i64 r] 3)).alloc (.cells #[.int .i64 x] 3) := by
  go_enter Tryd.func128, Tryd.ntmps128
  go_wp2
  go_ret
  exact ⟨rfl, rfl⟩
theorem made_cap (n : Nat) (hn : n ≤ 1048576) (w : World) : (Instr.makeSlice 24 (.int .i64 0) (.int .i64 (n : Int))).run Tryd.prog w = .ok (.slice (some ⟨w.heap.size, 0, none⟩) 0 n) (w.alloc (.cells (madeCells #[.int .i64 0] n) 3)) := by
  obtain ⟨i, hi, hzz⟩ := Option.map_eq_some_iff.1 info3
  simp only [Prod.mk.injEq] at hzz
  obtain ⟨hz, hs, hb⟩ := hzz
  have hr := run_make (P := Tryd.prog) w 24 3 i (.int .i64 0) Tryd.underlying24 hi hz .i64 .i64 0 n (Int.le_refl _) (by omega) (by rw [hb]; omega) (by omega)
  simp only [Int.toNat_natCast, hs, Nat.mul_one] at hr
  exact hr
theorem own_of_owns {w' : World} {base g n : Nat} {F : Nat → Int} (h : w'.ownsRow base 3 1 (.slice (some ⟨g, 0, none⟩) n n) n (xsF F n)) : Own w' g n F := by
  obtain ⟨hl, h⟩ := h
  rcases h with ⟨hv, _⟩ | ⟨g', cap, cur, hv, hg, hh, hc, hm, hs, ht⟩
  · cases hv
  · cases hv
    refine ⟨cur, hh, by omega, fun j hj => ?_⟩
    have hx : (xsF F n)[j]? = some (.int .i64 (F j)) := by simp [xsF, hj]
    rw [← ht, List.getElem?_take_of_lt (by omega)] at hx
    simpa using hx
theorem block_same {W w1 : World} {tmp : Obj} {g Bl B : Nat} {v : Value} (hgrow : (W.alloc tmp).grownBy w1 (some g)) (h1 : B < W.heap.size) (h2 : B ≠ g) (h3 : B ≠ Bl) : (w1.setCell ⟨Bl, 0, none⟩ v).heap[B]? = W.heap[B]? :=
  (Below.heap_setCell w1 ⟨Bl, 0, none⟩ v B (fun e => h3 e)).trans ((hgrow.block B (by simp; omega) (fun e => by injection e with e; exact h2 e)).trans (Below.heap_alloc W tmp B h1))
theorem pws_roots (f k : Int) (n : Nat) : (pws f (mRoot f k) n).map (Value.int .i64) = xsF (rootsF f k) n := by
  simp [pws, xsF, rootsF]
theorem keepsBoxes_b {w WL : World} (hz : w.heap.size + 5 ≤ WL.heap.size) (W : World) (l : Nat) (o o' : Obj) (hl : WL.heap.size ≤ l) (ho : W.heap[l]? = some o) (hc : o.isCells = false) (hw : o.isWalk = false) :
    KeepsBoxes w.heap.size (w.heap.size + 2) (w.heap.size + 2 + 1) W (W.putObj l o') :=
  ⟨belowK_b (w := w) (Nat.le_refl _) W l o o' (by omega) ho hc hw, World.putObj_heap_other (by omega), World.putObj_heap_other (by omega)⟩
set_option maxRecDepth 100000 in
set_option maxHeartbeats 2000000 in
theorem iRoots_on (f : Int) (k n : Nat) (w : World) (ht : Tab w) (h : hasK f k) (k9 : k ≤ 9) (hn : n = 2 ^ k) : Calls Tryd.prog 144 #[.int .i64 f, .int .i64 k] w (CopyP w n (rootsF f k)) := by
  have n9 : n ≤ 512 := by
    have : 2 ^ k ≤ 2 ^ 9 := Nat.pow_le_pow_right (by omega) k9
    omega
  have HN : Hid (wrap64 (2 ^ k) = (n : Int)) := Lib.hid (by
    rw [hn]
    have := shl_at (k := (k : Int)) (by omega) (by omega)
    rw [Int.toNat_natCast] at this
    rw [this, two_nat (by omega), Int.toNat_natCast])
  have hmk : ∀ w, (Instr.makeSlice 24 (.int .i64 0) (.int .i64 (wrap64 (2 ^ k)))).run Tryd.prog w = .ok (.slice (some ⟨w.heap.size, 0, none⟩) 0 n) (w.alloc (.cells (madeCells #[.int .i64 0] n) 3)) := fun w => by
    rw [HN.out]; exact made_cap n (by omega) w
  clear hn
  have HR := Lib.hid h
  refine (callsIn_wide (n := 6)).1 ?_
  refine callsIn_of_wp_marks Tryd.func144 rfl trivial ?_ rfl
  simp only [Tryd.ntmps144, List.size_toArray, List.length_cons, List.length_nil, Nat.reduceAdd, Nat.reduceSub, Array.replicate_succ, Array.replicate_zero, List.push_toArray, List.append_toArray, List.nil_append, List.cons_append]
  refine wpIn_wide.2 ?_
  go_wp2_with fail
  refine (hasRoots_yes f k w ht h (by omega)).mono ?_
  rintro e w' ⟨rfl, rfl⟩
  go_wp2
  obtain ⟨W0, hW0⟩ : ∃ W0, (w.alloc (.cells (madeCells #[.int .i64 0] n) 3)).alloc (.cells #[.slice (some ⟨w.heap.size, 0, none⟩) 0 n] 24) = W0 := ⟨_, rfl⟩
  have z0 : W0.heap.size = w.heap.size + 2 := by rw [← hW0]; simp
  have x0 : Boxed W0 (w.heap.size + 1) 24 (.slice (some ⟨w.heap.size, 0, none⟩) 0 n) := by
    rw [← hW0]
    have := Boxed.new (w.alloc (.cells (madeCells #[.int .i64 0] n) 3)) 24 (.slice (some ⟨w.heap.size, 0, none⟩) 0 n)
    rwa [World.size_alloc] at this
  have o0 : W0.ownsRow w.heap.size 3 1 (.slice (some ⟨w.heap.size, 0, none⟩) 0 n) 0 [] := by
    rw [← hW0]
    exact (World.ownsRow_made w (madeCells #[.int .i64 0] n) n (Nat.le_refl _) (by unfold maxLen; omega) (by rw [size_madeCells]; omega)).alloc _
  have b0 : Below w.heap.size w W0 := by rw [← hW0]; exact ((Below.refl _ _).alloc (Nat.le_refl _) _).alloc (by simp) _
  have t0 : Tab W0 := ht.below b0
  rw [hW0]
  clear hW0 hmk
  refine wp_region_still_tail 6 (by kernel_rfl) (by kernel_rfl) ?_
  simp only [List.take_succ_cons, List.take_zero, List.drop_succ_cons, List.drop_zero]
  still_step
  still_step
  still_step
  still_call ((rootk_c f k W0.drew (t0.keep fun _ => rfl) HR.out).mono fun _ _ h => ⟨h.1, h.2.symm⟩)
  still_step
  still_step
  refine wpStill_nil ?_
  change wpList _ _ _ _ _ W0.drew
  obtain ⟨W1, hW1⟩ : ∃ W1, W0.drew = W1 := ⟨_, rfl⟩
  have z1 : W1.heap.size = w.heap.size + 2 := by rw [← hW1]; exact z0
  have x1 : Boxed W1 (w.heap.size + 1) 24 (.slice (some ⟨w.heap.size, 0, none⟩) 0 n) := by rw [← hW1]; exact x0
  have o1 : W1.ownsRow w.heap.size 3 1 (.slice (some ⟨w.heap.size, 0, none⟩) 0 n) 0 [] := by rw [← hW1]; exact o0
  have b1 : Below w.heap.size w W1 := by rw [← hW1]; exact ⟨b0.os, b0.tape, b0.output, b0.size, b0.block⟩
  have t1 : Tab W1 := ht.below b1
  rw [hW1]
  clear hW1 z0 x0 o0 b0 t0
  go_wp2_with fail
  refine (powers_c f (mRoot f k) (wrap64 (2 ^ k)) W1).mono ?_
  rintro e w' ⟨rfl, rfl⟩
  go_wp2
  obtain ⟨WL, hWL⟩ : ∃ WL, ((W1.alloc (.cells #[.int .i64 f] 54)).alloc (.cells #[.int .i64 (mRoot f k)] 3)).alloc (.cells #[.int .i64 (wrap64 (2 ^ k))] 3) = WL := ⟨_, rfl⟩
  have zL : WL.heap.size = w.heap.size + 5 := by rw [← hWL]; simp; omega
  have xL : Boxed WL (w.heap.size + 1) 24 (.slice (some ⟨w.heap.size, 0, none⟩) 0 n) := by rw [← hWL]; exact ((x1.alloc _).alloc _).alloc _
  have oL : WL.ownsRow w.heap.size 3 1 (.slice (some ⟨w.heap.size, 0, none⟩) 0 n) 0 [] := by rw [← hWL]; exact ((o1.alloc _).alloc _).alloc _
  have nL : Boxed WL (w.heap.size + 2) 54 (.int .i64 f) := by
    rw [← hWL, ← z1]; exact ((Boxed.new W1 _ _).alloc _).alloc _
  have aL : Boxed WL (w.heap.size + 2 + 1) 3 (.int .i64 (mRoot f k)) := by
    have := (Boxed.new (W1.alloc (.cells #[.int .i64 f] 54)) 3 (.int .i64 (mRoot f k))).alloc (.cells #[.int .i64 (wrap64 (2 ^ k))] 3)
    rw [World.size_alloc, z1] at this
    rw [← hWL]; exact this
  have cL : Boxed WL (w.heap.size + 2 + 2) 3 (.int .i64 n) := by
    have := Boxed.new ((W1.alloc (.cells #[.int .i64 f] 54)).alloc (.cells #[.int .i64 (mRoot f k)] 3)) 3 (.int .i64 (wrap64 (2 ^ k)))
    rw [World.size_alloc, World.size_alloc, z1] at this
    rw [← hWL, ← HN.out]; exact this
  have bL : Below w.heap.size w WL := by rw [← hWL]; exact ((b1.alloc (by omega) _).alloc (by simp; omega) _).alloc (by simp; omega) _
  have tL : Tab WL := ht.below bL
  rw [hWL]
  clear hWL z1 x1 o1 b1 t1
  have rb := root_bd HR.out
  have f0 := HR.out.1.1
  have f8 := HR.out.1.2
  have w0 : 0 < w.heap.size := (cell_some (ht 0 (by omega) (by omega)).1).2
  obtain ⟨i0, hi, hz0, hz1, hz2⟩ := info_parts info3
  refine (wpIn_wide (n := 6)).1 ?_
  refine wpIn_rangeFunc_ownG (F := Fence.wide) (n := 6) rfl (by omega) (gf := 137) (lb := #[.pointer (some ⟨w.heap.size + 2 + 2, 0, none⟩), .pointer (some ⟨w.heap.size + 2, 0, none⟩), .pointer (some ⟨w.heap.size + 2 + 1, 0, none⟩)]) rfl trivial (enters_of Tryd.func137 (by kernel_rfl) rfl)
    (powers_stops 5 (by omega) (w.heap.size + 2 + 2) (w.heap.size + 2) (w.heap.size + 2 + 1) w.heap.size f (mRoot f k) n f0 f8 (by omega) rb.2 (by omega) w0 WL (by omega) tL (by omega) (by omega) (by omega) cL.cell nL.cell aL.cell)
    (fun h k => ⟨h.1.trans k.1, k.2.1.trans h.2.1, k.2.2.trans h.2.2⟩) (fun W l o o' hl ho hc hw => keepsBoxes_b (by omega) W l o o' hl ho hc hw) (Below.refl _ _) (fun _ => rfl)
    (fun pre W => (∃ v, Boxed W (w.heap.size + 1) 24 v ∧ W.ownsRow w.heap.size 3 1 v pre.length (pre.map (Value.int .i64)) ∧ v = .slice (some ⟨w.heap.size, 0, none⟩) pre.length n) ∧ Below w.heap.size w W ∧ w.heap.size + 5 ≤ W.heap.size)
    (fun _ _ _ => False)
    (OwnFrom.and (Own.from (holdsRow_own w.heap.size (w.heap.size + 1) 24 3 1 (fun (pre : List Int) => pre.length) (fun (pre : List Int) => pre.map (Value.int .i64)) (fun (pre : List Int) v => v = .slice (some ⟨w.heap.size, 0, none⟩) pre.length n)) _) (OwnFrom.and (ownFrom_below (Nat.le_refl _) (by omega)) (fun s A B row hs hg hr => Nat.le_trans hs hg.size)))
    (fun _ _ _ _ _ hs _ _ => hs)
    ⟨⟨_, xL, oL, rfl⟩, bL, by omega⟩
    (fun x => { tmps := #[.int .i64 f, .int .i64 k, undef, undef, .slice none 0 0, .int .i64 f, .pointer (some ⟨w.heap.size + 1, 0, none⟩), .int .i64 x, .int .i64 f, .int .i64 k, .bool true, .bool false, .int .i64 f, .int .i64 k, .int .i64 (wrap64 (2 ^ k)), .slice (some ⟨w.heap.size, 0, none⟩) 0 n, .int .i64 f, .int .i64 f, .int .i64 k, .int .i64 (mRoot f k), .int .i64 k, .int .i64 (wrap64 (2 ^ k)), .func (.func 137) #[] #[.pointer (some ⟨w.heap.size + 2 + 2, 0, none⟩), .pointer (some ⟨w.heap.size + 2, 0, none⟩), .pointer (some ⟨w.heap.size + 2 + 1, 0, none⟩)], .int .i64 x, undef, undef, undef, undef, undef], defers := [] }) ?assign ?body ?done ?stop
  case assign =>
    intro l x W K hK
    gi_wp2
    exact hK
  case body =>
    rintro l pre x W ⟨⟨v, hv, hrow, rfl⟩, hB, hz⟩ hlt
    have hc := hv.cell
    gi_wp2_with (gi_at_builtin; refine wpListIn_append_fits _ rfl _ _ 24 rfl w.heap.size 3 i0 1 Tryd.underlying24 hi hz1 w.heap.size pre.length n _ rfl (hrow.alloc _) ⟨W.heap.size, 0, none⟩ 1 1 [.int .i64 x] rfl rfl (cell_one_new _ _ _) (by simp [Value.oneCell']) (by omega) ?_; intro w1 hown' hgrow; obtain ⟨hv1, hv2, hr2, hk2, hb2⟩ := hv.appended (by decide) hrow hB.size (by omega) hown' hgrow; have hc1 := hv1.cell; have hf1 := hv1.frozen)
    exact ⟨hk2.from _, ⟨hb2, block_same hgrow (by omega) (by omega) (by omega), block_same hgrow (by omega) (by omega) (by omega)⟩, ⟨_, hv2, by simpa using hr2, by simp⟩, hB.trans hb2, Nat.le_trans hz hk2.size⟩
  case done =>
    rintro D ys W hD rfl ⟨⟨v, hv, hrow, rfl⟩, hB, hz⟩ hK
    rw [pws_len] at hv hrow
    rw [pws_roots] at hrow
    have hc := hv.cell
    go_wp2
    refine ⟨by simp, .inl ⟨_, _, rfl, run_takeDeferred hK, ?_⟩⟩
    exact ⟨_, results_tmp rfl _ _ _, rfl, own_of_owns (ownsRow_putObj hrow _ hK rfl), hB.trans (belowK_b (w := w) (Nat.le_refl _) W D _ _ (by omega) hK rfl rfl)⟩
  case stop =>
    rintro D c pre W _ _ h _
    exact h.elim
end Go.Proofs.YtoonpnfhcmghmaaDoor
namespace Go.Proofs.YtoonpnfhcmghmaaDoor
open Go.RowKit
/-- A row of words. -/
def RowW (K : IntKind) (t : TypeId) (w : World) (g n : Nat) (F : Nat → Int) : Prop := w.rowIs g t n (fun j => .int K (F j))
theorem RowW.cell {K : IntKind} {t : TypeId} {w : World} {g n : Nat} {F : Nat → Int} (h : RowW K t w g n F) {j : Nat} (hj : j < n) : w.cell? ⟨g, j, none⟩ = some (.int K (F j)) := World.rowIs.cell h hj
theorem RowW.frozen {K : IntKind} {t : TypeId} {w : World} {g n : Nat} {F : Nat → Int} (h : RowW K t w g n F) (j : Nat) : w.frozen? ⟨g, j, none⟩ = false := World.rowIs.frozen h j
theorem RowW.lt {K : IntKind} {t : TypeId} {w : World} {g n : Nat} {F : Nat → Int} (h : RowW K t w g n F) : g < w.heap.size := World.rowIs.lt h
theorem RowW.congr {K : IntKind} {t : TypeId} {w : World} {g n : Nat} {F G : Nat → Int} (h : RowW K t w g n F) (e : ∀ j, j < n → F j = G j) : RowW K t w g n G := World.rowIs.congr h fun j hj => by rw [e j hj]
theorem RowW.set {K : IntKind} {t : TypeId} {w : World} {g n : Nat} {F : Nat → Int} (h : RowW K t w g n F) (s : Nat) (x : Int) : RowW K t (w.setCell ⟨g, s, none⟩ (.int K x)) g n (fun j => if j = s then x else F j) :=
  (World.rowIs.set h s (.int K x)).congr fun j _ => by show (if j = s then Value.int K x else Value.int K (F j)) = Value.int K (if j = s then x else F j); split <;> rfl
theorem RowW.other {K : IntKind} {t : TypeId} {w w' : World} {g r n : Nat} {F : Nat → Int} (h : RowW K t w r n F) (hg : w.grownBy w' (some g)) (hne : r ≠ g) : RowW K t w' r n F :=
  World.rowIs.of_block h (hg.block r h.lt (fun e => hne (by injection e)))
theorem RowW.keep {K : IntKind} {t : TypeId} {w w' : World} {g n : Nat} {F : Nat → Int} (h : RowW K t w g n F) (hb : Below w.heap.size w w') : RowW K t w' g n F := World.rowIs.of_block h (hb.block g h.lt)
theorem grown_refl (w : World) (g : Nat) : w.grownBy w (some g) := ⟨rfl, rfl, rfl, Nat.le_refl _, fun _ _ _ => rfl⟩
theorem grown_put {w wr : World} {g i : Nat} {v : Value} (h : w.grownBy wr (some g)) : w.grownBy (wr.setCell ⟨g, i, none⟩ v) (some g) :=
  grown_set h i v
theorem grown_drews {w wr : World} {g : Nat} (h : w.grownBy wr (some g)) (n : Nat) : w.grownBy (wr.drewN n) (some g) := ⟨h.os, h.tape, h.output, h.size, h.block⟩
theorem grown_cell {w wr : World} {g b o : Nat} (h : w.grownBy wr (some g)) (hlt : b < w.heap.size) (hne : b ≠ g) : wr.cell? ⟨b, o, none⟩ = w.cell? ⟨b, o, none⟩ :=
  World.cell?_of_block (a := ⟨b, o, none⟩) (h.block b hlt (fun e => hne (by injection e)))
theorem mul_le_sq {a b M : Int} (a0 : 0 ≤ a) (a1 : a ≤ M) (b0 : 0 ≤ b) (b1 : b ≤ M) : a * b ≤ M * M := Int.mul_le_mul a1 b1 b0 (by omega)
/-- A slice of a slice that starts at a block's head, with all three indices. -/
theorem slice_3 {P : Program} {t e : TypeId} {z : Value} {by' : Nat} (hu : P.underlying t = some (.slice e)) (hinfo : (P.info? e).map (fun i => (i.zero, i.size, i.bytes)) = some (some z, 1, by')) (g lo hi k n cap : Nat) (vh vl : Int) (e1 : vl = (lo : Int)) (e2 : vh = (hi : Int)) (hk : hi = lo + k) (k0 : 0 < k) (hc : hi ≤ cap) (w : World) :
    (Instr.slice t (.slice (some ⟨g, 0, none⟩) n cap) (some (.int .i64 vl)) (some (.int .i64 vh)) (some (.int .i64 vh))).run P w = .ok (.slice (some ⟨g, lo, none⟩) k k) w := by
  subst e1 e2 hk
  obtain ⟨i, hi, hzz⟩ := Option.map_eq_some_iff.1 hinfo
  simp only [Prod.mk.injEq] at hzz
  have hm2 : ¬ k = 0 := by omega
  have b1 : (0 : Int) ≤ (lo : Int) + k ∧ (lo : Int) + k ≤ cap := by omega
  have b3 : ((lo : Int) + k).toNat = lo + k := by omega
  simp [Instr.slice, run_underlying hu, Instr.sliceBounds, Instr.sliceBound, asIntOf, sizeOf, typeInfo, hi, hzz.2.1, b1, b3, hm2, Addr.add_lit, Nat.add_sub_cancel_left]
theorem info_uint32 : (Tryd.prog.info? 110).map (fun i => (i.zero, i.size, i.bytes)) = some (some (.int .u32 0), 1, 4) := by kernel_rfl
set_option maxRecDepth 100000 in
set_option maxHeartbeats 1600000 in
theorem fill_uint32 (t : TypeId) (g n N b off cap : Nat) (A F : Nat → Int) (w : World) (hg : RowW .u32 t w g N A) (hnN : n ≤ N) (hN : N ≤ 1048576) (hne : b ≠ g) (hlt : b < w.heap.size) (hF : ∀ j, 0 ≤ F j ∧ F j ≤ 4294967295)
    (hc : ∀ j, j < n → w.cell? ⟨b, off + j, none⟩ = some (.int .i64 (F j))) :
    Calls Tryd.prog 143 #[.slice (some ⟨g, 0, none⟩) n n, .slice (some ⟨b, off, none⟩) n cap] w fun e w' => e = .returned (.tuple #[]) ∧ RowW .u32 t w' g N (fun j => if j < n then F j else A j) ∧ w.grownBy w' (some g) := by
  have HC := Lib.hid hc
  have HF := Lib.hid hF
  clear hc hF
  go_enter Tryd.func143, Tryd.ntmps143
  go_wp2_with fail
  go_loopw [4, 5, 8] (fun _ _ i wr => ∃ k : Nat, i = .int .i64 k ∧ k ≤ n ∧ RowW .u32 t wr g N (fun j => if j < k then F j else A j) ∧ w.grownBy wr (some g)) (fun _ _ i _ => n - (intOf i).toNat)
  case atStart => exact ⟨0, rfl, Nat.zero_le _, hg.congr fun j _ => by simp, grown_refl w g⟩
  case round =>
    clear hg
    obtain ⟨k, rfl, hk, ho, hb⟩ := hrel
    by_cases h1 : k < n
    · have c1 : wr.cell? ⟨b, off + k, none⟩ = some (.int .i64 (F k)) := (grown_cell hb hlt hne).trans (HC.out k h1)
      have hd1 : decide ((k : Int) < n) = true := decide_eq_true (by omega)
      have c2 := ho.cell (show k < N by omega)
      have c3 := ho.frozen k
      have hf := HF.out k
      have q1 : IntKind.u32.wrap (F k) = F k := IntWalk.u32_in _ (by omega)
      have HS : Hid (RowW .u32 t (wr.setCell ⟨g, k, none⟩ (.int .u32 (F k))) g N (fun j => if j < k + 1 then F j else A j)) := Lib.hid ((ho.set k (F k)).congr fun j _ => by
        by_cases e : j = k
        · subst e; simp
        · by_cases e2 : j < k
          · simp [e, e2, show j < k + 1 by omega]
          · simp [e, e2, show ¬ j < k + 1 by omega])
      have HG := Lib.hid (grown_put (i := k) (v := .int .u32 (F k)) hb)
      clear ho hb hf
      go_wp2
      go_roundw
      case rel => exact ⟨k + 1, by go_num, by omega, HS.out, HG.out⟩
      case measure => simp [intOf]; omega
    · have hd1 : decide ((k : Int) < n) = false := decide_eq_false (by omega)
      obtain rfl : k = n := by omega
      go_wp2
      go_end0
      exact ⟨rfl, ho, hb⟩
set_option maxRecDepth 100000 in
set_option maxHeartbeats 6400000 in
theorem butter_uint32 (f x : Int) (t : TypeId) (g r n N h d : Nat) (A R : Nat → Int) (w : World) (h0 : 0 ≤ f) (h8 : f ≤ 8) (hP : P f < 65536) (hg : RowW .u32 t w g N A) (hr : RowW .u32 t w r N R) (hgr : r ≠ g) (hnN : n ≤ N) (hN : N ≤ 512) (hpos : 0 < h) (hnd : n = d * (2 * h)) (n0 : 0 < n)
    (hA : ∀ j, j < n → 0 ≤ A j ∧ A j < P f) (hR : ∀ j, j < n → R j = x ^ j % P f) :
    Calls Tryd.prog 145 #[.slice (some ⟨g, 0, none⟩) n n, .slice (some ⟨r, 0, none⟩) n n, .int .u32 (P f), .int .i64 h] w fun e w' => e = .returned (.tuple #[]) ∧ RowW .u32 t w' g N (stp f x h d A d 0) ∧ w.grownBy w' (some g) := by
  have hp := P_bd h0 h8
  have HND := Lib.hid hnd
  have d0 : 0 < d := by
    rcases Nat.eq_zero_or_pos d with hz | hz
    · rw [hz, Nat.zero_mul] at hnd; omega
    · exact hz
  have hhn : 2 * h ≤ n := by rw [hnd]; exact Nat.le_mul_of_pos_left _ d0
  have td0 : (n : Int).tdiv (2 * (h : Int)) = d := by
    rw [show 2 * (h : Int) = ((2 * h : Nat) : Int) by omega, Int.tdiv_eq_ediv_of_nonneg (by omega), ← Int.natCast_ediv, hnd, Nat.mul_div_cancel _ (by omega)]
  have td1 : (n : Int) / (2 * (h : Int)) = d := by rw [← td0, Int.tdiv_eq_ediv_of_nonneg (by omega)]
  have hz2 : (2 * (h : Int) == 0) = false := by rw [beq_eq_false_iff_ne]; omega
  have hz3 : ¬ 2 * (h : Int) = 0 := by omega
  have qd : IntKind.i64.wrap (2 * (h : Int)) = 2 * (h : Int) := IntWalk.i64_in _ (by omega)
  have hdn : d ≤ n := by rw [hnd]; exact Nat.le_mul_of_pos_right _ (by omega)
  have HA := Lib.hid hA
  have HRR := Lib.hid hR
  have HG0 := Lib.hid hg
  have HR0 := Lib.hid hr
  have hrlt := hr.lt
  clear hnd hA hR hg hr
  go_enter Tryd.func145, Tryd.ntmps145
  go_wp2_with fail
  go_loopw [9, 10, 11, 12, 13, 14, 52] (fun i _ _ _ _ _ _ wr => ∃ B : Nat, i = .int .i64 ((B * (2 * h) : Nat) : Int) ∧ B ≤ d ∧ RowW .u32 t wr g N (stp f x h d A B 0) ∧ w.grownBy wr (some g)) (fun i _ _ _ _ _ _ _ => n - (intOf i).toNat)
  case atStart => exact ⟨0, by simp, Nat.zero_le _, HG0.out.congr fun j _ => (stp_start f x h d A j).symm, grown_refl w g⟩
  case round =>
    clear HG0 td0 td1
    obtain ⟨B, rfl, hB, ho, hb⟩ := hrel
    by_cases h1 : B < d
    · have hBn : B * (2 * h) + 2 * h ≤ n := by
        have := Nat.mul_le_mul_right (2 * h) (show B + 1 ≤ d by omega)
        rw [Nat.add_mul, Nat.one_mul, ← HND.out] at this
        exact this
      have hd1 : decide (((B * (2 * h) : Nat) : Int) < n) = true := decide_eq_true (by omega)
      obtain ⟨I, hI⟩ : ∃ I, B * (2 * h) = I := ⟨_, rfl⟩
      have HNX : Hid (((I + 2 * h : Nat) : Int) = (((B + 1) * (2 * h) : Nat) : Int)) := Lib.hid (by rw [Nat.add_mul, Nat.one_mul, hI])
      have HOI := Lib.hid ho
      have HRD : Hid (∀ j, j < h → stp f x h d A B j (I + j) = A (I + j) ∧ stp f x h d A B j (I + j + h) = A (I + j + h)) := Lib.hid fun j hj => by rw [← hI]; exact stp_read hj
      have HST : Hid (∀ j, j < h → ∀ t, (if t = I + j + h then RS (A (I + j) - RS (A (I + j + h) * x ^ (j * d)) (P f)) (P f) else if t = I + j then RS (A (I + j) + RS (A (I + j + h) * x ^ (j * d)) (P f)) (P f) else stp f x h d A B j t) = stp f x h d A B (j + 1) t) := Lib.hid fun j hj t => by
        have := stp_step (f := f) (w := x) (d := d) (V := A) (B := B) hj t
        rw [stp_low hj, stp_high hj, hI] at this
        exact this
      have HFULL : Hid (∀ t, stp f x h d A B h t = stp f x h d A (B + 1) 0 t) := Lib.hid fun t => stp_next f x d A B t hpos
      clear ho
      rw [hI] at hd1 hBn ⊢
      clear hI
      have hIn : I < n := by omega
      have u1 : IntKind.i64.wrap ((I : Int) + h) = (I : Int) + h := IntWalk.i64_in _ (by omega)
      have u2 : IntKind.i64.wrap ((I : Int) + 2 * h) = (I : Int) + 2 * h := IntWalk.i64_in _ (by omega)
      have sl0 : ∀ w, (Instr.slice 114 (.slice (some ⟨g, 0, none⟩) n n) (some (.int .i64 I)) (some (.int .i64 ((I : Int) + h))) (some (.int .i64 ((I : Int) + h)))).run Tryd.prog w = .ok (.slice (some ⟨g, I, none⟩) h h) w := fun w => slice_3 Tryd.underlying114 info_uint32 g I (I + h) h n n _ _ (by omega) (by omega) (by omega) (by omega) (by omega) w
      have sl1 : ∀ w, (Instr.slice 114 (.slice (some ⟨g, 0, none⟩) n n) (some (.int .i64 ((I : Int) + h))) (some (.int .i64 ((I : Int) + 2 * h))) (some (.int .i64 ((I : Int) + 2 * h)))).run Tryd.prog w = .ok (.slice (some ⟨g, I + h, none⟩) h h) w := fun w => slice_3 Tryd.underlying114 info_uint32 g (I + h) (I + 2 * h) h n n _ _ (by omega) (by omega) (by omega) (by omega) (by omega) w
      go_wp2_with fail
      clear sl0 sl1
      go_loopw [12, 13, 14, 52] (fun _ _ _ jj W => ∃ j : Nat, jj = .int .i64 j ∧ j ≤ h ∧ RowW .u32 t W g N (stp f x h d A B j) ∧ w.grownBy W (some g)) (fun _ _ _ jj _ => h - (intOf jj).toNat)
      case atStart => exact ⟨0, rfl, Nat.zero_le _, HOI.out, hb⟩
      case round =>
        clear HOI hb
        obtain ⟨j, rfl, hj, ho, hb⟩ := hrel
        by_cases h2 : j < h
        · have hd2 : decide ((j : Int) < h) = true := decide_eq_true (by omega)
          have hrd := HRD.out j h2
          have c1 : wr.cell? ⟨g, I + j, none⟩ = some (.int .u32 (A (I + j))) := by rw [ho.cell (show I + j < N by omega), hrd.1]
          have c2 : wr.cell? ⟨g, I + h + j, none⟩ = some (.int .u32 (A (I + j + h))) := by rw [show I + h + j = I + j + h by omega, ho.cell (show I + j + h < N by omega), hrd.2]
          have hjd : j * d < n := by
            have : j * d < 2 * h * d := Nat.mul_lt_mul_of_pos_right (by omega) d0
            rw [Nat.mul_comm (2 * h) d, ← HND.out] at this
            exact this
          have c3 : wr.cell? ⟨r, j * d, none⟩ = some (.int .u32 (x ^ (j * d) % P f)) := by rw [(HR0.out.other hb hgr).cell (show j * d < N by omega), HRR.out _ hjd]
          have b1 := HA.out (I + j) (by omega)
          have b2 := HA.out (I + j + h) (by omega)
          have b3 : 0 ≤ x ^ (j * d) % P f ∧ x ^ (j * d) % P f < P f := ⟨Int.emod_nonneg _ (by omega), Int.emod_lt_of_pos _ (by omega)⟩
          have hY : RS (A (I + j + h) * (x ^ (j * d) % P f)) (P f) = RS (A (I + j + h) * x ^ (j * d)) (P f) := by unfold RS; exact emod_mul_congr rfl (Int.emod_emod_of_dvd _ (Int.dvd_refl _))
          have HSTj := Lib.hid (HST.out j h2)
          have jdn : ((j : Int) * d) = ((j * d : Nat) : Int) := by rw [Int.natCast_mul]
          have v1 : IntKind.i64.wrap ((j : Int) * d) = (j : Int) * d := IntWalk.i64_in _ (by omega)
          have v2 : (0 : Int) ≤ (j : Int) * d := by omega
          have v3 : (j : Int) * d < n := by omega
          have v4 : ((j : Int) * d).toNat = j * d := by omega
          clear jdn hjd
          have ho2 : RowW .u32 t wr g N (stp f x h d A B j) := ho
          clear ho
          obtain ⟨X, hX⟩ : ∃ X, A (I + j) = X := ⟨_, rfl⟩
          obtain ⟨Y0, hY0⟩ : ∃ Y0, A (I + j + h) = Y0 := ⟨_, rfl⟩
          obtain ⟨R0, hR0⟩ : ∃ R0, x ^ (j * d) % P f = R0 := ⟨_, rfl⟩
          rw [hX] at c1 b1
          rw [hY0] at c2 b2 hY
          rw [hR0] at c3 b3 hY
          rw [hX, hY0] at HSTj
          rw [← hY] at HSTj
          clear hX hY0 hR0 hY hrd
          have m0 : 0 ≤ Y0 * R0 := Int.mul_nonneg b2.1 b3.1
          have m1 : Y0 * R0 ≤ 65535 * 65535 := mul_le_sq b2.1 (by omega) b3.1 (by omega)
          have hb2 : 0 ≤ RS (Y0 * R0) (P f) ∧ RS (Y0 * R0) (P f) < P f := RS_bd (by omega)
          have t1 : (Y0 * R0).tmod (P f) = RS (Y0 * R0) (P f) := by rw [Int.tmod_eq_emod_of_nonneg m0]; rfl
          have t1' : (Y0 * R0) % (P f) = RS (Y0 * R0) (P f) := rfl
          have k1 : IntKind.u32.wrap (Y0 * R0) = Y0 * R0 := IntWalk.u32_in _ (by omega)
          have pz : (P f == 0) = false := by rw [beq_eq_false_iff_ne]; omega
          have pz2 : ¬ P f = 0 := by omega
          generalize RS (Y0 * R0) (P f) = Y at *
          have k2 : IntKind.u32.wrap Y = Y := IntWalk.u32_in _ (by omega)
          have k3 : IntKind.u32.wrap (X + Y) = X + Y := IntWalk.u32_in _ (by omega)
          have k4 : IntKind.u32.wrap (X + P f) = X + P f := IntWalk.u32_in _ (by omega)
          have k5 : IntKind.u32.wrap (X + P f - Y) = X + P f - Y := IntWalk.u32_in _ (by omega)
          have e1 : (X + Y).tmod (P f) = RS (X + Y) (P f) := by rw [Int.tmod_eq_emod_of_nonneg (by omega)]; rfl
          have e1' : (X + Y) % (P f) = RS (X + Y) (P f) := rfl
          have e2' : (X + P f - Y) % (P f) = RS (X - Y) (P f) := by unfold RS; rw [show X + P f - Y = X - Y + P f by omega, Int.add_emod_right]
          have e2 : (X + P f - Y).tmod (P f) = RS (X - Y) (P f) := by rw [Int.tmod_eq_emod_of_nonneg (by omega), e2']
          have l1 : 0 ≤ RS (X + Y) (P f) ∧ RS (X + Y) (P f) < P f := RS_bd (by omega)
          have l2 : 0 ≤ RS (X - Y) (P f) ∧ RS (X - Y) (P f) < P f := RS_bd (by omega)
          have k6 : IntKind.u32.wrap (RS (X + Y) (P f)) = RS (X + Y) (P f) := IntWalk.u32_in _ (by omega)
          have k7 : IntKind.u32.wrap (RS (X - Y) (P f)) = RS (X - Y) (P f) := IntWalk.u32_in _ (by omega)
          clear m0 m1
          go_wp2
          go_quiet (fail)
          have how2 : RowW .u32 t (wr.drewN nq) g N (stp f x h d A B j) := ho2
          have hgb2 := grown_drews hb nq
          clear c1 c2 c3 hb ho2 t1 t1' k1
          generalize wr.drewN nq = W2 at *
          have cI := how2.cell (show I + j < N by omega)
          have fI := how2.frozen (I + j)
          have how3 := how2.set (I + j) (RS (X + Y) (P f))
          have hgb3 := grown_put (i := I + j) (v := .int .u32 (RS (X + Y) (P f))) hgb2
          obtain ⟨W3, hW3⟩ : ∃ W3, W2.setCell ⟨g, I + j, none⟩ (.int .u32 (RS (X + Y) (P f))) = W3 := ⟨_, rfl⟩
          have HW3 := Lib.hid hW3
          rw [hW3] at how3 hgb3
          have cH := how3.cell (show I + j + h < N by omega)
          have fH := how3.frozen (I + j + h)
          have HOW4 : Hid (RowW .u32 t (W3.setCell ⟨g, I + h + j, none⟩ (.int .u32 (RS (X - Y) (P f)))) g N (stp f x h d A B (j + 1))) := Lib.hid (by
            rw [show I + h + j = I + j + h by omega]
            exact (how3.set (I + j + h) (RS (X - Y) (P f))).congr fun t _ => HSTj.out t)
          have HB4 := Lib.hid (grown_put (i := I + h + j) (v := .int .u32 (RS (X - Y) (P f))) hgb3)
          rw [show I + j + h = I + h + j by omega] at cH fH
          clear how2 how3 hgb2 hgb3 HSTj
          go_wp2_with (rw [hW3])
          go_roundw
          case rel => exact ⟨j + 1, by go_num, by omega, HOW4.out, HB4.out⟩
          case measure => simp [intOf]; omega
        · have hd2 : decide ((j : Int) < h) = false := decide_eq_false (by omega)
          obtain rfl : j = h := by omega
          have HOF : Hid (RowW .u32 t wr g N (stp f x j d A (B + 1) 0)) := Lib.hid (ho.congr fun t _ => HFULL.out t)
          clear ho HFULL HST HRD
          go_wp2
          go_roundw
          case rel => exact ⟨B + 1, vint (by rw [← HNX.out]; omega), by omega, HOF.out, hb⟩
          case measure => simp [intOf]; omega
    · have hBd : B = d := by omega
      subst hBd
      have hBn : B * (2 * h) = n := HND.out.symm
      have hd1 : decide ((n : Int) < n) = false := decide_eq_false (by omega)
      rw [hBn]
      clear hBn
      go_wp2
      go_end0
      exact ⟨rfl, ho, hb⟩
theorem info_uint64 : (Tryd.prog.info? 111).map (fun i => (i.zero, i.size, i.bytes)) = some (some (.int .u64 0), 1, 8) := by kernel_rfl
set_option maxRecDepth 100000 in
set_option maxHeartbeats 1600000 in
theorem fill_uint64 (t : TypeId) (g n N b off cap : Nat) (A F : Nat → Int) (w : World) (hg : RowW .u64 t w g N A) (hnN : n ≤ N) (hN : N ≤ 1048576) (hne : b ≠ g) (hlt : b < w.heap.size) (hF : ∀ j, 0 ≤ F j ∧ F j ≤ 4294967295)
    (hc : ∀ j, j < n → w.cell? ⟨b, off + j, none⟩ = some (.int .i64 (F j))) :
    Calls Tryd.prog 146 #[.slice (some ⟨g, 0, none⟩) n n, .slice (some ⟨b, off, none⟩) n cap] w fun e w' => e = .returned (.tuple #[]) ∧ RowW .u64 t w' g N (fun j => if j < n then F j else A j) ∧ w.grownBy w' (some g) := by
  have HC := Lib.hid hc
  have HF := Lib.hid hF
  clear hc hF
  go_enter Tryd.func146, Tryd.ntmps146
  go_wp2_with fail
  go_loopw [4, 5, 8] (fun _ _ i wr => ∃ k : Nat, i = .int .i64 k ∧ k ≤ n ∧ RowW .u64 t wr g N (fun j => if j < k then F j else A j) ∧ w.grownBy wr (some g)) (fun _ _ i _ => n - (intOf i).toNat)
  case atStart => exact ⟨0, rfl, Nat.zero_le _, hg.congr fun j _ => by simp, grown_refl w g⟩
  case round =>
    clear hg
    obtain ⟨k, rfl, hk, ho, hb⟩ := hrel
    by_cases h1 : k < n
    · have c1 : wr.cell? ⟨b, off + k, none⟩ = some (.int .i64 (F k)) := (grown_cell hb hlt hne).trans (HC.out k h1)
      have hd1 : decide ((k : Int) < n) = true := decide_eq_true (by omega)
      have c2 := ho.cell (show k < N by omega)
      have c3 := ho.frozen k
      have hf := HF.out k
      have q1 : IntKind.u64.wrap (F k) = F k := IntWalk.u64_in _ (by omega)
      have HS : Hid (RowW .u64 t (wr.setCell ⟨g, k, none⟩ (.int .u64 (F k))) g N (fun j => if j < k + 1 then F j else A j)) := Lib.hid ((ho.set k (F k)).congr fun j _ => by
        by_cases e : j = k
        · subst e; simp
        · by_cases e2 : j < k
          · simp [e, e2, show j < k + 1 by omega]
          · simp [e, e2, show ¬ j < k + 1 by omega])
      have HG := Lib.hid (grown_put (i := k) (v := .int .u64 (F k)) hb)
      clear ho hb hf
      go_wp2
      go_roundw
      case rel => exact ⟨k + 1, by go_num, by omega, HS.out, HG.out⟩
      case measure => simp [intOf]; omega
    · have hd1 : decide ((k : Int) < n) = false := decide_eq_false (by omega)
      obtain rfl : k = n := by omega
      go_wp2
      go_end0
      exact ⟨rfl, ho, hb⟩
set_option maxRecDepth 100000 in
set_option maxHeartbeats 6400000 in
theorem butter_uint64 (f x : Int) (t : TypeId) (g r n N h d : Nat) (A R : Nat → Int) (w : World) (h0 : 0 ≤ f) (h8 : f ≤ 8) (hg : RowW .u64 t w g N A) (hr : RowW .u64 t w r N R) (hgr : r ≠ g) (hnN : n ≤ N) (hN : N ≤ 512) (hpos : 0 < h) (hnd : n = d * (2 * h)) (n0 : 0 < n)
    (hA : ∀ j, j < n → 0 ≤ A j ∧ A j < P f) (hR : ∀ j, j < n → R j = x ^ j % P f) :
    Calls Tryd.prog 147 #[.slice (some ⟨g, 0, none⟩) n n, .slice (some ⟨r, 0, none⟩) n n, .int .u64 (P f), .int .i64 h] w fun e w' => e = .returned (.tuple #[]) ∧ RowW .u64 t w' g N (stp f x h d A d 0) ∧ w.grownBy w' (some g) := by
  have hp := P_bd h0 h8
  have HND := Lib.hid hnd
  have d0 : 0 < d := by
    rcases Nat.eq_zero_or_pos d with hz | hz
    · rw [hz, Nat.zero_mul] at hnd; omega
    · exact hz
  have hhn : 2 * h ≤ n := by rw [hnd]; exact Nat.le_mul_of_pos_left _ d0
  have td0 : (n : Int).tdiv (2 * (h : Int)) = d := by
    rw [show 2 * (h : Int) = ((2 * h : Nat) : Int) by omega, Int.tdiv_eq_ediv_of_nonneg (by omega), ← Int.natCast_ediv, hnd, Nat.mul_div_cancel _ (by omega)]
  have td1 : (n : Int) / (2 * (h : Int)) = d := by rw [← td0, Int.tdiv_eq_ediv_of_nonneg (by omega)]
  have hz2 : (2 * (h : Int) == 0) = false := by rw [beq_eq_false_iff_ne]; omega
  have hz3 : ¬ 2 * (h : Int) = 0 := by omega
  have qd : IntKind.i64.wrap (2 * (h : Int)) = 2 * (h : Int) := IntWalk.i64_in _ (by omega)
  have hdn : d ≤ n := by rw [hnd]; exact Nat.le_mul_of_pos_right _ (by omega)
  have HA := Lib.hid hA
  have HRR := Lib.hid hR
  have HG0 := Lib.hid hg
  have HR0 := Lib.hid hr
  have hrlt := hr.lt
  clear hnd hA hR hg hr
  go_enter Tryd.func147, Tryd.ntmps147
  go_wp2_with fail
  go_loopw [9, 10, 11, 12, 13, 14, 52] (fun i _ _ _ _ _ _ wr => ∃ B : Nat, i = .int .i64 ((B * (2 * h) : Nat) : Int) ∧ B ≤ d ∧ RowW .u64 t wr g N (stp f x h d A B 0) ∧ w.grownBy wr (some g)) (fun i _ _ _ _ _ _ _ => n - (intOf i).toNat)
  case atStart => exact ⟨0, by simp, Nat.zero_le _, HG0.out.congr fun j _ => (stp_start f x h d A j).symm, grown_refl w g⟩
  case round =>
    clear HG0 td0 td1
    obtain ⟨B, rfl, hB, ho, hb⟩ := hrel
    by_cases h1 : B < d
    · have hBn : B * (2 * h) + 2 * h ≤ n := by
        have := Nat.mul_le_mul_right (2 * h) (show B + 1 ≤ d by omega)
        rw [Nat.add_mul, Nat.one_mul, ← HND.out] at this
        exact this
      have hd1 : decide (((B * (2 * h) : Nat) : Int) < n) = true := decide_eq_true (by omega)
      obtain ⟨I, hI⟩ : ∃ I, B * (2 * h) = I := ⟨_, rfl⟩
      have HNX : Hid (((I + 2 * h : Nat) : Int) = (((B + 1) * (2 * h) : Nat) : Int)) := Lib.hid (by rw [Nat.add_mul, Nat.one_mul, hI])
      have HOI := Lib.hid ho
      have HRD : Hid (∀ j, j < h → stp f x h d A B j (I + j) = A (I + j) ∧ stp f x h d A B j (I + j + h) = A (I + j + h)) := Lib.hid fun j hj => by rw [← hI]; exact stp_read hj
      have HST : Hid (∀ j, j < h → ∀ t, (if t = I + j + h then RS (A (I + j) - RS (A (I + j + h) * x ^ (j * d)) (P f)) (P f) else if t = I + j then RS (A (I + j) + RS (A (I + j + h) * x ^ (j * d)) (P f)) (P f) else stp f x h d A B j t) = stp f x h d A B (j + 1) t) := Lib.hid fun j hj t => by
        have := stp_step (f := f) (w := x) (d := d) (V := A) (B := B) hj t
        rw [stp_low hj, stp_high hj, hI] at this
        exact this
      have HFULL : Hid (∀ t, stp f x h d A B h t = stp f x h d A (B + 1) 0 t) := Lib.hid fun t => stp_next f x d A B t hpos
      clear ho
      rw [hI] at hd1 hBn ⊢
      clear hI
      have hIn : I < n := by omega
      have u1 : IntKind.i64.wrap ((I : Int) + h) = (I : Int) + h := IntWalk.i64_in _ (by omega)
      have u2 : IntKind.i64.wrap ((I : Int) + 2 * h) = (I : Int) + 2 * h := IntWalk.i64_in _ (by omega)
      have sl0 : ∀ w, (Instr.slice 118 (.slice (some ⟨g, 0, none⟩) n n) (some (.int .i64 I)) (some (.int .i64 ((I : Int) + h))) (some (.int .i64 ((I : Int) + h)))).run Tryd.prog w = .ok (.slice (some ⟨g, I, none⟩) h h) w := fun w => slice_3 Tryd.underlying118 info_uint64 g I (I + h) h n n _ _ (by omega) (by omega) (by omega) (by omega) (by omega) w
      have sl1 : ∀ w, (Instr.slice 118 (.slice (some ⟨g, 0, none⟩) n n) (some (.int .i64 ((I : Int) + h))) (some (.int .i64 ((I : Int) + 2 * h))) (some (.int .i64 ((I : Int) + 2 * h)))).run Tryd.prog w = .ok (.slice (some ⟨g, I + h, none⟩) h h) w := fun w => slice_3 Tryd.underlying118 info_uint64 g (I + h) (I + 2 * h) h n n _ _ (by omega) (by omega) (by omega) (by omega) (by omega) w
      go_wp2_with fail
      clear sl0 sl1
      go_loopw [12, 13, 14, 52] (fun _ _ _ jj W => ∃ j : Nat, jj = .int .i64 j ∧ j ≤ h ∧ RowW .u64 t W g N (stp f x h d A B j) ∧ w.grownBy W (some g)) (fun _ _ _ jj _ => h - (intOf jj).toNat)
      case atStart => exact ⟨0, rfl, Nat.zero_le _, HOI.out, hb⟩
      case round =>
        clear HOI hb
        obtain ⟨j, rfl, hj, ho, hb⟩ := hrel
        by_cases h2 : j < h
        · have hd2 : decide ((j : Int) < h) = true := decide_eq_true (by omega)
          have hrd := HRD.out j h2
          have c1 : wr.cell? ⟨g, I + j, none⟩ = some (.int .u64 (A (I + j))) := by rw [ho.cell (show I + j < N by omega), hrd.1]
          have c2 : wr.cell? ⟨g, I + h + j, none⟩ = some (.int .u64 (A (I + j + h))) := by rw [show I + h + j = I + j + h by omega, ho.cell (show I + j + h < N by omega), hrd.2]
          have hjd : j * d < n := by
            have : j * d < 2 * h * d := Nat.mul_lt_mul_of_pos_right (by omega) d0
            rw [Nat.mul_comm (2 * h) d, ← HND.out] at this
            exact this
          have c3 : wr.cell? ⟨r, j * d, none⟩ = some (.int .u64 (x ^ (j * d) % P f)) := by rw [(HR0.out.other hb hgr).cell (show j * d < N by omega), HRR.out _ hjd]
          have b1 := HA.out (I + j) (by omega)
          have b2 := HA.out (I + j + h) (by omega)
          have b3 : 0 ≤ x ^ (j * d) % P f ∧ x ^ (j * d) % P f < P f := ⟨Int.emod_nonneg _ (by omega), Int.emod_lt_of_pos _ (by omega)⟩
          have hY : RS (A (I + j + h) * (x ^ (j * d) % P f)) (P f) = RS (A (I + j + h) * x ^ (j * d)) (P f) := by unfold RS; exact emod_mul_congr rfl (Int.emod_emod_of_dvd _ (Int.dvd_refl _))
          have HSTj := Lib.hid (HST.out j h2)
          have jdn : ((j : Int) * d) = ((j * d : Nat) : Int) := by rw [Int.natCast_mul]
          have v1 : IntKind.i64.wrap ((j : Int) * d) = (j : Int) * d := IntWalk.i64_in _ (by omega)
          have v2 : (0 : Int) ≤ (j : Int) * d := by omega
          have v3 : (j : Int) * d < n := by omega
          have v4 : ((j : Int) * d).toNat = j * d := by omega
          clear jdn hjd
          have ho2 : RowW .u64 t wr g N (stp f x h d A B j) := ho
          clear ho
          obtain ⟨X, hX⟩ : ∃ X, A (I + j) = X := ⟨_, rfl⟩
          obtain ⟨Y0, hY0⟩ : ∃ Y0, A (I + j + h) = Y0 := ⟨_, rfl⟩
          obtain ⟨R0, hR0⟩ : ∃ R0, x ^ (j * d) % P f = R0 := ⟨_, rfl⟩
          rw [hX] at c1 b1
          rw [hY0] at c2 b2 hY
          rw [hR0] at c3 b3 hY
          rw [hX, hY0] at HSTj
          rw [← hY] at HSTj
          clear hX hY0 hR0 hY hrd
          have m0 : 0 ≤ Y0 * R0 := Int.mul_nonneg b2.1 b3.1
          have m1 : Y0 * R0 ≤ 1073741824 * 1073741824 := mul_le_sq b2.1 (by omega) b3.1 (by omega)
          have hb2 : 0 ≤ RS (Y0 * R0) (P f) ∧ RS (Y0 * R0) (P f) < P f := RS_bd (by omega)
          have t1 : (Y0 * R0).tmod (P f) = RS (Y0 * R0) (P f) := by rw [Int.tmod_eq_emod_of_nonneg m0]; rfl
          have t1' : (Y0 * R0) % (P f) = RS (Y0 * R0) (P f) := rfl
          have k1 : IntKind.u64.wrap (Y0 * R0) = Y0 * R0 := IntWalk.u64_in _ (by omega)
          have pz : (P f == 0) = false := by rw [beq_eq_false_iff_ne]; omega
          have pz2 : ¬ P f = 0 := by omega
          generalize RS (Y0 * R0) (P f) = Y at *
          have k2 : IntKind.u64.wrap Y = Y := IntWalk.u64_in _ (by omega)
          have k3 : IntKind.u64.wrap (X + Y) = X + Y := IntWalk.u64_in _ (by omega)
          have k4 : IntKind.u64.wrap (X + P f) = X + P f := IntWalk.u64_in _ (by omega)
          have k5 : IntKind.u64.wrap (X + P f - Y) = X + P f - Y := IntWalk.u64_in _ (by omega)
          have e1 : (X + Y).tmod (P f) = RS (X + Y) (P f) := by rw [Int.tmod_eq_emod_of_nonneg (by omega)]; rfl
          have e1' : (X + Y) % (P f) = RS (X + Y) (P f) := rfl
          have e2' : (X + P f - Y) % (P f) = RS (X - Y) (P f) := by unfold RS; rw [show X + P f - Y = X - Y + P f by omega, Int.add_emod_right]
          have e2 : (X + P f - Y).tmod (P f) = RS (X - Y) (P f) := by rw [Int.tmod_eq_emod_of_nonneg (by omega), e2']
          have l1 : 0 ≤ RS (X + Y) (P f) ∧ RS (X + Y) (P f) < P f := RS_bd (by omega)
          have l2 : 0 ≤ RS (X - Y) (P f) ∧ RS (X - Y) (P f) < P f := RS_bd (by omega)
          have k6 : IntKind.u64.wrap (RS (X + Y) (P f)) = RS (X + Y) (P f) := IntWalk.u64_in _ (by omega)
          have k7 : IntKind.u64.wrap (RS (X - Y) (P f)) = RS (X - Y) (P f) := IntWalk.u64_in _ (by omega)
          clear m0 m1
          go_wp2
          go_quiet (fail)
          have how2 : RowW .u64 t (wr.drewN nq) g N (stp f x h d A B j) := ho2
          have hgb2 := grown_drews hb nq
          clear c1 c2 c3 hb ho2 t1 t1' k1
          generalize wr.drewN nq = W2 at *
          have cI := how2.cell (show I + j < N by omega)
          have fI := how2.frozen (I + j)
          have how3 := how2.set (I + j) (RS (X + Y) (P f))
          have hgb3 := grown_put (i := I + j) (v := .int .u64 (RS (X + Y) (P f))) hgb2
          obtain ⟨W3, hW3⟩ : ∃ W3, W2.setCell ⟨g, I + j, none⟩ (.int .u64 (RS (X + Y) (P f))) = W3 := ⟨_, rfl⟩
          have HW3 := Lib.hid hW3
          rw [hW3] at how3 hgb3
          have cH := how3.cell (show I + j + h < N by omega)
          have fH := how3.frozen (I + j + h)
          have HOW4 : Hid (RowW .u64 t (W3.setCell ⟨g, I + h + j, none⟩ (.int .u64 (RS (X - Y) (P f)))) g N (stp f x h d A B (j + 1))) := Lib.hid (by
            rw [show I + h + j = I + j + h by omega]
            exact (how3.set (I + j + h) (RS (X - Y) (P f))).congr fun t _ => HSTj.out t)
          have HB4 := Lib.hid (grown_put (i := I + h + j) (v := .int .u64 (RS (X - Y) (P f))) hgb3)
          rw [show I + j + h = I + h + j by omega] at cH fH
          clear how2 how3 hgb2 hgb3 HSTj
          go_wp2_with (rw [hW3])
          go_roundw
          case rel => exact ⟨j + 1, by go_num, by omega, HOW4.out, HB4.out⟩
          case measure => simp [intOf]; omega
        · have hd2 : decide ((j : Int) < h) = false := decide_eq_false (by omega)
          obtain rfl : j = h := by omega
          have HOF : Hid (RowW .u64 t wr g N (stp f x j d A (B + 1) 0)) := Lib.hid (ho.congr fun t _ => HFULL.out t)
          clear ho HFULL HST HRD
          go_wp2
          go_roundw
          case rel => exact ⟨B + 1, vint (by rw [← HNX.out]; omega), by omega, HOF.out, hb⟩
          case measure => simp [intOf]; omega
    · have hBd : B = d := by omega
      subst hBd
      have hBn : B * (2 * h) = n := HND.out.symm
      have hd1 : decide ((n : Int) < n) = false := decide_eq_false (by omega)
      rw [hBn]
      clear hBn
      go_wp2
      go_end0
      exact ⟨rfl, ho, hb⟩
end Go.Proofs.YtoonpnfhcmghmaaDoor
namespace Go.Proofs.YtoonpnfhcmghmaaDoor
open Go.RowKit
theorem slice_arr {P : Program} {t e : TypeId} {z : Value} {by' N : Nat} (hu : P.underlying t = some (.array N e)) (hinfo : (P.info? e).map (fun i => (i.zero, i.size, i.bytes)) = some (some z, 1, by')) (g n : Nat) (hn : n ≤ N) (w : World) :
    (Instr.sliceAt t (.pointer (some ⟨g, 0, none⟩)) none (some (.int .i64 n)) (some (.int .i64 n))).run P w = .ok (.slice (some ⟨g, 0, none⟩) n n) w := by
  obtain ⟨i, hi, hzz⟩ := Option.map_eq_some_iff.1 hinfo
  simp only [Prod.mk.injEq] at hzz
  simp [Instr.sliceAt, Instr.sureAddr, run_underlying hu, Instr.sliceBounds, Instr.sliceBound, asIntOf, sizeOf, typeInfo, hi, hn, Addr.add_zero']
end Go.Proofs.YtoonpnfhcmghmaaDoor
namespace Go.Proofs.YtoonpnfhcmghmaaDoor
open Go.RowKit
theorem zero_uint32 : ((Tryd.prog.info? 113).bind (fun i => i.zero)).map (fun z => z.cells) = some (madeCells #[.int .u32 0] 512) := by kernel_rfl
theorem alloc_uint32 (w : World) : (Instr.alloc 113 true (.tuple #[])).run Tryd.prog w = .ok (.pointer (some ⟨w.heap.size, 0, none⟩)) (w.alloc (.cells (madeCells #[.int .u32 0] 512) 113)) := by
  obtain ⟨z, hz, hcz⟩ := Option.map_eq_some_iff.1 zero_uint32
  obtain ⟨i, hi, hiz⟩ := Option.bind_eq_some_iff.1 hz
  generalize madeCells #[.int .u32 0] 512 = M at *
  simp [Instr.alloc, zeroValue, typeInfo, hi, hiz, newVar, newRow, hcz]
theorem wpList_arr_uint32 {w : World} {ops : Array Oper} {rest : List Oper} {o : Oper} {a : Act} {Q : Exit → Act → World → Prop} (hgd : o.guard = none) (ho : o.op = .alloc 113)
    (h : ∀ w', w'.heap.size = w.heap.size + 1 → Hid (RowW .u32 113 w' w.heap.size 512 (fun _ => 0)) → Below w.heap.size w w' → wpList Tryd.prog ops Q rest (a.put o.dst (.pointer (some ⟨w.heap.size, 0, none⟩))) w') : wpList Tryd.prog ops Q (o :: rest) a w := by
  refine wpList_plain hgd fun K hK' => ?_
  have hrun := alloc_uint32 w
  have hK := h _ (World.size_alloc _ _) (Lib.hid (World.rowIs_made w (.int .u32 0) 512 113)) ((Below.refl _ _).alloc (Nat.le_refl _) _)
  clear h
  generalize w.alloc (.cells (madeCells #[.int .u32 0] 512) 113) = W at *
  unfold Oper.wp
  simp [execOp, ho, hrun, Result.andThen]
  exact hK' _ _ hK
theorem arr_uint32 : Tryd.prog.underlying 113 = some (.array 512 110) := by kernel_rfl
set_option maxRecDepth 100000 in
set_option maxHeartbeats 2000000 in
theorem levelsIn_uint32 (f : Int) (l : List Int) (b off n cap s m k E : Nat) (w : World) (ht : Tab w) (h : VecOk f l) (hP : P f < 65536) (hn : l.length = n) (hk : n = 2 ^ k) (k9 : k ≤ 9) (hh : hasK f k) (hlog : mLog n = k) (hE : E = s + m) (hEk : E ≤ k) (hlt : b < w.heap.size)
    (hc : ∀ j, j < n → w.cell? ⟨b, off + j, none⟩ = some (.int .i64 (lf l j))) :
    Calls Tryd.prog 139 #[.int .i64 f, .slice (some ⟨b, off, none⟩) n cap, .int .i64 s, .int .i64 E] w (OwnG w (lvL f l s m)) := by
  have HVO := Lib.hid h
  have hpos := h.pos
  rw [hn] at hpos
  have hp := P_bd h.f08.1 h.f08.2
  obtain ⟨h0, h8⟩ := h.f08
  have HN := Lib.hid hn
  have HK := Lib.hid hk
  have HH := Lib.hid hh
  have HC := Lib.hid hc
  have HLOG := Lib.hid hlog
  have HLEN : Hid (∀ t, (lvL f l s t).length = n) := Lib.hid fun t => by rw [lvL_len, HN.out]
  have HX : Hid (∀ t, rootL f (lvL f l s t) = mRoot f k) := Lib.hid fun t => by unfold rootL; rw [HLEN.out t, HLOG.out]
  have HE := Lib.hid hE
  have hsmE : s + m = E := hE.symm
  clear h hn hk hh hc hlog hE hsmE
  have hsl : ∀ (g : Nat) (w : World), (Instr.sliceAt 113 (.pointer (some ⟨g, 0, none⟩)) none (some (.int .i64 n)) (some (.int .i64 n))).run Tryd.prog w = .ok (.slice (some ⟨g, 0, none⟩) n n) w := fun g w => slice_arr arr_uint32 info_uint32 g n hpos.2 w
  go_enter Tryd.func139, Tryd.ntmps139
  go_wp2_with (with_reducible refine wpList_arr_uint32 rfl rfl ?_)
  intro w1 z1 r1 b1
  go_wp2_with (with_reducible refine wpList_arr_uint32 rfl rfl ?_)
  intro w2 z2 r2 b2
  have r1' : Hid (RowW .u32 113 w2 w.heap.size 512 (fun _ => 0)) := Lib.hid (r1.out.keep (by rw [z1]; exact b2))
  have b3 : Below w.heap.size w w2 := b1.trans (b2.mono (by omega))
  have z3 : w2.heap.size = w.heap.size + 2 := by omega
  clear r1 b1 b2 z1 z2
  go_wp2
  go_quiet (fail)
  have r3 : RowW .u32 113 (w2.drewN nq) w.heap.size 512 (fun _ => 0) := r1'.out
  have r4 : RowW .u32 113 (w2.drewN nq) (w.heap.size + 1) 512 (fun _ => 0) := r2.out
  have b4 := below_drewN b3 nq
  have z4 : (w2.drewN nq).heap.size = w2.heap.size := rfl
  clear r1' r2 b3 hsl
  generalize w2.drewN nq = W2 at *
  go_wp2_with fail
  refine (fill_uint32 113 w.heap.size n 512 b off cap (fun _ => 0) (lf l) W2 r3 hpos.2 (by omega) (by omega) (by omega) (fun j => by have := HVO.out.lt j; omega) (fun j hj => (b4.cell (p := ⟨b, off + j, none⟩) hlt).trans (HC.out j hj))).mono ?_
  rintro e W3 ⟨rfl, r5, gb5⟩
  have r6 := r4.other gb5 (show w.heap.size + 1 ≠ w.heap.size by omega)
  have b6 : Below w.heap.size w W3 := b4.grown gb5 (by omega) (fun r hr => by injection hr with hr; omega)
  have z6 := gb5.size
  clear r3 r4 b4 gb5
  go_wp2_with fail
  refine (iLogOf n W3).mono ?_
  rintro e w' ⟨rfl, rfl⟩
  rw [HLOG.out]
  go_wp2_with fail
  refine (iRoots_on f k n W3 (ht.below b6) HH.out k9 HK.out).mono ?_
  rintro e W4 ⟨rfl, o4, b7⟩
  have r7 := r5.keep b7
  have r8 := r6.keep b7
  have b8 := below_up b6 b7 b6.size
  have z8 := b7.size
  clear r5 r6 b6 b7
  go_wp2_with fail
  refine (fill_uint32 113 (w.heap.size + 1) n 512 W3.heap.size 0 n (fun _ => 0) (rootsF f k) W4 r8 hpos.2 (by omega) (by omega) o4.lt (fun j => by have := rootsF_bd HH.out j; omega) (fun j hj => by rw [Nat.zero_add]; exact World.rowIs.cell o4 hj)).mono ?_
  rintro e W5 ⟨rfl, r9, gb9⟩
  have r10 := r7.other gb9 (show w.heap.size ≠ w.heap.size + 1 by omega)
  have b10 : Below w.heap.size w W5 := b8.grown gb9 (by omega) (fun r hr => by injection hr with hr; omega)
  have r11 : Hid (RowW .u32 113 W5 w.heap.size 512 (lf (lvL f l s 0))) := Lib.hid (r10.congr fun j _ => by
    show (if j < n then lf l j else 0) = lf l j
    by_cases hj : j < n
    · rw [if_pos hj]
    · rw [if_neg hj, lf_out l (by rw [HN.out]; omega)])
  have r9' := Lib.hid r9
  clear r7 r8 b8 r9 r10 gb9 o4
  go_wp2_with fail
  go_loopw [14] (fun i wr => ∃ t : Nat, i = .int .i64 ((s + t : Nat) : Int) ∧ t ≤ m ∧ RowW .u32 113 wr w.heap.size 512 (lf (lvL f l s t)) ∧ RowW .u32 113 wr (w.heap.size + 1) 512 (fun j => if j < n then rootsF f k j else 0) ∧ Below w.heap.size w wr) (fun i _ => E - (intOf i).toNat)
  case atStart => exact ⟨0, rfl, Nat.zero_le _, r11.out, r9'.out, b10⟩
  case round =>
    clear r11 r9' b10
    obtain ⟨t, rfl, htm, ho, hr, hb⟩ := hrel
    by_cases h1 : t < m
    · obtain ⟨q, hq⟩ : ∃ q, s + t = q := ⟨_, rfl⟩
      have HNX : Hid (((q + 1 : Nat) : Int) = ((s + (t + 1) : Nat) : Int)) := Lib.hid (by omega)
      have hqk : q < k := by have := HE.out; omega
      have HST : Hid (∀ j, stp f (mRoot f k) (2 ^ q) (2 ^ (k - q - 1)) (lf (lvL f l s t)) (2 ^ (k - q - 1)) 0 j = lf (lvL f l s (t + 1)) j) := Lib.hid fun j => by
        have := stp_list (f := f) (l := lvL f l s t) (k := k) (q := q) (by rw [HLEN.out, HK.out]) hqk j
        rw [HX.out t] at this
        rw [this, ← hq]
        rfl
      rw [hq]
      have hqE : q < E := by have := HE.out; omega
      clear hq
      have hd1 : decide ((q : Int) < E) = true := decide_eq_true (by omega)
      have HEH : Hid (wrap64 (2 ^ q) = ((2 ^ q : Nat) : Int)) := Lib.hid (by rw [shl_nat (by omega)]; unfold two; rw [Int.toNat_natCast, Int.natCast_pow]; rfl)
      have kP : IntKind.u32.wrap (P f) = P f := IntWalk.u32_in _ (by omega)
      have HBT := Lib.hid (fun (W : World) (ho : RowW .u32 113 W w.heap.size 512 (lf (lvL f l s t))) (hr : RowW .u32 113 W (w.heap.size + 1) 512 (fun j => if j < n then rootsF f k j else 0)) => butter_uint32 f (mRoot f k) 113 w.heap.size (w.heap.size + 1) n 512 (2 ^ q) (2 ^ (k - q - 1)) (lf (lvL f l s t)) (fun j => if j < n then rootsF f k j else 0) W h0 h8 hP ho hr (by omega) hpos.2 (by omega) (Nat.pow_pos (by omega)) (by rw [HK.out, pow_half hqk]) hpos.1 (fun j _ => (HVO.out.lv s t).lt j) (fun j hj => by show (if j < n then rootsF f k j else 0) = _; rw [if_pos hj, rootsF_pow HH.out]))
      have ho2 : Hid (RowW .u32 113 wr.drew w.heap.size 512 (lf (lvL f l s t))) := Lib.hid ho
      have hr2 : Hid (RowW .u32 113 wr.drew (w.heap.size + 1) 512 (fun j => if j < n then rootsF f k j else 0)) := Lib.hid hr
      have hb2 : Below w.heap.size w wr.drew := ⟨hb.os, hb.tape, hb.output, hb.size, hb.block⟩
      have htd := ht.below hb2
      clear ho hr hb
      go_wp2
      refine wp_region_still_tail 7 (by kernel_rfl) (by kernel_rfl) ?_
      simp only [List.take_succ_cons, List.take_zero, List.drop_succ_cons, List.drop_zero]
      still_step
      still_step
      still_step
      still_call ((prime_c f wr.drew htd h0 h8).mono fun _ _ h => ⟨h.1, h.2.symm⟩)
      still_step
      still_step
      still_step
      refine wpStill_nil ?_
      change wpList _ _ _ _ _ wr.drew
      generalize wr.drew = W at *
      go_wp2_with fail
      rw [HEH.out]
      refine (HBT.out W ho2.out hr2.out).mono ?_
      rintro e W' ⟨rfl, ro, rg⟩
      have ro2 : Hid (RowW .u32 113 W' w.heap.size 512 (lf (lvL f l s (t + 1)))) := Lib.hid (ro.congr fun j _ => HST.out j)
      have rr2 := Lib.hid (hr2.out.other rg (show w.heap.size + 1 ≠ w.heap.size by omega))
      have rb : Below w.heap.size w W' := hb2.grown rg (by have := hb2.size; omega) (fun r hr => by injection hr with hr; omega)
      clear ro rg HBT HST ho2 hr2 hb2 htd HEH
      go_wp2
      go_roundw
      case rel => exact ⟨t + 1, vint (by rw [← HNX.out]; omega), by omega, ro2.out, rr2.out, rb⟩
      case measure => simp [intOf]; omega
    · obtain rfl : t = m := by omega
      have hd1 : decide ((E : Int) < E) = false := decide_eq_false (by omega)
      rw [← HE.out]
      obtain ⟨wo, hwo⟩ : ∃ wo, wo = wr := ⟨_, rfl⟩
      subst hwo
      have hmk := made_n n (by omega)
      have zw := hb.size
      go_wp2_with fail
      clear hmk hr
      go_loopw [16, 17, 53] (fun _ _ i W => ∃ j : Nat, i = .int .i64 j ∧ j ≤ n ∧ Own W wo.heap.size n (fun x => if x < j then lf (lvL f l s t) x else 0) ∧ Below wo.heap.size wo W) (fun _ _ i _ => n - (intOf i).toNat)
      case atStart =>
        refine ⟨0, rfl, Nat.zero_le _, ?_, (Below.refl _ _).alloc (Nat.le_refl _) _⟩
        exact (World.rowIs_made wo (.int .i64 0) n 3).congr fun j _ => by simp
      case round =>
        obtain ⟨j, rfl, hj, ho2, hb2⟩ := hrel
        by_cases h2 : j < n
        · have c1 : wr.cell? ⟨w.heap.size, j, none⟩ = some (.int .u32 (lf (lvL f l s t) j)) := (ho.keep hb2).cell (by omega)
          have hd2 : decide ((j : Int) < n) = true := decide_eq_true (by omega)
          have HS := Lib.hid (copy_set (w := wo) (F := lf (lvL f l s t)) ho2)
          have c3 := World.rowIs.cell ho2 h2
          have c4 := World.rowIs.frozen ho2 j
          have bv := (HVO.out.lv s t).lt j
          have q1 : IntKind.i64.wrap (lf (lvL f l s t) j) = lf (lvL f l s t) j := IntWalk.i64_in _ (by omega)
          clear ho2
          go_wp2
          go_roundw
          case rel => exact ⟨j + 1, by go_num, by omega, HS.out, hb2.setCell (Nat.le_refl _) _⟩
          case measure => simp [intOf]; omega
        · have hd2 : decide ((j : Int) < n) = false := decide_eq_false (by omega)
          obtain rfl : j = n := by omega
          have HF : Hid (OwnG w (lvL f l s t) (.returned (.slice (some ⟨wo.heap.size, 0, none⟩) j j)) wr) := Lib.hid (OwnG.of_own ho2 (HLEN.out t).symm zw (fun x hx => by simp [hx]) (below_up hb hb2 zw))
          clear ho2
          go_wp2
          go_ret
          exact HF.out
end Go.Proofs.YtoonpnfhcmghmaaDoor
namespace Go.Proofs.YtoonpnfhcmghmaaDoor
open Go.RowKit
theorem zero_uint64 : ((Tryd.prog.info? 117).bind (fun i => i.zero)).map (fun z => z.cells) = some (madeCells #[.int .u64 0] 512) := by kernel_rfl
theorem alloc_uint64 (w : World) : (Instr.alloc 117 true (.tuple #[])).run Tryd.prog w = .ok (.pointer (some ⟨w.heap.size, 0, none⟩)) (w.alloc (.cells (madeCells #[.int .u64 0] 512) 117)) := by
  obtain ⟨z, hz, hcz⟩ := Option.map_eq_some_iff.1 zero_uint64
  obtain ⟨i, hi, hiz⟩ := Option.bind_eq_some_iff.1 hz
  generalize madeCells #[.int .u64 0] 512 = M at *
  simp [Instr.alloc, zeroValue, typeInfo, hi, hiz, newVar, newRow, hcz]
theorem wpList_arr_uint64 {w : World} {ops : Array Oper} {rest : List Oper} {o : Oper} {a : Act} {Q : Exit → Act → World → Prop} (hgd : o.guard = none) (ho : o.op = .alloc 117)
    (h : ∀ w', w'.heap.size = w.heap.size + 1 → Hid (RowW .u64 117 w' w.heap.size 512 (fun _ => 0)) → Below w.heap.size w w' → wpList Tryd.prog ops Q rest (a.put o.dst (.pointer (some ⟨w.heap.size, 0, none⟩))) w') : wpList Tryd.prog ops Q (o :: rest) a w := by
  refine wpList_plain hgd fun K hK' => ?_
  have hrun := alloc_uint64 w
  have hK := h _ (World.size_alloc _ _) (Lib.hid (World.rowIs_made w (.int .u64 0) 512 117)) ((Below.refl _ _).alloc (Nat.le_refl _) _)
  clear h
  generalize w.alloc (.cells (madeCells #[.int .u64 0] 512) 117) = W at *
  unfold Oper.wp
  simp [execOp, ho, hrun, Result.andThen]
  exact hK' _ _ hK
theorem arr_uint64 : Tryd.prog.underlying 117 = some (.array 512 111) := by kernel_rfl
set_option maxRecDepth 100000 in
set_option maxHeartbeats 2000000 in
theorem levelsIn_uint64 (f : Int) (l : List Int) (b off n cap s m k E : Nat) (w : World) (ht : Tab w) (h : VecOk f l) (hn : l.length = n) (hk : n = 2 ^ k) (k9 : k ≤ 9) (hh : hasK f k) (hlog : mLog n = k) (hE : E = s + m) (hEk : E ≤ k) (hlt : b < w.heap.size)
    (hc : ∀ j, j < n → w.cell? ⟨b, off + j, none⟩ = some (.int .i64 (lf l j))) :
    Calls Tryd.prog 140 #[.int .i64 f, .slice (some ⟨b, off, none⟩) n cap, .int .i64 s, .int .i64 E] w (OwnG w (lvL f l s m)) := by
  have HVO := Lib.hid h
  have hpos := h.pos
  rw [hn] at hpos
  have hp := P_bd h.f08.1 h.f08.2
  obtain ⟨h0, h8⟩ := h.f08
  have HN := Lib.hid hn
  have HK := Lib.hid hk
  have HH := Lib.hid hh
  have HC := Lib.hid hc
  have HLOG := Lib.hid hlog
  have HLEN : Hid (∀ t, (lvL f l s t).length = n) := Lib.hid fun t => by rw [lvL_len, HN.out]
  have HX : Hid (∀ t, rootL f (lvL f l s t) = mRoot f k) := Lib.hid fun t => by unfold rootL; rw [HLEN.out t, HLOG.out]
  have HE := Lib.hid hE
  have hsmE : s + m = E := hE.symm
  clear h hn hk hh hc hlog hE hsmE
  have hsl : ∀ (g : Nat) (w : World), (Instr.sliceAt 117 (.pointer (some ⟨g, 0, none⟩)) none (some (.int .i64 n)) (some (.int .i64 n))).run Tryd.prog w = .ok (.slice (some ⟨g, 0, none⟩) n n) w := fun g w => slice_arr arr_uint64 info_uint64 g n hpos.2 w
  go_enter Tryd.func140, Tryd.ntmps140
  go_wp2_with (with_reducible refine wpList_arr_uint64 rfl rfl ?_)
  intro w1 z1 r1 b1
  go_wp2_with (with_reducible refine wpList_arr_uint64 rfl rfl ?_)
  intro w2 z2 r2 b2
  have r1' : Hid (RowW .u64 117 w2 w.heap.size 512 (fun _ => 0)) := Lib.hid (r1.out.keep (by rw [z1]; exact b2))
  have b3 : Below w.heap.size w w2 := b1.trans (b2.mono (by omega))
  have z3 : w2.heap.size = w.heap.size + 2 := by omega
  clear r1 b1 b2 z1 z2
  go_wp2
  go_quiet (fail)
  have r3 : RowW .u64 117 (w2.drewN nq) w.heap.size 512 (fun _ => 0) := r1'.out
  have r4 : RowW .u64 117 (w2.drewN nq) (w.heap.size + 1) 512 (fun _ => 0) := r2.out
  have b4 := below_drewN b3 nq
  have z4 : (w2.drewN nq).heap.size = w2.heap.size := rfl
  clear r1' r2 b3 hsl
  generalize w2.drewN nq = W2 at *
  go_wp2_with fail
  refine (fill_uint64 117 w.heap.size n 512 b off cap (fun _ => 0) (lf l) W2 r3 hpos.2 (by omega) (by omega) (by omega) (fun j => by have := HVO.out.lt j; omega) (fun j hj => (b4.cell (p := ⟨b, off + j, none⟩) hlt).trans (HC.out j hj))).mono ?_
  rintro e W3 ⟨rfl, r5, gb5⟩
  have r6 := r4.other gb5 (show w.heap.size + 1 ≠ w.heap.size by omega)
  have b6 : Below w.heap.size w W3 := b4.grown gb5 (by omega) (fun r hr => by injection hr with hr; omega)
  have z6 := gb5.size
  clear r3 r4 b4 gb5
  go_wp2_with fail
  refine (iLogOf n W3).mono ?_
  rintro e w' ⟨rfl, rfl⟩
  rw [HLOG.out]
  go_wp2_with fail
  refine (iRoots_on f k n W3 (ht.below b6) HH.out k9 HK.out).mono ?_
  rintro e W4 ⟨rfl, o4, b7⟩
  have r7 := r5.keep b7
  have r8 := r6.keep b7
  have b8 := below_up b6 b7 b6.size
  have z8 := b7.size
  clear r5 r6 b6 b7
  go_wp2_with fail
  refine (fill_uint64 117 (w.heap.size + 1) n 512 W3.heap.size 0 n (fun _ => 0) (rootsF f k) W4 r8 hpos.2 (by omega) (by omega) o4.lt (fun j => by have := rootsF_bd HH.out j; omega) (fun j hj => by rw [Nat.zero_add]; exact World.rowIs.cell o4 hj)).mono ?_
  rintro e W5 ⟨rfl, r9, gb9⟩
  have r10 := r7.other gb9 (show w.heap.size ≠ w.heap.size + 1 by omega)
  have b10 : Below w.heap.size w W5 := b8.grown gb9 (by omega) (fun r hr => by injection hr with hr; omega)
  have r11 : Hid (RowW .u64 117 W5 w.heap.size 512 (lf (lvL f l s 0))) := Lib.hid (r10.congr fun j _ => by
    show (if j < n then lf l j else 0) = lf l j
    by_cases hj : j < n
    · rw [if_pos hj]
    · rw [if_neg hj, lf_out l (by rw [HN.out]; omega)])
  have r9' := Lib.hid r9
  clear r7 r8 b8 r9 r10 gb9 o4
  go_wp2_with fail
  go_loopw [14] (fun i wr => ∃ t : Nat, i = .int .i64 ((s + t : Nat) : Int) ∧ t ≤ m ∧ RowW .u64 117 wr w.heap.size 512 (lf (lvL f l s t)) ∧ RowW .u64 117 wr (w.heap.size + 1) 512 (fun j => if j < n then rootsF f k j else 0) ∧ Below w.heap.size w wr) (fun i _ => E - (intOf i).toNat)
  case atStart => exact ⟨0, rfl, Nat.zero_le _, r11.out, r9'.out, b10⟩
  case round =>
    clear r11 r9' b10
    obtain ⟨t, rfl, htm, ho, hr, hb⟩ := hrel
    by_cases h1 : t < m
    · obtain ⟨q, hq⟩ : ∃ q, s + t = q := ⟨_, rfl⟩
      have HNX : Hid (((q + 1 : Nat) : Int) = ((s + (t + 1) : Nat) : Int)) := Lib.hid (by omega)
      have hqk : q < k := by have := HE.out; omega
      have HST : Hid (∀ j, stp f (mRoot f k) (2 ^ q) (2 ^ (k - q - 1)) (lf (lvL f l s t)) (2 ^ (k - q - 1)) 0 j = lf (lvL f l s (t + 1)) j) := Lib.hid fun j => by
        have := stp_list (f := f) (l := lvL f l s t) (k := k) (q := q) (by rw [HLEN.out, HK.out]) hqk j
        rw [HX.out t] at this
        rw [this, ← hq]
        rfl
      rw [hq]
      have hqE : q < E := by have := HE.out; omega
      clear hq
      have hd1 : decide ((q : Int) < E) = true := decide_eq_true (by omega)
      have HEH : Hid (wrap64 (2 ^ q) = ((2 ^ q : Nat) : Int)) := Lib.hid (by rw [shl_nat (by omega)]; unfold two; rw [Int.toNat_natCast, Int.natCast_pow]; rfl)
      have kP : IntKind.u64.wrap (P f) = P f := IntWalk.u64_in _ (by omega)
      have HBT := Lib.hid (fun (W : World) (ho : RowW .u64 117 W w.heap.size 512 (lf (lvL f l s t))) (hr : RowW .u64 117 W (w.heap.size + 1) 512 (fun j => if j < n then rootsF f k j else 0)) => butter_uint64 f (mRoot f k) 117 w.heap.size (w.heap.size + 1) n 512 (2 ^ q) (2 ^ (k - q - 1)) (lf (lvL f l s t)) (fun j => if j < n then rootsF f k j else 0) W h0 h8 ho hr (by omega) hpos.2 (by omega) (Nat.pow_pos (by omega)) (by rw [HK.out, pow_half hqk]) hpos.1 (fun j _ => (HVO.out.lv s t).lt j) (fun j hj => by show (if j < n then rootsF f k j else 0) = _; rw [if_pos hj, rootsF_pow HH.out]))
      have ho2 : Hid (RowW .u64 117 wr.drew w.heap.size 512 (lf (lvL f l s t))) := Lib.hid ho
      have hr2 : Hid (RowW .u64 117 wr.drew (w.heap.size + 1) 512 (fun j => if j < n then rootsF f k j else 0)) := Lib.hid hr
      have hb2 : Below w.heap.size w wr.drew := ⟨hb.os, hb.tape, hb.output, hb.size, hb.block⟩
      have htd := ht.below hb2
      clear ho hr hb
      go_wp2
      refine wp_region_still_tail 7 (by kernel_rfl) (by kernel_rfl) ?_
      simp only [List.take_succ_cons, List.take_zero, List.drop_succ_cons, List.drop_zero]
      still_step
      still_step
      still_step
      still_call ((prime_c f wr.drew htd h0 h8).mono fun _ _ h => ⟨h.1, h.2.symm⟩)
      still_step
      still_step
      still_step
      refine wpStill_nil ?_
      change wpList _ _ _ _ _ wr.drew
      generalize wr.drew = W at *
      go_wp2_with fail
      rw [HEH.out]
      refine (HBT.out W ho2.out hr2.out).mono ?_
      rintro e W' ⟨rfl, ro, rg⟩
      have ro2 : Hid (RowW .u64 117 W' w.heap.size 512 (lf (lvL f l s (t + 1)))) := Lib.hid (ro.congr fun j _ => HST.out j)
      have rr2 := Lib.hid (hr2.out.other rg (show w.heap.size + 1 ≠ w.heap.size by omega))
      have rb : Below w.heap.size w W' := hb2.grown rg (by have := hb2.size; omega) (fun r hr => by injection hr with hr; omega)
      clear ro rg HBT HST ho2 hr2 hb2 htd HEH
      go_wp2
      go_roundw
      case rel => exact ⟨t + 1, vint (by rw [← HNX.out]; omega), by omega, ro2.out, rr2.out, rb⟩
      case measure => simp [intOf]; omega
    · obtain rfl : t = m := by omega
      have hd1 : decide ((E : Int) < E) = false := decide_eq_false (by omega)
      rw [← HE.out]
      obtain ⟨wo, hwo⟩ : ∃ wo, wo = wr := ⟨_, rfl⟩
      subst hwo
      have hmk := made_n n (by omega)
      have zw := hb.size
      go_wp2_with fail
      clear hmk hr
      go_loopw [16, 17, 53] (fun _ _ i W => ∃ j : Nat, i = .int .i64 j ∧ j ≤ n ∧ Own W wo.heap.size n (fun x => if x < j then lf (lvL f l s t) x else 0) ∧ Below wo.heap.size wo W) (fun _ _ i _ => n - (intOf i).toNat)
      case atStart =>
        refine ⟨0, rfl, Nat.zero_le _, ?_, (Below.refl _ _).alloc (Nat.le_refl _) _⟩
        exact (World.rowIs_made wo (.int .i64 0) n 3).congr fun j _ => by simp
      case round =>
        obtain ⟨j, rfl, hj, ho2, hb2⟩ := hrel
        by_cases h2 : j < n
        · have c1 : wr.cell? ⟨w.heap.size, j, none⟩ = some (.int .u64 (lf (lvL f l s t) j)) := (ho.keep hb2).cell (by omega)
          have hd2 : decide ((j : Int) < n) = true := decide_eq_true (by omega)
          have HS := Lib.hid (copy_set (w := wo) (F := lf (lvL f l s t)) ho2)
          have c3 := World.rowIs.cell ho2 h2
          have c4 := World.rowIs.frozen ho2 j
          have bv := (HVO.out.lv s t).lt j
          have q1 : IntKind.i64.wrap (lf (lvL f l s t) j) = lf (lvL f l s t) j := IntWalk.i64_in _ (by omega)
          clear ho2
          go_wp2
          go_roundw
          case rel => exact ⟨j + 1, by go_num, by omega, HS.out, hb2.setCell (Nat.le_refl _) _⟩
          case measure => simp [intOf]; omega
        · have hd2 : decide ((j : Int) < n) = false := decide_eq_false (by omega)
          obtain rfl : j = n := by omega
          have HF : Hid (OwnG w (lvL f l s t) (.returned (.slice (some ⟨wo.heap.size, 0, none⟩) j j)) wr) := Lib.hid (OwnG.of_own ho2 (HLEN.out t).symm zw (fun x hx => by simp [hx]) (below_up hb hb2 zw))
          clear ho2
          go_wp2
          go_ret
          exact HF.out
end Go.Proofs.YtoonpnfhcmghmaaDoor
namespace Go.Proofs.YtoonpnfhcmghmaaDoor
open Go.RowKit
theorem levels_c (f : Int) (a : Option Addr) (l : List Int) (cap s m E : Nat) (w : World) (ht : Tab w) (h : VecOk f l) (hs : Src w a l.length (lf l)) (hE : E = s + m) (hEk : (E : Int) ≤ mLog l.length) :
    Calls Tryd.prog 130 #[.int .i64 f, .slice a l.length cap, .int .i64 s, .int .i64 E] w (OwnG w (lvL f l s m)) := by
  obtain ⟨k, k9, hn, hl, hh⟩ := h.log
  obtain ⟨b, off, rfl, hlt, hc⟩ := vec_some hs h.pos.1
  obtain ⟨h0, h8⟩ := h.f08
  by_cases hP : P f < 65536
  · have H := Lib.hid (levelsIn_uint32 f l b off l.length cap s m k E w ht h hP rfl hn k9 hh hl hE (by omega) hlt hc)
    have hd : decide (P f < 65536) = true := decide_eq_true hP
    clear hs hc hE hEk hn hl hh h
    go_enter Tryd.func130, Tryd.ntmps130
    go_wp2_with fail
    refine (prime_c f w ht h0 h8).mono ?_
    rintro e w' ⟨rfl, rfl⟩
    go_wp2_with fail
    refine H.out.mono ?_
    rintro e w' ⟨g, rfl, hr⟩
    have HR := Lib.hid hr
    clear hr
    go_wp2
    go_ret
    exact ⟨g, rfl, HR.out⟩
  · have H := Lib.hid (levelsIn_uint64 f l b off l.length cap s m k E w ht h rfl hn k9 hh hl hE (by omega) hlt hc)
    have hd : decide (P f < 65536) = false := decide_eq_false hP
    clear hs hc hE hEk hn hl hh h
    go_enter Tryd.func130, Tryd.ntmps130
    go_wp2_with fail
    refine (prime_c f w ht h0 h8).mono ?_
    rintro e w' ⟨rfl, rfl⟩
    go_wp2_with fail
    refine H.out.mono ?_
    rintro e w' ⟨g, rfl, hr⟩
    have HR := Lib.hid hr
    clear hr
    go_wp2
    go_ret
    exact ⟨g, rfl, HR.out⟩
end Go.Proofs.YtoonpnfhcmghmaaDoor
namespace Go.Proofs.YtoonpnfhcmghmaaDoor
open Go.RowKit
theorem transform_c (f : Int) (a : Option Addr) (l : List Int) (cap : Nat) (w : World) (ht : Tab w) (h : VecOk f l) (hs : Src w a l.length (lf l)) : Calls Tryd.prog 110 #[.int .i64 f, .slice a l.length cap] w (OwnG w (fwdL f l)) := by
  obtain ⟨k, k9, hn, hl, hh⟩ := h.log
  have HP := Lib.hid (iPermute a l.length cap k (lf l) w k9 hn hs)
  have HL : Hid (∀ w, Calls Tryd.prog 92 #[.int .i64 l.length] w fun e w' => e = .returned (.int .i64 k) ∧ w = w') := Lib.hid fun w => by have := iLogOf l.length w; rwa [hl] at this
  have hpl := permL_len l k
  have HV : Hid (∀ (g : Nat) (w1 : World), Tab w1 → Own w1 g l.length (fun j => lf l (rv j k)) → Calls Tryd.prog 130 #[.int .i64 f, .slice (some ⟨g, 0, none⟩) l.length l.length, .int .i64 0, .int .i64 k] w1 (OwnG w1 (fwdL f l))) := Lib.hid fun g w1 ht1 ho => by
    have hsrc : Src w1 (some ⟨g, 0, none⟩) (permL l k).length (lf (permL l k)) := by
      rw [hpl]
      exact (own_congr ho rfl (fun j hj => by unfold permL; rw [lf_tab, if_pos hj])).src
    have := levels_c f (some ⟨g, 0, none⟩) (permL l k) l.length 0 k k w1 ht1 (h.perm k) hsrc (by omega) (by rw [hpl, hl]; exact Int.le_refl _)
    rw [lv_fwd h hn, hpl] at this
    exact this
  clear hs hn hl hh h hpl
  go_enter Tryd.func110, Tryd.ntmps110
  go_wp2_with fail
  refine HP.out.mono ?_
  rintro e w1 ⟨rfl, o1, b1⟩
  have HO1 := Lib.hid o1
  clear o1 HP
  go_wp2_with fail
  refine (HL.out w1).mono ?_
  rintro e w' ⟨rfl, rfl⟩
  go_wp2_with fail
  refine (HV.out w.heap.size w1 (ht.below b1) HO1.out).mono ?_
  rintro e w2 h2
  have HR := Lib.hid (h2.up b1)
  obtain ⟨g, rfl, _⟩ := h2
  clear HV HO1
  go_wp2
  go_ret
  exact HR.out
set_option maxRecDepth 100000 in
set_option maxHeartbeats 1600000 in
theorem transformBack_c (f : Int) (a : Option Addr) (l : List Int) (cap : Nat) (w : World) (ht : Tab w) (h : VecOk f l) (hs : Src w a l.length (lf l)) : Calls Tryd.prog 111 #[.int .i64 f, .slice a l.length cap] w (OwnG w (bwdL f l)) := by
  obtain ⟨h0, h8⟩ := h.f08
  have hpos := h.pos
  have hp := P_bd h0 h8
  have HT := Lib.hid (transform_c f a l cap w ht h hs)
  have hfl := fwdL_len f l
  have hml := mirL_len (fwdL f l)
  obtain ⟨k, k9, hn, hl, hh⟩ := h.log
  have hle : (l.length : Int) < P f := by
    have hle := two_le hh
    have e : two (k : Int) = (l.length : Int) := by unfold two; rw [hn, Int.toNat_natCast, Int.natCast_pow]; rfl
    omega
  have hinv : PW (P f) (l.length : Int) (P f - 2) = mPower f l.length (-1) := by
    rw [inverse_inv h0 h8 (by omega) hle]
    unfold invF
    rw [RS_self (by omega) hle, if_neg (by omega)]
  have HI : Hid (∀ w, Tab w → Calls Tryd.prog 112 #[.int .i64 f, .int .i64 l.length] w fun e w' => e = .returned (.int .i64 (mPower f l.length (-1))) ∧ w = w') := Lib.hid fun w ht => by
    have := inverse_c f l.length w ht h0 h8 (by omega) hle
    rwa [hinv] at this
  have hib : 0 ≤ mPower f l.length (-1) ∧ mPower f l.length (-1) < P f := by
    have := (inv_one h0 h8 (z := (l.length : Int)) (by rw [RS_self (by omega) hle]; omega)).2
    omega
  have HEQ : Hid (∀ j, j < l.length → RS (lf (mirL (fwdL f l)) j * mPower f l.length (-1)) (P f) = lf (bwdL f l) j) := Lib.hid fun j hj => bwd_by_fwd h hj
  have HFB : Hid (∀ j, 0 ≤ lf (mirL (fwdL f l)) j ∧ lf (mirL (fwdL f l)) j < P f) := Lib.hid fun j => h.fwd.mir.lt j
  have HMR : Hid (∀ (g : Nat) (w1 : World), Own w1 g l.length (lf (fwdL f l)) → Calls Tryd.prog 132 #[.slice (some ⟨g, 0, none⟩) l.length l.length] w1 fun e w' => ∃ g2, e = .returned (.slice (some ⟨g2, 0, none⟩) l.length l.length) ∧ w1.heap.size ≤ g2 ∧ Own w' g2 l.length (lf (mirL (fwdL f l))) ∧ Below w1.heap.size w1 w') := Lib.hid fun g w1 ho => by
    have hsrc : Src w1 (some ⟨g, 0, none⟩) (fwdL f l).length (lf (fwdL f l)) := by rw [hfl]; exact ho.src
    have := mirrored_c (some ⟨g, 0, none⟩) (fwdL f l) l.length w1 (by omega) (by omega) hsrc
    rw [hfl] at this
    refine this.mono ?_
    rintro e w' ⟨g2, rfl, hg2, ho2, hb2⟩
    rw [hml, hfl] at ho2
    refine ⟨g2, ?_, hg2, ho2, hb2⟩
    rw [hml, hfl]
  have HBL := Lib.hid (bwdL_len f l)
  have HFL := Lib.hid hfl
  clear hs hn hl hh h hfl hml hinv hle
  generalize mPower f l.length (-1) = c at *
  generalize hnn : l.length = n at *
  generalize lf (mirL (fwdL f l)) = M at *
  clear hnn
  go_enter Tryd.func111, Tryd.ntmps111
  go_wp2_with fail
  refine HT.out.mono ?_
  rintro e w1 ⟨g, rfl, hg, o1, b1⟩
  rw [HFL.out] at o1 ⊢
  have HO1 := Lib.hid o1
  clear o1 HT
  go_wp2_with fail
  refine (HMR.out g w1 HO1.out).mono ?_
  rintro e w2 ⟨g2, rfl, hg2, o2, b2⟩
  have HO2 := Lib.hid o2
  have b3 := below_up b1 b2 b1.size
  have hg3 : w.heap.size ≤ g2 := Nat.le_trans b1.size hg2
  clear o2 HO1 HMR b1 b2 hg hg2
  go_wp2_with fail
  refine (HI.out w2 (ht.below b3)).mono ?_
  rintro e w' ⟨rfl, rfl⟩
  clear HI
  go_wp2_with fail
  go_loopw [7, 8, 19] (fun _ _ i wr => ∃ j : Nat, i = .int .i64 j ∧ j ≤ n ∧ Own wr g2 n (fun x => if x < j then RS (M x * c) (P f) else M x) ∧ Below w.heap.size w wr) (fun _ _ i _ => n - (intOf i).toNat)
  case atStart => exact ⟨0, rfl, Nat.zero_le _, own_congr HO2.out rfl (fun j _ => by simp), b3⟩
  case round =>
    clear HO2 b3
    obtain ⟨j, rfl, hj, ho, hb⟩ := hrel
    by_cases h1 : j < n
    · have c1 : wr.cell? ⟨g2, j, none⟩ = some (.int .i64 (M j)) := by have := World.rowIs.cell ho h1; simpa using this
      have c4 := World.rowIs.frozen ho j
      have hd1 : decide ((j : Int) < n) = true := decide_eq_true (by omega)
      have HS : Hid (Own (wr.setCell ⟨g2, j, none⟩ (.int .i64 (RS (M j * c) (P f)))) g2 n (fun x => if x < j + 1 then RS (M x * c) (P f) else M x)) := Lib.hid ((World.rowIs.set ho j (.int .i64 (RS (M j * c) (P f)))).congr fun x _ => by
        by_cases e : x = j
        · subst e; simp
        · by_cases e2 : x < j
          · simp [e, e2, show x < j + 1 by omega]
          · simp [e, e2, show ¬ x < j + 1 by omega])
      have hm := HFB.out j
      clear ho
      go_wp2_with fail
      refine (mul_c f (M j) c wr (ht.below hb) h0 h8 hm.1 hm.2 hib.1 hib.2).mono ?_
      rintro e w' ⟨rfl, rfl⟩
      go_wp2
      go_roundw
      case rel => exact ⟨j + 1, by go_num, by omega, HS.out, hb.setCell hg3 _⟩
      case measure => simp [intOf]; omega
    · have hd1 : decide ((j : Int) < n) = false := decide_eq_false (by omega)
      obtain rfl : j = n := by omega
      have HF : Hid (OwnG w (bwdL f l) (.returned (.slice (some ⟨g2, 0, none⟩) j j)) wr) := Lib.hid (OwnG.of_own ho HBL.out.symm hg3 (fun x hx => by simp [hx]; exact HEQ.out x hx) hb)
      clear ho
      go_wp2
      go_ret
      exact HF.out
theorem twi_at {f : Int} {n : Nat} {A B : Nat → Int} (hA : ∀ j, n ≤ j → A j = 0) (hB : ∀ j, n ≤ j → B j = 0) {x : Nat} (hx : x < n) :
    (if x < n - 1 then RS (RS (cpar A B x n) (P f) - RS (cpar A B (n + x) n) (P f)) (P f) else RS (cpar A B x n) (P f)) = RS (twiF n A B x) (P f) := by
  rw [twi_fold hx hA hB, cpar_end x hA, cpar_end (n + x) hA, Nat.add_comm n x]
  by_cases h : x < n - 1
  · rw [if_pos h]
    unfold RS
    rw [← Int.sub_emod]
  · rw [if_neg h, cv_out (k := x + n) hA hB (by omega), Int.sub_zero]
set_option maxRecDepth 100000 in
set_option maxHeartbeats 1600000 in
theorem twisted_some (f : Int) (b off b2 off2 n cap cap2 : Nat) (A B : Nat → Int) (w : World) (ht : Tab w) (h0 : 0 ≤ f) (h8 : f ≤ 8) (n0 : 0 < n) (hn : n ≤ 512) (hA : ∀ j, 0 ≤ A j ∧ A j < P f) (hB : ∀ j, 0 ≤ B j ∧ B j < P f) (hB2 : ∀ j, n ≤ j → B j = 0) (hlt : b < w.heap.size) (hlt2 : b2 < w.heap.size)
    (hc : ∀ j, j < n → w.cell? ⟨b, off + j, none⟩ = some (.int .i64 (A j))) (hc2 : ∀ j, j < n → w.cell? ⟨b2, off2 + j, none⟩ = some (.int .i64 (B j))) :
    Calls Tryd.prog 57 #[.int .i64 f, .slice (some ⟨b, off, none⟩) n cap, .slice (some ⟨b2, off2, none⟩) n cap2] w fun e w' => ∃ g, e = .returned (.slice (some ⟨g, 0, none⟩) n n) ∧ w.heap.size ≤ g ∧ Own w' g n (fun x => if x < n - 1 then RS (RS (cpar A B x n) (P f) - RS (cpar A B (n + x) n) (P f)) (P f) else RS (cpar A B x n) (P f)) ∧ Below w.heap.size w w' := by
  have hp := P_bd h0 h8
  obtain ⟨N, hN⟩ : ∃ N, n + n = N + 1 := ⟨n + n - 1, by omega⟩
  have HPR := Lib.hid (product_some f b off b2 off2 n n cap cap2 N A B w ht h0 h8 (by omega) (by omega) n0 n0 hN hA hB hB2 hlt hlt2 hc hc2)
  obtain ⟨C, hC⟩ : ∃ C : Nat → Int, C = fun k => RS (cpar A B k n) (P f) := ⟨_, rfl⟩
  have HCB : Hid (∀ j, 0 ≤ C j ∧ C j < P f) := Lib.hid fun j => by rw [hC]; exact RS_bd (by omega)
  have hmk := made_n n (by omega)
  obtain ⟨q, hq⟩ : ∃ q, n = q + 1 := ⟨n - 1, by omega⟩
  have HG : Hid (∀ (g : Nat) (e : Ending) (w' : World), e = .returned (.slice (some ⟨g, 0, none⟩) n n) → w.heap.size ≤ g → Own w' g n (fun x => if x < q then RS (C x - C (n + x)) (P f) else C x) → Below w.heap.size w w' → ∃ g, e = .returned (.slice (some ⟨g, 0, none⟩) n n) ∧ w.heap.size ≤ g ∧ Own w' g n (fun x => if x < n - 1 then RS (RS (cpar A B x n) (P f) - RS (cpar A B (n + x) n) (P f)) (P f) else RS (cpar A B x n) (P f)) ∧ Below w.heap.size w w') := Lib.hid fun g e w' h1 h2 h3 h4 => ⟨g, h1, h2, by rw [hC] at h3; rw [show n - 1 = q by omega]; exact h3, h4⟩
  have HSL : Hid (∀ g : Nat, ∃ p : Option Addr, (0 < q → p = some ⟨g, n, none⟩) ∧ ∀ w : World, (Instr.slice 24 (.slice (some ⟨g, 0, none⟩) N N) (some (.int .i64 n)) none none).run Tryd.prog w = .ok (.slice p q q) w) := Lib.hid fun g => by
    obtain ⟨i, hi, hzz⟩ := Option.map_eq_some_iff.1 info3
    simp only [Prod.mk.injEq] at hzz
    by_cases hz : q = 0
    · refine ⟨some ⟨g, 0, none⟩, fun h => absurd hz (by omega), fun w => ?_⟩
      have e1 : N = n := by omega
      have e2 : n = 1 := by omega
      subst e1
      simp [Instr.slice, run_underlying Tryd.underlying24, Instr.sliceBounds, Instr.sliceBound, asIntOf, sizeOf, typeInfo, hi, hz]
    · refine ⟨some ⟨g, n, none⟩, fun _ => rfl, fun w => ?_⟩
      have e1 : ¬ N = n := by omega
      have e2 : n ≤ N := by omega
      have e3 : N - n = q := by omega
      simp [Instr.slice, run_underlying Tryd.underlying24, Instr.sliceBounds, Instr.sliceBound, asIntOf, sizeOf, typeInfo, hi, hzz.2.1, e1, e2, e3, Addr.add_lit]
  rw [← hC] at HPR
  have HQ := Lib.hid hq
  have HNN := Lib.hid hN
  clear hc hc2 hA hB hB2 hq hN hC
  go_enter Tryd.func57, Tryd.ntmps57
  go_wp2_with fail
  refine HPR.out.mono ?_
  rintro e w1 ⟨rfl, o1, b1⟩
  have HO1 := Lib.hid o1
  have HS1 := Lib.hid o1.src
  clear o1 HPR
  have hz1 := b1.size
  have hnN : n ≤ N := by have := HNN.out; omega
  go_wp2_with (with_reducible refine wpList_copy_made rfl _ _ rfl n 0 n n N N _ _ C rfl rfl (fun _ => rfl) hnN (by omega) HS1.out ?_)
  intro w2 HO2 b2
  have HO3 : Hid (Own w2 w1.heap.size n C) := Lib.hid (own_congr HO2.out rfl (fun j hj => show _ = C j by simp [hj]))
  have HO4 := Lib.hid (HO1.out.keep b2)
  have b3 := below_up b1 b2 b1.size
  obtain ⟨p, hpp, hsl⟩ := HSL.out w.heap.size
  have HPP := Lib.hid hpp
  have hg1 : w1.heap.size ≠ w.heap.size := by have := HO1.out.lt; omega
  clear hmk HO1 HO2 HS1 b1 b2 hpp HSL
  go_wp2_with fail
  clear hsl
  go_loopw [9, 10, 26] (fun _ _ i wr => ∃ j : Nat, i = .int .i64 j ∧ j ≤ q ∧ Own wr w1.heap.size n (fun x => if x < j then RS (C x - C (n + x)) (P f) else C x) ∧ Own wr w.heap.size N C ∧ Below w.heap.size w wr) (fun _ _ i _ => q - (intOf i).toNat)
  case atStart => exact ⟨0, rfl, Nat.zero_le _, own_congr HO3.out rfl (fun j _ => by simp), HO4.out, b3⟩
  case round =>
    clear HO3 HO4 b3
    obtain ⟨j, rfl, hj, ho, ho1, hb⟩ := hrel
    by_cases h1 : j < q
    · have hjn : j < n := by have := HQ.out; omega
      have hp1 := HPP.out (by omega)
      subst hp1
      have c0 : wr.cell? ⟨w.heap.size, n + j, none⟩ = some (.int .i64 (C (n + j))) := World.rowIs.cell ho1 (by have := HQ.out; have := HNN.out; omega)
      have c1 : wr.cell? ⟨w1.heap.size, j, none⟩ = some (.int .i64 (C j)) := by have := World.rowIs.cell ho hjn; simpa using this
      have c4 := World.rowIs.frozen ho j
      have hd1 : decide ((j : Int) < q) = true := decide_eq_true (by omega)
      have hjn2 : (j : Int) < n := by omega
      have HS : Hid (Own (wr.setCell ⟨w1.heap.size, j, none⟩ (.int .i64 (RS (C j - C (n + j)) (P f)))) w1.heap.size n (fun x => if x < j + 1 then RS (C x - C (n + x)) (P f) else C x)) := Lib.hid ((World.rowIs.set ho j (.int .i64 (RS (C j - C (n + j)) (P f)))).congr fun x _ => by
        by_cases e : x = j
        · subst e; simp
        · by_cases e2 : x < j
          · simp [e, e2, show x < j + 1 by omega]
          · simp [e, e2, show ¬ x < j + 1 by omega])
      have HS2 : Hid (Own (wr.setCell ⟨w1.heap.size, j, none⟩ (.int .i64 (RS (C j - C (n + j)) (P f)))) w.heap.size N C) := Lib.hid (World.rowIs.setOther ho1 (fun e => hg1 e.symm) _)
      have hm1 := HCB.out j
      have hm2 := HCB.out (n + j)
      clear ho ho1
      go_wp2_with fail
      refine (sub_c f (C j) (C (n + j)) wr (ht.below hb) h0 h8 hm1.1 hm1.2 hm2.1 hm2.2).mono ?_
      rintro e w' ⟨rfl, rfl⟩
      go_wp2
      go_roundw
      case rel => exact ⟨j + 1, by go_num, by omega, HS.out, HS2.out, hb.setCell hz1 _⟩
      case measure => simp [intOf]; omega
    · have hd1 : decide ((j : Int) < q) = false := decide_eq_false (by omega)
      obtain rfl : j = q := by omega
      have HF := Lib.hid (HG.out w1.heap.size _ wr rfl hz1 ho hb)
      clear ho ho1 HG
      go_wp2
      go_ret
      exact HF.out
theorem twisted_c (f : Int) (a : Option Addr) (l : List Int) (cap : Nat) (a2 : Option Addr) (m : List Int) (cap2 : Nat) (w : World) (ht : Tab w) (h : TwoOk f l m) (hs : Src w a l.length (lf l)) (hs2 : Src w a2 m.length (lf m)) : Calls Tryd.prog 57 #[.int .i64 f, .slice a l.length cap, .slice a2 m.length cap2] w (OwnG w (twiL f l m)) := by
  obtain ⟨hlm, hl, hm⟩ := h
  have hp := hl.pos
  obtain ⟨b, off, rfl, hlt, hc⟩ := vec_some hs hp.1
  obtain ⟨b2, off2, rfl, hlt2, hc2⟩ := vec_some hs2 hm.pos.1
  rw [← hlm] at hc2 ⊢
  refine (twisted_some f b off b2 off2 l.length cap cap2 (lf l) (lf m) w ht hl.f08.1 hl.f08.2 hp.1 hp.2 hl.lt hm.lt (fun j hj => lf_out m (by omega)) hlt hlt2 hc hc2).mono ?_
  rintro e w' ⟨g, rfl, hg, ho, hb⟩
  exact OwnG.of_own ho (tab_len _ _).symm hg (fun j hj => by unfold twiL; rw [lf_tab, if_pos hj]; exact twi_at (fun t ht => lf_out l ht) (fun t ht => lf_out m (by omega)) hj) hb
theorem iTwisted (f : Int) (a : Option Addr) (l : List Int) (cap : Nat) (a2 : Option Addr) (m : List Int) (cap2 : Nat) (w : World) (hn : l.length ≤ 1048576) (hn2 : m.length ≤ 1048576) (hs : Src w a l.length (lf l)) (hs2 : Src w a2 m.length (lf m)) (ht : Tab w) : Calls Tryd.prog 17 #[.int .i64 f, .slice a l.length cap, .slice a2 m.length cap2] w (OwnL w (mTwisted f l m)) := by
  have R1 := areVectors_c f a a2 l m cap cap2 w hn hn2 hs hs2 ht
  by_cases h : TwoOk f l m
  · rw [two_iff.2 h] at R1
    rw [show mTwisted f l m = twiL f l m by unfold mTwisted; rw [if_pos h]]
    have HR1 := Lib.hid R1
    have HT := Lib.hid (twisted_c f a l cap a2 m cap2 w ht h hs hs2)
    clear R1 hs hs2 h
    go_enter Tryd.func17, Tryd.ntmps17
    go_wp2_with fail
    refine HR1.out.mono ?_
    rintro e w' ⟨rfl, rfl⟩
    go_wp2_with fail
    refine HT.out.mono ?_
    rintro e w1 h1
    have HR := Lib.hid h1.own
    obtain ⟨g, rfl, _⟩ := h1
    go_wp2
    go_ret
    exact HR.out
  · rw [two_not.2 h] at R1
    rw [show mTwisted f l m = [] by unfold mTwisted; rw [if_neg h]]
    have HR1 := Lib.hid R1
    clear R1 hs hs2 h
    go_enter Tryd.func17, Tryd.ntmps17
    go_wp2_with fail
    refine HR1.out.mono ?_
    rintro e w' ⟨rfl, rfl⟩
    go_wp2
    go_ret
    exact ⟨none, 0, rfl, OwnA.nil rfl, Below.refl _ _⟩
end Go.Proofs.YtoonpnfhcmghmaaDoor
namespace Go.Proofs.YtoonpnfhcmghmaaDoor
open Go.RowKit Go.Shelf
attribute [local go_sem] Oper.semAt_some
theorem pws_xs {f r : Int} (h0 : 0 ≤ f) (h8 : f ≤ 8) (hr : 0 ≤ r) (n : Nat) : (pws f r n).map (Value.int .i64) = xsF (lf (pwL f r n)) n := by
  unfold pws xsF
  rw [List.map_map]
  refine List.map_congr_left fun j hj => ?_
  have hj2 : j < n := List.mem_range.1 hj
  show Value.int .i64 (PW (P f) r j) = _
  unfold pwL
  rw [lf_tab, if_pos hj2, PW_pow h0 h8 hr]
theorem own_form {w : World} {base n : Nat} {v : Value} {xs : List Value} (h : w.ownsRow base 3 1 v n xs) (hn : n ≠ 0) : ∃ g c, v = .slice (some ⟨g, 0, none⟩) n c := by
  rcases h.2 with ⟨_, h0⟩ | ⟨g, cap, cur, h, _⟩
  · exact absurd h0 hn
  · exact ⟨g, cap, h⟩
theorem block_same2 {W w1 : World} {tmp : Obj} {row : Option Nat} {Bl B : Nat} {v : Value} (hgrow : (W.alloc tmp).grownBy w1 row) (h1 : B < W.heap.size) (h2 : some B ≠ row) (h3 : B ≠ Bl) : (w1.setCell ⟨Bl, 0, none⟩ v).heap[B]? = W.heap[B]? :=
  (Below.heap_setCell w1 ⟨Bl, 0, none⟩ v B (fun e => h3 e)).trans ((hgrow.block B (by simp; omega) h2).trans (Below.heap_alloc W tmp B h1))
set_option maxRecDepth 100000 in
set_option maxHeartbeats 2000000 in
theorem appendSeq_c (f r : Int) (n Bc Bn Ba : Nat) (w : World) (ht : Tab w) (f0 : 0 ≤ f) (f8 : f ≤ 8) (r0 : 0 ≤ r) (r1 : r < P f) (n9 : n ≤ 512) (w0 : 0 < w.heap.size) (hBc : Bc < w.heap.size) (hBn : Bn < w.heap.size) (hBa : Ba < w.heap.size)
    (cC : w.cell? ⟨Bc, 0, none⟩ = some (.int .i64 n)) (cN : w.cell? ⟨Bn, 0, none⟩ = some (.int .i64 f)) (cA : w.cell? ⟨Ba, 0, none⟩ = some (.int .i64 r)) :
    Calls Tryd.prog 136 #[.slice none 0 0, .func (.func 137) #[] #[.pointer (some ⟨Bc, 0, none⟩), .pointer (some ⟨Bn, 0, none⟩), .pointer (some ⟨Ba, 0, none⟩)]] w (fun e w' => ∃ v, e = .returned v ∧ w'.ownsRow w.heap.size 3 1 v n ((pws f r n).map (Value.int .i64)) ∧ Below w.heap.size w w') := by
  refine (callsIn_wide (n := 6)).1 ?_
  refine callsIn_of_wp_marks Tryd.func136 rfl trivial ?_ rfl
  simp only [Tryd.ntmps136, List.size_toArray, List.length_cons, List.length_nil, Nat.reduceAdd, Nat.reduceSub, Array.replicate_succ, Array.replicate_zero, List.push_toArray, List.append_toArray, List.nil_append, List.cons_append]
  refine wpIn_wide.2 ?_
  go_wp2
  obtain ⟨WL, hWL⟩ : ∃ WL, w.alloc (.cells #[.slice none 0 0] 24) = WL := ⟨_, rfl⟩
  have zL : WL.heap.size = w.heap.size + 1 := by rw [← hWL]; simp
  have xL : Boxed WL w.heap.size 24 (.slice none 0 0) := by rw [← hWL]; exact Boxed.new w 24 (.slice none 0 0)
  have oL : WL.ownsRow w.heap.size 3 1 (.slice none 0 0) 0 [] := World.ownsRow_nil _ _ _ _
  have bL : Below w.heap.size w WL := by rw [← hWL]; exact (Below.refl _ _).alloc (Nat.le_refl _) _
  have tL : Tab WL := ht.below bL
  have cCL : WL.cell? ⟨Bc, 0, none⟩ = some (.int .i64 n) := (bL.cell (p := ⟨Bc, 0, none⟩) hBc).trans cC
  have cNL : WL.cell? ⟨Bn, 0, none⟩ = some (.int .i64 f) := (bL.cell (p := ⟨Bn, 0, none⟩) hBn).trans cN
  have cAL : WL.cell? ⟨Ba, 0, none⟩ = some (.int .i64 r) := (bL.cell (p := ⟨Ba, 0, none⟩) hBa).trans cA
  rw [hWL]
  clear hWL
  obtain ⟨i0, hi, hz0, hz1, hz2⟩ := info_parts info3
  refine (wpIn_wide (n := 6)).1 ?_
  refine wpIn_rangeFunc_ownG (F := Fence.wide) (n := 6) rfl (by omega) (gf := 137) (lb := #[.pointer (some ⟨Bc, 0, none⟩), .pointer (some ⟨Bn, 0, none⟩), .pointer (some ⟨Ba, 0, none⟩)]) rfl trivial (enters_of Tryd.func137 (by kernel_rfl) rfl)
    (powers_stops 5 (by omega) Bc Bn Ba w.heap.size f r n f0 f8 r0 r1 (by omega) w0 WL (by omega) tL (by omega) (by omega) (by omega) cCL cNL cAL)
    (fun h k => ⟨h.1.trans k.1, k.2.1.trans h.2.1, k.2.2.trans h.2.2⟩) (fun W l o o' hl ho hc hw => ⟨belowK_b (w := w) (Nat.le_refl _) W l o o' (by omega) ho hc hw, World.putObj_heap_other (by omega), World.putObj_heap_other (by omega)⟩) (Below.refl _ _) (fun _ => rfl)
    (fun pre W => (∃ v, Boxed W w.heap.size 24 v ∧ W.ownsRow w.heap.size 3 1 v pre.length (pre.map (Value.int .i64)) ∧ True) ∧ Below w.heap.size w W ∧ w.heap.size + 1 ≤ W.heap.size)
    (fun _ _ _ => False)
    (OwnFrom.and (Own.from (holdsRow_own w.heap.size w.heap.size 24 3 1 (fun (pre : List Int) => pre.length) (fun (pre : List Int) => pre.map (Value.int .i64)) (fun _ _ => True)) _) (OwnFrom.and (ownFrom_below (Nat.le_refl _) (by omega)) (fun s A B row hs hg hr => Nat.le_trans hs hg.size)))
    (fun _ _ _ _ _ hs _ _ => hs)
    ⟨⟨_, xL, oL, trivial⟩, bL, by omega⟩
    (fun x => { tmps := #[.slice none 0 0, .func (.func 137) #[] #[.pointer (some ⟨Bc, 0, none⟩), .pointer (some ⟨Bn, 0, none⟩), .pointer (some ⟨Ba, 0, none⟩)], .pointer (some ⟨w.heap.size, 0, none⟩), undef, .slice none 0 0, .int .i64 x, .func (.func 137) #[] #[.pointer (some ⟨Bc, 0, none⟩), .pointer (some ⟨Bn, 0, none⟩), .pointer (some ⟨Ba, 0, none⟩)], .int .i64 x, undef, undef, undef, undef, undef], defers := [] }) ?assign ?body ?done ?stop
  case assign =>
    intro l x W K hK
    gi_wp2
    exact hK
  case body =>
    rintro l pre x W ⟨⟨v, hv, hrow, _⟩, hB, hz⟩ hlt
    have hc := hv.cell
    gi_wp2_with (gi_at_builtin; refine wpListIn_append_own _ rfl _ _ 24 rfl w.heap.size 3 i0 (.int .i64 0) 1 8 Tryd.underlying24 hi hz0 hz1 hz2 rfl (by decide) _ _ _ rfl (hrow.alloc _) ⟨W.heap.size, 0, none⟩ 1 1 [.int .i64 x] rfl rfl (cell_one_new _ _ _) (by simp [Value.oneCell']) (by unfold maxLen; omega) (by omega) (by have := hB.size; simp; omega) ?_; intro v' w1 hown' hgrow _; obtain ⟨g', c', rfl⟩ := own_form hown' (by omega); obtain ⟨hv1, hv2, hr2, hk2, hb2⟩ := hv.appended (by decide) hrow hB.size (by omega) hown' hgrow; have hc1 := hv1.cell; have hf1 := hv1.frozen)
    exact ⟨hk2.from _, ⟨hb2, block_same2 hgrow (by omega) (fun e => by have := own_ge hrow _ e.symm; omega) (by omega), block_same2 hgrow (by omega) (fun e => by have := own_ge hrow _ e.symm; omega) (by omega)⟩, ⟨_, hv2, by simpa using hr2, trivial⟩, hB.trans hb2, Nat.le_trans hz hk2.size⟩
  case done =>
    rintro D ys W hD rfl ⟨⟨v, hv, hrow, _⟩, hB, hz⟩ hK
    rw [pws_len] at hrow
    have hc := hv.cell
    go_wp2
    refine ⟨by simp, .inl ⟨_, _, rfl, run_takeDeferred hK, ?_⟩⟩
    exact ⟨_, results_tmp rfl _ _ _, v, rfl, ownsRow_putObj hrow _ hK rfl, hB.trans (belowK_b (w := w) (Nat.le_refl _) W D _ _ (by omega) hK rfl rfl)⟩
  case stop =>
    rintro D c pre W _ _ h _
    exact h.elim
end Go.Proofs.YtoonpnfhcmghmaaDoor
namespace Go.Proofs.YtoonpnfhcmghmaaDoor
open Mth
theorem P6 : P 6 = 998244353 := by decide
theorem P7 : P 7 = 469762049 := by decide
/-- The product of the primes of the fields 6 and 7. -/
def MM : Int := 468937312667959297
theorem bezout_dvd {a b s t u v : Int} (hb : a * s + b * t = 1) (e : a * u = b * v) : b ∣ u := by
  have h1 : (a * s + b * t) * u = s * (a * u) + b * (t * u) := by
    rw [Int.add_mul]
    congr 1
    · rw [Int.mul_comm a s, Int.mul_assoc]
    · rw [Int.mul_assoc]
  rw [hb, Int.one_mul, e] at h1
  exact ⟨s * v + t * u, h1.trans (by rw [Int.mul_add, ← Int.mul_assoc s b v, Int.mul_comm s b, Int.mul_assoc])⟩
theorem bez67 : (998244353 : Int) * 208783132 + 469762049 * (-443664155) = 1 := by decide
theorem mul67 : (998244353 : Int) * 469762049 = 468937312667959297 := by decide
theorem small_zero {z t : Int} (h : z = 468937312667959297 * t) (h1 : -468937312667959297 < z) (h2 : z < 468937312667959297) : z = 0 := by omega
/-- A number below MM is known by its two residues. -/
theorem crt_unique {x y : Int} (x0 : 0 ≤ x) (x1 : x < MM) (y0 : 0 ≤ y) (y1 : y < MM) (h6 : x % P 6 = y % P 6) (h7 : x % P 7 = y % P 7) : x = y := by
  rw [P6] at h6
  rw [P7] at h7
  unfold MM at x1 y1
  obtain ⟨u, hu⟩ : (998244353 : Int) ∣ x - y := Int.dvd_of_emod_eq_zero (Int.emod_eq_emod_iff_emod_sub_eq_zero.1 h6)
  obtain ⟨v, hv⟩ : (469762049 : Int) ∣ x - y := Int.dvd_of_emod_eq_zero (Int.emod_eq_emod_iff_emod_sub_eq_zero.1 h7)
  obtain ⟨t, ht⟩ := bezout_dvd bez67 (hu.symm.trans hv)
  rw [ht, ← Int.mul_assoc, mul67] at hu
  have := small_zero hu (by clear hu hv ht h6 h7; omega) (by clear hu hv ht h6 h7; omega)
  clear hu hv ht h6 h7
  omega
/-- z is the number of the residues a, b. -/
def IsJoined (a b z : Int) : Prop := 0 ≤ z ∧ z < MM ∧ z % P 6 = a ∧ z % P 7 = b
theorem IsJoined.unique {a b y z : Int} (hy : IsJoined a b y) (hz : IsJoined a b z) : y = z :=
  crt_unique hy.1 hy.2.1 hz.1 hz.2.1 (hy.2.2.1.trans hz.2.2.1.symm) (hy.2.2.2.trans hz.2.2.2.symm)
end Go.Proofs.YtoonpnfhcmghmaaDoor
namespace Go.Proofs.YtoonpnfhcmghmaaDoor
/-- The number of the first n digits, the least first. -/
def dv (D : Nat → Int) (n : Nat) : Int := sumN (fun i => D i * 10 ^ i) n
def Dig (D : Nat → Int) (n : Nat) : Prop := ∀ i, i < n → 0 ≤ D i ∧ D i < 10
/-- Carrying: after i places, what has been written, and what is carried. -/
def Carry (S B : Nat → Int) (i : Nat) (up : Int) : Prop := Dig B i ∧ 0 ≤ up ∧ dv B i + up * 10 ^ i = dv S i
theorem Carry.start (S B : Nat → Int) : Carry S B 0 0 := ⟨fun i hi => by omega, Int.le_refl _, rfl⟩
theorem Carry.step {S B : Nat → Int} {i : Nat} {up : Int} (h : Carry S B i up) (hs : 0 ≤ S i) (hb : B i = (up + S i) % 10) : Carry S B (i + 1) ((up + S i) / 10) := by
  have hu := h.2.1
  refine ⟨fun j hj => ?_, by omega, ?_⟩
  · by_cases e : j = i
    · subst e; rw [hb]; omega
    · exact h.1 j (by omega)
  · have e1 : dv B (i + 1) = dv B i + B i * 10 ^ i := rfl
    have e2 : dv S (i + 1) = dv S i + S i * 10 ^ i := rfl
    have e3 : up + S i = (up + S i) % 10 + (up + S i) / 10 * 10 := by omega
    have e4 : (up + S i) * 10 ^ i = B i * 10 ^ i + (up + S i) / 10 * 10 ^ (i + 1) := by
      conv => lhs; rw [e3]
      rw [Int.add_mul, hb, Int.pow_succ, Int.mul_assoc, Int.mul_comm 10 (10 ^ i)]
    have e5 := h.2.2
    rw [Int.add_mul] at e4
    rw [e1, e2]
    omega
/-- Where nothing is carried any more, what was written has the number of all the sums. -/
theorem Carry.last {S B : Nat → Int} {i n : Nat} (h : Carry S B i 0) (hn : n ≤ i) (hz : ∀ j, n ≤ j → S j = 0) : dv B i = dv S n := by
  have := h.2.2
  rw [Int.zero_mul, Int.add_zero] at this
  rw [this]
  exact sumN_more hn fun j hj _ => by rw [hz j hj, Int.zero_mul]
end Go.Proofs.YtoonpnfhcmghmaaDoor
namespace Go.Proofs.YtoonpnfhcmghmaaDoor
/-- The digits from place lo on, to the end of the six of place p. -/
def tS (D : Nat → Int) (n k p : Nat) : Int := dv (fun j => D (max (6 * p) (n - k) + j)) (6 * p + 6 - max (6 * p) (n - k))
end Go.Proofs.YtoonpnfhcmghmaaDoor
namespace Go.Proofs.YtoonpnfhcmghmaaDoor
open Go.RowKit
theorem below_alloc (w : World) (o : Obj) : Below w.heap.size w (w.alloc o) := (Below.refl _ _).alloc (Nat.le_refl _) o
end Go.Proofs.YtoonpnfhcmghmaaDoor
namespace Go.Proofs.YtoonpnfhcmghmaaDoor
open Go.RowKit
theorem alloc_heap (w : World) (o : Obj) : (w.alloc o).heap[w.heap.size]? = some o := heap_alloc_new w o
theorem heap_lt {w : World} {g : Nat} {o : Obj} (h : w.heap[g]? = some o) : g < w.heap.size := (Array.getElem?_eq_some_iff.1 h).1
theorem heap_cell {w : World} {g j : Nat} {cs : Array Value} {t : TypeId} {v : Value} (h : w.heap[g]? = some (.cells cs t)) (hj : cs[j]? = some v) : w.cell? ⟨g, j, none⟩ = some v := by
  unfold World.cell?
  simp [h, hj]
theorem heap_frozen {w : World} {g j : Nat} {cs : Array Value} {t : TypeId} (h : w.heap[g]? = some (.cells cs t)) : w.frozen? ⟨g, j, none⟩ = false := by
  unfold World.frozen?
  simp [h]
end Go.Proofs.YtoonpnfhcmghmaaDoor
namespace Go.Proofs.YtoonpnfhcmghmaaDoor
open Go.RowKit
/-- A struct's two cells. -/
def TwoC (s : Nat) (u v : Value) (W : World) : Prop := W.cell? ⟨s, 0, none⟩ = some u ∧ W.cell? ⟨s, 1, none⟩ = some v
theorem TwoC.keep {s b : Nat} {u v : Value} {W W' : World} (k : TwoC s u v W) (hb : Below b W W') (hlt : s < b) : TwoC s u v W' :=
  ⟨(hb.cell (p := ⟨s, 0, none⟩) hlt).trans k.1, (hb.cell (p := ⟨s, 1, none⟩) hlt).trans k.2⟩
theorem TwoC.drew {s : Nat} {u v : Value} {W : World} (k : TwoC s u v W) : TwoC s u v W.drew := k
theorem cell_set8 {w : World} {g g2 o j : Nat} {v : Value} (h : g ≠ g2) : (w.setCell ⟨g2, o, none⟩ v).cell? ⟨g, j, none⟩ = w.cell? ⟨g, j, none⟩ := by
  unfold World.cell?
  rw [Below.heap_setCell w ⟨g2, o, none⟩ v g h]
theorem TwoC.store2 {s p : Nat} {u v : Value} {W : World} (k : TwoC s u v W) (x y : Value) (h : s < p) : TwoC s u v ((W.setCell ⟨p, 0, none⟩ x).setCell ⟨p, 1, none⟩ y) :=
  ⟨by rw [cell_set8 (by omega), cell_set8 (by omega)]; exact k.1, by rw [cell_set8 (by omega), cell_set8 (by omega)]; exact k.2⟩
/-- A struct's block. -/
def TwoB (s : Nat) (u v : Value) (t : TypeId) (W : World) : Prop := W.heap[s]? = some (.cells #[u, v] t)
theorem TwoB.keep {s b : Nat} {u v : Value} {t : TypeId} {W W' : World} (k : TwoB s u v t W) (hb : Below b W W') (hlt : s < b) : TwoB s u v t W' := (hb.block s hlt).trans k
theorem TwoB.c {s : Nat} {u v : Value} {t : TypeId} {W : World} (k : TwoB s u v t W) : TwoC s u v W := ⟨heap_cell k rfl, heap_cell k rfl⟩
theorem TwoB.lt {s : Nat} {u v : Value} {t : TypeId} {W : World} (k : TwoB s u v t W) : s < W.heap.size := heap_lt k
theorem twoB_new (W : World) (u v : Value) (t : TypeId) : TwoB W.heap.size u v t (W.alloc (.cells #[u, v] t)) := alloc_heap W _
theorem store_cells {W : World} {R : Nat} {t : TypeId} {u v x y : Value} (h : TwoB R x y t W) : TwoC R u v ((W.setCell ⟨R, 0, none⟩ u).setCell ⟨R, 1, none⟩ v) := by
  have r0 : W.rowIs R t 2 (fun j => if j = 0 then x else y) := ⟨#[x, y], h, rfl, fun j hj => by
    rcases (show j = 0 ∨ j = 1 by omega) with rfl | rfl <;> rfl⟩
  have r2 := World.rowIs.set (World.rowIs.set r0 0 u) 1 v
  exact ⟨by have := World.rowIs.cell r2 (i := 0) (by omega); simpa using this, by have := World.rowIs.cell r2 (i := 1) (by omega); simpa using this⟩
theorem own_store {W : World} {g n R : Nat} {F : Nat → Int} {u v : Value} (h : Own W g n F) (hne : g ≠ R) : Own ((W.setCell ⟨R, 0, none⟩ u).setCell ⟨R, 1, none⟩ v) g n F :=
  World.rowIs.of_block h ((Below.heap_setCell _ ⟨R, 1, none⟩ v g hne).trans (Below.heap_setCell _ ⟨R, 0, none⟩ u g hne))
theorem below_store {b R : Nat} {w W : World} {u v : Value} (h : Below b w W) (hR : b ≤ R) : Below b w ((W.setCell ⟨R, 0, none⟩ u).setCell ⟨R, 1, none⟩ v) := (h.setCell (p := ⟨R, 0, none⟩) hR u).setCell (p := ⟨R, 1, none⟩) hR v
/-- The answer: a struct of the field and a list in memory of its own. -/
def OwnVec (f : Int) (w : World) (l : List Int) (e : Ending) (w' : World) : Prop := ∃ g, e = .returned (.agg #[.int .i64 f, .slice (some ⟨g, 0, none⟩) l.length l.length]) ∧ w.heap.size ≤ g ∧ Own w' g l.length (lf l) ∧ Below w.heap.size w w'
theorem OwnVec.up {f : Int} {u w w' : World} {l : List Int} {e : Ending} (h : OwnVec f w l e w') (hb : Below u.heap.size u w) : OwnVec f u l e w' := by
  obtain ⟨g, he, hg, ho, hb2⟩ := h
  exact ⟨g, he, Nat.le_trans hb.size hg, ho, below_up hb hb2 hb.size⟩
theorem ringOf_c (f : Int) (a : Option Addr) (n cap : Nat) (w : World) : Calls Tryd.prog 55 #[.int .i64 f, .slice a n cap] w (fun e w' => e = .returned (.agg #[.int .i64 f, .slice a n cap]) ∧ Below w.heap.size w w') := by
  have HB : Hid (∀ o, Below w.heap.size w (w.alloc o)) := Lib.hid (below_alloc w)
  go_enter Tryd.func55, Tryd.ntmps55
  go_wp2
  refine bodyPost_ret (v := .agg #[.int .i64 f, .slice a n cap]) (by simp [results, Tryd.results55, go_sem]) rfl ?_
  exact ⟨rfl, HB.out _⟩
theorem size8_c (f : Int) (a : Option Addr) (n cap : Nat) (w : World) : Calls Tryd.prog 101 #[.agg #[.int .i64 f, .slice a n cap]] w (IntP w n) := by
  have HB : Hid (∀ o, Below w.heap.size w (w.alloc o)) := Lib.hid (below_alloc w)
  go_enter Tryd.func101, Tryd.ntmps101
  go_wp2
  go_ret
  exact ⟨rfl, HB.out _⟩
set_option maxRecDepth 100000 in
set_option maxHeartbeats 1600000 in
theorem splitRoot_c (f : Int) (a : Option Addr) (l : List Int) (cap : Nat) (w : World) (ht : Tab w) (h : OpenOk f l) : Calls Tryd.prog 109 #[.agg #[.int .i64 f, .slice a l.length cap]] w (IntP w (zL f l)) := by
  have HT : Hid (∀ W, Below w.heap.size w W → Tab W) := Lib.hid fun W hb => ht.below hb
  have HH := Lib.hid h.has.1
  have HZ : Hid (mRoot f (mLog l.length + 1) = zL f l) := Lib.hid rfl
  have h9 : 0 ≤ mLog l.length ∧ mLog l.length ≤ 9 := by
    obtain ⟨k, hk, hq1, hl, hq2⟩ := h.1.log
    omega
  have hn5 := h.1.pos.2
  clear h ht
  have HL : Hid (∀ W, Calls Tryd.prog 92 #[.int .i64 l.length] W fun e w' => e = .returned (.int .i64 (mLog l.length)) ∧ W = w') := Lib.hid fun W => iLogOf l.length W
  generalize zL f l = z at *
  generalize mLog l.length = L at *
  have HRT : Hid (∀ W, Below w.heap.size w W → Calls Tryd.prog 129 #[.int .i64 f, .int .i64 (IntKind.i64.wrap (L + 1))] W fun e w' => e = .returned (.int .i64 z) ∧ W = w') := Lib.hid fun W hb => by
    rw [show IntKind.i64.wrap (L + 1) = L + 1 from IntWalk.i64_in _ (by omega), ← HZ.out]
    exact rootk_c f (L + 1) W (HT.out W hb) HH.out
  generalize l.length = n at *
  have HB0 := Lib.hid (twoB_new w (.int .i64 f) (.slice a n cap) 56)
  have hb0 := below_alloc w (.cells #[.int .i64 f, .slice a n cap] 56)
  go_enter Tryd.func109, Tryd.ntmps109
  go_wp2_with fail
  generalize w.alloc (.cells #[.int .i64 f, .slice a n cap] 56) = W0 at *
  have k0 := HB0.out.c
  have d0 : TwoC w.heap.size (.int .i64 f) (.slice a n cap) W0.drew := k0.drew
  have hbd : Below w.heap.size w W0.drew := hb0.drew
  have hl0 := HB0.out.lt
  have hl0d : w.heap.size < W0.drew.heap.size := hl0
  go_region_held3 (fun W => W.cell? ⟨w.heap.size, 0, none⟩ = some (.int .i64 f) ∧ W.cell? ⟨w.heap.size, 1, none⟩ = some (.slice a n cap))
    (first | exact k0 | exact d0 | exact k1 | go_keep)
    (first
      | (go_at_call 101; refine (size8_c f a n cap _).mono ?_; rintro e w1 ⟨rfl, b1⟩; have k1 := d0.keep b1 hl0d; have c1 := below_up hbd b1 hbd.size)
      | (go_at_call 92; refine (HL.out _).mono ?_; rintro e w' ⟨rfl, rfl⟩)
      | (go_at_call 129; refine (HRT.out _ c1).mono ?_; rintro e w' ⟨rfl, rfl⟩))
  go_wp2
  go_ret
  exact ⟨rfl, c1⟩
theorem product8_c (f : Int) (a : Option Addr) (n cap : Nat) (A : Nat → Int) (w : World) (ht : Tab w) (h08 : 0 ≤ f ∧ f ≤ 8) (hA : ∀ j, j < n → 0 ≤ A j ∧ A j < P f) (hn : n ≤ 512) (hs : Src w a n A) : Calls Tryd.prog 65 #[.agg #[.int .i64 f, .slice a n cap]] w (IntP w (prF f A n)) := by
  have HT : Hid (∀ W, Below w.heap.size w W → Tab W) := Lib.hid fun W hb => ht.below hb
  have HB0 := Lib.hid (twoB_new w (.int .i64 f) (.slice a n cap) 56)
  have hb0 := below_alloc w (.cells #[.int .i64 f, .slice a n cap] 56)
  have HS := Lib.hid hs
  have HA := Lib.hid hA
  have HPB := Lib.hid (prF_bd h08.1 h08.2 A)
  clear hs ht hA
  go_enter Tryd.func65, Tryd.ntmps65
  go_wp2_with fail
  generalize w.alloc (.cells #[.int .i64 f, .slice a n cap] 56) = W0 at *
  obtain ⟨c0, c1⟩ := HB0.out.c
  have hT0 := Lib.hid (HT.out _ hb0)
  go_wp2_with fail
  go_loop [3, 5, 9] (fun o _ i => ∃ k : Nat, i = .int .i64 k ∧ k ≤ n ∧ o = .int .i64 (prF f A k)) (fun _ _ i => n - (intOf i).toNat)
  case atStart => exact ⟨0, rfl, Nat.zero_le _, rfl⟩
  case round =>
    obtain ⟨k, rfl, hk, rfl⟩ := hrel
    by_cases h1 : k < n
    · have hd1 : decide ((k : Int) < n) = true := decide_eq_true (by omega)
      obtain ⟨b, off, rfl, hlt, hc⟩ := vec_some HS.out (by omega)
      have d1 : W0.cell? ⟨b, off + k, none⟩ = some (.int .i64 (A k)) := (hb0.cell (p := ⟨b, off + k, none⟩) hlt).trans (hc k h1)
      have pk := HPB.out k
      have ak := HA.out k h1
      have HN : Hid (RS (prF f A k * A k) (P f) = prF f A (k + 1)) := Lib.hid rfl
      clear hc
      go_wp2_with fail
      refine (mul_c f (prF f A k) (A k) _ hT0.out h08.1 h08.2 pk.1 pk.2 ak.1 ak.2).mono ?_
      rintro e w' ⟨rfl, rfl⟩
      rw [HN.out]
      go_wp2
      go_round
      case rel => exact ⟨k + 1, by go_num, by omega, rfl⟩
      case measure => simp [intOf]; omega
    · have hd1 : decide ((k : Int) < n) = false := decide_eq_false (by omega)
      obtain rfl : k = n := by omega
      go_wp2
      go_ret
      exact ⟨rfl, hb0⟩
/-- The iterator over powers: what its boxes hold. -/
def PwIt (f r : Int) (n B : Nat) (W : World) : Prop := B + 2 < W.heap.size ∧ W.cell? ⟨B + 2, 0, none⟩ = some (.int .i64 n) ∧ W.cell? ⟨B, 0, none⟩ = some (.int .i64 f) ∧ W.cell? ⟨B + 1, 0, none⟩ = some (.int .i64 r)
theorem PwIt.drew {f r : Int} {n B : Nat} {W : World} (h : PwIt f r n B W) : PwIt f r n B W.drew := h
theorem powersIt_c (f r : Int) (n : Nat) (w : World) : Calls Tryd.prog 128 #[.int .i64 f, .int .i64 r, .int .i64 n] w (fun e w' => ∃ B, e = .returned (.func (.func 137) #[] #[.pointer (some ⟨B + 2, 0, none⟩), .pointer (some ⟨B, 0, none⟩), .pointer (some ⟨B + 1, 0, none⟩)]) ∧ PwIt f r n B w' ∧ Below w.heap.size w w') := by
  refine (powers_c f r n w).mono ?_
  rintro e w' ⟨rfl, rfl⟩
  refine ⟨w.heap.size, rfl, ⟨by simp, ?_, ?_, ?_⟩, (((Below.refl _ _).alloc (Nat.le_refl _) _).alloc (by simp) _).alloc (by simp; omega) _⟩
  · have := Boxed.new ((w.alloc (.cells #[.int .i64 f] 54)).alloc (.cells #[.int .i64 r] 3)) 3 (.int .i64 (n : Int))
    rw [World.size_alloc, World.size_alloc] at this
    exact this.cell
  · exact (((Boxed.new w 54 (.int .i64 f)).alloc _).alloc _).cell
  · have := (Boxed.new (w.alloc (.cells #[.int .i64 f] 54)) 3 (.int .i64 r)).alloc (.cells #[.int .i64 (n : Int)] 3)
    rw [World.size_alloc] at this
    exact this.cell
theorem pwL_len (f a : Int) (n : Nat) : (pwL f a n).length = n := tab_len _ _
theorem collect_c (f r : Int) (n B : Nat) (w : World) (ht : Tab w) (h08 : 0 ≤ f ∧ f ≤ 8) (hr : 0 ≤ r ∧ r < P f) (hn : n ≤ 512) (hI : PwIt f r n B w) : Calls Tryd.prog 127 #[.func (.func 137) #[] #[.pointer (some ⟨B + 2, 0, none⟩), .pointer (some ⟨B, 0, none⟩), .pointer (some ⟨B + 1, 0, none⟩)]] w (ListL w (pwL f r n)) := by
  obtain ⟨i1, i2, i3, i4⟩ := hI
  have HA := Lib.hid (appendSeq_c f r n (B + 2) B (B + 1) w ht h08.1 h08.2 hr.1 hr.2 hn (by omega) (by omega) (by omega) (by omega) i2 i3 i4)
  have HF : Hid (∀ v W, W.ownsRow w.heap.size 3 1 v n ((pws f r n).map (Value.int .i64)) → Below w.heap.size w W → ListL w (pwL f r n) (.returned v) W) := Lib.hid fun v W ho hb => by
    rw [pws_xs h08.1 h08.2 hr.1] at ho
    exact (owns_to (w := w) (l := pwL f r n) ho (pwL_len _ _ _).symm (fun j _ => rfl) hb).list
  clear i2 i3 i4 ht
  go_enter Tryd.func127, Tryd.ntmps127
  go_wp2_with fail
  refine HA.out.mono ?_
  rintro e w1 ⟨v, rfl, ho, hb⟩
  have HR := Lib.hid (HF.out v w1 ho hb)
  clear ho HA HF
  go_wp2
  go_ret
  exact HR.out
theorem VecOk.pw {f r : Int} {l : List Int} (h : VecOk f l) : VecOk f (pwL f r l.length) := h.tab rfl _ fun _ _ => RS_bd (P_pos h.f08.1 h.f08.2)
set_option maxRecDepth 100000 in
set_option maxHeartbeats 3200000 in
theorem weighted_c (f x : Int) (a : Option Addr) (l : List Int) (cap : Nat) (w : World) (ht : Tab w) (h : VecOk f l) (hx : 0 ≤ x ∧ x < P f) (hs : Src w a l.length (lf l)) : Calls Tryd.prog 108 #[.agg #[.int .i64 f, .slice a l.length cap], .int .i64 x] w (OwnVec f w (ptwL f l (pwL f x l.length))) := by
  have HT : Hid (∀ W, Below w.heap.size w W → Tab W) := Lib.hid fun W hb => ht.below hb
  have hn5 := h.pos.2
  have h08 := h.f08
  have HPW : Hid (∀ (a2 : Option Addr) (c2 : Nat) (W : World), Below w.heap.size w W → Src W a2 (pwL f x l.length).length (lf (pwL f x l.length)) → Calls Tryd.prog 64 #[.int .i64 f, .slice a l.length cap, .slice a2 (pwL f x l.length).length c2] W (OwnG W (ptwL f l (pwL f x l.length)))) := Lib.hid fun a2 c2 W hb h2 => pointwise_c f a l cap a2 (pwL f x l.length) c2 W (hs.keep hb) h2 (ht.below hb) ⟨(pwL_len _ _ _).symm, h, h.pw⟩
  clear hs h ht
  generalize ptwL f l (pwL f x l.length) = R at *
  have HC : Hid (∀ B W, Below w.heap.size w W → PwIt f x l.length B W → Calls Tryd.prog 127 #[.func (.func 137) #[] #[.pointer (some ⟨B + 2, 0, none⟩), .pointer (some ⟨B, 0, none⟩), .pointer (some ⟨B + 1, 0, none⟩)]] W (ListL W (pwL f x l.length))) := Lib.hid fun B W hb hI => collect_c f x l.length B W (HT.out W hb) h08 hx hn5 hI
  generalize pwL f x l.length = Q at *
  generalize l.length = n at *
  have hb0 := below_alloc w (.cells #[.int .i64 f, .slice a n cap] 56)
  have hz0 : (w.alloc (.cells #[.int .i64 f, .slice a n cap] 56)).heap.size = w.heap.size + 1 := by simp
  have hb1 := below_alloc (w.alloc (.cells #[.int .i64 f, .slice a n cap] 56)) (.cells #[.int .i64 0, .slice none 0 0] 56)
  have t1 := twoB_new (w.alloc (.cells #[.int .i64 f, .slice a n cap] 56)) (.int .i64 0) (.slice none 0 0) 56
  have t0 := (twoB_new w (.int .i64 f) (.slice a n cap) 56).keep hb1 (by rw [hz0]; omega)
  have hb2 := below_up hb0 hb1 hb0.size
  rw [hz0] at t1
  have HB0 := Lib.hid t0
  have HB1 := Lib.hid t1
  clear hz0 t0 t1 hb0 hb1
  go_enter Tryd.func108, Tryd.ntmps108
  go_wp2_with fail
  generalize ((w.alloc (.cells #[.int .i64 f, .slice a n cap] 56)).alloc (.cells #[.int .i64 0, .slice none 0 0] 56)) = W0 at *
  have kb := HB0.out.c
  have k0 : TwoC w.heap.size (.int .i64 f) (.slice a n cap) W0.drew := kb.drew
  have hl0 : w.heap.size < W0.drew.heap.size := HB0.out.lt
  have hbd : Below w.heap.size w W0.drew := hb2.drew
  have HBD : Hid (TwoB (w.heap.size + 1) (.int .i64 0) (.slice none 0 0) 56 W0.drew) := HB1
  have hlr : w.heap.size + 1 < W0.drew.heap.size := HB1.out.lt
  go_region_held3 (fun W => W.cell? ⟨w.heap.size, 0, none⟩ = some (.int .i64 f) ∧ W.cell? ⟨w.heap.size, 1, none⟩ = some (.slice a n cap))
    (first | exact kb | exact k0 | exact k1 | exact k2 | exact k3 | go_keep)
    (first
      | (go_at_call 101; refine (size8_c f a n cap _).mono ?_; rintro e w1 ⟨rfl, b1⟩; have k1 := k0.keep b1 hl0; have c1 := below_up hbd b1 hbd.size; have r1 := HBD.out.keep b1 hlr; have l1 : w.heap.size < w1.heap.size := by (have := b1.size; omega))
      | (go_at_call 128; refine (powersIt_c f x n _).mono ?_; rintro e w2 ⟨B, rfl, I2, b2⟩; have k2 := k1.keep b2 l1; have c2 := below_up c1 b2 c1.size; have r2 := r1.keep b2 r1.lt; have l2 : w.heap.size < w2.heap.size := by (have := b2.size; omega))
      | (go_at_call 127; refine (HC.out B _ c2 I2).mono ?_; rintro e w3 ⟨a3, cc3, rfl, s3, b3⟩; have k3 := k2.keep b3 l2; have c3 := below_up c2 b3 c2.size; have r3 := r2.keep b3 r2.lt; have l3 : w.heap.size < w3.heap.size := by (have := b3.size; omega)))
  clear k0 k1 k2 b1 b2 b3 c1 c2 r1 r2 l1 l2 I2 kb HC hb2 hbd HBD hlr hl0 HB0 HB1
  have HS3 := Lib.hid s3
  clear s3
  have k3d : TwoC w.heap.size (.int .i64 f) (.slice a n cap) w3.drew := k3.drew
  have c3d : Below w.heap.size w w3.drew := c3.drew
  have l3d : w.heap.size < w3.drew.heap.size := l3
  have r3d : TwoB (w.heap.size + 1) (.int .i64 0) (.slice none 0 0) 56 w3.drew := r3
  have HPP : Hid (Calls Tryd.prog 64 #[.int .i64 f, .slice a n cap, .slice a3 Q.length cc3] w3.drew (OwnG w3.drew R)) := Lib.hid (HPW.out a3 cc3 _ c3d HS3.out)
  clear HPW HS3
  go_wp2_with fail
  go_region_held3 (fun W => W.cell? ⟨w.heap.size, 0, none⟩ = some (.int .i64 f) ∧ W.cell? ⟨w.heap.size, 1, none⟩ = some (.slice a n cap))
    (first | exact k3 | exact k3d | exact k4 | exact k4.store2 _ _ (by omega) | go_keep)
    (first
      | (go_at_call 64; refine HPP.out.mono ?_; rintro e w4 ⟨g4, rfl, hg4, o4, b4⟩; have k4 := k3d.keep b4 l3d; have c4 := below_up c3d b4 c3d.size; have r4 := r3d.keep b4 r3d.lt; have rr0 := r4.c.1; have rr1 := r4.c.2; have rf0 := heap_frozen (j := 0) r4; have rf1 := heap_frozen (j := 1) r4; have ne4 : g4 ≠ w.heap.size + 1 := (by (have := r3d.lt; omega)); have HO4 := Lib.hid o4))
  obtain ⟨e0, e1⟩ := store_cells (u := .int .i64 f) (v := .slice (some ⟨g4, 0, none⟩) R.length R.length) r4
  have HF : Hid (OwnVec f w R (.returned (.agg #[.int .i64 f, .slice (some ⟨g4, 0, none⟩) R.length R.length])) ((w4.setCell ⟨w.heap.size + 1, 0, none⟩ (.int .i64 f)).setCell ⟨w.heap.size + 1, 1, none⟩ (.slice (some ⟨g4, 0, none⟩) R.length R.length))) := Lib.hid ⟨g4, rfl, Nat.le_trans c3d.size hg4, own_store HO4.out ne4, below_store c4 (by omega)⟩
  clear k3 k3d k4 r4 rr0 rr1 rf0 rf1 HO4 c3 c4 c3d b4 r3 r3d
  generalize ((w4.setCell ⟨w.heap.size + 1, 0, none⟩ (.int .i64 f)).setCell ⟨w.heap.size + 1, 1, none⟩ (.slice (some ⟨g4, 0, none⟩) R.length R.length)) = W5 at *
  go_wp2
  refine bodyPost_ret (v := .agg #[.int .i64 f, .slice (some ⟨g4, 0, none⟩) R.length R.length]) (by simp [results, Tryd.results108, go_sem, *]) rfl ?_
  exact HF.out
end Go.Proofs.YtoonpnfhcmghmaaDoor
namespace Go.Proofs.YtoonpnfhcmghmaaDoor
open Go.RowKit
theorem wpList_copy_pad {w : World} {ops : Array Oper} {rest : List Oper} {o : Oper} {a : Act} {Q : Exit → Act → World → Prop} (hgd : o.guard = none) (d s : Operand)
    (ho : o.op = .call { callee := .builtin .copy, args := #[d, s], argTypes := #[24, 24] }) (N m cap1 cap2 : Nat) (a2 : Option Addr) (F : Nat → Int)
    (hd : a.eval d = .slice (some ⟨w.heap.size, 0, none⟩) N cap1) (hs : a.eval s = .slice a2 m cap2) (hmN : m ≤ N) (hsrc : Src w a2 m F)
    (h : ∀ w', Hid (Own w' w.heap.size N (fun j => if 0 ≤ j ∧ j < 0 + m then F (j - 0) else 0)) → Below w.heap.size w w' → wpList Tryd.prog ops Q rest (a.put o.dst (goInt m)) w') :
    wpList Tryd.prog ops Q (o :: rest) a (w.alloc (.cells (madeCells #[.int .i64 0] N) 3)) := by
  refine wpList_copy_splice hgd d s 24 24 ho 3 Tryd.underlying24 size3 (some ⟨w.heap.size, 0, none⟩) a2 N cap1 m cap2 hd hs w.heap.size 0 (madeCells #[.int .i64 0] N).toList 3 (by unfold World.alloc; simp) (xsF F m) (by rw [xsF_len]; exact (Nat.min_eq_left hmN).symm) ?_ (by rw [xsF_len, made_len]; omega) xsF_one w.heap.size w ((Below.refl _ _).alloc (Nat.le_refl _) _) (Nat.le_refl _) (fun w' hg hb => ?_)
  · intro hpos
    rw [xsF_len] at hpos
    refine ⟨rfl, ?_⟩
    rcases hsrc with hz | ⟨b, off2, rfl, hlt, hc⟩
    · omega
    · refine ⟨_, rfl, fun j v hv => ?_⟩
      obtain ⟨hj, rfl⟩ := xsF_at hv
      rw [add_at]
      exact (((Below.refl _ w).alloc (Nat.le_refl _) _).cell (p := ⟨b, off2 + j, none⟩) hlt).trans (hc j (by omega))
  · rw [xsF_len]
    exact h w' (Lib.hid (own_splice (by omega) hg.out)) hb
theorem padded_c (a : Option Addr) (l : List Int) (cap N : Nat) (w : World) (hl : l.length ≤ N) (hN : N ≤ 1048576) (hs : Src w a l.length (lf l)) : Calls Tryd.prog 93 #[.slice a l.length cap, .int .i64 N] w (OwnG w (padL l N)) := by
  have hmk := made_n N hN
  have HS := Lib.hid hs
  have HO : Hid (∀ w', Own w' w.heap.size N (fun j => if j < l.length then lf l j else 0) → Below w.heap.size w w' → OwnG w (padL l N) (.returned (.slice (some ⟨w.heap.size, 0, none⟩) N N)) w') := Lib.hid fun w' ho hb => OwnG.of_own ho (padL_len l N).symm (Nat.le_refl _) (fun j hj => by
    unfold padL
    rw [lf_tab, if_pos hj]
    by_cases hjl : j < l.length
    · rw [if_pos hjl]
    · rw [if_neg hjl, lf_out l (by omega)]) hb
  clear hs
  go_enter Tryd.func93, Tryd.ntmps93
  go_wp2_with (with_reducible refine wpList_copy_pad rfl _ _ rfl N l.length N cap _ (lf l) rfl rfl hl HS.out ?_)
  intro w2 H2 hb
  have HR := Lib.hid (HO.out w2 H2.out hb)
  clear hmk H2 HO
  go_wp2
  go_ret
  exact HR.out
end Go.Proofs.YtoonpnfhcmghmaaDoor
namespace Go.Proofs.YtoonpnfhcmghmaaDoor
/-- The first n coefficients agree modulo p. -/
def EqN (p : Int) (n : Nat) (A B : Nat → Int) : Prop := ∀ i, i < n → A i % p = B i % p
theorem EqN.refl (p : Int) (n : Nat) (A : Nat → Int) : EqN p n A A := fun _ _ => rfl
theorem EqN.symm {p : Int} {n : Nat} {A B : Nat → Int} (h : EqN p n A B) : EqN p n B A := fun i hi => (h i hi).symm
theorem EqN.trans {p : Int} {n : Nat} {A B C : Nat → Int} (h : EqN p n A B) (k : EqN p n B C) : EqN p n A C := fun i hi => (h i hi).trans (k i hi)
theorem EqN.mono {p : Int} {n m : Nat} {A B : Nat → Int} (h : EqN p n A B) (hm : m ≤ n) : EqN p m A B := fun i hi => h i (by omega)
theorem EqN.mul {p : Int} {n : Nat} {A A' B B' : Nat → Int} (h : EqN p n A A') (k : EqN p n B B') : EqN p n (mulS A B) (mulS A' B') := fun i hi => by
  show cv i A B % p = cv i A' B' % p
  rw [cv_sum, cv_sum]
  exact sumN_mod fun j hj => emod_mul_congr (h j (by omega)) (k (i - j) (by omega))
def addS (A B : Nat → Int) : Nat → Int := fun j => A j + B j
theorem EqN.add {p : Int} {n : Nat} {A A' B B' : Nat → Int} (h : EqN p n A A') (k : EqN p n B B') : EqN p n (addS A B) (addS A' B') := fun i hi => emod_add_congr (h i hi) (k i hi)
theorem add_mulS (A B C : Nat → Int) : mulS (addS A B) C = addS (mulS A C) (mulS B C) := funext fun k => cv_add_l k A B C
/-- The coefficients times their places. -/
def thS (A : Nat → Int) : Nat → Int := fun i => (i : Int) * A i
theorem thS_mul (A B : Nat → Int) : thS (mulS A B) = addS (mulS (thS A) B) (mulS A (thS B)) := by
  funext k
  show (k : Int) * cv k A B = cv k (thS A) B + cv k A (thS B)
  rw [cv_sum, cv_sum, cv_sum, ← sumN_mul, ← sumN_add]
  exact sumN_congr fun i hi => by
    unfold thS
    have e : (k : Int) = (i : Int) + ((k - i : Nat) : Int) := by omega
    rw [e, Int.add_mul]
    congr 1
    · rw [Int.mul_assoc]
    · rw [← Int.mul_assoc, ← Int.mul_assoc, Int.mul_comm (A i)]
theorem thS_add (A B : Nat → Int) : thS (addS A B) = addS (thS A) (thS B) := funext fun _ => Int.mul_add _ _ _
theorem EqN.th {p : Int} {n : Nat} {A B : Nat → Int} (h : EqN p n A B) : EqN p n (thS A) (thS B) := fun i hi => emod_mul_congr rfl (h i hi)
/-- What does not vanish in a field can be cancelled. -/
theorem cancelF {f : Int} (h0 : 0 ≤ f) (h8 : f ≤ 8) {c x y : Int} (hc : c % P f ≠ 0) (h : (c * x) % P f = (c * y) % P f) : x % P f = y % P f := by
  have hz : RS c (P f) ≠ 0 := hc
  have hi := (inv_one h0 h8 hz).1
  obtain ⟨v, hv⟩ : ∃ v, mPower f c (-1) = v := ⟨_, rfl⟩
  rw [hv] at hi
  have e1 : (v * c) % P f = 1 % P f := by
    have h2 : (v * (c % P f)) % P f = 1 := hi
    rw [Int.mul_emod, Int.emod_emod_of_dvd c (Int.dvd_refl _), ← Int.mul_emod] at h2
    rw [h2, one_p h0 h8]
  have key : ∀ z : Int, (v * (c * z)) % P f = z % P f := fun z => by
    rw [← Int.mul_assoc, Int.mul_emod, e1, ← Int.mul_emod, Int.one_mul]
  rw [← key x, ← key y]
  exact emod_mul_congr rfl h
/-- Two series with one product by A, where A's first coefficient does not vanish. -/
theorem EqN.cancel {f : Int} (h0 : 0 ≤ f) (h8 : f ≤ 8) {n : Nat} {A B C : Nat → Int} (hA : A 0 % P f ≠ 0) (h : EqN (P f) n (mulS A B) (mulS A C)) : EqN (P f) n B C := by
  intro i
  induction i using Nat.strongRecOn with
  | ind i ih =>
    intro hi
    have hi2 := h i hi
    cases i with
    | zero => exact cancelF h0 h8 hA hi2
    | succ k =>
      have e1 : cv k (tl A) B % P f = cv k (tl A) C % P f := by
        rw [cv_sum, cv_sum]
        exact sumN_mod fun j hj => emod_mul_congr rfl (ih (k - j) (by omega) (by omega))
      have h2 : (A 0 * B (k + 1) + cv k (tl A) B) % P f = (A 0 * C (k + 1) + cv k (tl A) C) % P f := hi2
      have h3 : (A 0 * B (k + 1)) % P f = (A 0 * C (k + 1)) % P f := by
        rw [Int.emod_eq_emod_iff_emod_sub_eq_zero] at h2 e1 ⊢
        have e : A 0 * B (k + 1) + cv k (tl A) B - (A 0 * C (k + 1) + cv k (tl A) C) = (A 0 * B (k + 1) - A 0 * C (k + 1)) + (cv k (tl A) B - cv k (tl A) C) := by omega
        rw [e, Int.add_emod, e1, Int.add_zero, Int.emod_emod_of_dvd _ (Int.dvd_refl _)] at h2
        exact h2
      exact cancelF h0 h8 hA h3
/-- B is the inverse of A. -/
def IsInv (p : Int) (n : Nat) (A B : Nat → Int) : Prop := EqN p n (mulS A B) oneS
theorem IsInv.unique {p : Int} {n : Nat} {A B C : Nat → Int} (hB : IsInv p n A B) (hC : IsInv p n A C) : EqN p n B C := by
  have h1 : EqN p n (mulS B (mulS A C)) (mulS B oneS) := (EqN.refl p n B).mul hC
  have h2 : EqN p n (mulS (mulS A B) C) (mulS oneS C) := hB.mul (EqN.refl p n C)
  have e : mulS B (mulS A C) = mulS (mulS A B) C := by rw [← mul_assocS, mul_commS B A]
  rw [e, mul_commS B oneS, one_mul] at h1
  rw [one_mul] at h2
  exact h1.symm.trans h2
/-- The logarithm L and the series A that it is of. -/
def IsLog (p : Int) (n : Nat) (L A : Nat → Int) : Prop := EqN p n (thS A) (mulS (thS L) A)
/-- The logarithm of a product. -/
theorem IsLog.mul {p : Int} {n : Nat} {L M A B : Nat → Int} (hA : IsLog p n L A) (hB : IsLog p n M B) : IsLog p n (addS L M) (mulS A B) := by
  unfold IsLog at *
  rw [thS_mul, thS_add, add_mulS]
  refine EqN.add ?_ ?_
  · have := hA.mul (EqN.refl p n B)
    rwa [mul_assocS] at this
  · have := (EqN.refl p n A).mul hB
    rwa [← mul_assocS, mul_commS A (thS M), mul_assocS] at this
theorem IsInv.mul {p : Int} {n : Nat} {A B V W : Nat → Int} (hA : IsInv p n A V) (hB : IsInv p n B W) : IsInv p n (mulS A B) (mulS V W) := by
  unfold IsInv at *
  have e : mulS (mulS A B) (mulS V W) = mulS (mulS A V) (mulS B W) := by
    rw [mul_assocS, ← mul_assocS B V W, mul_commS B V, mul_assocS V B W, ← mul_assocS]
  rw [e]
  have := hA.mul hB
  rwa [one_mul] at this
/-- Powers. -/
theorem EqN.pow {p : Int} {n : Nat} {A B : Nat → Int} (h : EqN p n A B) : ∀ k : Nat, EqN p n (powS A k) (powS B k)
  | 0 => EqN.refl _ _ _
  | k + 1 => (EqN.pow h k).mul h
theorem pow_oneS (p : Int) (n : Nat) : ∀ k : Nat, EqN p n (powS oneS k) oneS
  | 0 => EqN.refl _ _ _
  | k + 1 => by
    have := (pow_oneS p n k).mul (EqN.refl p n oneS)
    rwa [one_mul] at this
theorem pow_mulS (A B : Nat → Int) : ∀ k : Nat, powS (mulS A B) k = mulS (powS A k) (powS B k)
  | 0 => (one_mul oneS).symm
  | k + 1 => by
    show mulS (powS (mulS A B) k) (mulS A B) = mulS (mulS (powS A k) A) (mulS (powS B k) B)
    rw [pow_mulS A B k, mul_assocS, mul_assocS, ← mul_assocS (powS B k) A B, mul_commS (powS B k) A, mul_assocS A (powS B k) B]
theorem IsInv.powers {p : Int} {n : Nat} {A V : Nat → Int} (h : IsInv p n A V) (k : Nat) : EqN p n (mulS (powS A k) (powS V k)) oneS := by
  rw [← pow_mulS]
  exact (EqN.pow h k).trans (pow_oneS p n k)
theorem IsInv.less {p : Int} {n : Nat} {A V : Nat → Int} (h : IsInv p n A V) (i k : Nat) : EqN p n (mulS (powS A (i + k)) (powS V k)) (powS A i) := by
  rw [pow_addS, mul_assocS]
  have := (EqN.refl p n (powS A i)).mul (h.powers k)
  rwa [mul_commS (powS A i) oneS, one_mul] at this
theorem IsInv.symm {p : Int} {n : Nat} {A V : Nat → Int} (h : IsInv p n A V) : IsInv p n V A := by
  unfold IsInv at *
  rwa [mul_commS]
end Go.Proofs.YtoonpnfhcmghmaaDoor
namespace Go.Proofs.YtoonpnfhcmghmaaDoor
/-- B starts with 1, and its square is A. -/
def IsSqrt (p : Int) (n : Nat) (B A : Nat → Int) : Prop := B 0 % p = 1 % p ∧ EqN p n (mulS B B) A
theorem two_ne {f : Int} (h0 : 0 ≤ f) (h8 : f ≤ 8) : (2 : Int) % P f ≠ 0 := by
  have h := P_bd h0 h8
  rw [Int.emod_eq_of_lt (by omega) (by omega)]
  omega
theorem IsSqrt.unique {f : Int} (h0 : 0 ≤ f) (h8 : f ≤ 8) {n : Nat} {A B C : Nat → Int} (hB : IsSqrt (P f) n B A) (hC : IsSqrt (P f) n C A) : EqN (P f) n B C := by
  have h1 := hB.2.trans hC.2.symm
  have hs : addS B C 0 % P f ≠ 0 := by
    have : (B 0 + C 0) % P f = (1 + 1) % P f := emod_add_congr hB.1 hC.1
    show (B 0 + C 0) % P f ≠ 0
    rw [this]
    exact two_ne h0 h8
  refine EqN.cancel h0 h8 hs ?_
  rw [add_mulS, add_mulS, mul_commS C B]
  intro i hi
  show (cv i B B + cv i B C) % P f = (cv i B C + cv i C C) % P f
  rw [Int.add_comm (cv i B C) (cv i C C)]
  exact emod_add_congr (h1 i hi) rfl
/-- S, signed, are what the identities ask of E (places from 1 on). -/
def sgnS (S : Nat → Int) : Nat → Int := fun k => if k = 0 then 0 else (-1) ^ (k - 1) * S (k - 1)
def IsNewt (p : Int) (n : Nat) (E S : Nat → Int) : Prop := EqN p (n + 1) (thS E) (mulS (sgnS S) E)
theorem pm_one : ∀ k : Nat, ((-1 : Int)) ^ k = 1 ∨ ((-1 : Int)) ^ k = -1
  | 0 => .inl rfl
  | k + 1 => by
    rw [Int.pow_succ]
    rcases pm_one k with h | h
    · exact .inr (by rw [h]; rfl)
    · exact .inl (by rw [h]; rfl)
theorem IsNewt.unique {f : Int} (h0 : 0 ≤ f) (h8 : f ≤ 8) {n : Nat} {E S T : Nat → Int} (hE : E 0 % P f ≠ 0) (hS : IsNewt (P f) n E S) (hT : IsNewt (P f) n E T) : EqN (P f) n S T := by
  have h1 : EqN (P f) (n + 1) (sgnS S) (sgnS T) := by
    have h2 := hS.symm.trans hT
    rw [mul_commS (sgnS S), mul_commS (sgnS T)] at h2
    exact h2.cancel h0 h8 hE
  intro i hi
  have h3 := h1 (i + 1) (by omega)
  have e : ∀ U : Nat → Int, sgnS U (i + 1) = (-1) ^ i * U i := fun U => rfl
  rw [e, e] at h3
  rcases pm_one i with h | h
  · rw [h, Int.one_mul, Int.one_mul] at h3; exact h3
  · rw [h] at h3
    have h4 : (-1 * (-1 * S i)) % P f = (-1 * (-1 * T i)) % P f := emod_mul_congr rfl h3
    rwa [← Int.mul_assoc, ← Int.mul_assoc, show (-1 : Int) * -1 = 1 by decide, Int.one_mul, Int.one_mul] at h4
end Go.Proofs.YtoonpnfhcmghmaaDoor
namespace Go.Proofs.YtoonpnfhcmghmaaDoor
def SerOk (f : Int) (l : List Int) : Prop := (0 ≤ f ∧ f ≤ 8) ∧ (1 ≤ l.length ∧ l.length ≤ 64) ∧ ∀ j, j < l.length → 0 ≤ lf l j ∧ lf l j < P f
theorem SerOk.all {f : Int} {l : List Int} (h : SerOk f l) (j : Nat) : 0 ≤ lf l j ∧ lf l j < P f := by
  have hp := P_bd h.1.1 h.1.2
  by_cases hj : j < l.length
  · exact h.2.2 j hj
  · rw [lf_out l (by omega)]; omega
/-- A list of n elements. -/
def Ser (f : Int) (n : Nat) (l : List Int) : Prop := l.length = n ∧ ∀ j, 0 ≤ lf l j ∧ lf l j < P f
/-- The first n of F, as elements. -/
def elL (f : Int) (n : Nat) (F : Nat → Int) : List Int := tab n fun i => RS (F i) (P f)
theorem elL_len (f : Int) (n : Nat) (F : Nat → Int) : (elL f n F).length = n := tab_len _ _
theorem lf_elL (f : Int) (n : Nat) (F : Nat → Int) (j : Nat) : lf (elL f n F) j = if j < n then RS (F j) (P f) else 0 := lf_tab _ _ _
open Classical in
noncomputable def theL (Q : List Int → Prop) : List Int := if h : ∃ l, Q l then Classical.choose h else []
theorem theL_eq {Q : List Int → Prop} {l : List Int} (hu : ∀ a b, Q a → Q b → a = b) (h : Q l) : theL Q = l := by
  have hex : ∃ l, Q l := ⟨l, h⟩
  unfold theL
  rw [dif_pos hex]
  exact hu _ _ (Classical.choose_spec hex) h
def ShortOk (f : Int) (a : List Int) : Prop := SerOk f a ∧ (a.length : Int) ≤ P f
end Go.Proofs.YtoonpnfhcmghmaaDoor
namespace Go.Proofs.YtoonpnfhcmghmaaDoor
theorem inv_mul {f : Int} (h0 : 0 ≤ f) (h8 : f ≤ 8) {c : Int} (hc : c % P f ≠ 0) : (mPower f c (-1) * c) % P f = 1 % P f := by
  have h2 := (inv_one h0 h8 (z := c) hc).1
  have h3 : (mPower f c (-1) * (c % P f)) % P f = 1 := h2
  rw [Int.mul_emod, Int.emod_emod_of_dvd c (Int.dvd_refl _), ← Int.mul_emod] at h3
  rw [h3, one_p h0 h8]
/-- O with one more value. -/
def more (O : Nat → Int) (k : Nat) (x : Int) : Nat → Int := fun j => if j < k then O j else x
end Go.Proofs.YtoonpnfhcmghmaaDoor
namespace Go.Proofs.YtoonpnfhcmghmaaDoor
theorem Ser.ok {f : Int} (hf : 0 ≤ f ∧ f ≤ 8) {n : Nat} {l : List Int} (h : Ser f n l) (n1 : 1 ≤ n) (n2 : n ≤ 64) : SerOk f l := ⟨hf, by rw [h.1]; exact ⟨n1, n2⟩, fun j _ => h.2 j⟩
end Go.Proofs.YtoonpnfhcmghmaaDoor
namespace Go.Proofs.YtoonpnfhcmghmaaDoor
theorem Ser.short {f : Int} {a x : List Int} (h : ShortOk f a) (hx : Ser f a.length x) : ShortOk f x := ⟨hx.ok h.1.1 h.1.2.1.1 h.1.2.1.2, by rw [hx.1]; exact h.2⟩
theorem IsLog.congr {p : Int} {n : Nat} {L M A B : Nat → Int} (h : IsLog p n L A) (hL : EqN p n M L) (hA : EqN p n B A) : IsLog p n M B := (hA.th.trans h).trans ((hL.th.mul hA).symm)
end Go.Proofs.YtoonpnfhcmghmaaDoor
namespace Go.Proofs.YtoonpnfhcmghmaaDoor
/-- A and c times B. -/
def mixS (A B : Nat → Int) (c : Int) : Nat → Int := fun i => A i + c * B i
theorem lf_cut_self (l : List Int) : lf (cutL l.length (lf l)) = lf l := funext fun j => by
  rw [lf_cutL]
  split
  · rfl
  · rw [lf_out l (by omega)]
end Go.Proofs.YtoonpnfhcmghmaaDoor
namespace Go.Proofs.YtoonpnfhcmghmaaDoor
open Go.RowKit
set_option maxRecDepth 100000 in
set_option maxHeartbeats 1600000 in
theorem mixed_some (f c : Int) (b off b2 off2 n cap cap2 : Nat) (A B : Nat → Int) (w : World) (ht : Tab w) (h0 : 0 ≤ f) (h8 : f ≤ 8) (c0 : 0 ≤ c) (c1 : c < P f) (hn : n ≤ 4096)
    (hA : ∀ j, 0 ≤ A j ∧ A j < P f) (hB : ∀ j, 0 ≤ B j ∧ B j < P f) (hlt : b < w.heap.size) (hlt2 : b2 < w.heap.size)
    (hc : ∀ j, j < n → w.cell? ⟨b, off + j, none⟩ = some (.int .i64 (A j))) (hc2 : ∀ j, j < n → w.cell? ⟨b2, off2 + j, none⟩ = some (.int .i64 (B j))) :
    Calls Tryd.prog 86 #[.int .i64 f, .slice (some ⟨b, off, none⟩) n cap, .slice (some ⟨b2, off2, none⟩) n cap2, .int .i64 c] w (OwnG w (elL f n (mixS A B c))) := by
  have HC := Lib.hid hc
  have HC2 := Lib.hid hc2
  have HA := Lib.hid hA
  have HB := Lib.hid hB
  clear hc hc2 hA hB
  have hp := P_bd h0 h8
  have hmk := made_n n (by omega)
  have HG : Hid (∀ wr, Own wr w.heap.size n (fun j => if j < n then RS (mixS A B c j) (P f) else 0) → Below w.heap.size w wr → OwnG w (elL f n (mixS A B c)) (.returned (.slice (some ⟨w.heap.size, 0, none⟩) n n)) wr) := Lib.hid fun wr ho hb => OwnG.of_own ho (elL_len _ _ _).symm (Nat.le_refl _) (fun j hj => by
    rw [lf_elL]) hb
  go_enter Tryd.func86, Tryd.ntmps86
  go_wp2_with fail
  clear hmk
  go_loopw [10, 11, 17] (fun _ _ i wr => ∃ k : Nat, i = .int .i64 k ∧ k ≤ n ∧ Own wr w.heap.size n (fun j => if j < k then RS (mixS A B c j) (P f) else 0) ∧ Below w.heap.size w wr) (fun _ _ i _ => n - (intOf i).toNat)
  case atStart =>
    refine ⟨0, rfl, Nat.zero_le _, ?_, (Below.refl _ _).alloc (Nat.le_refl _) _⟩
    exact (World.rowIs_made w (.int .i64 0) n 3).congr fun j _ => by simp
  case round =>
    obtain ⟨i, rfl, hi, ho, hb⟩ := hrel
    by_cases h1 : i < n
    · have d1 : wr.cell? ⟨b, off + i, none⟩ = some (.int .i64 (A i)) := (hb.cell (p := ⟨b, off + i, none⟩) hlt).trans (HC.out i h1)
      have d2 : wr.cell? ⟨b2, off2 + i, none⟩ = some (.int .i64 (B i)) := (hb.cell (p := ⟨b2, off2 + i, none⟩) hlt2).trans (HC2.out i h1)
      have bA := HA.out i
      have bB := HB.out i
      have pb := prod_bd h0 h8 c0 c1 bB.1 bB.2
      have c3 := World.rowIs.frozen ho i
      have c4 := World.rowIs.cell ho h1
      have HT := Lib.hid (ht.below hb)
      have HS := Lib.hid (own_step (F := fun j => RS (mixS A B c j) (P f)) ho)
      have HE : Hid (RS (A i + c * B i) (P f) = RS (mixS A B c i) (P f)) := Lib.hid rfl
      clear ho
      go_wp2_with fail
      refine (reduce_c f (A i + c * B i) wr HT.out h0 h8).mono ?_
      rintro e w' ⟨rfl, rfl⟩
      rw [HE.out]
      go_wp2
      go_roundw
      case rel => exact ⟨i + 1, by go_num, by omega, HS.out, hb.setCell (Nat.le_refl _) _⟩
      case measure => simp [intOf]; omega
    · have hd : decide (i < n) = false := by simpa using h1
      obtain rfl : i = n := by omega
      have HO := Lib.hid ho
      clear ho
      go_wp2
      go_ret
      exact HG.out wr HO.out hb
theorem mixed_c (f c : Int) (a a2 : Option Addr) (n cap cap2 : Nat) (A B : Nat → Int) (w : World) (ht : Tab w) (h0 : 0 ≤ f) (h8 : f ≤ 8) (c0 : 0 ≤ c) (c1 : c < P f) (n1 : 1 ≤ n) (hn : n ≤ 4096)
    (hA : ∀ j, 0 ≤ A j ∧ A j < P f) (hB : ∀ j, 0 ≤ B j ∧ B j < P f) (hs : Src w a n A) (hs2 : Src w a2 n B) :
    Calls Tryd.prog 86 #[.int .i64 f, .slice a n cap, .slice a2 n cap2, .int .i64 c] w (OwnG w (elL f n (mixS A B c))) := by
  rcases hs with h | ⟨b, off, rfl, hlt, hc⟩
  · omega
  rcases hs2 with h | ⟨b2, off2, rfl, hlt2, hc2⟩
  · omega
  exact mixed_some f c b off b2 off2 n cap cap2 A B w ht h0 h8 c0 c1 hn hA hB hlt hlt2 hc hc2
/-- The inverse as the specification has it. -/
theorem inv_pw {f x : Int} (h0 : 0 ≤ f) (h8 : f ≤ 8) (x0 : 0 < x) (x1 : x < P f) : PW (P f) x (P f - 2) = mPower f x (-1) := by
  rw [inverse_inv h0 h8 x0 x1]
  unfold invF
  rw [if_neg]
  unfold RS
  rw [Int.emod_eq_of_lt (by omega) x1]
  omega
end Go.Proofs.YtoonpnfhcmghmaaDoor
namespace Go.Proofs.YtoonpnfhcmghmaaDoor
open Go.RowKit
/-- A list that is read, and its capacity. -/
def SrcC (w : World) (a : Option Addr) (n cap : Nat) (F : Nat → Int) : Prop := n ≤ cap ∧ Src w a n F
theorem SrcC.src {w : World} {a : Option Addr} {n cap : Nat} {F : Nat → Int} (h : SrcC w a n cap F) : Src w a n F := h.2
theorem SrcC.keep {w w' : World} {a : Option Addr} {n cap : Nat} {F : Nat → Int} (h : SrcC w a n cap F) (hb : Below w.heap.size w w') : SrcC w' a n cap F := ⟨h.1, h.2.keep hb⟩
end Go.Proofs.YtoonpnfhcmghmaaDoor
namespace Go.Proofs.YtoonpnfhcmghmaaDoor
/-- Horner's values: the quotient by x - y of a polynomial of n + 1 coefficients. -/
def dqS (y : Int) (A : Nat → Int) (n k : Nat) : Int := evN y (fun j => A (k + 1 + j)) (n - k)
theorem dqS_tl (y : Int) (A : Nat → Int) (n : Nat) : tl (dqS y A (n + 1)) = dqS y (tl A) n := funext fun k => by
  show evN y (fun j => A (k + 1 + 1 + j)) (n + 1 - (k + 1)) = evN y (fun j => A (k + 1 + j + 1)) (n - k)
  rw [show n + 1 - (k + 1) = n - k by omega]
  congr 1
  funext j
  rw [show k + 1 + 1 + j = k + 1 + j + 1 by omega]
theorem dqS_zero (y : Int) (A : Nat → Int) (n : Nat) : dqS y A n 0 = evN y (tl A) n := by
  unfold dqS
  rw [Nat.sub_zero]
  congr 1
  funext j
  show A (0 + 1 + j) = A (j + 1)
  rw [show 0 + 1 + j = j + 1 by omega]
theorem dqS_step (y : Int) (A : Nat → Int) {n k : Nat} (h : k < n) : dqS y A n k = A (k + 1) + y * dqS y A n (k + 1) := by
  unfold dqS
  obtain ⟨m, hm⟩ : ∃ m, n - k = m + 1 := ⟨n - k - 1, by omega⟩
  rw [hm, evN_succ, show n - (k + 1) = m by omega]
  congr 2
  congr 1
  funext j
  show A (k + 1 + (j + 1)) = A (k + 1 + 1 + j)
  rw [show k + 1 + (j + 1) = k + 1 + 1 + j by omega]
theorem dqS_end (y : Int) (A : Nat → Int) (n : Nat) : dqS y A n n = 0 := by
  unfold dqS
  rw [Nat.sub_self]
  rfl
theorem evN_dq (x y : Int) : ∀ (n : Nat) (A : Nat → Int), evN x A (n + 1) = evN y A (n + 1) + (x - y) * evN x (dqS y A n) n
  | 0, A => by
    rw [evN_succ, evN_succ]
    simp [evN, sumN]
  | n + 1, A => by
    rw [evN_succ, evN_succ y A, evN_dq x y n (tl A), evN_succ x (dqS y A (n + 1)), dqS_tl, dqS_zero]
    obtain ⟨E, hE⟩ : ∃ E, evN y (tl A) (n + 1) = E := ⟨_, rfl⟩
    obtain ⟨D, hD⟩ : ∃ D, evN x (dqS y (tl A) n) n = D := ⟨_, rfl⟩
    rw [hE, hD, Int.mul_add, Int.mul_add, Int.sub_mul, Int.sub_mul, Int.sub_mul, Int.mul_sub, ← Int.mul_assoc x x D, ← Int.mul_assoc x y D, ← Int.mul_assoc y x D, Int.mul_comm y x, Int.mul_assoc x x D, ← Int.mul_assoc x x D]
    omega
/-- The points are distinct in the field. -/
def DistinctS (f : Int) (X : Nat → Int) (n : Nat) : Prop := ∀ i j, i < n → j < n → i ≠ j → (X i - X j) % P f ≠ 0
theorem DistinctS.less {f : Int} {X : Nat → Int} {n m : Nat} (h : DistinctS f X n) (hm : m ≤ n) : DistinctS f X m := fun i j hi hj => h i j (by omega) (by omega)
/-- A polynomial of n coefficients that vanishes at n points. -/
theorem roots_zero {f : Int} (h0 : 0 ≤ f) (h8 : f ≤ 8) (X : Nat → Int) : ∀ (n : Nat) (A : Nat → Int), DistinctS f X n → (∀ i, i < n → evN (X i) A n % P f = 0) → ∀ j, j < n → A j % P f = 0
  | 0, _, _, _ => fun j hj => by omega
  | n + 1, A, hd, hz => by
    have hB : ∀ j, j < n → dqS (X n) A n j % P f = 0 := roots_zero h0 h8 X n (dqS (X n) A n) (hd.less (by omega)) fun i hi => by
      have h1 := hz i (by omega)
      have h2 := hz n (by omega)
      rw [evN_dq (X i) (X n) n A, Int.add_emod, h2, Int.zero_add, Int.emod_emod_of_dvd _ (Int.dvd_refl _)] at h1
      have h3 := cancelF h0 h8 (x := evN (X i) (dqS (X n) A n) n) (y := 0) (hd i n (by omega) (by omega) (by omega)) (by rw [h1, Int.mul_zero]; rfl)
      rw [h3]
      rfl
    have hB2 : ∀ j, j ≤ n → dqS (X n) A n j % P f = 0 := fun j hj => by
      by_cases e : j < n
      · exact hB j e
      · obtain rfl : j = n := by omega
        rw [dqS_end]
        rfl
    intro j hj
    cases j with
    | zero =>
      have h2 := hz n (by omega)
      have h3 := hB2 0 (Nat.zero_le _)
      rw [dqS_zero] at h3
      rw [evN_succ, Int.add_emod, Int.mul_emod, h3, Int.mul_zero, Int.zero_emod, Int.add_zero, Int.emod_emod_of_dvd _ (Int.dvd_refl _)] at h2
      exact h2
    | succ k =>
      have h1 := dqS_step (X n) A (n := n) (k := k) (by omega)
      have h2 := hB k (by omega)
      have h3 := hB2 (k + 1) (by omega)
      rw [h1, Int.add_emod, Int.mul_emod, h3, Int.mul_zero, Int.zero_emod, Int.add_zero, Int.emod_emod_of_dvd _ (Int.dvd_refl _)] at h2
      exact h2
theorem evL_n {f x : Int} {a : List Int} {n : Nat} (h : a.length ≤ n) : evL f x a = RS (evN x (lf a) n) (P f) := by
  unfold evL
  rw [evN_more h fun j hj => lf_out a hj]
/-- Two coefficient functions with the same values at n points. -/
theorem same_values {f : Int} (h0 : 0 ≤ f) (h8 : f ≤ 8) {n : Nat} {A B X : Nat → Int} (hd : DistinctS f X n) (h : ∀ i, i < n → evN (X i) A n % P f = evN (X i) B n % P f) : ∀ j, j < n → A j % P f = B j % P f := fun j hj => by
  have h1 := roots_zero h0 h8 X n (fun j => A j + -1 * B j) hd (fun i hi => by
    rw [evN_add, evN_smul, show evN (X i) A n + -1 * evN (X i) B n = evN (X i) A n - evN (X i) B n by omega, ← Int.emod_eq_emod_iff_emod_sub_eq_zero]
    exact h i hi) j hj
  rw [Int.emod_eq_emod_iff_emod_sub_eq_zero]
  rw [← h1]
  congr 1
  omega
/-- There is one polynomial through points. -/
theorem through_unique {f : Int} (h0 : 0 ≤ f) (h8 : f ≤ 8) {n : Nat} {a b : List Int} {X : Nat → Int} (hd : DistinctS f X n) (ha : Pol f a) (hb : Pol f b) (la : a.length ≤ n) (lb : b.length ≤ n) (h : ∀ i, i < n → evL f (X i) a = evL f (X i) b) : a = b := by
  refine Pol.eq ha hb fun j => ?_
  by_cases hj : j < n
  · refine same_values h0 h8 hd (fun i hi => ?_) j hj
    have := h i hi
    rwa [evL_n la, evL_n lb] at this
  · rw [lf_out a (by omega), lf_out b (by omega)]
/-- x - y as a polynomial. -/
def linL (f y : Int) : List Int := [RS (0 - y) (P f), 1]
theorem linL_pol {f : Int} (h0 : 0 ≤ f) (h8 : f ≤ 8) (y : Int) : Pol f (linL f y) := by
  have hp := P_bd h0 h8
  refine ⟨fun j => ?_, .inr (by show (1 : Int) ≠ 0; decide)⟩
  match j with
  | 0 => exact RS_bd (by omega)
  | 1 => show 0 ≤ (1 : Int) ∧ (1 : Int) < P f; omega
  | j + 2 => show 0 ≤ (0 : Int) ∧ (0 : Int) < P f; omega
theorem evL_lin {f : Int} (x y : Int) : evL f x (linL f y) = RS (x - y) (P f) := by
  unfold evL
  have e : evN x (lf (linL f y)) (linL f y).length = RS (0 - y) (P f) + x := by
    show evN x (lf (linL f y)) 2 = _
    show 0 + lf (linL f y) 0 * x ^ 0 + lf (linL f y) 1 * x ^ 1 = _
    show 0 + RS (0 - y) (P f) * x ^ 0 + 1 * x ^ 1 = _
    rw [Int.pow_zero, Int.mul_one, Int.one_mul, Int.zero_add, Int.pow_succ, Int.pow_zero, Int.one_mul]
  rw [e]
  unfold RS
  rw [show x - y = (0 - y) + x by omega]
  exact emod_add_congr (Int.emod_emod_of_dvd _ (Int.dvd_refl _)) rfl
/-- The product of the x - X i, i < n. -/
def vanL (f : Int) (X : Nat → Int) : Nat → List Int
  | 0 => [1]
  | n + 1 => mulL f (vanL f X n) (linL f (X n))
theorem pol_oneL {f : Int} (h0 : 0 ≤ f) (h8 : f ≤ 8) : Pol f [1] := by
  have hp := P_bd h0 h8
  have e2 : cutL 1 (fun _ => (1 : Int)) = [1] := rfl
  rw [← e2]
  exact Pol.cut (by omega) fun _ _ => by omega
theorem vanL_pol {f : Int} (h0 : 0 ≤ f) (h8 : f ≤ 8) (X : Nat → Int) : ∀ n, Pol f (vanL f X n)
  | 0 => pol_oneL h0 h8
  | _ + 1 => pol_mulL h0 h8 _ _
theorem vanL_len {f : Int} (h0 : 0 ≤ f) (h8 : f ≤ 8) (X : Nat → Int) : ∀ n, (vanL f X n).length = n + 1
  | 0 => rfl
  | n + 1 => by
    have ih := vanL_len h0 h8 X n
    show (mulL f (vanL f X n) (linL f (X n))).length = _
    have l2 : (linL f (X n)).length = 2 := rfl
    rw [mulL_len h0 h8 (vanL_pol h0 h8 X n) (linL_pol h0 h8 _) (by omega) (by omega), ih, l2]
    omega
/-- The product of the x - X i as a number. -/
def pdZ (x : Int) (X : Nat → Int) : Nat → Int
  | 0 => 1
  | n + 1 => pdZ x X n * (x - X n)
theorem vanL_ev {f : Int} (h0 : 0 ≤ f) (h8 : f ≤ 8) (x : Int) (X : Nat → Int) : ∀ n, evL f x (vanL f X n) = RS (pdZ x X n) (P f)
  | 0 => by
    show evL f x [1] = RS 1 (P f)
    unfold evL
    show RS (0 + (1 : Int) * x ^ 0) (P f) = _
    rw [Int.pow_zero]
    rfl
  | n + 1 => by
    show evL f x (mulL f (vanL f X n) (linL f (X n))) = _
    rw [evL_mul, vanL_ev h0 h8 x X n, evL_lin]
    unfold RS
    exact (Int.mul_emod _ _ _).symm
theorem pdZ_zero {x : Int} {X : Nat → Int} : ∀ {n i : Nat}, i < n → x = X i → pdZ x X n = 0
  | n + 1, i, h, e => by
    show pdZ x X n * (x - X n) = 0
    by_cases hi : i < n
    · rw [pdZ_zero hi e, Int.zero_mul]
    · obtain rfl : i = n := by omega
      rw [e, Int.sub_self, Int.mul_zero]
/-- A product that vanishes has a factor that does. -/
theorem mul_ne_zero {f : Int} (h0 : 0 ≤ f) (h8 : f ≤ 8) {a b : Int} (ha : a % P f ≠ 0) (hb : b % P f ≠ 0) : (a * b) % P f ≠ 0 := fun h => by
  have h3 := cancelF h0 h8 (x := b) (y := 0) ha (by rw [h, Int.mul_zero]; rfl)
  exact hb (h3.trans rfl)
theorem pdZ_ne {f : Int} (h0 : 0 ≤ f) (h8 : f ≤ 8) {x : Int} {X : Nat → Int} : ∀ {n : Nat}, (∀ i, i < n → (x - X i) % P f ≠ 0) → pdZ x X n % P f ≠ 0
  | 0, _ => one_ne' h0 h8
  | n + 1, h => mul_ne_zero h0 h8 (pdZ_ne h0 h8 fun i hi => h i (by omega)) (h n (by omega))
where one_ne' (h0 : 0 ≤ f) (h8 : f ≤ 8) : (1 : Int) % P f ≠ 0 := by rw [one_p h0 h8]; decide
end Go.Proofs.YtoonpnfhcmghmaaDoor
namespace Go.Proofs.YtoonpnfhcmghmaaDoor
/-- How many of the first n places are marked. -/
def cntN (p : Nat → Bool) : Nat → Nat
  | 0 => 0
  | n + 1 => cntN p n + (if p n then 1 else 0)
theorem cntN_congr {p q : Nat → Bool} : ∀ {n : Nat}, (∀ i, i < n → p i = q i) → cntN p n = cntN q n
  | 0, _ => rfl
  | n + 1, h => by
    show cntN p n + (if p n then 1 else 0) = cntN q n + (if q n then 1 else 0)
    rw [cntN_congr fun i hi => h i (by omega), h n (by omega)]
theorem cntN_not (p : Nat → Bool) : ∀ n, cntN p n + cntN (fun i => !p i) n = n
  | 0 => rfl
  | n + 1 => by
    have := cntN_not p n
    show cntN p n + (if p n then 1 else 0) + (cntN (fun i => !p i) n + (if !p n then 1 else 0)) = n + 1
    cases p n
    · simp; omega
    · simp; omega
theorem cntN_or {p q r : Nat → Bool} : ∀ {n : Nat}, (∀ i, i < n → r i = true → p i = true ∨ q i = true) → cntN r n ≤ cntN p n + cntN q n
  | 0, _ => Nat.le_refl _
  | n + 1, h => by
    have ih := cntN_or (p := p) (q := q) (r := r) (n := n) fun i hi => h i (by omega)
    have hn := h n (by omega)
    show cntN r n + (if r n then 1 else 0) ≤ cntN p n + (if p n then 1 else 0) + (cntN q n + (if q n then 1 else 0))
    cases hr : r n
    · simp; omega
    · rcases hn hr with e | e <;> simp [e] <;> omega
/-- What lies at the marked places. -/
def selL (p : Nat → Bool) (X : Nat → Int) : Nat → List Int
  | 0 => []
  | n + 1 => if p n then selL p X n ++ [X n] else selL p X n
theorem selL_len (p : Nat → Bool) (X : Nat → Int) : ∀ n, (selL p X n).length = cntN p n
  | 0 => rfl
  | n + 1 => by
    show (if p n then selL p X n ++ [X n] else selL p X n).length = cntN p n + (if p n then 1 else 0)
    have := selL_len p X n
    split
    · rw [List.length_append, this]; rfl
    · omega
theorem selL_congr {p q : Nat → Bool} (X : Nat → Int) : ∀ {n : Nat}, (∀ i, i < n → p i = q i) → selL p X n = selL q X n
  | 0, _ => rfl
  | n + 1, h => by
    show (if p n then selL p X n ++ [X n] else selL p X n) = (if q n then selL q X n ++ [X n] else selL q X n)
    rw [selL_congr X fun i hi => h i (by omega), h n (by omega)]
theorem lf_app (l : List Int) (x : Int) (j : Nat) : lf (l ++ [x]) j = if j < l.length then lf l j else if j = l.length then x else 0 := by
  show (l ++ [x]).getD j 0 = if j < l.length then l.getD j 0 else if j = l.length then x else 0
  rw [List.getD_eq_getElem?_getD, List.getD_eq_getElem?_getD]
  by_cases h : j < l.length
  · rw [if_pos h, List.getElem?_append_left h]
  · rw [if_neg h, List.getElem?_append_right (by omega)]
    by_cases e : j = l.length
    · subst e
      rw [if_pos rfl, Nat.sub_self]
      rfl
    · rw [if_neg e, List.getElem?_eq_none (by simp; omega)]
      rfl
/-- The places that are marked, in their order. -/
theorem sel_idx (p : Nat → Bool) : ∀ n, ∃ s : Nat → Nat, (∀ j, j < cntN p n → s j < n ∧ p (s j) = true) ∧ (∀ i j, i < j → j < cntN p n → s i < s j) ∧ (∀ (X : Nat → Int) j, j < cntN p n → lf (selL p X n) j = X (s j)) ∧ ∀ i, i < n → p i = true → ∃ j, j < cntN p n ∧ s j = i
  | 0 => ⟨fun _ => 0, fun j hj => by have : j < 0 := hj; omega, fun i j _ hj => by have : j < 0 := hj; omega, fun X j hj => by have : j < 0 := hj; omega, fun i hi => by omega⟩
  | n + 1 => by
    obtain ⟨s, h1, h2, h3, h4⟩ := sel_idx p n
    by_cases hp : p n = true
    · have e : cntN p (n + 1) = cntN p n + 1 := by show cntN p n + (if p n then 1 else 0) = _; rw [if_pos hp]
      have eX : ∀ X : Nat → Int, selL p X (n + 1) = selL p X n ++ [X n] := fun X => by show (if p n then selL p X n ++ [X n] else selL p X n) = _; rw [if_pos hp]
      refine ⟨fun j => if j < cntN p n then s j else n, fun j hj => ?_, fun i j hij hj => ?_, fun X j hj => ?_, fun i hi hpi => ?_⟩
      · rw [e] at hj
        by_cases hj2 : j < cntN p n
        · simp only [if_pos hj2]
          have := h1 j hj2
          exact ⟨by omega, this.2⟩
        · simp only [if_neg hj2]
          exact ⟨by omega, hp⟩
      · rw [e] at hj
        have hi2 : i < cntN p n := by omega
        simp only [if_pos hi2]
        by_cases hj2 : j < cntN p n
        · simp only [if_pos hj2]
          exact h2 i j hij hj2
        · simp only [if_neg hj2]
          exact (h1 i hi2).1
      · rw [e] at hj
        rw [eX, lf_app, selL_len]
        by_cases hj2 : j < cntN p n
        · simp only [if_pos hj2]
          exact h3 X j hj2
        · simp only [if_neg hj2]
          rw [if_pos (by omega)]
      · rw [e]
        by_cases hin : i < n
        · obtain ⟨j, hj, hs⟩ := h4 i hin hpi
          exact ⟨j, by omega, by simp only [if_pos hj]; exact hs⟩
        · exact ⟨cntN p n, by omega, by simp only [Nat.lt_irrefl, if_false]; omega⟩
    · have e : cntN p (n + 1) = cntN p n := by show cntN p n + (if p n then 1 else 0) = _; rw [if_neg hp]; rfl
      have eX : ∀ X : Nat → Int, selL p X (n + 1) = selL p X n := fun X => by show (if p n then selL p X n ++ [X n] else selL p X n) = _; rw [if_neg hp]
      rw [e]
      refine ⟨s, fun j hj => ?_, h2, fun X j hj => by rw [eX]; exact h3 X j hj, fun i hi hpi => ?_⟩
      · have := h1 j hj
        exact ⟨by omega, this.2⟩
      · by_cases hin : i < n
        · exact h4 i hin hpi
        · obtain rfl : i = n := by omega
          exact absurd hpi hp
/-- The first k of the marked places. -/
def firstK (p : Nat → Bool) (k : Nat) (i : Nat) : Bool := p i && decide (cntN p i < k)
theorem firstK_cnt (p : Nat → Bool) (k : Nat) : ∀ n, cntN (firstK p k) n = min k (cntN p n)
  | 0 => by show 0 = min k 0; omega
  | n + 1 => by
    have ih := firstK_cnt p k n
    show cntN (firstK p k) n + (if firstK p k n then 1 else 0) = min k (cntN p n + (if p n then 1 else 0))
    rw [ih]
    unfold firstK
    cases hp : p n
    · simp
    · by_cases h : cntN p n < k
      · simp [h]; omega
      · simp [h]; omega
/-- A choice of places as the bits of a number. -/
def bitP (s : Nat) (i : Nat) : Bool := s / 2 ^ i % 2 == 1
theorem mask_exists (q : Nat → Bool) : ∀ n, ∃ s, s < 2 ^ n ∧ ∀ i, i < n → bitP s i = q i
  | 0 => ⟨0, by decide, fun i hi => by omega⟩
  | n + 1 => by
    obtain ⟨s, hs, hb⟩ := mask_exists (fun i => q (i + 1)) n
    refine ⟨2 * s + (if q 0 then 1 else 0), ?_, fun i hi => ?_⟩
    · rw [Nat.pow_succ]
      split <;> omega
    · cases i with
      | zero =>
        unfold bitP
        rw [Nat.pow_zero, Nat.div_one]
        cases q 0
        · simp
        · have : (2 * s + 1) % 2 = 1 := by omega
          simp [this]
      | succ i =>
        have h := hb i (by omega)
        have e : (2 * s + (if q 0 then 1 else 0)) / 2 ^ (i + 1) = s / 2 ^ i := by
          rw [show 2 ^ (i + 1) = 2 * 2 ^ i by rw [Nat.pow_succ, Nat.mul_comm], ← Nat.div_div_eq_div_mul]
          congr 1
          split <;> omega
        unfold bitP at h ⊢
        rw [e]
        exact h
end Go.Proofs.YtoonpnfhcmghmaaDoor
namespace Go.Proofs.YtoonpnfhcmghmaaDoor
theorem evL_scale (f x c : Int) (l : List Int) : evL f x (scaleL f l c) = RS (evL f x l * c) (P f) := by
  rw [evL_n (scaleL_le f l c)]
  unfold evL RS
  rw [evN_mod (p := P f) (y := x) (B := fun j => c * lf l j) _ rfl (fun j => by rw [lf_scaleL, Int.mul_comm]; simp), evN_smul, Int.mul_comm c]
  exact (emod_mul_congr (Int.emod_emod_of_dvd _ (Int.dvd_refl _)) rfl).symm
theorem distinct_of {f : Int} {X : Nat → Int} {n : Nat} (hb : ∀ j, j < n → 0 ≤ X j ∧ X j < P f) (hd : ∀ i j, i < j → j < n → X i ≠ X j) : DistinctS f X n := fun i j hi hj hij h => by
  rw [← Int.emod_eq_emod_iff_emod_sub_eq_zero, Int.emod_eq_of_lt (hb i hi).1 (hb i hi).2, Int.emod_eq_of_lt (hb j hj).1 (hb j hj).2] at h
  rcases Nat.lt_or_gt_of_ne hij with h2 | h2
  · exact hd i j h2 hj h
  · exact hd j i h2 hi h.symm
/-- The points but the i-th. -/
def othS (X : Nat → Int) (i : Nat) : Nat → Int := fun j => if j < i then X j else X (j + 1)
/-- The product of the X i - X j, j < k, j other than i, as an element. -/
def byF (f : Int) (X : Nat → Int) (i : Nat) : Nat → Int
  | 0 => 1
  | k + 1 => if k = i then byF f X i k else RS (byF f X i k * RS (X i - X k) (P f)) (P f)
theorem byF_lo (f : Int) (X : Nat → Int) (i : Nat) : ∀ k, k ≤ i → byF f X i k % P f = pdZ (X i) (othS X i) k % P f
  | 0, _ => rfl
  | k + 1, h => by
    show (if k = i then byF f X i k else RS (byF f X i k * RS (X i - X k) (P f)) (P f)) % P f = (pdZ (X i) (othS X i) k * (X i - othS X i k)) % P f
    rw [if_neg (by omega)]
    have e : othS X i k = X k := if_pos (by omega)
    rw [e]
    unfold RS
    rw [Int.emod_emod_of_dvd _ (Int.dvd_refl _)]
    exact emod_mul_congr (byF_lo f X i k (by omega)) (Int.emod_emod_of_dvd _ (Int.dvd_refl _))
theorem byF_hi (f : Int) (X : Nat → Int) (i : Nat) : ∀ k, i < k → byF f X i k % P f = pdZ (X i) (othS X i) (k - 1) % P f
  | k + 1, h => by
    show (if k = i then byF f X i k else RS (byF f X i k * RS (X i - X k) (P f)) (P f)) % P f = _
    by_cases e : k = i
    · rw [if_pos e]
      subst e
      exact byF_lo f X k k (Nat.le_refl _)
    · rw [if_neg e]
      obtain ⟨m, rfl⟩ : ∃ m, k = m + 1 := ⟨k - 1, by omega⟩
      have e2 : othS X i m = X (m + 1) := if_neg (by omega)
      show _ = (pdZ (X i) (othS X i) m * (X i - othS X i m)) % P f
      rw [e2]
      unfold RS
      rw [Int.emod_emod_of_dvd _ (Int.dvd_refl _)]
      exact emod_mul_congr (byF_hi f X i (m + 1) (by omega)) (Int.emod_emod_of_dvd _ (Int.dvd_refl _))
theorem byF_ne {f : Int} (h0 : 0 ≤ f) (h8 : f ≤ 8) {X : Nat → Int} {n i : Nat} (hd : DistinctS f X n) (hi : i < n) : byF f X i n % P f ≠ 0 := by
  rw [byF_hi f X i n hi]
  refine pdZ_ne h0 h8 fun j hj => ?_
  unfold othS
  split
  · exact hd i j hi (by omega) (by omega)
  · exact hd i (j + 1) hi (by omega) (by omega)
/-- The i-th term of Lagrange's sum. -/
noncomputable def lagT (f : Int) (X Y : Nat → Int) (n i : Nat) : List Int := scaleL f (vanL f (othS X i) (n - 1)) (RS (Y i * mPower f (byF f X i n) (-1)) (P f))
noncomputable def lagL (f : Int) (X Y : Nat → Int) (n : Nat) : Nat → List Int
  | 0 => []
  | i + 1 => addL f (lagL f X Y n i) (lagT f X Y n i)
theorem lagT_len {f : Int} (h0 : 0 ≤ f) (h8 : f ≤ 8) (X Y : Nat → Int) {n : Nat} (n1 : 1 ≤ n) (i : Nat) : (lagT f X Y n i).length ≤ n := by
  have h1 := scaleL_le f (vanL f (othS X i) (n - 1)) (RS (Y i * mPower f (byF f X i n) (-1)) (P f))
  rw [vanL_len h0 h8] at h1
  unfold lagT
  omega
theorem lagL_len {f : Int} (h0 : 0 ≤ f) (h8 : f ≤ 8) (X Y : Nat → Int) {n : Nat} (n1 : 1 ≤ n) : ∀ i, (lagL f X Y n i).length ≤ n
  | 0 => Nat.zero_le _
  | i + 1 => by
    have h1 := lagL_len h0 h8 X Y n1 i
    have h2 := lagT_len h0 h8 X Y n1 i
    have h3 := addL_le f (lagL f X Y n i) (lagT f X Y n i)
    show (addL f (lagL f X Y n i) (lagT f X Y n i)).length ≤ n
    omega
theorem lagL_pol {f : Int} (h0 : 0 ≤ f) (h8 : f ≤ 8) (X Y : Nat → Int) (n : Nat) : ∀ i, Pol f (lagL f X Y n i)
  | 0 => Pol.nil (by have := P_bd h0 h8; omega)
  | _ + 1 => pol_addL h0 h8 _ _
theorem lagT_ev {f : Int} (h0 : 0 ≤ f) (h8 : f ≤ 8) {X Y : Nat → Int} {n i m : Nat} (hd : DistinctS f X n) (hi : i < n) (hm : m < n) : evL f (X m) (lagT f X Y n i) = if m = i then RS (Y i) (P f) else 0 := by
  unfold lagT
  rw [evL_scale, vanL_ev h0 h8]
  by_cases e : m = i
  · subst e
    rw [if_pos rfl]
    have h1 := byF_hi f X m n hi
    have h2 := inv_mul h0 h8 (byF_ne h0 h8 hd hi)
    obtain ⟨V, hV⟩ : ∃ V, mPower f (byF f X m n) (-1) = V := ⟨_, rfl⟩
    rw [hV] at h2 ⊢
    unfold RS
    have h3 : (pdZ (X m) (othS X m) (n - 1) % P f * (Y m * V % P f)) % P f = (byF f X m n * (Y m * V)) % P f := emod_mul_congr (by rw [Int.emod_emod_of_dvd _ (Int.dvd_refl _)]; exact h1.symm) (Int.emod_emod_of_dvd _ (Int.dvd_refl _))
    rw [h3, show byF f X m n * (Y m * V) = Y m * (V * byF f X m n) by rw [Int.mul_left_comm, Int.mul_comm V]]
    have h4 : (Y m * (V * byF f X m n)) % P f = (Y m * 1) % P f := emod_mul_congr rfl h2
    rw [h4, Int.mul_one]
  · rw [if_neg e]
    have h1 : pdZ (X m) (othS X i) (n - 1) = 0 := by
      by_cases hl : m < i
      · exact pdZ_zero (i := m) (by omega) (by unfold othS; rw [if_pos hl])
      · exact pdZ_zero (i := m - 1) (by omega) (by unfold othS; rw [if_neg (by omega), show m - 1 + 1 = m by omega])
    rw [h1]
    simp [RS]
theorem lagL_ev {f : Int} (h0 : 0 ≤ f) (h8 : f ≤ 8) {X Y : Nat → Int} {n m : Nat} (hd : DistinctS f X n) (hm : m < n) : ∀ i, i ≤ n → evL f (X m) (lagL f X Y n i) = if m < i then RS (Y m) (P f) else 0
  | 0, _ => by
    show evL f (X m) [] = _
    simp [evL, evN, sumN, RS]
  | i + 1, h => by
    show evL f (X m) (addL f (lagL f X Y n i) (lagT f X Y n i)) = _
    rw [evL_add, lagL_ev h0 h8 hd hm i (by omega), lagT_ev h0 h8 hd (by omega) hm]
    by_cases h1 : m < i
    · rw [if_pos h1, if_neg (by omega), if_pos (by omega)]
      simp [RS]
    · rw [if_neg h1]
      by_cases h2 : m = i
      · rw [if_pos h2, if_pos (by omega), h2]
        simp [RS]
      · rw [if_neg h2, if_neg (by omega)]
        simp [RS]
/-- The polynomial through the points. -/
def QInter (f : Int) (X Y : Nat → Int) (n : Nat) (a : List Int) : Prop := Pol f a ∧ a.length ≤ n ∧ ∀ i, i < n → evL f (X i) a = Y i
noncomputable def interL (f : Int) (X Y : Nat → Int) (n : Nat) : List Int := theL (QInter f X Y n)
theorem QInter.unique {f : Int} (h0 : 0 ≤ f) (h8 : f ≤ 8) {X Y : Nat → Int} {n : Nat} (hd : DistinctS f X n) {a b : List Int} (ha : QInter f X Y n a) (hb : QInter f X Y n b) : a = b :=
  through_unique h0 h8 hd ha.1 hb.1 ha.2.1 hb.2.1 fun i hi => by rw [ha.2.2 i hi, hb.2.2 i hi]
theorem interL_eq {f : Int} (h0 : 0 ≤ f) (h8 : f ≤ 8) {X Y : Nat → Int} {n : Nat} (hd : DistinctS f X n) {a : List Int} (h : QInter f X Y n a) : interL f X Y n = a := theL_eq (fun _ _ p q => QInter.unique h0 h8 hd p q) h
theorem lagL_is {f : Int} (h0 : 0 ≤ f) (h8 : f ≤ 8) {X Y : Nat → Int} {n : Nat} (n1 : 1 ≤ n) (hd : DistinctS f X n) (hY : ∀ j, j < n → 0 ≤ Y j ∧ Y j < P f) : QInter f X Y n (lagL f X Y n n) :=
  ⟨lagL_pol h0 h8 X Y n n, lagL_len h0 h8 X Y n1 n, fun i hi => by
    rw [lagL_ev h0 h8 hd hi n (Nat.le_refl _), if_pos hi]
    unfold RS
    exact Int.emod_eq_of_lt (hY i hi).1 (hY i hi).2⟩
theorem interL_lag {f : Int} (h0 : 0 ≤ f) (h8 : f ≤ 8) {X Y : Nat → Int} {n : Nat} (n1 : 1 ≤ n) (hd : DistinctS f X n) (hY : ∀ j, j < n → 0 ≤ Y j ∧ Y j < P f) : interL f X Y n = lagL f X Y n n := interL_eq h0 h8 hd (lagL_is h0 h8 n1 hd hY)
theorem interL_is {f : Int} (h0 : 0 ≤ f) (h8 : f ≤ 8) {X Y : Nat → Int} {n : Nat} (n1 : 1 ≤ n) (hd : DistinctS f X n) (hY : ∀ j, j < n → 0 ≤ Y j ∧ Y j < P f) : QInter f X Y n (interL f X Y n) := by
  rw [interL_lag h0 h8 n1 hd hY]
  exact lagL_is h0 h8 n1 hd hY
/-- What the functions ask. -/
def PtsOk (f : Int) (xs : List Int) : Prop := (0 ≤ f ∧ f ≤ 8) ∧ (1 ≤ xs.length ∧ xs.length ≤ 40) ∧ (∀ j, j < xs.length → 0 ≤ lf xs j ∧ lf xs j < P f) ∧ ∀ i j, i < j → j < xs.length → lf xs i ≠ lf xs j
theorem PtsOk.dist {f : Int} {xs : List Int} (h : PtsOk f xs) : DistinctS f (lf xs) xs.length := distinct_of h.2.2.1 h.2.2.2
def ElsOk (f : Int) (l : List Int) : Prop := ∀ j, j < l.length → 0 ≤ lf l j ∧ lf l j < P f
def InterOk (f : Int) (xs ys : List Int) : Prop := PtsOk f xs ∧ ys.length = xs.length ∧ ElsOk f ys
/-- The word of a message. -/
def encL (f : Int) (xs m : List Int) : List Int := tab xs.length fun i => RS (evN (lf xs i) (lf m) m.length) (P f)
theorem encL_len (f : Int) (xs m : List Int) : (encL f xs m).length = xs.length := tab_len _ _
theorem encL_at {f : Int} {xs m : List Int} {i : Nat} (h : i < xs.length) : lf (encL f xs m) i = RS (evN (lf xs i) (lf m) m.length) (P f) := by unfold encL; rw [lf_tab, if_pos h]
/-- In how many places two lists differ. -/
def difP (a b : List Int) (j : Nat) : Bool := decide (a.length ≤ j) || decide (b.length ≤ j) || (lf a j != lf b j)
def difN (a b : List Int) : Nat := cntN (difP a b) (max a.length b.length)
theorem difN_same {a b : List Int} (h : a.length = b.length) : difN a b = cntN (fun j => lf a j != lf b j) a.length := by
  unfold difN
  rw [← h, Nat.max_self]
  exact cntN_congr fun i hi => by
    unfold difP
    rw [← h]
    simp [show ¬ a.length ≤ i by omega]
/-- A message whose word is near. -/
def QDec (f : Int) (xs ys : List Int) (k : Nat) (m : List Int) : Prop := m.length = k ∧ ElsOk f m ∧ difN (encL f xs m) ys ≤ (xs.length - k) / 2
theorem QDec.unique {f : Int} {xs ys : List Int} {k : Nat} (hp : PtsOk f xs) (hy : ys.length = xs.length) (hk : k ≤ xs.length) {a b : List Int} (ha : QDec f xs ys k a) (hb : QDec f xs ys k b) : a = b := by
  have h0 := hp.1.1
  have h8 := hp.1.2
  have da := ha.2.2
  have db := hb.2.2
  rw [difN_same (by rw [encL_len, hy]), encL_len] at da db
  have hne : cntN (fun j => lf (encL f xs a) j != lf (encL f xs b) j) xs.length ≤ cntN (fun j => lf (encL f xs a) j != lf ys j) xs.length + cntN (fun j => lf (encL f xs b) j != lf ys j) xs.length := cntN_or fun i _ hr => by
    simp only [bne_iff_ne, ne_eq] at hr ⊢
    by_cases e : lf (encL f xs a) i = lf ys i
    · exact .inr fun e2 => hr (e.trans e2.symm)
    · exact .inl e
  have hnot := cntN_not (fun j => lf (encL f xs a) j != lf (encL f xs b) j) xs.length
  obtain ⟨s, s1, s2, _, _⟩ := sel_idx (fun j => !(lf (encL f xs a) j != lf (encL f xs b) j)) xs.length
  have hcnt : k ≤ cntN (fun j => !(lf (encL f xs a) j != lf (encL f xs b) j)) xs.length := by omega
  have hd : DistinctS f (fun j => lf xs (s j)) k := distinct_of (fun j hj => hp.2.2.1 (s j) (s1 j (by omega)).1) fun i j hij hj => by
    have h1 := s2 i j hij (by omega)
    have h2 := (s1 j (by omega)).1
    exact hp.2.2.2 (s i) (s j) h1 h2
  have hv := same_values h0 h8 (A := lf a) (B := lf b) hd fun i hi => by
    have h1 := s1 i (by omega)
    have h2 : lf (encL f xs a) (s i) = lf (encL f xs b) (s i) := by
      have := h1.2
      simp only [Bool.not_eq_true', bne_eq_false_iff_eq] at this
      exact this
    rw [encL_at h1.1, encL_at h1.1, ha.1, hb.1] at h2
    exact h2
  refine list_ext (by rw [ha.1, hb.1]) fun j hj => ?_
  have h1 := hv j (by rw [← ha.1]; exact hj)
  have b1 := ha.2.1 j hj
  have b2 := hb.2.1 j (by rw [hb.1, ← ha.1]; exact hj)
  rwa [Int.emod_eq_of_lt b1.1 b1.2, Int.emod_eq_of_lt b2.1 b2.2] at h1
noncomputable def decL (f : Int) (xs ys : List Int) (k : Nat) : List Int := theL (QDec f xs ys k)
theorem decL_eq {f : Int} {xs ys : List Int} {k : Nat} (hp : PtsOk f xs) (hy : ys.length = xs.length) (hk : k ≤ xs.length) {m : List Int} (h : QDec f xs ys k m) : decL f xs ys k = m := theL_eq (fun _ _ p q => QDec.unique hp hy hk p q) h
/-- The message through k chosen places, with zeros behind. -/
noncomputable def tryL (f : Int) (xs ys : List Int) (k : Nat) (p : Nat → Bool) : List Int := padL (interL f (lf (selL p (lf xs) xs.length)) (lf (selL p (lf ys) xs.length)) k) k
theorem sel_dist {f : Int} {xs : List Int} (hp : PtsOk f xs) (p : Nat → Bool) {k : Nat} (hk : cntN p xs.length = k) : DistinctS f (lf (selL p (lf xs) xs.length)) k := by
  obtain ⟨s, s1, s2, s3, _⟩ := sel_idx p xs.length
  refine distinct_of (fun j hj => ?_) fun i j hij hj => ?_
  · rw [s3 _ j (by omega)]
    exact hp.2.2.1 _ (s1 j (by omega)).1
  · rw [s3 _ j (by omega), s3 _ i (by omega)]
    exact hp.2.2.2 _ _ (s2 i j hij (by omega)) (s1 j (by omega)).1
/-- The message is found at some choice of places. -/
theorem QDec.found {f : Int} {xs ys : List Int} {k : Nat} (hp : PtsOk f xs) (hy : ys.length = xs.length) (_k1 : 1 ≤ k) (hk : k ≤ xs.length) {m : List Int} (h : QDec f xs ys k m) : ∃ s, s < 2 ^ xs.length ∧ cntN (bitP s) xs.length = k ∧ tryL f xs ys k (bitP s) = m := by
  have h0 := hp.1.1
  have h8 := hp.1.2
  have d := h.2.2
  rw [difN_same (by rw [encL_len, hy]), encL_len] at d
  have hnot := cntN_not (fun j => lf (encL f xs m) j != lf ys j) xs.length
  obtain ⟨s, hs, hb⟩ := mask_exists (firstK (fun j => !(lf (encL f xs m) j != lf ys j)) k) xs.length
  have hc : cntN (bitP s) xs.length = k := by
    rw [cntN_congr hb, firstK_cnt]
    omega
  refine ⟨s, hs, hc, ?_⟩
  have hdist := sel_dist hp (bitP s) hc
  obtain ⟨t, t1, _, t3, _⟩ := sel_idx (bitP s) xs.length
  have hpol : Pol f (cutL k (lf m)) := Pol.cut (by have := P_bd h0 h8; omega) fun j hj => h.2.1 j (by rw [h.1]; exact hj)
  have hlen := cutL_le k (lf m)
  have elf : lf (cutL k (lf m)) = lf m := by have := lf_cut_self m; rwa [h.1] at this
  have hQ : QInter f (lf (selL (bitP s) (lf xs) xs.length)) (lf (selL (bitP s) (lf ys) xs.length)) k (cutL k (lf m)) := ⟨hpol, hlen, fun i hi => by
    have h1 := t1 i (by omega)
    have h2 := hb (t i) h1.1
    rw [h1.2] at h2
    have h3 : lf (encL f xs m) (t i) = lf ys (t i) := by
      have h5 : firstK (fun j => !(lf (encL f xs m) j != lf ys j)) k (t i) = true := h2.symm
      unfold firstK at h5
      have h4 : (!(lf (encL f xs m) (t i) != lf ys (t i))) = true := (Bool.and_eq_true_iff.1 h5).1
      simp only [Bool.not_eq_true', bne_eq_false_iff_eq] at h4
      exact h4
    rw [t3 _ i (by omega), t3 _ i (by omega), evL_n hlen, elf]
    rw [encL_at h1.1, h.1] at h3
    exact h3⟩
  unfold tryL
  rw [interL_eq h0 h8 hdist hQ]
  refine list_ext (by rw [padL_len, h.1]) fun j hj => ?_
  rw [lf_padL _ hlen, elf]
end Go.Proofs.YtoonpnfhcmghmaaDoor
namespace Go.Proofs.YtoonpnfhcmghmaaDoor
noncomputable def blameL (f : Int) (xs ys : List Int) (k : Nat) : List Int := selL (fun i => lf (encL f xs (decL f xs ys k)) i != lf ys i) (fun i => (i : Int)) xs.length
theorem InterOk.is {f : Int} {xs ys : List Int} (h : InterOk f xs ys) : QInter f (lf xs) (lf ys) xs.length (interL f (lf xs) (lf ys) xs.length) :=
  interL_is h.1.1.1 h.1.1.2 h.1.2.1.1 h.1.dist fun j hj => h.2.2 j (by rw [h.2.1]; exact hj)
end Go.Proofs.YtoonpnfhcmghmaaDoor
namespace Go.Proofs.YtoonpnfhcmghmaaDoor
theorem emm (x p : Int) : x % p % p = x % p := Int.emod_emod_of_dvd _ (Int.dvd_refl _)
theorem van_at {f : Int} (h0 : 0 ≤ f) (h8 : f ≤ 8) (X : Nat → Int) {n i : Nat} (hi : i < n) : evL f (X i) (vanL f X n) = 0 := by
  rw [vanL_ev h0 h8, pdZ_zero hi rfl]
  exact Int.zero_emod _
end Go.Proofs.YtoonpnfhcmghmaaDoor
namespace Go.Proofs.YtoonpnfhcmghmaaDoor
theorem addL_gt {f : Int} {a b : List Int} (hb : Pol f b) (h : a.length < b.length) : (addL f a b).length = b.length := by
  unfold addL
  rw [cutL_len, Nat.max_eq_right (Nat.le_of_lt h)]
  refine cutN_full (.inr ?_)
  have ht := hb.2
  have hbd := hb.1 (b.length - 1)
  rw [lf_out a (by omega), Int.zero_add]
  unfold RS
  rw [Int.emod_eq_of_lt hbd.1 hbd.2]
  exact ht.resolve_left (by omega)
theorem scaleL_neg_len {f : Int} {b : List Int} (hb : Pol f b) : (scaleL f b (-1)).length = b.length := by
  unfold scaleL
  rw [cutL_len]
  by_cases hz : b.length = 0
  · rw [hz]; rfl
  refine cutN_full (.inr ?_)
  have ht := hb.2.resolve_left hz
  have hbd := hb.1 (b.length - 1)
  unfold RS
  intro e
  have h1 := Int.dvd_of_emod_eq_zero e
  have h2 : P f ∣ lf b (b.length - 1) := by
    rw [Int.mul_neg, Int.mul_one] at h1
    exact (Int.dvd_neg).1 h1
  have := Int.le_of_dvd (by omega) h2
  omega
theorem quo_lenB {f : Int} (h0 : 0 ≤ f) (h8 : f ≤ 8) {a b q r : List Int} (ha : Pol f a) (hb : Pol f b) (hle : b.length ≤ a.length) (h : DivP f a b q r) : q.length + b.length = a.length + 1 := by
  have h1 := div_len h0 h8 hb h
  have hr := h.2.2.1
  by_cases hlt : a.length + 1 ≤ q.length + b.length
  · omega
  · exfalso
    have ht := top_nz h0 h8 ha (by omega)
    rw [h.2.2.2 (a.length - 1), lf_out r (by omega), cv_out (fun j h => lf_out q h) (fun j h => lf_out b h) (by omega)] at ht
    simp at ht
/-- The state of the divisions: two remainders and their factors. -/
def EeaAt (f : Int) (X Y : Nat → Int) (n b : Nat) (r0 r1 v0 v1 : List Int) : Prop :=
  (Pol f r0 ∧ Pol f r1 ∧ Pol f v0 ∧ Pol f v1) ∧ (r1.length < r0.length ∧ v0.length < v1.length ∧ v1.length + r0.length = n + 2 ∧ b ≤ 2 * (r0.length - 1)) ∧ (∀ i, i < n → evL f (X i) r0 = RS (evL f (X i) v0 * Y i) (P f)) ∧ ∀ i, i < n → evL f (X i) r1 = RS (evL f (X i) v1 * Y i) (P f)
theorem evL_one1 {f x : Int} (h0 : 0 ≤ f) (h8 : f ≤ 8) : evL f x [1] = 1 := by
  have hp := P_bd h0 h8
  have e : evN x (lf [1]) 1 = 1 := by
    show 0 + (1 : Int) * x ^ 0 = 1
    rw [Int.pow_zero]; rfl
  show RS (evN x (lf [1]) 1) (P f) = 1
  rw [e]
  exact Int.emod_eq_of_lt (by omega) (by omega)
theorem evL_nil (f x : Int) : evL f x [] = 0 := by simp [evL, evN, sumN, RS]
theorem EeaAt.start {f : Int} (h0 : 0 ≤ f) (h8 : f ≤ 8) {X Y : Nat → Int} {n b : Nat} {c : List Int} (hb : b ≤ 2 * n) (hY : ∀ j, j < n → 0 ≤ Y j ∧ Y j < P f) (h : QInter f X Y n c) : EeaAt f X Y n b (vanL f X n) c [] [1] := by
  have hl := vanL_len h0 h8 X n
  have h1 := h.2.1
  refine ⟨⟨vanL_pol h0 h8 X n, h.1, Pol.nil (P_pos h0 h8), pol_oneL h0 h8⟩, ⟨by omega, by simp, by rw [hl]; simp; omega, by omega⟩, fun i hi => ?_, fun i hi => ?_⟩
  · rw [van_at h0 h8 X hi, evL_nil, Int.zero_mul]
    exact (Int.zero_emod _).symm
  · rw [h.2.2 i hi, evL_one1 h0 h8, Int.one_mul]
    exact (Int.emod_eq_of_lt (hY i hi).1 (hY i hi).2).symm
theorem EeaAt.step {f : Int} (h0 : 0 ≤ f) (h8 : f ≤ 8) {X Y : Nat → Int} {n b : Nat} {r0 r1 v0 v1 q r : List Int} (h : EeaAt f X Y n b r0 r1 v0 v1) (_hz : r1.length ≠ 0) (hb : b ≤ 2 * (r1.length - 1)) (hd : DivP f r0 r1 q r) : EeaAt f X Y n b r1 r v1 (addL f v0 (scaleL f (mulL f q v1) (-1))) := by
  obtain ⟨⟨p1, p2, p3, p4⟩, ⟨l1, l2, l3, l4⟩, e1, e2⟩ := h
  have hq := quo_lenB h0 h8 p1 p2 (Nat.le_of_lt l1) hd
  have hm := mulL_len h0 h8 hd.1 p4 (by omega) (by omega)
  have hs := scaleL_neg_len (pol_mulL h0 h8 q v1)
  have ha := addL_gt (a := v0) (pol_scaleL h0 h8 (mulL f q v1) (-1)) (by omega)
  refine ⟨⟨p2, hd.2.1, p4, pol_addL h0 h8 _ _⟩, ⟨hd.2.2.1, by omega, by omega, hb⟩, e2, fun i hi => ?_⟩
  have h1 : evL f (X i) (addL f (mulL f q r1) r) = evL f (X i) r0 := by rw [div_back h0 h8 p1 hd]
  rw [evL_add, evL_mul, e1 i hi, e2 i hi] at h1
  rw [evL_add, evL_scale, evL_mul]
  have hb2 : 0 ≤ evL f (X i) r ∧ evL f (X i) r < P f := RS_bd (P_pos h0 h8)
  obtain ⟨R, hR⟩ : ∃ R, evL f (X i) r = R := ⟨_, rfl⟩
  obtain ⟨Q, hQ⟩ : ∃ Q, evL f (X i) q = Q := ⟨_, rfl⟩
  obtain ⟨U, hU⟩ : ∃ U, evL f (X i) v0 = U := ⟨_, rfl⟩
  obtain ⟨V, hV⟩ : ∃ V, evL f (X i) v1 = V := ⟨_, rfl⟩
  rw [hR] at hb2
  rw [hR, hQ, hU, hV] at h1
  rw [hR, hQ, hU, hV]
  obtain ⟨y, hy⟩ : ∃ y, Y i = y := ⟨_, rfl⟩
  rw [hy] at h1 ⊢
  unfold RS at h1 ⊢
  have k1 : (Q * (V * y % P f) % P f + R) % P f = (Q * (V * y) + R) % P f := emod_add_congr (by rw [emm]; exact emod_mul_congr rfl (emm _ _)) rfl
  rw [k1] at h1
  have k2 : ((U + Q * V % P f * -1 % P f) % P f * y) % P f = (U * y - Q * (V * y)) % P f := by
    have k3 : ((U + Q * V % P f * -1 % P f) % P f * y) % P f = ((U + Q * V * -1) * y) % P f := by
      refine emod_mul_congr ?_ rfl
      rw [emm]
      refine emod_add_congr rfl ?_
      rw [emm]
      exact emod_mul_congr (emm _ _) rfl
    rw [k3, Int.add_mul, Int.mul_neg, Int.mul_one, Int.neg_mul, Int.mul_assoc]
    rfl
  rw [k2]
  have k4 : R % P f = (U * y - Q * (V * y)) % P f := by
    have k5 : (Q * (V * y) + R - Q * (V * y)) % P f = (U * y - Q * (V * y)) % P f := emod_sub_congr h1 rfl
    rw [← k5]
    congr 1
    omega
  rw [← k4]
  exact (Int.emod_eq_of_lt hb2.1 hb2.2).symm
theorem msg_pol {f : Int} {m : List Int} {k : Nat} (h0 : 0 ≤ f) (h8 : f ≤ 8) (hm : m.length = k) (he : ElsOk f m) : Pol f (cutL k (lf m)) := Pol.cut (P_pos h0 h8) fun j hj => he j (by rw [hm]; exact hj)
theorem lf_cut_k {m : List Int} {k : Nat} (hm : m.length = k) : lf (cutL k (lf m)) = lf m := by
  subst hm
  exact lf_cut_self m
theorem evL_msg {f x : Int} {m : List Int} {k : Nat} (hm : m.length = k) : evL f x (cutL k (lf m)) = RS (evN x (lf m) m.length) (P f) := by
  rw [evL_n (cutL_le k (lf m)), lf_cut_k hm, hm]
/-- Where a message is near, the remainder is its multiple by the factor. -/
theorem EeaAt.found {f : Int} {xs ys : List Int} {k : Nat} (hp : PtsOk f xs) (hy : ys.length = xs.length) (_k1 : 1 ≤ k) (hk : k ≤ xs.length) {r0 r1 v0 v1 m : List Int} (h : EeaAt f (lf xs) (lf ys) xs.length (xs.length + k) r0 r1 v0 v1) (hend : 2 * (r1.length - 1) < xs.length + k) (hm : QDec f xs ys k m) : r1 = mulL f v1 (cutL k (lf m)) := by
  have h0 := hp.1.1
  have h8 := hp.1.2
  obtain ⟨⟨p1, p2, p3, p4⟩, ⟨l1, l2, l3, l4⟩, e1, e2⟩ := h
  have d := hm.2.2
  rw [difN_same (by rw [encL_len, hy]), encL_len] at d
  have hnot := cntN_not (fun j => lf (encL f xs m) j != lf ys j) xs.length
  obtain ⟨s, s1, s2, _, _⟩ := sel_idx (fun j => !(lf (encL f xs m) j != lf ys j)) xs.length
  obtain ⟨N, hN⟩ : ∃ N, cntN (fun j => !(lf (encL f xs m) j != lf ys j)) xs.length = N := ⟨_, rfl⟩
  rw [hN] at hnot s1 s2
  have hd : DistinctS f (fun j => lf xs (s j)) N := distinct_of (fun j hj => hp.2.2.1 (s j) (s1 j (by omega)).1) fun i j hij hj => by
    have h1 := s2 i j hij (by omega)
    have h2 := (s1 j (by omega)).1
    exact hp.2.2.2 (s i) (s j) h1 h2
  have lm := cutL_le k (lf m)
  have lp := mulL_le f v1 (cutL k (lf m))
  refine through_unique h0 h8 hd p2 (pol_mulL h0 h8 _ _) (by omega) (by omega) fun i hi => ?_
  have h1 := s1 i hi
  have h3 : lf (encL f xs m) (s i) = lf ys (s i) := by
    have := h1.2
    simp only [Bool.not_eq_true', bne_eq_false_iff_eq] at this
    exact this
  rw [encL_at h1.1] at h3
  show evL f (lf xs (s i)) r1 = evL f (lf xs (s i)) (mulL f v1 (cutL k (lf m)))
  rw [e2 (s i) h1.1, evL_mul, evL_msg hm.1, h3]
theorem mul_div {f : Int} (h0 : 0 ≤ f) (h8 : f ≤ 8) {v c : List Int} (hc : Pol f c) (hz : v.length ≠ 0) : DivP f (mulL f v c) v c [] := by
  refine ⟨hc, Pol.nil (P_pos h0 h8), by simp; omega, fun j => ?_⟩
  rw [lf_mulL, emm, cv_comm, lf_out [] (Nat.zero_le _), Int.add_zero]
/-- The quotient, cut and padded, is the message. -/
theorem EeaAt.message {f : Int} {xs ys : List Int} {k : Nat} (hp : PtsOk f xs) (hy : ys.length = xs.length) (k1 : 1 ≤ k) (hk : k ≤ xs.length) {r0 r1 v0 v1 m q r : List Int} (h : EeaAt f (lf xs) (lf ys) xs.length (xs.length + k) r0 r1 v0 v1) (hend : 2 * (r1.length - 1) < xs.length + k) (hm : QDec f xs ys k m) (hd : DivP f r1 v1 q r) : padL q k = m := by
  have h0 := hp.1.1
  have h8 := hp.1.2
  have e := h.found hp hy k1 hk hend hm
  have hv := h.2.1.2.1
  rw [e] at hd
  have hq := (DivP.unique h0 h8 h.1.2.2.2 hd (mul_div h0 h8 (msg_pol h0 h8 hm.1 hm.2.1) (by omega))).1
  rw [hq]
  refine list_ext (by rw [padL_len, hm.1]) fun j hj => ?_
  rw [lf_padL _ (cutL_le k (lf m)), lf_cut_k hm.1]
/-- The places where two lists differ. -/
def dfL (a b : List Int) : List Int := selL (difP a b) (fun i => (i : Int)) (max a.length b.length)
theorem difP_comm (a b : List Int) : difP a b = difP b a := funext fun j => by
  unfold difP
  rw [Bool.or_comm (decide (a.length ≤ j)), bne_comm]
theorem difN_comm (a b : List Int) : difN a b = difN b a := by unfold difN; rw [difP_comm, Nat.max_comm]
theorem dfL_enc {f : Int} {xs ys m : List Int} (hy : ys.length = xs.length) : dfL ys (encL f xs m) = selL (fun i => lf (encL f xs m) i != lf ys i) (fun i => (i : Int)) xs.length := by
  unfold dfL
  rw [encL_len, hy, Nat.max_self]
  refine selL_congr _ fun i hi => ?_
  unfold difP
  rw [encL_len, hy, bne_comm]
  simp [show ¬ xs.length ≤ i by omega]
theorem padL_els {f : Int} {q : List Int} {k : Nat} (hq : Pol f q) : ElsOk f (padL q k) := fun j hj => by
  rw [padL_len] at hj
  unfold padL
  rw [lf_tab, if_pos hj]
  exact hq.1 j
/-- What the divisions find: the message, or none that is near. -/
theorem EeaAt.answer {f : Int} {xs ys : List Int} {k : Nat} (hp : PtsOk f xs) (hy : ys.length = xs.length) (k1 : 1 ≤ k) (hk : k ≤ xs.length) {r0 r1 v0 v1 q r : List Int} (h : EeaAt f (lf xs) (lf ys) xs.length (xs.length + k) r0 r1 v0 v1) (hend : 2 * (r1.length - 1) < xs.length + k) (hd : DivP f r1 v1 q r) :
    (difN ys (encL f xs (padL q k)) ≤ (xs.length - k) / 2 → QDec f xs ys k (padL q k) ∧ decL f xs ys k = padL q k ∧ dfL ys (encL f xs (padL q k)) = blameL f xs ys k) ∧ (¬ difN ys (encL f xs (padL q k)) ≤ (xs.length - k) / 2 → ¬ ∃ m, QDec f xs ys k m) := by
  refine ⟨fun hn => ?_, fun hn => ?_⟩
  · have hq : QDec f xs ys k (padL q k) := ⟨padL_len _ _, padL_els hd.1, by rw [difN_comm]; exact hn⟩
    have he := decL_eq hp hy hk hq
    refine ⟨hq, he, ?_⟩
    rw [dfL_enc hy]
    unfold blameL
    rw [he]
  · rintro ⟨m, hm⟩
    have e := h.message hp hy k1 hk hend hm hd
    rw [e] at hn
    have := hm.2.2
    rw [difN_comm] at this
    exact hn this
end Go.Proofs.YtoonpnfhcmghmaaDoor
namespace Go.Proofs.YtoonpnfhcmghmaaDoor
open Go.RowKit
/-- A node at block b: its field, its product at block g, its branches. -/
def NodeW (w : World) (b : Nat) (f : Int) (g n : Nat) (pl pr : Option Addr) : Prop :=
  w.cell? ⟨b, 0, none⟩ = some (.int .i64 f) ∧ w.cell? ⟨b, 1, none⟩ = some (.slice (some ⟨g, 0, none⟩) (n + 1) (n + 1)) ∧ w.cell? ⟨b, 2, none⟩ = some (.pointer pl) ∧ w.cell? ⟨b, 3, none⟩ = some (.pointer pr)
theorem NodeW.lt {w : World} {b g n : Nat} {f : Int} {pl pr : Option Addr} (h : NodeW w b f g n pl pr) : b < w.heap.size := block_lt_of_cell h.1
theorem NodeW.keep {w w' : World} {b g n : Nat} {f : Int} {pl pr : Option Addr} (h : NodeW w b f g n pl pr) {N : Nat} (hb : Below N w w') (hN : b < N) : NodeW w' b f g n pl pr :=
  ⟨(hb.cell (p := ⟨b, 0, none⟩) hN).trans h.1, (hb.cell (p := ⟨b, 1, none⟩) hN).trans h.2.1, (hb.cell (p := ⟨b, 2, none⟩) hN).trans h.2.2.1, (hb.cell (p := ⟨b, 3, none⟩) hN).trans h.2.2.2⟩
/-- A tree over the points X 0, .., X (n - 1), at p; d bounds its depth. -/
def TreeW (f : Int) (w : World) : Nat → Option Addr → (Nat → Int) → Nat → Prop
  | 0, _, _, _ => False
  | d + 1, p, X, n => ∃ b g pl pr, p = some ⟨b, 0, none⟩ ∧ NodeW w b f g n pl pr ∧ Own w g (n + 1) (lf (vanL f X n)) ∧
      ((n = 1 ∧ pl = none ∧ pr = none) ∨ ∃ m k, n = m + k ∧ 1 ≤ m ∧ 1 ≤ k ∧ TreeW f w d pl X m ∧ TreeW f w d pr (fun j => X (m + j)) k)
theorem TreeW.keep {f : Int} {w w' : World} (hb : Below w.heap.size w w') : ∀ {d : Nat} {p : Option Addr} {X : Nat → Int} {n : Nat}, TreeW f w d p X n → TreeW f w' d p X n
  | 0, _, _, _, h => h
  | _ + 1, _, _, _, ⟨b, g, pl, pr, h1, h2, h3, h4⟩ => ⟨b, g, pl, pr, h1, h2.keep hb h2.lt, h3.keep hb, h4.imp id fun ⟨m, k, e, m1, k1, hl, hr⟩ => ⟨m, k, e, m1, k1, TreeW.keep hb hl, TreeW.keep hb hr⟩⟩
theorem TreeW.more {f : Int} {w : World} : ∀ {d d' : Nat} {p : Option Addr} {X : Nat → Int} {n : Nat}, TreeW f w d p X n → d ≤ d' → TreeW f w d' p X n
  | 0, _, _, _, _, h, _ => absurd h (by intro h; exact h)
  | d + 1, 0, _, _, _, _, h2 => absurd h2 (by omega)
  | d + 1, d' + 1, _, _, _, ⟨b, g, pl, pr, h1, h2, h3, h4⟩, hd => ⟨b, g, pl, pr, h1, h2, h3, h4.imp id fun ⟨m, k, e, m1, k1, hl, hr⟩ => ⟨m, k, e, m1, k1, hl.more (by omega), hr.more (by omega)⟩⟩
end Go.Proofs.YtoonpnfhcmghmaaDoor
namespace Go.Proofs.YtoonpnfhcmghmaaDoor
open Go.RowKit
/-- A list in memory of its own, in a row that may have room. -/
def OwnM (w : World) (B : Nat) (a : Option Addr) (l : List Int) (cap : Nat) : Prop :=
  (a = none ∧ cap = 0 ∧ l.length = 0) ∨ ∃ g, a = some ⟨g, 0, none⟩ ∧ B ≤ g ∧ OwnV w g l.length cap (lf l)
theorem OwnM.src {w : World} {B : Nat} {a : Option Addr} {l : List Int} {cap : Nat} (h : OwnM w B a l cap) : Src w a l.length (lf l) := by
  rcases h with ⟨_, _, h⟩ | ⟨g, rfl, _, h⟩
  · exact .inl h
  · exact h.src
theorem OwnM.keep {w w' : World} {B : Nat} {a : Option Addr} {l : List Int} {cap : Nat} (h : OwnM w B a l cap) (hb : Below w.heap.size w w') : OwnM w' B a l cap :=
  h.imp id fun ⟨g, h1, h2, h3⟩ => ⟨g, h1, h2, h3.keep hb⟩
theorem own_to_v {w : World} {g n : Nat} {F : Nat → Int} (h : Own w g n F) : OwnV w g n n F := ⟨_, h, Nat.le_refl _, fun _ _ => rfl⟩
theorem OwnA.m {w : World} {B : Nat} {a : Option Addr} {l : List Int} {cap : Nat} (h : OwnA w B a l cap) : OwnM w B a l cap := by
  rcases h with h | ⟨g, rfl, rfl, hB, h⟩
  · exact .inl h
  · exact .inr ⟨g, rfl, hB, own_to_v h⟩
theorem v_of_block {w w' : World} {g n cap : Nat} {F : Nat → Int} (h : OwnV w g n cap F) (hb : w'.heap[g]? = w.heap[g]?) : OwnV w' g n cap F := by
  obtain ⟨V, h1, h2, h3⟩ := h
  exact ⟨V, World.rowIs.of_block h1 hb, h2, h3⟩
theorem OwnM.after {w w' : World} {B cap : Nat} {a a2 : Option Addr} {l : List Int} (h : OwnM w B a2 l cap) (hg : Grow w w' a) (hl : Lies a B) : OwnM w' B a2 l cap := by
  rcases hg with rfl | ⟨g, rfl, hg⟩
  · exact h
  · have := hl _ rfl
    refine h.imp id fun ⟨g2, h1, h2, h3⟩ => ⟨g2, h1, h2, v_of_block h3 (hg.block g2 h3.lt (fun e => ?_))⟩
    injection e with e
    have : g < B := this
    omega
def OwnLM (w : World) (l : List Int) (e : Ending) (w' : World) : Prop := ∃ a cap, e = .returned (.slice a l.length cap) ∧ OwnM w' w.heap.size a l cap ∧ Below w.heap.size w w'
theorem OwnL.m {w w' : World} {l : List Int} {e : Ending} (h : OwnL w l e w') : OwnLM w l e w' := by
  obtain ⟨a, cap, h1, h2, h3⟩ := h
  exact ⟨a, cap, h1, h2.m, h3⟩
theorem OwnsL.m {w w' : World} {l : List Int} {e : Ending} (h : OwnsL w l e w') : OwnLM w l e w' := by
  obtain ⟨v, rfl, ho, hb⟩ := h
  by_cases hz : l.length = 0
  · rcases ho.2 with ⟨rfl, _⟩ | ⟨g, cap, cur, rfl, hg, hh, hc, hm, hs, _⟩
    · exact ⟨none, 0, by rw [hz], .inl ⟨rfl, rfl, hz⟩, hb⟩
    · refine ⟨some ⟨g, 0, none⟩, cap, rfl, .inr ⟨g, rfl, hg, fun j => (cur[j]?).getD .nilIface, ⟨cur, hh, by omega, fun j hj => ?_⟩, by omega, fun j hj => by omega⟩, hb⟩
      have : j < cur.size := by omega
      simp [this]
  · obtain ⟨g, cap, rfl, hg, hv⟩ := OwnV.of_owns ho hz
    exact ⟨some ⟨g, 0, none⟩, cap, rfl, .inr ⟨g, rfl, hg, hv⟩, hb⟩
end Go.Proofs.YtoonpnfhcmghmaaDoor
