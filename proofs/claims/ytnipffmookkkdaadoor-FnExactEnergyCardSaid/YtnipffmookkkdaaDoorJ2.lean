/-
  Texts of the proofs of this seat, joined (part 2).
-/
import Derived.BigQuiet
import Derived.StillTailTactics
import Derived.Deep.RegionHeld3
import Derived.Deep.AppendLies
import Derived.RangeFuncBox
import Derived.RangeFuncLeaves
import Derived.RangeFuncCalls
import Derived.Shelf.Abstract
import Derived.OwnWalkIn
import Derived.TacticsInMore
import Derived.LoopNIn
import Derived.LoopIn
import Derived.Maps.AppendAt
import Derived.Test.YtnipffmookkkdaaDoorJ1
namespace Go.Proofs.YtnipffmookkkdaaDoor
open Mth
theorem pow_cast {f : Int} (h0 : 0 ≤ f) (h8 : f ≤ 8) {x : Int} (hx : 0 ≤ x) (m : Nat) : x ^ m % P f = ((x.toNat ^ m % (P f).toNat : Nat) : Int) := by
  have hp := P_bd h0 h8
  rw [Int.natCast_emod, Int.natCast_pow, Int.toNat_of_nonneg hx, Int.toNat_of_nonneg (by omega)]
theorem PW_pow {f x : Int} (h0 : 0 ≤ f) (h8 : f ≤ 8) (hx : 0 ≤ x) (m : Nat) : PW (P f) x m = x ^ m % P f := by
  rw [pow_cast h0 h8 hx]
  unfold PW
  rw [Int.toNat_natCast]
theorem rootsF_pow {f k : Int} (h : hasK f k) (j : Nat) : rootsF f k j = mRoot f k ^ j % P f := by
  have b := root_bd h
  exact PW_pow h.1.1 h.1.2 (by omega) j
/-- The inverse of the root. -/
def mInvR (f k : Int) : Int := mPower f (mRoot f k) (-1)
theorem invR_bd {f k : Int} (h : hasK f k) : 0 < mInvR f k ∧ mInvR f k < P f := by
  have b := root_bd h
  have hz : RS (mRoot f k) (P f) ≠ 0 := by rw [RS_self (by omega) b.2]; omega
  exact (inv_one h.1.1 h.1.2 hz).2
theorem rt_of {f k : Int} (h : hasK f k) : Rt f (mRoot f k) (mInvR f k) (2 ^ k.toNat) := by
  have b := root_bd h
  have h0 := h.1.1
  have h8 := h.1.2
  have hp := P_bd h0 h8
  have hz : RS (mRoot f k) (P f) ≠ 0 := by rw [RS_self (by omega) b.2]; omega
  refine ⟨h0, h8, Nat.pow_pos (by omega), fun m => ?_, ?_⟩
  · rw [one_p h0 h8, pow_cast h0 h8 (by omega), ← root_ord h m]
    omega
  · have := (inv_one h0 h8 hz).1
    rw [RS_self (x := mRoot f k) (by omega) b.2, Int.mul_comm] at this
    rw [one_p h0 h8]
    exact this
/-- Half way round is -1. -/
theorem Rt.half {f w v : Int} {m : Nat} (h : Rt f w v (m + m)) : (w ^ m + 1) % P f = 0 := by
  have m0 : 0 < m := by have := h.n0; omega
  refine Classical.byContradiction fun hs => ?_
  have h1 : (w ^ m - 1) % P f ≠ 0 := fun e => by
    have : w ^ m % P f = 1 % P f := by
      have := emod_add_congr (p := P f) (a := w ^ m - 1) (b := 0) (c := 1) (d := 1) (by rw [e]; simp) rfl
      rwa [Int.sub_add_cancel, Int.zero_add] at this
    have := Nat.le_of_dvd m0 ((h.ord m).1 this)
    omega
  have := mul_nz h.h0 h.h8 h1 hs
  refine this ?_
  have e : (w ^ m - 1) * (w ^ m + 1) = w ^ (m + m) - 1 := by
    rw [Int.pow_add, Int.mul_add, Int.sub_mul, Int.sub_mul]
    omega
  rw [e]
  exact emod_zero_of_sub h.full
theorem rv_bit (b c : Nat) (hc : c < 2) : ∀ j, rv (2 * b + c) (j + 1) = c * 2 ^ j + rv b j
  | 0 => by simp [rv]; omega
  | j + 1 => by
    rw [rv, rv_bit b c hc j]
    show 2 * (c * 2 ^ j + rv b j) + (2 * b + c) / 2 ^ (j + 1) % 2 = c * 2 ^ (j + 1) + rv b (j + 1)
    rw [rv, Nat.pow_succ, Nat.mul_comm (2 ^ j) 2, ← Nat.div_div_eq_div_mul, show (2 * b + c) / 2 = b by omega, Nat.mul_add, ← Nat.mul_assoc c, Nat.mul_comm c 2, Nat.mul_assoc 2 c, Nat.add_assoc]
/-- After s levels: each block of 2^s is the transform of every 2^(k-s)-th number of X. -/
def Lev (f w : Int) (k s : Nat) (X V : Nat → Int) : Prop :=
  ∀ b t, b < 2 ^ (k - s) → t < 2 ^ s → V (b * 2 ^ s + t) % P f = sumN (fun u => X (rv b (k - s) + u * 2 ^ (k - s)) * w ^ (t * (u * 2 ^ (k - s)))) (2 ^ s) % P f
theorem Lev.start {f w : Int} {k : Nat} {X V : Nat → Int} (h : ∀ j, j < 2 ^ k → V j % P f = X (rv j k) % P f) : Lev f w k 0 X V := by
  intro b t hb ht
  have : t = 0 := by have : t < 1 := ht; omega
  subst this
  rw [Nat.sub_zero] at hb ⊢
  rw [show b * 2 ^ 0 + 0 = b by simp, h b hb]
  show _ = (sumN _ 0 + X (rv b k + 0 * 2 ^ k) * w ^ (0 * (0 * 2 ^ k))) % P f
  simp [sumN]
/-- One level. -/
theorem Lev.step {f w v : Int} {k s : Nat} {X V V' : Nat → Int} (hr : Rt f w v (2 ^ k)) (hs : s < k) (h : Lev f w k s X V)
    (hlo : ∀ b t, b < 2 ^ (k - s - 1) → t < 2 ^ s → V' (b * 2 ^ (s + 1) + t) % P f = (V (b * 2 ^ (s + 1) + t) + V (b * 2 ^ (s + 1) + t + 2 ^ s) * w ^ (t * 2 ^ (k - s - 1))) % P f)
    (hhi : ∀ b t, b < 2 ^ (k - s - 1) → t < 2 ^ s → V' (b * 2 ^ (s + 1) + t + 2 ^ s) % P f = (V (b * 2 ^ (s + 1) + t) - V (b * 2 ^ (s + 1) + t + 2 ^ s) * w ^ (t * 2 ^ (k - s - 1))) % P f) : Lev f w k (s + 1) X V' := by
  intro b t hb ht
  obtain ⟨m, hm⟩ : ∃ m, m = 2 ^ (k - s - 1) := ⟨_, rfl⟩
  obtain ⟨g, hg⟩ : ∃ g, g = 2 ^ s := ⟨_, rfl⟩
  have e1 : k - (s + 1) = k - s - 1 := by omega
  have e2 : k - s = k - s - 1 + 1 := by omega
  have p1 : (2 : Nat) ^ (k - s) = 2 * m := by rw [e2, Nat.pow_succ, hm, Nat.mul_comm]
  have p2 : (2 : Nat) ^ (s + 1) = 2 * g := by rw [Nat.pow_succ, hg, Nat.mul_comm]
  have p3 : (2 : Nat) ^ k = g * m + g * m := by
    have : k = s + (k - s - 1) + 1 := by omega
    rw [this, Nat.pow_succ, Nat.pow_add, ← hg, ← hm]
    omega
  have hr2 : Rt f w v (g * m + g * m) := by rw [← p3]; exact hr
  have hhalf := hr2.half
  rw [e1, ← hm] at hb
  rw [← hm] at hlo hhi
  rw [← hg] at hlo hhi
  rw [p2] at hlo hhi ht
  rw [e1, ← hm, p2]
  -- the two blocks below
  have r0 : rv (2 * b) (k - s) = rv b (k - s - 1) := by rw [e2]; have := rv_bit b 0 (by omega) (k - s - 1); simpa using this
  have r1 : rv (2 * b + 1) (k - s) = rv b (k - s - 1) + m := by rw [e2]; have := rv_bit b 1 (by omega) (k - s - 1); rw [Nat.one_mul, ← hm] at this; rw [show k - s - 1 + 1 - 1 = k - s - 1 by omega]; omega
  have LE : ∀ t, t < g → V (b * (2 * g) + t) % P f = sumN (fun u => X (rv b (k - s - 1) + u * (2 * m)) * w ^ (t * (u * (2 * m)))) g % P f := fun t ht => by
    have := h (2 * b) t (by rw [p1]; omega) (by rw [← hg]; exact ht)
    rw [r0, p1, ← hg, show 2 * b * g = b * (2 * g) by rw [Nat.mul_comm 2 b, Nat.mul_assoc]] at this
    exact this
  have LO : ∀ t, t < g → V (b * (2 * g) + t + g) % P f = sumN (fun u => X (rv b (k - s - 1) + m + u * (2 * m)) * w ^ (t * (u * (2 * m)))) g % P f := fun t ht => by
    have := h (2 * b + 1) t (by rw [p1]; omega) (by rw [← hg]; exact ht)
    rw [r1, p1, ← hg, show (2 * b + 1) * g + t = b * (2 * g) + t + g by rw [Nat.add_mul, Nat.mul_comm 2 b, Nat.mul_assoc]; omega] at this
    exact this
  -- the whole sum, split
  have split : ∀ t, sumN (fun u => X (rv b (k - s - 1) + u * m) * w ^ (t * (u * m))) (2 * g) = sumN (fun u => X (rv b (k - s - 1) + u * (2 * m)) * w ^ (t * (u * (2 * m)))) g + sumN (fun u => X (rv b (k - s - 1) + m + u * (2 * m)) * w ^ (t * (u * (2 * m)))) g * w ^ (t * m) := fun t => by
    rw [sumN_even, ← sumN_mul_r]
    congr 1
    · exact sumN_congr fun u _ => by rw [show 2 * u * m = u * (2 * m) by rw [Nat.mul_comm 2 u, Nat.mul_assoc]]
    · exact sumN_congr fun u _ => by
        rw [show (2 * u + 1) * m = m + u * (2 * m) by rw [Nat.add_mul, Nat.mul_comm 2 u, Nat.mul_assoc]; omega, ← Nat.add_assoc, Int.mul_assoc, ← Int.pow_add, ← Nat.mul_add, Nat.add_comm m]
  by_cases htg : t < g
  · rw [hlo b t hb htg, split t]
    exact emod_add_congr (LE t htg) (emod_mul_congr (LO t htg) rfl)
  · obtain ⟨r, rfl⟩ : ∃ r, t = r + g := ⟨t - g, by omega⟩
    have hrg : r < g := by omega
    rw [← Nat.add_assoc, hhi b r hb hrg, split (r + g)]
    -- w^((r+g) u 2m) = w^(r u 2m), w^((r+g) m) = - w^(r m)
    have x1 : ∀ u, w ^ ((r + g) * (u * (2 * m))) % P f = w ^ (r * (u * (2 * m))) % P f := fun u => hr2.exp (by
      rw [Nat.add_mul, show g * (u * (2 * m)) = (g * m + g * m) * u by rw [← Nat.mul_assoc, Nat.mul_comm g u, Nat.mul_assoc, Nat.mul_comm _ u, ← Nat.mul_add g, Nat.two_mul], Nat.add_mul_mod_self_left])
    have x2 : w ^ ((r + g) * m) % P f = (- w ^ (r * m)) % P f := by
      rw [Nat.add_mul, Int.pow_add]
      have : (w ^ (r * m) * w ^ (g * m)) % P f = (w ^ (r * m) * (-1)) % P f := emod_mul_congr rfl (by
        have := emod_add_congr (p := P f) (a := w ^ (g * m) + 1) (b := 0) (c := -1) (d := -1) (by rw [hhalf]; simp) rfl
        rw [Int.zero_add] at this
        rw [← this]
        congr 1
        omega)
      rw [this]
      congr 1
      omega
    have y1 : (sumN (fun u => X (rv b (k - s - 1) + u * (2 * m)) * w ^ ((r + g) * (u * (2 * m)))) g) % P f = V (b * (2 * g) + r) % P f := by
      rw [LE r hrg]
      exact sumN_mod fun u _ => emod_mul_congr rfl (x1 u)
    have y2 : (sumN (fun u => X (rv b (k - s - 1) + m + u * (2 * m)) * w ^ ((r + g) * (u * (2 * m)))) g) % P f = V (b * (2 * g) + r + g) % P f := by
      rw [LO r hrg]
      exact sumN_mod fun u _ => emod_mul_congr rfl (x1 u)
    have y3 := emod_add_congr y1 (emod_mul_congr y2 x2)
    rw [y3]
    congr 1
    rw [Int.mul_neg]
    omega
/-- All levels: the transform. -/
theorem Lev.last {f w : Int} {k : Nat} {X V : Nat → Int} (h : Lev f w k k X V) {t : Nat} (ht : t < 2 ^ k) : V t % P f = ftF w (2 ^ k) X t % P f := by
  have := h 0 t (by simp) ht
  rw [Nat.sub_self, Nat.zero_mul, Nat.zero_add] at this
  rw [this]
  unfold ftF
  congr 1
  exact sumN_congr fun u _ => by simp [rv]
end Go.Proofs.YtnipffmookkkdaaDoor
namespace Go.Proofs.YtnipffmookkkdaaDoor
open Mth
def VecOk (f : Int) (l : List Int) : Prop := (0 ≤ mLog l.length ∧ mLog l.length ≤ T f) ∧ ∀ j, j < l.length → 0 ≤ lf l j ∧ lf l j < P f
def TwoOk (f : Int) (a b : List Int) : Prop := a.length = b.length ∧ VecOk f a ∧ VecOk f b
open Classical in
noncomputable def mVectorOk (f : Int) (l : List Int) : Bool := decide (VecOk f l)
/-- The log of a vector. -/
theorem VecOk.log {f : Int} {l : List Int} (h : VecOk f l) : ∃ k : Nat, k ≤ 9 ∧ l.length = 2 ^ k ∧ mLog l.length = k ∧ hasK f k := by
  rcases log_cases (l.length : Int) with ⟨k, hk, hn, hl⟩ | ⟨_, hl⟩
  · refine ⟨k, hk, ?_, hl, (hasK_iff f k).2 ⟨by omega, by have := h.1.2; omega⟩⟩
    have e : ((2 ^ k : Nat) : Int) = 2 ^ k := by rw [Int.natCast_pow]; rfl
    omega
  · have := h.1.1
    omega
theorem VecOk.f08 {f : Int} {l : List Int} (h : VecOk f l) : 0 ≤ f ∧ f ≤ 8 := by
  obtain ⟨k, _, _, _, hk⟩ := h.log
  exact hk.1
theorem VecOk.pos {f : Int} {l : List Int} (h : VecOk f l) : 0 < l.length ∧ l.length ≤ 512 := by
  obtain ⟨k, hk, hn, _, _⟩ := h.log
  have : 2 ^ k ≤ 2 ^ 9 := Nat.pow_le_pow_right (by omega) hk
  have h0 : 0 < 2 ^ k := Nat.pow_pos (by omega)
  omega
theorem VecOk.lt {f : Int} {l : List Int} (h : VecOk f l) (j : Nat) : 0 ≤ lf l j ∧ lf l j < P f := by
  have h08 := h.f08
  have hp := P_bd h08.1 h08.2
  by_cases hj : j < l.length
  · exact h.2 j hj
  · rw [lf_out l (by omega)]; omega
def rootL (f : Int) (l : List Int) : Int := mRoot f (mLog l.length)
def invRL (f : Int) (l : List Int) : Int := mInvR f (mLog l.length)
theorem VecOk.rt {f : Int} {l : List Int} (h : VecOk f l) : Rt f (rootL f l) (invRL f l) l.length := by
  obtain ⟨k, hk, hn, hl, hh⟩ := h.log
  have := rt_of hh
  unfold rootL invRL
  rw [hl, hn]
  rwa [Int.toNat_natCast] at this
def fwdL (f : Int) (l : List Int) : List Int := tab l.length fun i => RS (ftF (rootL f l) l.length (lf l) i) (P f)
def bwdL (f : Int) (l : List Int) : List Int := tab l.length fun i => RS (ftF (invRL f l) l.length (lf l) i * mPower f l.length (-1)) (P f)
def ptwL (f : Int) (a b : List Int) : List Int := tab a.length fun i => RS (lf a i * lf b i) (P f)
def cycL (f : Int) (a b : List Int) : List Int := tab a.length fun i => RS (cycF a.length (lf a) (lf b) i) (P f)
def twiL (f : Int) (a b : List Int) : List Int := tab a.length fun i => RS (twiF a.length (lf a) (lf b) i) (P f)
def corF (n : Nat) (A B : Nat → Int) (i : Nat) : Int := sumN (fun j => A j * B ((j + i) % n)) n
def corL (f : Int) (a b : List Int) : List Int := tab a.length fun i => RS (corF a.length (lf a) (lf b) i) (P f)
def enF (n : Nat) (A : Nat → Int) : Int := sumN (fun i => A i * A ((n - i) % n)) n
/-- By how much a rotation by r turns a vector of n numbers. -/
def turnN (n : Nat) (r : Int) : Nat := (r % n).toNat
def rotL (l : List Int) (r : Int) : List Int := tab l.length (rotF l.length (turnN l.length r) (lf l))
/-- One level, at place t; d is n / (2 h). -/
def stgF (f w : Int) (h d : Nat) (V : Nat → Int) (t : Nat) : Int :=
  if t % (2 * h) < h then RS (V t + RS (V (t + h) * w ^ (t % (2 * h) * d)) (P f)) (P f) else RS (V (t - h) - RS (V t * w ^ ((t % (2 * h) - h) * d)) (P f)) (P f)
def stgL (f : Int) (l : List Int) (s : Nat) : List Int := tab l.length (stgF f (rootL f l) (2 ^ s) (l.length / (2 * 2 ^ s)) (lf l))
def okStage (f : Int) (l : List Int) (s : Int) : Prop := VecOk f l ∧ 0 ≤ s ∧ s < mLog l.length
open Classical in
noncomputable def mForward (f : Int) (l : List Int) : List Int := if VecOk f l then fwdL f l else []
open Classical in
noncomputable def mBackward (f : Int) (l : List Int) : List Int := if VecOk f l then bwdL f l else []
open Classical in
noncomputable def mPointwise (f : Int) (a b : List Int) : List Int := if TwoOk f a b then ptwL f a b else []
open Classical in
noncomputable def mCyclic (f : Int) (a b : List Int) : List Int := if TwoOk f a b then cycL f a b else []
open Classical in
noncomputable def mTwisted (f : Int) (a b : List Int) : List Int := if TwoOk f a b then twiL f a b else []
open Classical in
noncomputable def mCorrelate (f : Int) (a b : List Int) : List Int := if TwoOk f a b then corL f a b else []
open Classical in
noncomputable def mEnergy (f : Int) (l : List Int) : Int := if VecOk f l then RS (enF l.length (lf l)) (P f) else -1
open Classical in
noncomputable def mRotate (f : Int) (l : List Int) (r : Int) : List Int := if VecOk f l then rotL l r else []
open Classical in
noncomputable def mStage (f : Int) (l : List Int) (s : Int) : List Int := if okStage f l s then stgL f l s.toNat else []
theorem len_mForward (f : Int) (l : List Int) (n : l.length ≤ 1048576) : (mForward f l).length ≤ 1048576 := by
  unfold mForward; split
  · unfold fwdL; rw [tab_len]; exact n
  · exact Nat.zero_le _
theorem len_mBackward (f : Int) (l : List Int) (n : l.length ≤ 1048576) : (mBackward f l).length ≤ 1048576 := by
  unfold mBackward; split
  · unfold bwdL; rw [tab_len]; exact n
  · exact Nat.zero_le _
theorem len_mPointwise (f : Int) (a b : List Int) (n : a.length ≤ 1048576) (_m : b.length ≤ 1048576) : (mPointwise f a b).length ≤ 1048576 := by
  unfold mPointwise; split
  · unfold ptwL; rw [tab_len]; exact n
  · exact Nat.zero_le _
theorem len_mCyclic (f : Int) (a b : List Int) (n : a.length ≤ 1048576) (_m : b.length ≤ 1048576) : (mCyclic f a b).length ≤ 1048576 := by
  unfold mCyclic; split
  · unfold cycL; rw [tab_len]; exact n
  · exact Nat.zero_le _
theorem len_mTwisted (f : Int) (a b : List Int) (n : a.length ≤ 1048576) (_m : b.length ≤ 1048576) : (mTwisted f a b).length ≤ 1048576 := by
  unfold mTwisted; split
  · unfold twiL; rw [tab_len]; exact n
  · exact Nat.zero_le _
theorem len_mCorrelate (f : Int) (a b : List Int) (n : a.length ≤ 1048576) (_m : b.length ≤ 1048576) : (mCorrelate f a b).length ≤ 1048576 := by
  unfold mCorrelate; split
  · unfold corL; rw [tab_len]; exact n
  · exact Nat.zero_le _
theorem len_mRotate (f : Int) (l : List Int) (r : Int) (n : l.length ≤ 1048576) : (mRotate f l r).length ≤ 1048576 := by
  unfold mRotate; split
  · unfold rotL; rw [tab_len]; exact n
  · exact Nat.zero_le _
theorem len_mStage (f : Int) (l : List Int) (s : Int) (n : l.length ≤ 1048576) : (mStage f l s).length ≤ 1048576 := by
  unfold mStage; split
  · unfold stgL; rw [tab_len]; exact n
  · exact Nat.zero_le _
/-- A list of the same length whose numbers are reduced is a vector. -/
theorem VecOk.tab {f : Int} {l : List Int} (h : VecOk f l) {n : Nat} (hn : n = l.length) (F : Nat → Int) (hF : ∀ j, j < n → 0 ≤ F j ∧ F j < P f) : VecOk f (tab n F) := by
  subst hn
  refine ⟨by rw [tab_len]; exact h.1, fun j hj => ?_⟩
  rw [tab_len] at hj
  rw [lf_tab, if_pos hj]
  exact hF j hj
theorem VecOk.fwd {f : Int} {l : List Int} (h : VecOk f l) : VecOk f (fwdL f l) := h.tab rfl _ fun _ _ => RS_bd (P_pos h.f08.1 h.f08.2)
theorem fwdL_len (f : Int) (l : List Int) : (fwdL f l).length = l.length := tab_len _ _
theorem bwdL_len (f : Int) (l : List Int) : (bwdL f l).length = l.length := tab_len _ _
theorem rootL_len {f : Int} {a b : List Int} (h : a.length = b.length) : rootL f a = rootL f b := by unfold rootL; rw [h]
theorem invRL_len {f : Int} {a b : List Int} (h : a.length = b.length) : invRL f a = invRL f b := by unfold invRL; rw [h]
theorem lf_fwdL {f : Int} {l : List Int} {i : Nat} (h : i < l.length) : lf (fwdL f l) i = ftF (rootL f l) l.length (lf l) i % P f := by
  unfold fwdL; rw [lf_tab, if_pos h]; rfl
theorem lf_bwdL {f : Int} {l : List Int} {i : Nat} (h : i < l.length) : lf (bwdL f l) i = (ftF (invRL f l) l.length (lf l) i * mPower f l.length (-1)) % P f := by
  unfold bwdL; rw [lf_tab, if_pos h]; rfl
/-- n has an inverse. -/
theorem VecOk.inv_n {f : Int} {l : List Int} (h : VecOk f l) : ((l.length : Int) * mPower f l.length (-1)) % P f = 1 % P f := by
  have h08 := h.f08
  have hp := P_bd h08.1 h08.2
  obtain ⟨k, hk, hn, hl, hh⟩ := h.log
  have hle := two_le hh
  have hpos := h.pos
  have e : two (k : Int) = (l.length : Int) := by unfold two; rw [hn, Int.toNat_natCast, Int.natCast_pow]; rfl
  have hs : RS (l.length : Int) (P f) = l.length := RS_self (by omega) (by omega)
  have := (inv_one h08.1 h08.2 (z := (l.length : Int)) (by rw [hs]; omega)).1
  rw [hs, Int.mul_comm] at this
  rw [one_p h08.1 h08.2]
  exact this
/-- What FnForwardBack asks. -/
theorem back_fwd {f : Int} {l : List Int} (h : VecOk f l) : mBackward f (mForward f l) = l := by
  unfold mForward
  rw [if_pos h]
  unfold mBackward
  rw [if_pos h.fwd]
  refine list_ext (by rw [bwdL_len, fwdL_len]) fun i hi => ?_
  rw [bwdL_len, fwdL_len] at hi
  have hl := h.lt i
  rw [lf_bwdL (by rw [fwdL_len]; exact hi), fwdL_len, invRL_len (fwdL_len f l)]
  have e1 : ftF (invRL f l) l.length (lf (fwdL f l)) i % P f = (lf l i * l.length) % P f := by
    rw [ft_mod (B := ftF (rootL f l) l.length (lf l)) (fun j hj => by rw [lf_fwdL hj, Int.emod_emod_of_dvd _ (Int.dvd_refl _)]), ft_back h.rt (lf l) hi]
  have e2 := emod_mul_congr e1 (show mPower f (l.length : Int) (-1) % P f = mPower f l.length (-1) % P f from rfl)
  rw [e2, Int.mul_assoc]
  have e3 := emod_mul_congr (show lf l i % P f = lf l i % P f from rfl) h.inv_n
  rw [e3, Int.mul_one, Int.emod_eq_of_lt hl.1 hl.2]
/-- What FnConvolution asks. -/
theorem fwd_cyc {f : Int} {a b : List Int} (h : TwoOk f a b) : mForward f (mCyclic f a b) = mPointwise f (mForward f a) (mForward f b) ∧ (mForward f (mCyclic f a b)).length = a.length ∧ mCyclic f a b = cycL f a b ∧ mForward f a = fwdL f a ∧ mForward f b = fwdL f b := by
  obtain ⟨hab, ha, hb⟩ := h
  have hc : VecOk f (cycL f a b) := ha.tab rfl _ fun _ _ => RS_bd (P_pos ha.f08.1 ha.f08.2)
  have hcl : (cycL f a b).length = a.length := tab_len _ _
  have e0 : mCyclic f a b = cycL f a b := by unfold mCyclic; rw [if_pos ⟨hab, ha, hb⟩]
  have e1 : mForward f (mCyclic f a b) = fwdL f (cycL f a b) := by rw [e0]; unfold mForward; rw [if_pos hc]
  have e2 : mForward f a = fwdL f a := by unfold mForward; rw [if_pos ha]
  have e3 : mForward f b = fwdL f b := by unfold mForward; rw [if_pos hb]
  refine ⟨?_, by rw [e1, fwdL_len, hcl], e0, e2, e3⟩
  rw [e1, e2, e3]
  unfold mPointwise
  rw [if_pos ⟨by rw [fwdL_len, fwdL_len, hab], ha.fwd, hb.fwd⟩]
  refine list_ext (by unfold ptwL; rw [fwdL_len, tab_len, fwdL_len, hcl]) fun i hi => ?_
  rw [fwdL_len, hcl] at hi
  rw [lf_fwdL (by rw [hcl]; exact hi), hcl, rootL_len hcl]
  unfold ptwL
  rw [lf_tab, fwdL_len, if_pos hi, lf_fwdL hi, lf_fwdL (by rw [← hab]; exact hi), rootL_len hab.symm, ← hab]
  unfold RS
  rw [← Int.mul_emod, ← ft_cyc ha.rt (lf a) (lf b) i]
  exact ft_mod (fun j hj => by
    unfold cycL
    rw [lf_tab, if_pos hj]
    unfold RS
    rw [Int.emod_emod_of_dvd _ (Int.dvd_refl _)]) i
/-- What FnRotate asks. -/
theorem turn_lt {n : Nat} (h : 0 < n) (r : Int) : turnN n r < n := by
  have := Int.emod_lt_of_pos r (show (0 : Int) < n by omega)
  have := Int.emod_nonneg r (show (n : Int) ≠ 0 by omega)
  unfold turnN
  omega
end Go.Proofs.YtnipffmookkkdaaDoor
namespace Go.Proofs.YtnipffmookkkdaaDoor
open Go.RowKit
def NilP (w : World) (e : Ending) (w' : World) : Prop := e = .returned (.slice none 0 0) ∧ Below w.heap.size w w'
theorem NilP.list {w w' : World} {l : List Int} {e : Ending} (hl : l = []) (h : NilP w e w') : ListL w l e w' := by
  subst hl
  obtain ⟨rfl, hb⟩ := h
  exact ⟨none, 0, rfl, .inl rfl, hb⟩
theorem NilP.own {w w' : World} {l : List Int} {e : Ending} (hl : l = []) (h : NilP w e w') : OwnL w l e w' := by
  subst hl
  obtain ⟨rfl, hb⟩ := h
  exact ⟨none, 0, rfl, OwnA.nil rfl, hb⟩
end Go.Proofs.YtnipffmookkkdaaDoor
namespace Go.Proofs.YtnipffmookkkdaaDoor
open Go.RowKit
theorem inverse_c (n a : Int) (w : World) (ht : Tab w) (h0 : 0 ≤ n) (h8 : n ≤ 8) (ha : 0 ≤ a) (ha2 : a < P n) : Calls Tryd.prog 70 #[.int .i64 n, .int .i64 a] w fun e w' => e = .returned (.int .i64 (PW (P n) a (P n - 2))) ∧ w = w' := by
  have hp := P_bd h0 h8
  go_enter Tryd.func70, Tryd.ntmps70
  go_wp2_with fail
  refine (prime_c n w ht h0 h8).mono ?_
  rintro e w' ⟨rfl, rfl⟩
  go_wp2_with fail
  refine (power_c n a (P n - 2) w ht h0 h8 ha ha2 (by omega) (by omega)).mono ?_
  rintro e w' ⟨rfl, rfl⟩
  go_wp2
  go_ret
  exact ⟨rfl, rfl⟩
theorem inverse_inv {f x : Int} (h0 : 0 ≤ f) (h8 : f ≤ 8) (x0 : 0 < x) (x1 : x < P f) : PW (P f) x (P f - 2) = invF f x := by
  have hp := P_bd h0 h8
  have b := PW_bd (m := P f) (x := x) (e := P f - 2) (by omega)
  refine inv_unique h0 h8 b.1 b.2 ?_ ?_
  · rw [RS_self (by omega) x1]; omega
  · rw [RS_self (by omega) x1]; exact back_first h0 h8 x0 x1
def upd (Q : Nat → Int) (s : Nat) (m : Int) : Nat → Int := fun j => if j = s then m else Q j
end Go.Proofs.YtnipffmookkkdaaDoor
namespace Go.Proofs.YtnipffmookkkdaaDoor
open Go.RowKit
/-- The row within a round: the first j of row i done. -/
def prw (f : Int) (A B : Nat → Int) (i j : Nat) : Nat → Int := fun k => if i ≤ k ∧ k < i + j then RS (cpar A B k (i + 1)) (P f) else RS (cpar A B k i) (P f)
theorem prw_zero (f : Int) (A B : Nat → Int) (i k : Nat) : RS (cpar A B k i) (P f) = prw f A B i 0 k := by unfold prw; rw [if_neg (by omega)]
theorem prw_at (f : Int) (A B : Nat → Int) (i j : Nat) : prw f A B i j (i + j) = RS (cpar A B (i + j) i) (P f) := by unfold prw; rw [if_neg (by omega)]
theorem prw_new (f : Int) (A B : Nat → Int) (i j : Nat) : RS (RS (cpar A B (i + j) i) (P f) + A i * B j) (P f) = RS (cpar A B (i + j) (i + 1)) (P f) := by
  rw [cpar_succ, if_pos (by omega), Nat.add_sub_cancel_left]
  unfold RS
  exact emod_add_congr (by simp) rfl
theorem prw_succ (f : Int) (A B : Nat → Int) (i j k : Nat) : (if k = i + j then RS (cpar A B (i + j) (i + 1)) (P f) else prw f A B i j k) = prw f A B i (j + 1) k := by
  unfold prw
  by_cases h : k = i + j
  · subst h
    rw [if_pos rfl, if_pos (by omega)]
  · rw [if_neg h]
    by_cases h1 : i ≤ k ∧ k < i + j
    · rw [if_pos h1, if_pos (by omega)]
    · rw [if_neg h1, if_neg (by omega)]
theorem prw_end {f : Int} {A B : Nat → Int} {m : Nat} (hB : ∀ j, m ≤ j → B j = 0) (i k : Nat) : prw f A B i m k = RS (cpar A B k (i + 1)) (P f) := by
  unfold prw
  split
  · rfl
  · rename_i h
    rw [cpar_succ]
    by_cases h1 : i ≤ k
    · rw [if_pos h1, hB (k - i) (by omega), Int.mul_zero, Int.add_zero]
    · rw [if_neg h1, Int.add_zero]
theorem prw_set {f : Int} {wr : World} {g N i j : Nat} {A B : Nat → Int} (h : Own wr g N (prw f A B i j)) : Own (wr.setCell ⟨g, i + j, none⟩ (.int .i64 (RS (cpar A B (i + j) (i + 1)) (P f)))) g N (prw f A B i (j + 1)) := by
  refine (World.rowIs.set h (i + j) (.int .i64 (RS (cpar A B (i + j) (i + 1)) (P f)))).congr fun k _ => ?_
  rw [← prw_succ]
  split <;> rfl
set_option maxRecDepth 100000 in
set_option maxHeartbeats 3200000 in
theorem product_some (f : Int) (b off b2 off2 n m cap cap2 N : Nat) (A B : Nat → Int) (w : World) (ht : Tab w) (h0 : 0 ≤ f) (h8 : f ≤ 8) (hn : n ≤ 4096) (hm : m ≤ 4096) (n0 : 0 < n) (m0 : 0 < m) (hN : n + m = N + 1)
    (hA : ∀ j, 0 ≤ A j ∧ A j < P f) (hB : ∀ j, 0 ≤ B j ∧ B j < P f) (hB2 : ∀ j, m ≤ j → B j = 0) (hlt : b < w.heap.size) (hlt2 : b2 < w.heap.size)
    (hc : ∀ j, j < n → w.cell? ⟨b, off + j, none⟩ = some (.int .i64 (A j))) (hc2 : ∀ j, j < m → w.cell? ⟨b2, off2 + j, none⟩ = some (.int .i64 (B j))) :
    Calls Tryd.prog 72 #[.int .i64 f, .slice (some ⟨b, off, none⟩) n cap, .slice (some ⟨b2, off2, none⟩) m cap2] w fun e w' => e = .returned (.slice (some ⟨w.heap.size, 0, none⟩) N N) ∧ Own w' w.heap.size N (fun k => RS (cpar A B k n) (P f)) ∧ Below w.heap.size w w' := by
  have HC := Lib.hid hc
  have HC2 := Lib.hid hc2
  have HA := Lib.hid hA
  have HB := Lib.hid hB
  have HB2 := Lib.hid hB2
  clear hc hc2 hA hB hB2
  have hp := P_bd h0 h8
  have z1 : ((n : Int) == 0) = false := by simp; omega
  have z2 : ((m : Int) == 0) = false := by simp; omega
  have hmk : ∀ w, (Instr.makeSlice 22 (.int .i64 ((n : Int) + m - 1)) (.int .i64 ((n : Int) + m - 1))).run Tryd.prog w = .ok (.slice (some ⟨w.heap.size, 0, none⟩) N N) (w.alloc (.cells (madeCells #[.int .i64 0] N) 3)) := fun w => by
    rw [show ((n : Int) + m - 1) = (N : Int) by omega]; exact made_n N (by omega) w
  go_enter Tryd.func72, Tryd.ntmps72
  go_wp2_with fail
  clear hmk
  go_loopw [8, 9, 10, 11, 30] (fun _ _ _ _ i wr => ∃ k : Nat, i = .int .i64 k ∧ k ≤ n ∧ Own wr w.heap.size N (fun j => RS (cpar A B j k) (P f)) ∧ Below w.heap.size w wr) (fun _ _ _ _ i _ => n - (intOf i).toNat)
  case atStart =>
    refine ⟨0, rfl, Nat.zero_le _, ?_, (Below.refl _ _).alloc (Nat.le_refl _) _⟩
    exact (World.rowIs_made w (.int .i64 0) N 3).congr fun j _ => by simp [cpar, sumN, RS]
  case round =>
    obtain ⟨i, rfl, hi, ho, hb⟩ := hrel
    by_cases h1 : i < n
    · have d1 : wr.cell? ⟨b, off + i, none⟩ = some (.int .i64 (A i)) := (hb.cell (p := ⟨b, off + i, none⟩) hlt).trans (HC.out i h1)
      have bA := HA.out i
      have HO := Lib.hid (own_congr ho rfl (fun k _ => prw_zero f A B i k))
      clear ho
      go_wp2_with fail
      go_loopw [10, 11, 37] (fun _ _ i2 wr => ∃ j : Nat, i2 = .int .i64 j ∧ j ≤ m ∧ Own wr w.heap.size N (prw f A B i j) ∧ Below w.heap.size w wr) (fun _ _ i2 _ => m - (intOf i2).toNat)
      case atStart => exact ⟨0, rfl, Nat.zero_le _, HO.out, hb⟩
      case round =>
        clear HO d1 hb
        obtain ⟨j, rfl, hj, ho, hb⟩ := hrel
        by_cases h2 : j < m
        · have d2 : wr.cell? ⟨b2, off2 + j, none⟩ = some (.int .i64 (B j)) := (hb.cell (p := ⟨b2, off2 + j, none⟩) hlt2).trans (HC2.out j h2)
          have hij : i + j < N := by omega
          have c2 := World.rowIs.cell ho hij
          rw [prw_at] at c2
          have c3 := World.rowIs.frozen ho (i + j)
          have HT := Lib.hid (ht.below hb)
          have bB := HB.out j
          have pb := prod_bd h0 h8 bA.1 bA.2 bB.1 bB.2
          have pr := RS_bd (x := cpar A B (i + j) i) (m := P f) (by omega)
          have HS := Lib.hid (prw_set ho)
          have HE := Lib.hid (prw_new f A B i j)
          clear ho
          generalize RS (cpar A B (i + j) i) (P f) = X at *
          go_wp2_with fail
          refine (reduce_c f (X + A i * B j) wr HT.out h0 h8).mono ?_
          rintro e w' ⟨rfl, rfl⟩
          rw [HE.out]
          go_wp2
          go_roundw
          case rel => exact ⟨j + 1, by go_num, by omega, HS.out, hb.setCell (Nat.le_refl _) _⟩
          case measure => simp [intOf]; omega
        · have hd2 : decide (j < m) = false := by simpa using h2
          obtain rfl : j = m := by omega
          have HO := Lib.hid (own_congr ho rfl (fun k _ => prw_end HB2.out i k))
          clear ho
          go_wp2
          go_roundw
          case rel => exact ⟨i + 1, by go_num, by omega, HO.out, hb⟩
          case measure => simp [intOf]; omega
    · have hd : decide (i < n) = false := by simpa using h1
      obtain rfl : i = n := by omega
      have HO := Lib.hid ho
      clear ho
      go_wp2
      go_ret
      exact ⟨rfl, HO.out, hb⟩
end Go.Proofs.YtnipffmookkkdaaDoor
namespace Go.Proofs.YtnipffmookkkdaaDoor
open Go.RowKit
/-- A row with room: the first n cells are known. -/
def OwnV (w : World) (g n cap : Nat) (F : Nat → Int) : Prop := ∃ V, w.rowIs g 3 cap V ∧ n ≤ cap ∧ ∀ j, j < n → V j = .int .i64 (F j)
theorem OwnV.cell {w : World} {g n cap : Nat} {F : Nat → Int} (h : OwnV w g n cap F) {j : Nat} (hj : j < n) : w.cell? ⟨g, j, none⟩ = some (.int .i64 (F j)) := by
  obtain ⟨V, h1, h2, h3⟩ := h
  rw [← h3 j hj]
  exact World.rowIs.cell h1 (by omega)
theorem OwnV.frozen {w : World} {g n cap : Nat} {F : Nat → Int} (h : OwnV w g n cap F) (j : Nat) : w.frozen? ⟨g, j, none⟩ = false := by
  obtain ⟨V, h1, h2, h3⟩ := h
  exact World.rowIs.frozen h1 j
theorem OwnV.lt {w : World} {g n cap : Nat} {F : Nat → Int} (h : OwnV w g n cap F) : g < w.heap.size := by
  obtain ⟨V, h1, _⟩ := h
  exact World.rowIs.lt h1
theorem OwnV.set {w : World} {g n cap s : Nat} {F : Nat → Int} {x : Int} (h : OwnV w g n cap F) : OwnV (w.setCell ⟨g, s, none⟩ (.int .i64 x)) g n cap (upd F s x) := by
  obtain ⟨V, h1, h2, h3⟩ := h
  refine ⟨_, World.rowIs.set h1 s (.int .i64 x), h2, fun j hj => ?_⟩
  unfold upd
  by_cases e : j = s
  · simp [e]
  · simp [e, h3 j hj]
theorem OwnV.other {w : World} {g g2 n cap s : Nat} {F : Nat → Int} {v : Value} (h : OwnV w g n cap F) (hne : g ≠ g2) : OwnV (w.setCell ⟨g2, s, none⟩ v) g n cap F := by
  obtain ⟨V, h1, h2, h3⟩ := h
  exact ⟨V, World.rowIs.setOther h1 (a := ⟨g2, s, none⟩) hne v, h2, h3⟩
theorem OwnV.keep {w w' : World} {g n cap : Nat} {F : Nat → Int} (h : OwnV w g n cap F) (hb : Below w.heap.size w w') : OwnV w' g n cap F := by
  obtain ⟨V, h1, h2, h3⟩ := h
  exact ⟨V, World.rowIs.of_block h1 (hb.block g (World.rowIs.lt h1)), h2, h3⟩
theorem OwnV.congr {w : World} {g n cap : Nat} {F G : Nat → Int} (h : OwnV w g n cap F) (e : ∀ j, j < n → F j = G j) : OwnV w g n cap G := by
  obtain ⟨V, h1, h2, h3⟩ := h
  exact ⟨V, h1, h2, fun j hj => by rw [h3 j hj, e j hj]⟩
theorem OwnV.src {w : World} {g n cap : Nat} {F : Nat → Int} (h : OwnV w g n cap F) : Src w (some ⟨g, 0, none⟩) n F :=
  .inr ⟨g, 0, rfl, h.lt, fun j hj => by rw [Nat.zero_add]; exact h.cell hj⟩
theorem OwnV.of_owns {w : World} {base n : Nat} {v : Value} {F : Nat → Int} (h : w.ownsRow base 3 1 v n (xsF F n)) (hn : n ≠ 0) : ∃ g cap, v = .slice (some ⟨g, 0, none⟩) n cap ∧ base ≤ g ∧ OwnV w g n cap F := by
  obtain ⟨hl, h⟩ := h
  rcases h with ⟨h1, h2⟩ | ⟨g, cap, cur, h1, hg, hh, hc, hm, hs, ht⟩
  · exact absurd h2 hn
  · refine ⟨g, cap, h1, hg, fun j => (cur[j]?).getD .nilIface, ⟨cur, hh, by omega, fun j hj => ?_⟩, hc, fun j hj => ?_⟩
    · have : j < cur.size := by omega
      simp [this]
    · have hx : (xsF F n)[j]? = some (.int .i64 (F j)) := by simp [xsF, hj]
      rw [← ht, List.getElem?_take_of_lt (by omega)] at hx
      have : cur[j]? = some (.int .i64 (F j)) := by simpa using hx
      show (cur[j]?).getD .nilIface = _
      rw [this]; rfl
end Go.Proofs.YtnipffmookkkdaaDoor
namespace Go.Proofs.YtnipffmookkkdaaDoor
open Go.RowKit
def NilB (w : World) (e : Ending) (w' : World) : Prop := e = .returned (.tuple #[.slice none 0 0, .bool false]) ∧ Below w.heap.size w w'
theorem NilB.list {w w' : World} {l : List Int} {b : Bool} {e : Ending} (hl : l = []) (hb : b = false) (h : NilB w e w') : ListLB w l b e w' := by
  subst hl; subst hb
  obtain ⟨rfl, hb⟩ := h
  exact ⟨none, 0, rfl, .inl rfl, hb⟩
theorem NilB.own {w w' : World} {l : List Int} {b : Bool} {e : Ending} (hl : l = []) (hb : b = false) (h : NilB w e w') : OwnLB w l b e w' := by
  subst hl; subst hb
  obtain ⟨rfl, hb⟩ := h
  exact ⟨none, 0, rfl, OwnA.nil rfl, hb⟩
/-- Horner's sums. -/
def hz (f x : Int) (A : Nat → Int) (n : Nat) : Nat → Int
  | 0 => 0
  | t + 1 => RS (RS (hz f x A n t * x) (P f) + A (n - (t + 1))) (P f)
end Go.Proofs.YtnipffmookkkdaaDoor
namespace Go.Proofs.YtnipffmookkkdaaDoor
open Go.RowKit
/-- A list apart from the cursor. -/
def SrcO (g : Nat) (w : World) (a : Option Addr) (n : Nat) (F : Nat → Int) : Prop :=
  n = 0 ∨ ∃ b off, a = some ⟨b, off, none⟩ ∧ b ≠ g ∧ b < w.heap.size ∧ ∀ j, j < n → w.cell? ⟨b, off + j, none⟩ = some (.int .i64 (F j))
theorem SrcO.src {g : Nat} {w : World} {a : Option Addr} {n : Nat} {F : Nat → Int} (h : SrcO g w a n F) : Src w a n F := by
  refine h.imp id ?_
  rintro ⟨b, off, e, _, hlt, hc⟩
  exact ⟨b, off, e, hlt, hc⟩
theorem SrcO.grown {g : Nat} {w w' : World} {a : Option Addr} {n : Nat} {F : Nat → Int} (h : SrcO g w a n F) (hg : w.grownBy w' (some g)) : SrcO g w' a n F := by
  refine h.imp id ?_
  rintro ⟨b, off, e, hne, hlt, hc⟩
  exact ⟨b, off, e, hne, Nat.lt_of_lt_of_le hlt hg.size, fun j hj => hg.cell (hc j hj) (fun e => by injection e with e; exact hne e)⟩
theorem SrcO.of {B g : Nat} {w : World} {v : Value} {n : Nat} {F : Nat → Int} (h : w.ownsRow B 3 1 v n (xsF F n)) (hB : g < B) : ∃ a cap, v = .slice a n cap ∧ n ≤ cap ∧ SrcO g w a n F := by
  by_cases hn : n = 0
  · obtain ⟨a, cap, hv, hc, _⟩ := src_of_owns2 h
    exact ⟨a, cap, hv, hc, .inl hn⟩
  · obtain ⟨g2, cap, hv, hg, ho⟩ := OwnV.of_owns h hn
    have hcap : n ≤ cap := by obtain ⟨_, _, h, _⟩ := ho; exact h
    exact ⟨_, cap, hv, hcap, .inr ⟨g2, 0, rfl, by omega, ho.lt, fun j hj => by rw [Nat.zero_add]; exact ho.cell hj⟩⟩
theorem Cur.below {g : Nat} {w w' : World} (h : Cur g w) (hb : Below w.heap.size w w') : Cur g w' :=
  h.other (row := none) ⟨hb.os, hb.tape, hb.output, hb.size, fun i hi _ => hb.block i hi⟩ (fun _ h => by cases h)
/-- The drawn list, in a row of the draw's own. -/
def ZPol (g : Nat) (w : World) (n : Nat) (e : Ending) (w' : World) : Prop := ∃ (l : List Int) (a : Option Addr) (cap : Nat), e = .returned (.slice a l.length cap) ∧ l.length ≤ n ∧ l.length ≤ cap ∧ SrcO g w' a l.length (lf l) ∧ Cur g w' ∧ w.grownBy w' (some g)
theorem ZPol.of {g : Nat} {w w' : World} {v : Value} {n : Nat} {l : List Int} (h : w'.ownsRow w.heap.size 3 1 v l.length (xsF (lf l) l.length)) (hB : g < w.heap.size) (hl : l.length ≤ n) (hc : Cur g w') (hg : w.grownBy w' (some g)) : ZPol g w n (.returned v) w' := by
  obtain ⟨a, cap, rfl, hcap, hs⟩ := SrcO.of h hB
  exact ⟨l, a, cap, rfl, hl, hcap, hs, hc, hg⟩
theorem lf_tabF (n : Nat) (F : Nat → Int) : xsF (lf (tab n F)) n = xsF F n := xsF_congr fun j hj => by rw [lf_tab, if_pos hj]
end Go.Proofs.YtnipffmookkkdaaDoor
namespace Go.Proofs.YtnipffmookkkdaaDoor
open Go.RowKit
theorem vok_iff {f : Int} {l : List Int} : mVectorOk f l = true ↔ VecOk f l := by unfold mVectorOk; simp
theorem vok_not {f : Int} {l : List Int} : mVectorOk f l = false ↔ ¬ VecOk f l := by unfold mVectorOk; simp
theorem grown_none {w w' : World} (hb : Below w.heap.size w w') : w.grownBy w' none := ⟨hb.os, hb.tape, hb.output, hb.size, fun i hi _ => hb.block i hi⟩
set_option maxHeartbeats 800000 in
theorem sVectorOk (f : Int) (a : Option Addr) (l : List Int) (cap : Nat) (w : World) (hn : l.length ≤ 1048576) (hs : Src w a l.length (lf l)) : Calls Tryd.prog 13 #[.int .i64 f, .slice a l.length cap] w (SameB w (mVectorOk f l)) := by
  have HL := Lib.hid (show mVectorOk f l = decide ((0 ≤ mLog l.length ∧ mLog l.length ≤ T f) ∧ ∀ j, j < l.length → 0 ≤ lf l j ∧ lf l j < P f) by unfold mVectorOk VecOk; congr)
  by_cases h0 : 0 ≤ mLog l.length
  · by_cases h1 : mLog l.length ≤ T f
    · have h08 : 0 ≤ f ∧ f ≤ 8 := by
        have := (hasK_iff f (mLog l.length)).2 ⟨h0, h1⟩
        exact this.1
      have HE := Lib.hid (elements_c f a l.length cap (lf l) w h08.1 h08.2 hn hs)
      have d0 : decide (0 ≤ mLog l.length) = true := decide_eq_true h0
      have d1 : decide (mLog l.length ≤ T f) = true := decide_eq_true h1
      have HB : Hid (∀ B, elemsB f l.length (lf l) B → mVectorOk f l = B) := Lib.hid fun B hB => by
        cases B
        · obtain ⟨k, hk, hbad⟩ := hB.2 rfl
          exact vok_not.2 fun h => by have := h.2 k hk; omega
        · exact vok_iff.2 ⟨⟨h0, h1⟩, hB.1 rfl⟩
      clear hs HL
      go_enter Tryd.func13, Tryd.ntmps13
      go_wp2_with fail
      refine (sLogOf l.length w).mono ?_
      rintro e w' ⟨rfl, rfl⟩
      go_wp2_with fail
      refine (sTwoPower f w).mono ?_
      rintro e w' ⟨rfl, rfl⟩
      go_wp2_with fail
      refine HE.out.mono ?_
      rintro e w' ⟨B, hB, rfl, rfl⟩
      have HB2 := Lib.hid (HB.out B hB)
      clear hB HE HB
      go_wp2
      go_ret
      exact ⟨by rw [HB2.out]; rfl, rfl⟩
    · have d0 : decide (0 ≤ mLog l.length) = true := decide_eq_true h0
      have d1 : decide (mLog l.length ≤ T f) = false := decide_eq_false h1
      have HB := Lib.hid (vok_not.2 fun h : VecOk f l => h1 h.1.2)
      clear hs HL
      go_enter Tryd.func13, Tryd.ntmps13
      go_wp2_with fail
      refine (sLogOf l.length w).mono ?_
      rintro e w' ⟨rfl, rfl⟩
      go_wp2_with fail
      refine (sTwoPower f w).mono ?_
      rintro e w' ⟨rfl, rfl⟩
      go_wp2
      go_ret
      exact ⟨by rw [HB.out]; rfl, rfl⟩
  · have d0 : decide (0 ≤ mLog l.length) = false := decide_eq_false h0
    have HB := Lib.hid (vok_not.2 fun h : VecOk f l => h0 h.1.1)
    clear hs HL
    go_enter Tryd.func13, Tryd.ntmps13
    go_wp2_with fail
    refine (sLogOf l.length w).mono ?_
    rintro e w' ⟨rfl, rfl⟩
    go_wp2
    go_ret
    exact ⟨by rw [HB.out]; rfl, rfl⟩
open Classical in
noncomputable def mTwo (f : Int) (a b : List Int) : Bool := decide (TwoOk f a b)
theorem two_iff {f : Int} {a b : List Int} : mTwo f a b = true ↔ TwoOk f a b := by unfold mTwo; simp
theorem two_not {f : Int} {a b : List Int} : mTwo f a b = false ↔ ¬ TwoOk f a b := by unfold mTwo; simp
set_option maxHeartbeats 800000 in
theorem sTwo (f : Int) (a a2 : Option Addr) (l m : List Int) (cap cap2 : Nat) (w : World) (hn : l.length ≤ 1048576) (hn2 : m.length ≤ 1048576) (hs : Src w a l.length (lf l)) (hs2 : Src w a2 m.length (lf m)) : Calls Tryd.prog 49 #[.int .i64 f, .slice a l.length cap, .slice a2 m.length cap2] w (SameB w (mTwo f l m)) := by
  by_cases he : l.length = m.length
  · have hd : ((l.length : Int) == m.length) = true := by rw [beq_iff_eq]; omega
    have R1 := sVectorOk f a l cap w hn hs
    have R2 := sVectorOk f a2 m cap2 w hn2 hs2
    by_cases h1 : VecOk f l
    · rw [vok_iff.2 h1] at R1
      have HM : Hid (mTwo f l m = mVectorOk f m) := Lib.hid (by
        by_cases h2 : VecOk f m
        · rw [vok_iff.2 h2, two_iff.2 ⟨he, h1, h2⟩]
        · rw [vok_not.2 h2, two_not.2 fun h => h2 h.2.2])
      have HR1 := Lib.hid R1
      have HR2 := Lib.hid R2
      clear R1 R2 hs hs2 h1 he
      go_enter Tryd.func49, Tryd.ntmps49
      go_wp2_with fail
      refine HR1.out.mono ?_
      rintro e w' ⟨rfl, rfl⟩
      go_wp2_with fail
      refine HR2.out.mono ?_
      rintro e w' ⟨rfl, rfl⟩
      go_wp2
      go_ret
      exact ⟨by rw [HM.out]; rfl, rfl⟩
    · rw [vok_not.2 h1] at R1
      have HM := Lib.hid (two_not.2 fun h : TwoOk f l m => h1 h.2.1)
      have HR1 := Lib.hid R1
      clear R1 R2 hs hs2 h1 he
      go_enter Tryd.func49, Tryd.ntmps49
      go_wp2_with fail
      refine HR1.out.mono ?_
      rintro e w' ⟨rfl, rfl⟩
      go_wp2
      go_ret
      exact ⟨by rw [HM.out]; rfl, rfl⟩
  · have hd : ((l.length : Int) == m.length) = false := by rw [beq_eq_false_iff_ne]; omega
    have HM := Lib.hid (two_not.2 fun h : TwoOk f l m => he h.1)
    clear hs hs2 he
    go_enter Tryd.func49, Tryd.ntmps49
    go_wp2
    go_ret
    exact ⟨by rw [HM.out]; rfl, rfl⟩
theorem sum_step (S x p : Int) : RS (RS S p + x) p = RS (S + x) p := by
  unfold RS
  exact emod_add_congr (Int.emod_emod_of_dvd _ (Int.dvd_refl _)) rfl
/-- The powers of w, reduced. -/
def pwF (f w : Int) (t : Nat) : Int := w ^ t % P f
theorem pw_bd {f w : Int} (hp : 0 < P f) (t : Nat) : 0 ≤ pwF f w t ∧ pwF f w t < P f := ⟨Int.emod_nonneg _ (by omega), Int.emod_lt_of_pos _ hp⟩
theorem pw_step (f w : Int) (t : Nat) : RS (pwF f w t * w) (P f) = pwF f w (t + 1) := by
  unfold RS pwF
  rw [Int.pow_succ, Int.mul_emod, Int.emod_emod_of_dvd _ (Int.dvd_refl _), ← Int.mul_emod]
theorem pw_zero {f w : Int} (h0 : 0 ≤ f) (h8 : f ≤ 8) : pwF f w 0 = 1 := by
  unfold pwF
  rw [Int.pow_zero, one_p h0 h8]
/-- The sum so far, with the powers taken at the exponents modulo n. -/
theorem ft_step {f w v : Int} {n : Nat} (h : Rt f w v n) (A : Nat → Int) (i j : Nat) : RS (RS (sumN (fun j => A j * w ^ (i * j)) j) (P f) + A j * pwF f w (i * j % n)) (P f) = RS (sumN (fun j => A j * w ^ (i * j)) (j + 1)) (P f) := by
  rw [sum_step]
  show RS _ _ = RS (sumN (fun j => A j * w ^ (i * j)) j + A j * w ^ (i * j)) (P f)
  unfold RS pwF
  refine emod_add_congr rfl (emod_mul_congr rfl ?_)
  rw [Int.emod_emod_of_dvd _ (Int.dvd_refl _)]
  exact h.exp (Nat.mod_mod _ _)
set_option maxRecDepth 100000 in
set_option maxHeartbeats 3200000 in
theorem sSum (f x v : Int) (b off n cap : Nat) (A : Nat → Int) (w : World) (hr : Rt f x v n) (x0 : 0 ≤ x) (x1 : x < P f) (hn : n ≤ 512) (hA : ∀ j, 0 ≤ A j ∧ A j < P f) (hlt : b < w.heap.size)
    (hc : ∀ j, j < n → w.cell? ⟨b, off + j, none⟩ = some (.int .i64 (A j))) :
    Calls Tryd.prog 43 #[.int .i64 f, .slice (some ⟨b, off, none⟩) n cap, .int .i64 x] w (OwnsL w (tab n fun i => RS (ftF x n A i) (P f))) := by
  have HC := Lib.hid hc
  have HA := Lib.hid hA
  have HR := Lib.hid hr
  have h0 := hr.h0
  have h8 := hr.h8
  have n0 := hr.n0
  have hp := P_bd h0 h8
  have q7 : ¬ P f = 0 := by omega
  have HPZ := Lib.hid (pw_zero (w := x) h0 h8)
  clear hc hA hr
  obtain ⟨i0, hi, hz0, hz1, hz2⟩ := info_parts info3
  have HI := Lib.hid hi
  have HZ0 := Lib.hid hz0
  have HZ1 := Lib.hid hz1
  have HZ2 := Lib.hid hz2
  clear hi hz0 hz1 hz2
  go_enter Tryd.func43, Tryd.ntmps43
  go_wp2_with fail
  refine (sModulus f w).mono ?_
  rintro e w' ⟨rfl, rfl⟩
  go_wp2_with fail
  go_loopw [9, 10, 11] (fun v y i wr => ∃ k : Nat, i = .int .i64 k ∧ k ≤ n ∧ y = .int .i64 (pwF f x k) ∧ wr.ownsRow w.heap.size 3 1 v k (xsF (pwF f x) k) ∧ Below w.heap.size w wr) (fun _ _ i _ => n - (intOf i).toNat)
  case atStart => exact ⟨0, rfl, Nat.zero_le _, by rw [HPZ.out], own_empty w _, (Below.refl _ _).alloc (Nat.le_refl _) _⟩
  case round =>
    obtain ⟨k, rfl, hk, rfl, hown, hnx⟩ := hrel
    have hs := hnx.size
    have pb := pw_bd (f := f) (w := x) (by omega) k
    by_cases h1 : k < n
    · have hd1 : decide ((k : Int) < n) = true := decide_eq_true (by omega)
      have HST := Lib.hid (pw_step f x k)
      have pbm := prod_bd h0 h8 pb.1 pb.2 x0 x1
      go_wp2_with (at_builtin; refine wpList_append_own _ rfl _ _ 22 rfl w.heap.size 3 i0 (.int .i64 0) 1 8 Tryd.underlying22 HI.out HZ0.out HZ1.out HZ2.out rfl (by decide) _ _ _ rfl (hown.alloc _) ⟨wr.heap.size, 0, none⟩ 1 1 [.int .i64 (pwF f x k)] rfl rfl ?c1 ?c2 ?c3 ?c4 ?c5 ?_)
      case c1 => exact cell_one_new _ _ _
      case c2 => intro u hu; simp at hu; subst hu; rfl
      case c3 => unfold maxLen; omega
      case c4 => omega
      case c5 => simp; omega
      intro v' w1 hown' hgrow _
      have hbel : Below w.heap.size w w1 := (hnx.alloc hs _).grown hgrow (by simp; omega) (own_ge hown)
      rw [xsF_succ] at hown'
      clear hgrow hown
      generalize pwF f x k = X at *
      go_wp2
      go_roundw
      case rel => exact ⟨k + 1, by go_num, by omega, vint (by have := HST.out; unfold RS at this; exact this), hown', hbel⟩
      case measure => simp [intOf]; omega
    · have hd1 : decide ((k : Int) < n) = false := decide_eq_false (by omega)
      obtain rfl : k = n := by omega
      obtain ⟨W0, rfl⟩ : ∃ W0, W0 = wr := ⟨wr, rfl⟩
      obtain ⟨ap, capp, rfl, _, hsp⟩ := src_of_owns2 hown
      rcases hsp with hz | ⟨bp, offp, rfl, hltp, hcp⟩
      · omega
      have HCP := Lib.hid hcp
      have HPB : Hid (∀ t, 0 ≤ pwF f x t ∧ pwF f x t < P f) := Lib.hid fun t => pw_bd (by omega) t
      clear hown hcp HPZ pb
      go_wp2_with fail
      go_loopw [12, 13, 14, 15] (fun v i _ _ wr => ∃ k2 : Nat, i = .int .i64 k2 ∧ k2 ≤ k ∧ wr.ownsRow W0.heap.size 3 1 v k2 (xsF (fun i => RS (ftF x k A i) (P f)) k2) ∧ Below W0.heap.size W0 wr) (fun _ i _ _ _ => k - (intOf i).toNat)
      case atStart => exact ⟨0, rfl, Nat.zero_le _, own_empty W0 _, (Below.refl _ _).alloc (Nat.le_refl _) _⟩
      case round =>
        obtain ⟨i, rfl, hik, hown, hb2⟩ := hrel
        have hs2 := hb2.size
        by_cases h2 : i < k
        · have hd2 : decide ((i : Int) < k) = true := decide_eq_true (by omega)
          have HOWN := Lib.hid hown
          clear hown
          go_wp2_with fail
          go_loopw [14, 15] (fun s j W2 => ∃ m : Nat, j = .int .i64 m ∧ m ≤ k ∧ s = .int .i64 (RS (sumN (fun j => A j * x ^ (i * j)) m) (P f)) ∧ ∃ q, W2 = wr.drewN q) (fun _ j _ => k - (intOf j).toNat)
          case atStart => exact ⟨0, rfl, Nat.zero_le _, by simp [sumN, RS], 0, rfl⟩
          case round =>
            obtain ⟨m, rfl, hm, rfl, q, rfl⟩ := hrel
            by_cases h3 : m < k
            · have hd3 : decide ((m : Int) < k) = true := decide_eq_true (by omega)
              have hbw := below_up hnx hb2 hnx.size
              have d1 : wr.cell? ⟨b, off + m, none⟩ = some (.int .i64 (A m)) := (hbw.cell (p := ⟨b, off + m, none⟩) hlt).trans (HC.out m h3)
              have hlk : i * m % k < k := Nat.mod_lt _ (by omega)
              have d2 : wr.cell? ⟨bp, offp + i * m % k, none⟩ = some (.int .i64 (pwF f x (i * m % k))) := (hb2.cell (p := ⟨bp, offp + i * m % k, none⟩) hltp).trans (HCP.out _ hlk)
              have bA := HA.out m
              have bB := HPB.out (i * m % k)
              have pb := prod_bd h0 h8 bA.1 bA.2 bB.1 bB.2
              have pr := RS_bd (x := sumN (fun j => A j * x ^ (i * j)) m) (m := P f) (by omega)
              have HS := Lib.hid (ft_step HR.out A i m)
              have im : (i : Int) * m = ((i * m : Nat) : Int) := by rw [Int.natCast_mul]
              have imb : i * m ≤ 512 * 512 := Nat.mul_le_mul (by omega) (by omega)
              have tm : ((i : Int) * m).tmod k = ((i * m % k : Nat) : Int) := by rw [im, Int.tmod_eq_emod_of_nonneg (by omega), Int.natCast_emod]
              have q1 : IntKind.i64.wrap ((i : Int) * m) = (i : Int) * m := IntWalk.i64_in _ (by omega)
              have q2 : (((i * m % k : Nat) : Int)).toNat = i * m % k := by omega
              have q3 : (0 : Int) ≤ ((i * m % k : Nat) : Int) := by omega
              have q4 : ((i * m % k : Nat) : Int) < k := by omega
              have kz : ((k : Int) == 0) = false := by rw [beq_eq_false_iff_ne]; omega
              have kz2 : ¬ (k : Int) = 0 := by omega
              clear im imb
              generalize pwF f x (i * m % k) = Y at *
              generalize i * m % k = U at *
              have q5 : IntKind.i64.wrap (A m * Y) = A m * Y := IntWalk.i64_in _ (by omega)
              generalize RS (sumN (fun j => A j * x ^ (i * j)) m) (P f) = X at *
              have q6 : IntKind.i64.wrap (X + A m * Y) = X + A m * Y := IntWalk.i64_in _ (by omega)
              go_wp2
              go_quiet (fail)
              go_wp2
              go_roundw
              case rel => exact ⟨m + 1, by go_num, by omega, vint HS.out, _, rfl⟩
              case measure => simp [intOf]; omega
            · have hd3 : decide ((m : Int) < k) = false := decide_eq_false (by omega)
              obtain rfl : m = k := by omega
              have hown : (wr.drewN q).ownsRow W0.heap.size 3 1 _ i (xsF (fun i => RS (ftF x m A i) (P f)) i) := HOWN.out
              have hbq := below_drewN hb2 q
              have hqs : (wr.drewN q).heap.size = wr.heap.size := rfl
              go_wp2_with (at_builtin; refine wpList_append_own _ rfl _ _ 22 rfl W0.heap.size 3 i0 (.int .i64 0) 1 8 Tryd.underlying22 HI.out HZ0.out HZ1.out HZ2.out rfl (by decide) _ _ _ rfl (hown.alloc _) ⟨(wr.drewN q).heap.size, 0, none⟩ 1 1 [.int .i64 (RS (sumN (fun j => A j * x ^ (i * j)) m) (P f))] rfl rfl ?d1 ?d2 ?d3 ?d4 ?d5 ?_)
              case d1 => exact cell_one_new _ _ _
              case d2 => intro u hu; simp at hu; subst hu; rfl
              case d3 => unfold maxLen; omega
              case d4 => omega
              case d5 => simp; omega
              intro v' w1 hown' hgrow _
              have hbel : Below W0.heap.size W0 w1 := (hbq.alloc (by omega) _).grown hgrow (by simp; omega) (own_ge hown)
              have hown2 : w1.ownsRow W0.heap.size 3 1 v' (i + 1) (xsF (fun i => RS (ftF x m A i) (P f)) (i + 1)) := by rw [← xsF_succ]; exact hown'
              clear hgrow hown hown' HOWN
              go_wp2
              go_roundw
              case rel => exact ⟨i + 1, by go_num, by omega, hown2, hbel⟩
              case measure => simp [intOf]; omega
        · have hd2 : decide ((i : Int) < k) = false := decide_eq_false (by omega)
          obtain rfl : i = k := by omega
          have HO := Lib.hid (owns_to (w := W0) (l := tab i fun j => RS (ftF x i A j) (P f)) hown (by rw [tab_len]) (fun j hj => by rw [lf_tab, if_pos hj]) hb2)
          clear hown
          go_wp2
          go_ret
          exact HO.out.up hnx hnx.size
theorem vec_some {w : World} {a : Option Addr} {n : Nat} {F : Nat → Int} (h : Src w a n F) (hn : 0 < n) : ∃ b off, a = some ⟨b, off, none⟩ ∧ b < w.heap.size ∧ ∀ j, j < n → w.cell? ⟨b, off + j, none⟩ = some (.int .i64 (F j)) := by
  rcases h with hz | h
  · omega
  · exact h
theorem rootL_bd {f : Int} {l : List Int} (h : VecOk f l) : 0 ≤ rootL f l ∧ rootL f l < P f := by
  obtain ⟨k, _, _, hl, hk⟩ := h.log
  have := root_bd hk
  unfold rootL
  rw [hl]
  omega
theorem invRL_bd {f : Int} {l : List Int} (h : VecOk f l) : 0 ≤ invRL f l ∧ invRL f l < P f := by
  obtain ⟨k, _, _, hl, hk⟩ := h.log
  have := invR_bd hk
  unfold invRL
  rw [hl]
  omega
theorem sSum_l (f x v : Int) (a : Option Addr) (l : List Int) (cap : Nat) (w : World) (h : VecOk f l) (hr : Rt f x v l.length) (x0 : 0 ≤ x) (x1 : x < P f) (hs : Src w a l.length (lf l)) :
    Calls Tryd.prog 43 #[.int .i64 f, .slice a l.length cap, .int .i64 x] w (OwnsL w (tab l.length fun i => RS (ftF x l.length (lf l) i) (P f))) := by
  obtain ⟨b, off, rfl, hlt, hc⟩ := vec_some hs h.pos.1
  exact sSum f x v b off l.length cap (lf l) w hr x0 x1 h.pos.2 h.lt hlt hc
set_option maxHeartbeats 800000 in
theorem sForward (f : Int) (a : Option Addr) (l : List Int) (cap : Nat) (w : World) (hn : l.length ≤ 1048576) (hs : Src w a l.length (lf l)) : Calls Tryd.prog 17 #[.int .i64 f, .slice a l.length cap] w (ListL w (mForward f l)) := by
  have R1 := sVectorOk f a l cap w hn hs
  by_cases h : VecOk f l
  · rw [vok_iff.2 h] at R1
    rw [show mForward f l = fwdL f l by unfold mForward; rw [if_pos h]]
    have HR1 := Lib.hid R1
    have HSUM := Lib.hid (sSum_l f (rootL f l) (invRL f l) a l cap w h h.rt (rootL_bd h).1 (rootL_bd h).2 hs)
    clear R1 hs h
    go_enter Tryd.func17, Tryd.ntmps17
    go_wp2_with fail
    refine HR1.out.mono ?_
    rintro e w' ⟨rfl, rfl⟩
    go_wp2_with fail
    refine (sLogOf l.length w).mono ?_
    rintro e w' ⟨rfl, rfl⟩
    go_wp2_with fail
    refine (sRootOf f (mLog l.length) w).mono ?_
    rintro e w' ⟨rfl, rfl⟩
    go_wp2_with fail
    refine HSUM.out.mono ?_
    intro e w1 ho
    obtain ⟨a1, cap1, rfl, s1, b1⟩ := ho.list
    have HS1 := Lib.hid s1
    clear ho s1 HSUM HR1
    have e0 : (tab l.length fun i => RS (ftF (rootL f l) l.length (lf l) i) (P f)) = fwdL f l := rfl
    rw [e0] at HS1 ⊢
    go_wp2
    go_ret
    exact ⟨a1, cap1, rfl, HS1.out, b1⟩
  · rw [vok_not.2 h] at R1
    rw [show mForward f l = [] by unfold mForward; rw [if_neg h]]
    have HR1 := Lib.hid R1
    clear R1 hs h
    go_enter Tryd.func17, Tryd.ntmps17
    go_wp2_with fail
    refine HR1.out.mono ?_
    rintro e w' ⟨rfl, rfl⟩
    go_wp2
    go_ret
    exact ⟨none, 0, rfl, .inl rfl, Below.refl _ _⟩
theorem RS_mul_l (a b p : Int) : RS (RS a p * b) p = RS (a * b) p := by
  unfold RS
  rw [Int.mul_emod, Int.emod_emod_of_dvd _ (Int.dvd_refl _), ← Int.mul_emod]
set_option maxRecDepth 100000 in
set_option maxHeartbeats 1600000 in
theorem sBackward_on (f : Int) (a : Option Addr) (l : List Int) (cap : Nat) (w : World) (hn : l.length ≤ 1048576) (hs : Src w a l.length (lf l)) (h : VecOk f l) : Calls Tryd.prog 21 #[.int .i64 f, .slice a l.length cap] w (ListL w (bwdL f l)) := by
  have BA : Hid (∀ o, Below w.heap.size w (w.alloc o)) := Lib.hid fun o => (Below.refl _ _).alloc (Nat.le_refl _) o
  have HV : Hid (∀ w2, Below w.heap.size w w2 → Calls Tryd.prog 13 #[.int .i64 f, .slice a l.length cap] w2 (SameB w2 true)) := Lib.hid fun w2 hb => by
    have R1 := sVectorOk f a l cap w2 hn (hs.keep hb)
    rwa [vok_iff.2 h] at R1
  have HSUM : Hid (∀ w2, Below w.heap.size w w2 → Calls Tryd.prog 43 #[.int .i64 f, .slice a l.length cap, .int .i64 (invRL f l)] w2 (OwnsL w2 (tab l.length fun i => RS (ftF (invRL f l) l.length (lf l) i) (P f)))) := Lib.hid fun w2 hb => sSum_l f (invRL f l) (rootL f l) a l cap w2 h h.rt.swap (invRL_bd h).1 (invRL_bd h).2 (hs.keep hb)
  have hn0 := h.pos.1
  have hn5 := h.pos.2
  obtain ⟨h0, h8⟩ := h.f08
  clear hs h
  obtain ⟨i0, hi, hz0, hz1, hz2⟩ := info_parts info3
  have HI := Lib.hid hi
  have HZ0 := Lib.hid hz0
  have HZ1 := Lib.hid hz1
  have HZ2 := Lib.hid hz2
  clear hi hz0 hz1 hz2
  have OE := Lib.hid (own_empty w (fun i => RS (ftF (invRL f l) l.length (lf l) i * mPower f l.length (-1)) (P f)))
  go_enter Tryd.func21, Tryd.ntmps21
  go_wp2_with fail
  refine (HV.out _ (BA.out _)).mono ?_
  rintro e w' ⟨rfl, rfl⟩
  go_wp2_with fail
  refine (sLogOf l.length _).mono ?_
  rintro e w' ⟨rfl, rfl⟩
  go_wp2_with fail
  refine (sRootOf f (mLog l.length) _).mono ?_
  rintro e w' ⟨rfl, rfl⟩
  go_wp2_with fail
  refine (sInverse f (mRoot f (mLog l.length)) _).mono ?_
  rintro e w' ⟨rfl, rfl⟩
  go_wp2_with fail
  refine (HSUM.out _ (BA.out _)).mono ?_
  intro e w1 ho
  obtain ⟨v1, rfl, ho1, b1⟩ := ho
  rw [tab_len, lf_tabF] at ho1
  obtain ⟨bs, cap1, rfl, hbs, hov⟩ := OwnV.of_owns ho1 (by omega)
  have HCS : Hid (∀ j, j < l.length → w1.cell? ⟨bs, j, none⟩ = some (.int .i64 (RS (ftF (invRL f l) l.length (lf l) j) (P f)))) := Lib.hid fun j hj => hov.cell hj
  have hlts := hov.lt
  have hbs2 : w.heap.size < bs := by first | omega | (simp at hbs; omega)
  have hb1 := below_up (BA.out (.cells #[] 3)) b1 (by simp)
  have HE1 := Lib.hid (OE.out.kept (grown_none b1) (by cases Value.ownBlock _ <;> simp))
  clear ho1 hov HSUM HV OE b1 hbs
  go_wp2_with fail
  refine (sInverse f l.length _).mono ?_
  rintro e w' ⟨rfl, rfl⟩
  go_wp2_with fail
  go_loopw [5, 8] (fun v i wr => ∃ k : Nat, i = .int .i64 k ∧ k ≤ l.length ∧ wr.ownsRow w.heap.size 3 1 v k (xsF (fun i => RS (ftF (invRL f l) l.length (lf l) i * mPower f l.length (-1)) (P f)) k) ∧ v.ownBlock ≠ some bs ∧ bs < wr.heap.size ∧ Hid (∀ j, j < l.length → wr.cell? ⟨bs, j, none⟩ = some (.int .i64 (RS (ftF (invRL f l) l.length (lf l) j) (P f)))) ∧ Below w.heap.size w wr) (fun _ i _ => l.length - (intOf i).toNat)
  case atStart => exact ⟨0, rfl, Nat.zero_le _, HE1.out, (fun e => by injection e with e; have e : w.heap.size = bs := e; omega), hlts, HCS, hb1⟩
  case round =>
    clear HE1 HCS hlts
    obtain ⟨k, rfl, hk, hown, hne, hlts, HCS, hnx⟩ := hrel
    have hs := hnx.size
    by_cases h1 : k < l.length
    · have hd1 : decide ((k : Int) < l.length) = true := decide_eq_true (by omega)
      have c1 : wr.cell? ⟨bs, k, none⟩ = some (.int .i64 (RS (ftF (invRL f l) l.length (lf l) k) (P f))) := HCS.out k h1
      have HM : Hid (mMul f (RS (ftF (invRL f l) l.length (lf l) k) (P f)) (mPower f l.length (-1)) = RS (ftF (invRL f l) l.length (lf l) k * mPower f l.length (-1)) (P f)) := Lib.hid (by rw [mMul, if_pos ⟨h0, h8⟩, RS_mul_l])
      go_wp2_with fail
      refine (sMul f (RS (ftF (invRL f l) l.length (lf l) k) (P f)) (mPower f l.length (-1)) wr).mono ?_
      rintro e w' ⟨rfl, rfl⟩
      rw [HM.out]
      go_wp2_with (at_builtin; refine wpList_append_own_at _ rfl _ _ 22 rfl w.heap.size 3 i0 (.int .i64 0) 1 8 Tryd.underlying22 HI.out HZ0.out HZ1.out HZ2.out rfl (by decide) _ _ _ rfl (hown.alloc _) ⟨wr.heap.size, 0, none⟩ 1 1 [.int .i64 (RS (ftF (invRL f l) l.length (lf l) k * mPower f l.length (-1)) (P f))] rfl rfl ?c1 ?c2 ?c3 ?c4 ?c5 ?_)
      case c1 => exact cell_one_new _ _ _
      case c2 => intro u hu; simp at hu; subst hu; rfl
      case c3 => unfold maxLen; omega
      case c4 => omega
      case c5 => simp; omega
      intro v' w2 hown' hgrow _ hat
      have hbel : Below w.heap.size w w2 := (hnx.alloc hs _).grown hgrow (by simp; omega) (own_ge hown)
      have HCS2 : Hid (∀ j, j < l.length → w2.cell? ⟨bs, j, none⟩ = some (.int .i64 (RS (ftF (invRL f l) l.length (lf l) j) (P f)))) := Lib.hid fun j hj => hgrow.cell ((World.grownBy_alloc wr _ none).cell (HCS.out j hj) (by simp)) (fun e => hne e.symm)
      have hlt2 : bs < w2.heap.size := by have := hgrow.size; simp at this; omega
      have hne2 : v'.ownBlock ≠ some bs := fun e => by
        rcases hat with h | h
        · exact hne (h.symm.trans e)
        · rw [e] at h; injection h with h; first | omega | (simp at h; omega)
      rw [xsF_succ (fun i => RS (ftF (invRL f l) l.length (lf l) i * mPower f l.length (-1)) (P f))] at hown'
      clear hgrow hown c1 HCS
      go_wp2
      go_roundw
      case rel => exact ⟨k + 1, by go_num, by omega, hown', hne2, hlt2, HCS2, hbel⟩
      case measure => simp [intOf]; omega
    · have hd1 : decide ((k : Int) < l.length) = false := decide_eq_false (by omega)
      obtain rfl : k = l.length := by omega
      have HO := Lib.hid (owns_to (w := w) (l := bwdL f l) hown (by rw [bwdL_len]) (fun j hj => by unfold bwdL; rw [lf_tab, if_pos hj]) hnx)
      clear hown
      go_wp2
      go_ret
      exact HO.out.list
theorem sBackward (f : Int) (a : Option Addr) (l : List Int) (cap : Nat) (w : World) (hn : l.length ≤ 1048576) (hs : Src w a l.length (lf l)) : Calls Tryd.prog 21 #[.int .i64 f, .slice a l.length cap] w (ListL w (mBackward f l)) := by
  by_cases h : VecOk f l
  · rw [show mBackward f l = bwdL f l by unfold mBackward; rw [if_pos h]]
    exact sBackward_on f a l cap w hn hs h
  · rw [show mBackward f l = [] by unfold mBackward; rw [if_neg h]]
    have BA : Hid (∀ o, Below w.heap.size w (w.alloc o)) := Lib.hid fun o => (Below.refl _ _).alloc (Nat.le_refl _) o
    have HV : Hid (∀ w2, Below w.heap.size w w2 → Calls Tryd.prog 13 #[.int .i64 f, .slice a l.length cap] w2 (SameB w2 false)) := Lib.hid fun w2 hb => by
      have R1 := sVectorOk f a l cap w2 hn (hs.keep hb)
      rwa [vok_not.2 h] at R1
    clear hs h
    go_enter Tryd.func21, Tryd.ntmps21
    go_wp2_with fail
    refine (HV.out _ (BA.out _)).mono ?_
    rintro e w' ⟨rfl, rfl⟩
    go_wp2
    go_ret
    exact ⟨none, 0, rfl, .inl rfl, BA.out _⟩
set_option maxRecDepth 100000 in
set_option maxHeartbeats 1600000 in
theorem sPointwise_on (f : Int) (a : Option Addr) (l : List Int) (cap : Nat) (a2 : Option Addr) (m : List Int) (cap2 : Nat) (w : World) (hn : l.length ≤ 1048576) (hn2 : m.length ≤ 1048576) (hs : Src w a l.length (lf l)) (hs2 : Src w a2 m.length (lf m)) (h : TwoOk f l m) : Calls Tryd.prog 23 #[.int .i64 f, .slice a l.length cap, .slice a2 m.length cap2] w (ListL w (ptwL f l m)) := by
  obtain ⟨i0, hi, hz0, hz1, hz2⟩ := info_parts info3
  have HI := Lib.hid hi
  have HZ0 := Lib.hid hz0
  have HZ1 := Lib.hid hz1
  have HZ2 := Lib.hid hz2
  clear hi hz0 hz1 hz2
  have e0 : ptwL f l m = tab l.length fun i => RS (lf l i * lf m i) (P f) := rfl
  rw [e0]
  have BA : Hid (∀ o, Below w.heap.size w (w.alloc o)) := Lib.hid fun o => (Below.refl _ _).alloc (Nat.le_refl _) o
  have HV : Hid (∀ w2, Below w.heap.size w w2 → Calls Tryd.prog 49 #[.int .i64 f, .slice a l.length cap, .slice a2 m.length cap2] w2 (SameB w2 true)) := Lib.hid fun w2 hb => by
    have R1 := sTwo f a a2 l m cap cap2 w2 hn hn2 (hs.keep hb) (hs2.keep hb)
    rwa [two_iff.2 h] at R1
  obtain ⟨hlm, hl, hm⟩ := h
  have hn0 := hl.pos.1
  have hn5 := hl.pos.2
  obtain ⟨h0, h8⟩ := hl.f08
  have hp := P_bd h0 h8
  have q7 : ¬ P f = 0 := by omega
  have HA := Lib.hid hl.lt
  have HB := Lib.hid hm.lt
  rw [← hlm] at hs2 HV ⊢
  obtain ⟨b, off, rfl, hlt, hc⟩ := vec_some hs hn0
  obtain ⟨b2, off2, rfl, hlt2, hc2⟩ := vec_some hs2 hn0
  have HC := Lib.hid hc
  have HC2 := Lib.hid hc2
  clear hs hs2 hc hc2 hl hm hlm hn2
  generalize lf l = A at *
  generalize lf m = B at *
  generalize l.length = n at *
  have HMU : Hid (∀ x y w, Calls Tryd.prog 47 #[.int .i64 f, .int .i64 x, .int .i64 y] w fun e w' => e = .returned (.int .i64 (RS (x * y) (P f))) ∧ w = w') := Lib.hid fun x y w => by have := sMul f x y w; rwa [mMul, if_pos ⟨h0, h8⟩] at this
  go_enter Tryd.func23, Tryd.ntmps23
  go_wp2_with fail
  refine (HV.out _ (BA.out _)).mono ?_
  rintro e w' ⟨rfl, rfl⟩
  go_wp2_with fail
  go_loopw [7, 8] (fun v i wr => ∃ k : Nat, i = .int .i64 k ∧ k ≤ n ∧ wr.ownsRow w.heap.size 3 1 v k (xsF (fun i => RS (A i * B i) (P f)) k) ∧ Below w.heap.size w wr) (fun _ i _ => n - (intOf i).toNat)
  case atStart => exact ⟨0, rfl, Nat.zero_le _, own_empty w _, BA.out _⟩
  case round =>
    obtain ⟨k, rfl, hk, hown, hnx⟩ := hrel
    have hs := hnx.size
    by_cases h1 : k < n
    · have hd1 : decide ((k : Int) < n) = true := decide_eq_true (by omega)
      have c1 : wr.cell? ⟨b, off + k, none⟩ = some (.int .i64 (A k)) := (hnx.cell (p := ⟨b, off + k, none⟩) hlt).trans (HC.out k h1)
      have c2 : wr.cell? ⟨b2, off2 + k, none⟩ = some (.int .i64 (B k)) := (hnx.cell (p := ⟨b2, off2 + k, none⟩) hlt2).trans (HC2.out k h1)
      have hge := own_ge hown
      have i1 : (0 : Int) ≤ (k : Int) := by omega
      have i2 : (k : Int) < (n : Int) := by omega
      go_wp2_with fail
      go_region_held3 (fun W => W.cell? ⟨b, off + k, none⟩ = some (.int .i64 (A k)) ∧ W.cell? ⟨b2, off2 + k, none⟩ = some (.int .i64 (B k)))
        (first
          | go_keep
          | (go_split_ands
             refine ⟨?_, ?_⟩
             · (rw [hgrow.cell_far _ (by simp; omega) (fun e => by have h9 : w.heap.size ≤ b := hge _ e.symm; omega)]; assumption)
             · (rw [hgrow.cell_far _ (by simp; omega) (fun e => by have h9 : w.heap.size ≤ b2 := hge _ e.symm; omega)]; assumption)))
        (first
          | (go_at_call 47; refine (HMU.out (A k) (B k) _).mono ?_; rintro e w' ⟨rfl, rfl⟩)
          | (refine step_append_lies _ (by rfl) _ _ _ (by rfl) w.heap.size 3 i0 _ 1 8 Tryd.underlying22 HI.out HZ0.out HZ1.out HZ2.out rfl (by omega) _ k _ (by rfl) ((hown.alloc _).drew) ⟨wr.heap.size, 0, none⟩ 1 1 [.int .i64 (RS (A k * B k) (P f))] (by rfl) (by rfl) (World.news_of_block (cs := #[.int .i64 (RS (A k * B k) (P f))]) (t := 3) (fr := (0, 0)) (heap_alloc_new wr _)) (by simp [Value.oneCell']) (by omega) (by unfold maxLen; omega) (by omega) (by simp; omega) (wr.heap.size + 1) (by simp) ?_; intro gg cap' w1 hown' hgrow hat hlt'))
      have hbel : Below w.heap.size w w1 := ((hnx.alloc hs _).drew).grown hgrow (by simp; omega) hge
      rw [xsF_succ (fun i => RS (A i * B i) (P f))] at hown'
      clear hgrow hown c1 c2 hat hlt'
      go_wp2
      go_roundw
      case rel => exact ⟨k + 1, by go_num, by omega, hown', hbel⟩
      case measure => simp [intOf]; omega
    · have hd1 : decide ((k : Int) < n) = false := decide_eq_false (by omega)
      obtain rfl : k = n := by omega
      have HO := Lib.hid (owns_to (w := w) (l := tab k fun i => RS (A i * B i) (P f)) hown (by rw [tab_len]) (fun j hj => by rw [lf_tab, if_pos hj]) hnx)
      clear hown
      go_wp2
      go_ret
      exact HO.out.list
theorem sPointwise (f : Int) (a : Option Addr) (l : List Int) (cap : Nat) (a2 : Option Addr) (m : List Int) (cap2 : Nat) (w : World) (hn : l.length ≤ 1048576) (hn2 : m.length ≤ 1048576) (hs : Src w a l.length (lf l)) (hs2 : Src w a2 m.length (lf m)) : Calls Tryd.prog 23 #[.int .i64 f, .slice a l.length cap, .slice a2 m.length cap2] w (ListL w (mPointwise f l m)) := by
  by_cases h : TwoOk f l m
  · rw [show mPointwise f l m = ptwL f l m by unfold mPointwise; rw [if_pos h]]
    exact sPointwise_on f a l cap a2 m cap2 w hn hn2 hs hs2 h
  · rw [show mPointwise f l m = [] by unfold mPointwise; rw [if_neg h]]
    have BA : Hid (∀ o, Below w.heap.size w (w.alloc o)) := Lib.hid fun o => (Below.refl _ _).alloc (Nat.le_refl _) o
    have HV : Hid (∀ w2, Below w.heap.size w w2 → Calls Tryd.prog 49 #[.int .i64 f, .slice a l.length cap, .slice a2 m.length cap2] w2 (SameB w2 false)) := Lib.hid fun w2 hb => by
      have R1 := sTwo f a a2 l m cap cap2 w2 hn hn2 (hs.keep hb) (hs2.keep hb)
      rwa [two_not.2 h] at R1
    clear hs hs2 h
    go_enter Tryd.func23, Tryd.ntmps23
    go_wp2_with fail
    refine (HV.out _ (BA.out _)).mono ?_
    rintro e w' ⟨rfl, rfl⟩
    go_wp2
    go_ret
    exact ⟨none, 0, rfl, .inl rfl, BA.out _⟩
set_option maxRecDepth 100000 in
set_option maxHeartbeats 3200000 in
theorem sCyclic_on (f : Int) (a : Option Addr) (l : List Int) (cap : Nat) (a2 : Option Addr) (m : List Int) (cap2 : Nat) (w : World) (hn : l.length ≤ 1048576) (hn2 : m.length ≤ 1048576) (hs : Src w a l.length (lf l)) (hs2 : Src w a2 m.length (lf m)) (h : TwoOk f l m) : Calls Tryd.prog 25 #[.int .i64 f, .slice a l.length cap, .slice a2 m.length cap2] w (ListL w (cycL f l m)) := by
  obtain ⟨i0, hi, hz0, hz1, hz2⟩ := info_parts info3
  have HI := Lib.hid hi
  have HZ0 := Lib.hid hz0
  have HZ1 := Lib.hid hz1
  have HZ2 := Lib.hid hz2
  clear hi hz0 hz1 hz2
  have e0 : cycL f l m = tab l.length fun i => RS (sumN (fun j => lf l j * lf m ((i + l.length - j) % l.length)) l.length) (P f) := rfl
  rw [e0]
  have BA : Hid (∀ o, Below w.heap.size w (w.alloc o)) := Lib.hid fun o => (Below.refl _ _).alloc (Nat.le_refl _) o
  have HV : Hid (∀ w2, Below w.heap.size w w2 → Calls Tryd.prog 49 #[.int .i64 f, .slice a l.length cap, .slice a2 m.length cap2] w2 (SameB w2 true)) := Lib.hid fun w2 hb => by
    have R1 := sTwo f a a2 l m cap cap2 w2 hn hn2 (hs.keep hb) (hs2.keep hb)
    rwa [two_iff.2 h] at R1
  obtain ⟨hlm, hl, hm⟩ := h
  have hn0 := hl.pos.1
  have hn5 := hl.pos.2
  obtain ⟨h0, h8⟩ := hl.f08
  have hp := P_bd h0 h8
  have q7 : ¬ P f = 0 := by omega
  have HA := Lib.hid hl.lt
  have HB := Lib.hid hm.lt
  rw [← hlm] at hs2 HV ⊢
  obtain ⟨b, off, rfl, hlt, hc⟩ := vec_some hs hn0
  obtain ⟨b2, off2, rfl, hlt2, hc2⟩ := vec_some hs2 hn0
  have HC := Lib.hid hc
  have HC2 := Lib.hid hc2
  clear hs hs2 hc hc2 hl hm hlm hn2
  generalize lf l = A at *
  generalize lf m = B at *
  generalize l.length = n at *
  go_enter Tryd.func25, Tryd.ntmps25
  go_wp2_with fail
  refine (HV.out _ (BA.out _)).mono ?_
  rintro e w' ⟨rfl, rfl⟩
  go_wp2_with fail
  refine (sModulus f _).mono ?_
  rintro e w' ⟨rfl, rfl⟩
  go_wp2_with fail
  go_loopw [7, 10, 11, 12] (fun v i _ _ wr => ∃ k : Nat, i = .int .i64 k ∧ k ≤ n ∧ wr.ownsRow w.heap.size 3 1 v k (xsF (fun i => RS (sumN (fun j => A j * B ((i + n - j) % n)) n) (P f)) k) ∧ Below w.heap.size w wr) (fun _ i _ _ _ => n - (intOf i).toNat)
  case atStart => exact ⟨0, rfl, Nat.zero_le _, own_empty w _, BA.out _⟩
  case round =>
    obtain ⟨i, rfl, hin, hown, hnx⟩ := hrel
    have hs := hnx.size
    by_cases h1 : i < n
    · have hd1 : decide ((i : Int) < n) = true := decide_eq_true (by omega)
      have HOWN := Lib.hid hown
      clear hown
      go_wp2_with fail
      go_loopw [11, 12] (fun s j W2 => ∃ k : Nat, j = .int .i64 k ∧ k ≤ n ∧ s = .int .i64 (RS (sumN (fun j => A j * B ((i + n - j) % n)) k) (P f)) ∧ ∃ q, W2 = wr.drewN q) (fun _ j _ => n - (intOf j).toNat)
      case atStart => exact ⟨0, rfl, Nat.zero_le _, by simp [sumN, RS], 0, rfl⟩
      case round =>
        obtain ⟨k, rfl, hk, rfl, q, rfl⟩ := hrel
        by_cases h3 : k < n
        · have hd3 : decide ((k : Int) < n) = true := decide_eq_true (by omega)
          have d1 : wr.cell? ⟨b, off + k, none⟩ = some (.int .i64 (A k)) := (hnx.cell (p := ⟨b, off + k, none⟩) hlt).trans (HC.out k h3)
          have hlk : (i + n - k) % n < n := Nat.mod_lt _ (by omega)
          have d2 : wr.cell? ⟨b2, off2 + (i + n - k) % n, none⟩ = some (.int .i64 (B ((i + n - k) % n))) := (hnx.cell (p := ⟨b2, off2 + (i + n - k) % n, none⟩) hlt2).trans (HC2.out _ hlk)
          have bA := HA.out k
          have bB := HB.out ((i + n - k) % n)
          have pb := prod_bd h0 h8 bA.1 bA.2 bB.1 bB.2
          have pr := RS_bd (x := sumN (fun j => A j * B ((i + n - j) % n)) k) (m := P f) (by omega)
          have HS : Hid (RS (RS (sumN (fun j => A j * B ((i + n - j) % n)) k) (P f) + A k * B ((i + n - k) % n)) (P f) = RS (sumN (fun j => A j * B ((i + n - j) % n)) (k + 1)) (P f)) := Lib.hid (sum_step (sumN (fun j => A j * B ((i + n - j) % n)) k) (A k * B ((i + n - k) % n)) (P f))
          have qa : IntKind.i64.wrap ((i : Int) - k) = (i : Int) - k := IntWalk.i64_in _ (by omega)
          have qb : IntKind.i64.wrap ((i : Int) - k + n) = (i : Int) - k + n := IntWalk.i64_in _ (by omega)
          have tm : ((i : Int) - k + n).tmod n = (((i + n - k) % n : Nat) : Int) := by
            rw [show (i : Int) - k + n = (((i + n - k) : Nat) : Int) by omega, Int.tmod_eq_emod_of_nonneg (by omega), Int.natCast_emod]
          have q2 : ((((i + n - k) % n : Nat) : Int)).toNat = (i + n - k) % n := by omega
          have q3 : (0 : Int) ≤ (((i + n - k) % n : Nat) : Int) := by omega
          have q4 : (((i + n - k) % n : Nat) : Int) < n := by omega
          have kz : ((n : Int) == 0) = false := by rw [beq_eq_false_iff_ne]; omega
          have kz2 : ¬ (n : Int) = 0 := by omega
          generalize B ((i + n - k) % n) = Y at *
          generalize (i + n - k) % n = U at *
          have q5 : IntKind.i64.wrap (A k * Y) = A k * Y := IntWalk.i64_in _ (by omega)
          generalize RS (sumN (fun j => A j * B ((i + n - j) % n)) k) (P f) = X at *
          have q6 : IntKind.i64.wrap (X + A k * Y) = X + A k * Y := IntWalk.i64_in _ (by omega)
          go_wp2
          go_quiet (fail)
          go_wp2
          go_roundw
          case rel => exact ⟨k + 1, by go_num, by omega, vint HS.out, _, rfl⟩
          case measure => simp [intOf]; omega
        · have hd3 : decide ((k : Int) < n) = false := decide_eq_false (by omega)
          obtain rfl : k = n := by omega
          have hown : (wr.drewN q).ownsRow w.heap.size 3 1 _ i (xsF (fun i => RS (sumN (fun j => A j * B ((i + k - j) % k)) k) (P f)) i) := HOWN.out
          have hbq := below_drewN hnx q
          have hqs : (wr.drewN q).heap.size = wr.heap.size := rfl
          go_wp2_with (at_builtin; refine wpList_append_own _ rfl _ _ 22 rfl w.heap.size 3 i0 (.int .i64 0) 1 8 Tryd.underlying22 HI.out HZ0.out HZ1.out HZ2.out rfl (by decide) _ _ _ rfl (hown.alloc _) ⟨(wr.drewN q).heap.size, 0, none⟩ 1 1 [.int .i64 (RS (sumN (fun j => A j * B ((i + k - j) % k)) k) (P f))] rfl rfl ?d1 ?d2 ?d3 ?d4 ?d5 ?_)
          case d1 => exact cell_one_new _ _ _
          case d2 => intro u hu; simp at hu; subst hu; rfl
          case d3 => unfold maxLen; omega
          case d4 => omega
          case d5 => simp; omega
          intro v' w1 hown' hgrow _
          have hbel : Below w.heap.size w w1 := (hbq.alloc (by omega) _).grown hgrow (by simp; omega) (own_ge hown)
          rw [xsF_succ (fun i => RS (sumN (fun j => A j * B ((i + k - j) % k)) k) (P f))] at hown'
          clear hgrow hown HOWN
          go_wp2
          go_roundw
          case rel => exact ⟨i + 1, by go_num, by omega, hown', hbel⟩
          case measure => simp [intOf]; omega
    · have hd1 : decide ((i : Int) < n) = false := decide_eq_false (by omega)
      obtain rfl : i = n := by omega
      have HO := Lib.hid (owns_to (w := w) (l := tab i fun t => RS (sumN (fun j => A j * B ((t + i - j) % i)) i) (P f)) hown (by rw [tab_len]) (fun j hj => by rw [lf_tab, if_pos hj]) hnx)
      clear hown
      go_wp2
      go_ret
      exact HO.out.list
theorem sCyclic (f : Int) (a : Option Addr) (l : List Int) (cap : Nat) (a2 : Option Addr) (m : List Int) (cap2 : Nat) (w : World) (hn : l.length ≤ 1048576) (hn2 : m.length ≤ 1048576) (hs : Src w a l.length (lf l)) (hs2 : Src w a2 m.length (lf m)) : Calls Tryd.prog 25 #[.int .i64 f, .slice a l.length cap, .slice a2 m.length cap2] w (ListL w (mCyclic f l m)) := by
  by_cases h : TwoOk f l m
  · rw [show mCyclic f l m = cycL f l m by unfold mCyclic; rw [if_pos h]]
    exact sCyclic_on f a l cap a2 m cap2 w hn hn2 hs hs2 h
  · rw [show mCyclic f l m = [] by unfold mCyclic; rw [if_neg h]]
    have BA : Hid (∀ o, Below w.heap.size w (w.alloc o)) := Lib.hid fun o => (Below.refl _ _).alloc (Nat.le_refl _) o
    have HV : Hid (∀ w2, Below w.heap.size w w2 → Calls Tryd.prog 49 #[.int .i64 f, .slice a l.length cap, .slice a2 m.length cap2] w2 (SameB w2 false)) := Lib.hid fun w2 hb => by
      have R1 := sTwo f a a2 l m cap cap2 w2 hn hn2 (hs.keep hb) (hs2.keep hb)
      rwa [two_not.2 h] at R1
    clear hs hs2 h
    go_enter Tryd.func25, Tryd.ntmps25
    go_wp2_with fail
    refine (HV.out _ (BA.out _)).mono ?_
    rintro e w' ⟨rfl, rfl⟩
    go_wp2
    go_ret
    exact ⟨none, 0, rfl, .inl rfl, BA.out _⟩
set_option maxRecDepth 100000 in
set_option maxHeartbeats 3200000 in
theorem sCorrelate_on (f : Int) (a : Option Addr) (l : List Int) (cap : Nat) (a2 : Option Addr) (m : List Int) (cap2 : Nat) (w : World) (hn : l.length ≤ 1048576) (hn2 : m.length ≤ 1048576) (hs : Src w a l.length (lf l)) (hs2 : Src w a2 m.length (lf m)) (h : TwoOk f l m) : Calls Tryd.prog 35 #[.int .i64 f, .slice a l.length cap, .slice a2 m.length cap2] w (ListL w (corL f l m)) := by
  obtain ⟨i0, hi, hz0, hz1, hz2⟩ := info_parts info3
  have HI := Lib.hid hi
  have HZ0 := Lib.hid hz0
  have HZ1 := Lib.hid hz1
  have HZ2 := Lib.hid hz2
  clear hi hz0 hz1 hz2
  have e0 : corL f l m = tab l.length fun i => RS (sumN (fun j => lf l j * lf m ((j + i) % l.length)) l.length) (P f) := rfl
  rw [e0]
  have BA : Hid (∀ o, Below w.heap.size w (w.alloc o)) := Lib.hid fun o => (Below.refl _ _).alloc (Nat.le_refl _) o
  have HV : Hid (∀ w2, Below w.heap.size w w2 → Calls Tryd.prog 49 #[.int .i64 f, .slice a l.length cap, .slice a2 m.length cap2] w2 (SameB w2 true)) := Lib.hid fun w2 hb => by
    have R1 := sTwo f a a2 l m cap cap2 w2 hn hn2 (hs.keep hb) (hs2.keep hb)
    rwa [two_iff.2 h] at R1
  obtain ⟨hlm, hl, hm⟩ := h
  have hn0 := hl.pos.1
  have hn5 := hl.pos.2
  obtain ⟨h0, h8⟩ := hl.f08
  have hp := P_bd h0 h8
  have q7 : ¬ P f = 0 := by omega
  have HA := Lib.hid hl.lt
  have HB := Lib.hid hm.lt
  rw [← hlm] at hs2 HV ⊢
  obtain ⟨b, off, rfl, hlt, hc⟩ := vec_some hs hn0
  obtain ⟨b2, off2, rfl, hlt2, hc2⟩ := vec_some hs2 hn0
  have HC := Lib.hid hc
  have HC2 := Lib.hid hc2
  clear hs hs2 hc hc2 hl hm hlm hn2
  generalize lf l = A at *
  generalize lf m = B at *
  generalize l.length = n at *
  go_enter Tryd.func35, Tryd.ntmps35
  go_wp2_with fail
  refine (HV.out _ (BA.out _)).mono ?_
  rintro e w' ⟨rfl, rfl⟩
  go_wp2_with fail
  refine (sModulus f _).mono ?_
  rintro e w' ⟨rfl, rfl⟩
  go_wp2_with fail
  go_loopw [7, 10, 11, 12] (fun v i _ _ wr => ∃ k : Nat, i = .int .i64 k ∧ k ≤ n ∧ wr.ownsRow w.heap.size 3 1 v k (xsF (fun i => RS (sumN (fun j => A j * B ((j + i) % n)) n) (P f)) k) ∧ Below w.heap.size w wr) (fun _ i _ _ _ => n - (intOf i).toNat)
  case atStart => exact ⟨0, rfl, Nat.zero_le _, own_empty w _, BA.out _⟩
  case round =>
    obtain ⟨i, rfl, hin, hown, hnx⟩ := hrel
    have hs := hnx.size
    by_cases h1 : i < n
    · have hd1 : decide ((i : Int) < n) = true := decide_eq_true (by omega)
      have HOWN := Lib.hid hown
      clear hown
      go_wp2_with fail
      go_loopw [11, 12] (fun s j W2 => ∃ k : Nat, j = .int .i64 k ∧ k ≤ n ∧ s = .int .i64 (RS (sumN (fun j => A j * B ((j + i) % n)) k) (P f)) ∧ ∃ q, W2 = wr.drewN q) (fun _ j _ => n - (intOf j).toNat)
      case atStart => exact ⟨0, rfl, Nat.zero_le _, by simp [sumN, RS], 0, rfl⟩
      case round =>
        obtain ⟨k, rfl, hk, rfl, q, rfl⟩ := hrel
        by_cases h3 : k < n
        · have hd3 : decide ((k : Int) < n) = true := decide_eq_true (by omega)
          have d1 : wr.cell? ⟨b, off + k, none⟩ = some (.int .i64 (A k)) := (hnx.cell (p := ⟨b, off + k, none⟩) hlt).trans (HC.out k h3)
          have hlk : (k + i) % n < n := Nat.mod_lt _ (by omega)
          have d2 : wr.cell? ⟨b2, off2 + (k + i) % n, none⟩ = some (.int .i64 (B ((k + i) % n))) := (hnx.cell (p := ⟨b2, off2 + (k + i) % n, none⟩) hlt2).trans (HC2.out _ hlk)
          have bA := HA.out k
          have bB := HB.out ((k + i) % n)
          have pb := prod_bd h0 h8 bA.1 bA.2 bB.1 bB.2
          have pr := RS_bd (x := sumN (fun j => A j * B ((j + i) % n)) k) (m := P f) (by omega)
          have HS : Hid (RS (RS (sumN (fun j => A j * B ((j + i) % n)) k) (P f) + A k * B ((k + i) % n)) (P f) = RS (sumN (fun j => A j * B ((j + i) % n)) (k + 1)) (P f)) := Lib.hid (sum_step (sumN (fun j => A j * B ((j + i) % n)) k) (A k * B ((k + i) % n)) (P f))
          have qa : IntKind.i64.wrap ((k : Int) + i) = (k : Int) + i := IntWalk.i64_in _ (by omega)
          have tm : ((k : Int) + i).tmod n = (((k + i) % n : Nat) : Int) := by
            rw [show (k : Int) + i = (((k + i) : Nat) : Int) by omega, Int.tmod_eq_emod_of_nonneg (by omega), Int.natCast_emod]
          have q2 : ((((k + i) % n : Nat) : Int)).toNat = (k + i) % n := by omega
          have q3 : (0 : Int) ≤ (((k + i) % n : Nat) : Int) := by omega
          have q4 : (((k + i) % n : Nat) : Int) < n := by omega
          have kz : ((n : Int) == 0) = false := by rw [beq_eq_false_iff_ne]; omega
          have kz2 : ¬ (n : Int) = 0 := by omega
          generalize B ((k + i) % n) = Y at *
          generalize (k + i) % n = U at *
          have q5 : IntKind.i64.wrap (A k * Y) = A k * Y := IntWalk.i64_in _ (by omega)
          generalize RS (sumN (fun j => A j * B ((j + i) % n)) k) (P f) = X at *
          have q6 : IntKind.i64.wrap (X + A k * Y) = X + A k * Y := IntWalk.i64_in _ (by omega)
          go_wp2
          go_quiet (fail)
          go_wp2
          go_roundw
          case rel => exact ⟨k + 1, by go_num, by omega, vint HS.out, _, rfl⟩
          case measure => simp [intOf]; omega
        · have hd3 : decide ((k : Int) < n) = false := decide_eq_false (by omega)
          obtain rfl : k = n := by omega
          have hown : (wr.drewN q).ownsRow w.heap.size 3 1 _ i (xsF (fun i => RS (sumN (fun j => A j * B ((j + i) % k)) k) (P f)) i) := HOWN.out
          have hbq := below_drewN hnx q
          have hqs : (wr.drewN q).heap.size = wr.heap.size := rfl
          go_wp2_with (at_builtin; refine wpList_append_own _ rfl _ _ 22 rfl w.heap.size 3 i0 (.int .i64 0) 1 8 Tryd.underlying22 HI.out HZ0.out HZ1.out HZ2.out rfl (by decide) _ _ _ rfl (hown.alloc _) ⟨(wr.drewN q).heap.size, 0, none⟩ 1 1 [.int .i64 (RS (sumN (fun j => A j * B ((j + i) % k)) k) (P f))] rfl rfl ?d1 ?d2 ?d3 ?d4 ?d5 ?_)
          case d1 => exact cell_one_new _ _ _
          case d2 => intro u hu; simp at hu; subst hu; rfl
          case d3 => unfold maxLen; omega
          case d4 => omega
          case d5 => simp; omega
          intro v' w1 hown' hgrow _
          have hbel : Below w.heap.size w w1 := (hbq.alloc (by omega) _).grown hgrow (by simp; omega) (own_ge hown)
          rw [xsF_succ (fun i => RS (sumN (fun j => A j * B ((j + i) % k)) k) (P f))] at hown'
          clear hgrow hown HOWN
          go_wp2
          go_roundw
          case rel => exact ⟨i + 1, by go_num, by omega, hown', hbel⟩
          case measure => simp [intOf]; omega
    · have hd1 : decide ((i : Int) < n) = false := decide_eq_false (by omega)
      obtain rfl : i = n := by omega
      have HO := Lib.hid (owns_to (w := w) (l := tab i fun t => RS (sumN (fun j => A j * B ((j + t) % i)) i) (P f)) hown (by rw [tab_len]) (fun j hj => by rw [lf_tab, if_pos hj]) hnx)
      clear hown
      go_wp2
      go_ret
      exact HO.out.list
theorem sCorrelate (f : Int) (a : Option Addr) (l : List Int) (cap : Nat) (a2 : Option Addr) (m : List Int) (cap2 : Nat) (w : World) (hn : l.length ≤ 1048576) (hn2 : m.length ≤ 1048576) (hs : Src w a l.length (lf l)) (hs2 : Src w a2 m.length (lf m)) : Calls Tryd.prog 35 #[.int .i64 f, .slice a l.length cap, .slice a2 m.length cap2] w (ListL w (mCorrelate f l m)) := by
  by_cases h : TwoOk f l m
  · rw [show mCorrelate f l m = corL f l m by unfold mCorrelate; rw [if_pos h]]
    exact sCorrelate_on f a l cap a2 m cap2 w hn hn2 hs hs2 h
  · rw [show mCorrelate f l m = [] by unfold mCorrelate; rw [if_neg h]]
    have BA : Hid (∀ o, Below w.heap.size w (w.alloc o)) := Lib.hid fun o => (Below.refl _ _).alloc (Nat.le_refl _) o
    have HV : Hid (∀ w2, Below w.heap.size w w2 → Calls Tryd.prog 49 #[.int .i64 f, .slice a l.length cap, .slice a2 m.length cap2] w2 (SameB w2 false)) := Lib.hid fun w2 hb => by
      have R1 := sTwo f a a2 l m cap cap2 w2 hn hn2 (hs.keep hb) (hs2.keep hb)
      rwa [two_not.2 h] at R1
    clear hs hs2 h
    go_enter Tryd.func35, Tryd.ntmps35
    go_wp2_with fail
    refine (HV.out _ (BA.out _)).mono ?_
    rintro e w' ⟨rfl, rfl⟩
    go_wp2
    go_ret
    exact ⟨none, 0, rfl, .inl rfl, BA.out _⟩
theorem twi_step {f : Int} {n i k : Nat} (hi : i < n) (hk : k < n) (A B : Nat → Int) :
    (k ≤ i → RS (RS (sumN (fun j => if j ≤ i then A j * B (i - j) else -(A j * B (i + n - j))) k) (P f) + RS (A k * B ((i + n - k) % n)) (P f)) (P f) = RS (sumN (fun j => if j ≤ i then A j * B (i - j) else -(A j * B (i + n - j))) (k + 1)) (P f)) ∧
    (i < k → RS (RS (sumN (fun j => if j ≤ i then A j * B (i - j) else -(A j * B (i + n - j))) k) (P f) + (P f - RS (A k * B ((i + n - k) % n)) (P f))) (P f) = RS (sumN (fun j => if j ≤ i then A j * B (i - j) else -(A j * B (i + n - j))) (k + 1)) (P f)) := by
  constructor
  · intro h
    rw [RS_add, show (i + n - k) % n = i - k by rw [show i + n - k = i - k + n by omega, Nat.add_mod_right, Nat.mod_eq_of_lt (by omega)]]
    show _ = RS (_ + if k ≤ i then A k * B (i - k) else -(A k * B (i + n - k))) (P f)
    rw [if_pos h]
  · intro h
    rw [sum_step, Nat.mod_eq_of_lt (show i + n - k < n by omega)]
    show _ = RS (_ + if k ≤ i then A k * B (i - k) else -(A k * B (i + n - k))) (P f)
    rw [if_neg (by omega)]
    unfold RS
    refine emod_add_congr rfl ?_
    have := emod_sub_congr (p := P f) (a := P f) (b := 0) (c := A k * B (i + n - k) % P f) (d := A k * B (i + n - k)) (by rw [Int.emod_self]; rfl) (Int.emod_emod_of_dvd _ (Int.dvd_refl _))
    rw [this, Int.zero_sub]
set_option maxRecDepth 100000 in
set_option maxHeartbeats 3200000 in
theorem sTwisted_on (f : Int) (a : Option Addr) (l : List Int) (cap : Nat) (a2 : Option Addr) (m : List Int) (cap2 : Nat) (w : World) (hn : l.length ≤ 1048576) (hn2 : m.length ≤ 1048576) (hs : Src w a l.length (lf l)) (hs2 : Src w a2 m.length (lf m)) (h : TwoOk f l m) : Calls Tryd.prog 27 #[.int .i64 f, .slice a l.length cap, .slice a2 m.length cap2] w (ListL w (twiL f l m)) := by
  obtain ⟨i0, hi, hz0, hz1, hz2⟩ := info_parts info3
  have HI := Lib.hid hi
  have HZ0 := Lib.hid hz0
  have HZ1 := Lib.hid hz1
  have HZ2 := Lib.hid hz2
  clear hi hz0 hz1 hz2
  have e0 : twiL f l m = tab l.length fun i => RS (sumN (fun j => if j ≤ i then lf l j * lf m (i - j) else -(lf l j * lf m (i + l.length - j))) l.length) (P f) := rfl
  rw [e0]
  have BA : Hid (∀ o, Below w.heap.size w (w.alloc o)) := Lib.hid fun o => (Below.refl _ _).alloc (Nat.le_refl _) o
  have HV : Hid (∀ w2, Below w.heap.size w w2 → Calls Tryd.prog 49 #[.int .i64 f, .slice a l.length cap, .slice a2 m.length cap2] w2 (SameB w2 true)) := Lib.hid fun w2 hb => by
    have R1 := sTwo f a a2 l m cap cap2 w2 hn hn2 (hs.keep hb) (hs2.keep hb)
    rwa [two_iff.2 h] at R1
  obtain ⟨hlm, hl, hm⟩ := h
  have hn0 := hl.pos.1
  have hn5 := hl.pos.2
  obtain ⟨h0, h8⟩ := hl.f08
  have hp := P_bd h0 h8
  have q7 : ¬ P f = 0 := by omega
  have HA := Lib.hid hl.lt
  have HB := Lib.hid hm.lt
  rw [← hlm] at hs2 HV ⊢
  obtain ⟨b, off, rfl, hlt, hc⟩ := vec_some hs hn0
  obtain ⟨b2, off2, rfl, hlt2, hc2⟩ := vec_some hs2 hn0
  have HC := Lib.hid hc
  have HC2 := Lib.hid hc2
  clear hs hs2 hc hc2 hl hm hlm hn2
  generalize lf l = A at *
  generalize lf m = B at *
  generalize l.length = n at *
  go_enter Tryd.func27, Tryd.ntmps27
  go_wp2_with fail
  refine (HV.out _ (BA.out _)).mono ?_
  rintro e w' ⟨rfl, rfl⟩
  go_wp2_with fail
  refine (sModulus f _).mono ?_
  rintro e w' ⟨rfl, rfl⟩
  go_wp2_with fail
  go_loopw [7, 10, 11, 12, 13] (fun v i _ _ _ wr => ∃ k : Nat, i = .int .i64 k ∧ k ≤ n ∧ wr.ownsRow w.heap.size 3 1 v k (xsF (fun i => RS (sumN (fun j => if j ≤ i then A j * B (i - j) else -(A j * B (i + n - j))) n) (P f)) k) ∧ Below w.heap.size w wr) (fun _ i _ _ _ _ => n - (intOf i).toNat)
  case atStart => exact ⟨0, rfl, Nat.zero_le _, own_empty w _, BA.out _⟩
  case round =>
    obtain ⟨i, rfl, hin, hown, hnx⟩ := hrel
    have hs := hnx.size
    by_cases h1 : i < n
    · have hd1 : decide ((i : Int) < n) = true := decide_eq_true (by omega)
      have HOWN := Lib.hid hown
      clear hown
      go_wp2_with fail
      go_loopw [11, 12, 13] (fun s j _ W2 => ∃ k : Nat, j = .int .i64 k ∧ k ≤ n ∧ s = .int .i64 (RS (sumN (fun j => if j ≤ i then A j * B (i - j) else -(A j * B (i + n - j))) k) (P f)) ∧ ∃ q, W2 = wr.drewN q) (fun _ j _ _ => n - (intOf j).toNat)
      case atStart => exact ⟨0, rfl, Nat.zero_le _, by simp [sumN, RS], 0, rfl⟩
      case round =>
        obtain ⟨k, rfl, hk, rfl, q, rfl⟩ := hrel
        by_cases h3 : k < n
        · have hd3 : decide ((k : Int) < n) = true := decide_eq_true (by omega)
          have d1 : wr.cell? ⟨b, off + k, none⟩ = some (.int .i64 (A k)) := (hnx.cell (p := ⟨b, off + k, none⟩) hlt).trans (HC.out k h3)
          have hlk : (i + n - k) % n < n := Nat.mod_lt _ (by omega)
          have d2 : wr.cell? ⟨b2, off2 + (i + n - k) % n, none⟩ = some (.int .i64 (B ((i + n - k) % n))) := (hnx.cell (p := ⟨b2, off2 + (i + n - k) % n, none⟩) hlt2).trans (HC2.out _ hlk)
          have bA := HA.out k
          have bB := HB.out ((i + n - k) % n)
          have pb := prod_bd h0 h8 bA.1 bA.2 bB.1 bB.2
          have pr := RS_bd (x := sumN (fun j => if j ≤ i then A j * B (i - j) else -(A j * B (i + n - j))) k) (m := P f) (by omega)
          have HS := Lib.hid (twi_step (f := f) h1 h3 A B)
          have qa : IntKind.i64.wrap ((i : Int) - k) = (i : Int) - k := IntWalk.i64_in _ (by omega)
          have qb : IntKind.i64.wrap ((i : Int) - k + n) = (i : Int) - k + n := IntWalk.i64_in _ (by omega)
          have tm : ((i : Int) - k + n).tmod n = (((i + n - k) % n : Nat) : Int) := by
            rw [show (i : Int) - k + n = (((i + n - k) : Nat) : Int) by omega, Int.tmod_eq_emod_of_nonneg (by omega), Int.natCast_emod]
          have q2 : ((((i + n - k) % n : Nat) : Int)).toNat = (i + n - k) % n := by omega
          have q3 : (0 : Int) ≤ (((i + n - k) % n : Nat) : Int) := by omega
          have q4 : (((i + n - k) % n : Nat) : Int) < n := by omega
          have kz : ((n : Int) == 0) = false := by rw [beq_eq_false_iff_ne]; omega
          have kz2 : ¬ (n : Int) = 0 := by omega
          generalize B ((i + n - k) % n) = Y at *
          generalize (i + n - k) % n = U at *
          have q5 : IntKind.i64.wrap (A k * Y) = A k * Y := IntWalk.i64_in _ (by omega)
          generalize RS (sumN (fun j => if j ≤ i then A j * B (i - j) else -(A j * B (i + n - j))) k) (P f) = X at *
          have XB : 0 ≤ (A k * Y) % P f ∧ (A k * Y) % P f < P f := ⟨Int.emod_nonneg _ (by omega), Int.emod_lt_of_pos _ (by omega)⟩
          by_cases hki : k ≤ i
          · have hdk : decide ((i : Int) < k) = false := decide_eq_false (by omega)
            have HS2 := Lib.hid (HS.out.1 hki)
            clear HS
            go_wp2
            go_quiet (fail)
            go_wp2
            go_roundw
            case rel => exact ⟨k + 1, by go_num, by omega, vint HS2.out, _, rfl⟩
            case measure => simp [intOf]; omega
          · have hdk : decide ((i : Int) < k) = true := decide_eq_true (by omega)
            have HS2 := Lib.hid (HS.out.2 (by omega))
            clear HS
            go_wp2
            go_quiet (fail)
            go_wp2
            go_roundw
            case rel => exact ⟨k + 1, by go_num, by omega, vint HS2.out, _, rfl⟩
            case measure => simp [intOf]; omega
        · have hd3 : decide ((k : Int) < n) = false := decide_eq_false (by omega)
          obtain rfl : k = n := by omega
          have hown : (wr.drewN q).ownsRow w.heap.size 3 1 _ i (xsF (fun i => RS (sumN (fun j => if j ≤ i then A j * B (i - j) else -(A j * B (i + k - j))) k) (P f)) i) := HOWN.out
          have hbq := below_drewN hnx q
          have hqs : (wr.drewN q).heap.size = wr.heap.size := rfl
          go_wp2_with (at_builtin; refine wpList_append_own _ rfl _ _ 22 rfl w.heap.size 3 i0 (.int .i64 0) 1 8 Tryd.underlying22 HI.out HZ0.out HZ1.out HZ2.out rfl (by decide) _ _ _ rfl (hown.alloc _) ⟨(wr.drewN q).heap.size, 0, none⟩ 1 1 [.int .i64 (RS (sumN (fun j => if j ≤ i then A j * B (i - j) else -(A j * B (i + k - j))) k) (P f))] rfl rfl ?d1 ?d2 ?d3 ?d4 ?d5 ?_)
          case d1 => exact cell_one_new _ _ _
          case d2 => intro u hu; simp at hu; subst hu; rfl
          case d3 => unfold maxLen; omega
          case d4 => omega
          case d5 => simp; omega
          intro v' w1 hown' hgrow _
          have hbel : Below w.heap.size w w1 := (hbq.alloc (by omega) _).grown hgrow (by simp; omega) (own_ge hown)
          rw [xsF_succ (fun i => RS (sumN (fun j => if j ≤ i then A j * B (i - j) else -(A j * B (i + k - j))) k) (P f))] at hown'
          clear hgrow hown HOWN
          go_wp2
          go_roundw
          case rel => exact ⟨i + 1, by go_num, by omega, hown', hbel⟩
          case measure => simp [intOf]; omega
    · have hd1 : decide ((i : Int) < n) = false := decide_eq_false (by omega)
      obtain rfl : i = n := by omega
      have HO := Lib.hid (owns_to (w := w) (l := tab i fun t => RS (sumN (fun j => if j ≤ t then A j * B (t - j) else -(A j * B (t + i - j))) i) (P f)) hown (by rw [tab_len]) (fun j hj => by rw [lf_tab, if_pos hj]) hnx)
      clear hown
      go_wp2
      go_ret
      exact HO.out.list
theorem sTwisted (f : Int) (a : Option Addr) (l : List Int) (cap : Nat) (a2 : Option Addr) (m : List Int) (cap2 : Nat) (w : World) (hn : l.length ≤ 1048576) (hn2 : m.length ≤ 1048576) (hs : Src w a l.length (lf l)) (hs2 : Src w a2 m.length (lf m)) : Calls Tryd.prog 27 #[.int .i64 f, .slice a l.length cap, .slice a2 m.length cap2] w (ListL w (mTwisted f l m)) := by
  by_cases h : TwoOk f l m
  · rw [show mTwisted f l m = twiL f l m by unfold mTwisted; rw [if_pos h]]
    exact sTwisted_on f a l cap a2 m cap2 w hn hn2 hs hs2 h
  · rw [show mTwisted f l m = [] by unfold mTwisted; rw [if_neg h]]
    have BA : Hid (∀ o, Below w.heap.size w (w.alloc o)) := Lib.hid fun o => (Below.refl _ _).alloc (Nat.le_refl _) o
    have HV : Hid (∀ w2, Below w.heap.size w w2 → Calls Tryd.prog 49 #[.int .i64 f, .slice a l.length cap, .slice a2 m.length cap2] w2 (SameB w2 false)) := Lib.hid fun w2 hb => by
      have R1 := sTwo f a a2 l m cap cap2 w2 hn hn2 (hs.keep hb) (hs2.keep hb)
      rwa [two_not.2 h] at R1
    clear hs hs2 h
    go_enter Tryd.func27, Tryd.ntmps27
    go_wp2_with fail
    refine (HV.out _ (BA.out _)).mono ?_
    rintro e w' ⟨rfl, rfl⟩
    go_wp2
    go_ret
    exact ⟨none, 0, rfl, .inl rfl, BA.out _⟩
end Go.Proofs.YtnipffmookkkdaaDoor
namespace Go.Proofs.YtnipffmookkkdaaDoor
open Go.RowKit
theorem mRev_on {x : Nat} {k : Nat} (hk : k ≤ 9) (hx : x < 2 ^ k) : mRev x k = (rv x k : Nat) := by
  unfold mRev
  rw [if_pos ⟨⟨by omega, by omega⟩, by omega, by rw [two_cast]; exact_mod_cast hx⟩]
  simp
theorem mRev_off {x k : Int} (h : ¬ ((0 ≤ k ∧ k ≤ 9) ∧ 0 ≤ x ∧ x < two k)) : mRev x k = -1 := if_neg h
theorem rv_bd {x j k : Nat} (hj : j ≤ k) (hk : k ≤ 9) : rv x j < 512 := by
  have := rv_lt x j
  have : 2 ^ j ≤ 2 ^ 9 := Nat.pow_le_pow_right (by omega) (by omega)
  omega
theorem two_512 {k : Nat} (hk : k ≤ 9) : two (k : Int) ≤ 512 := by
  rcases ten hk with rfl | rfl | rfl | rfl | rfl | rfl | rfl | rfl | rfl | rfl <;> decide
theorem ofInt_nat {x : Nat} (h : x < 1073741824) : (BitVec.ofInt 64 (x : Int)).toNat = x := by
  rw [BitVec.toNat_ofInt]
  have : ((x : Int) % ((2 ^ 64 : Nat) : Int)).toNat = x := by rw [Int.emod_eq_of_lt (by omega) (by omega)]; rfl
  exact this
theorem bits_and1 {x : Nat} (h : x < 1073741824) : bits .and .i64 (x : Int) 1 = ((x % 2 : Nat) : Int) := by
  unfold bits
  show IntKind.i64.wrap ((BitVec.ofInt 64 (x : Int) &&& BitVec.ofInt 64 ((1 : Nat) : Int)).toNat : Int) = _
  rw [BitVec.toNat_and, ofInt_nat h, ofInt_nat (by omega), Nat.and_one_is_mod, IntWalk.i64_in _ (by omega)]
theorem bits_or1 {r b : Nat} (hr : r < 1000000) (hb : b < 2) : bits .or .i64 ((r : Int) * 2) (b : Int) = ((2 * r + b : Nat) : Int) := by
  unfold bits
  show IntKind.i64.wrap ((BitVec.ofInt 64 ((r : Int) * 2) ||| BitVec.ofInt 64 (b : Int)).toNat : Int) = _
  have e : 2 * r + b = 2 * r ||| b := by
    have := Nat.two_pow_add_eq_or_of_lt (b := b) (i := 1) (by omega) r
    simpa using this
  rw [BitVec.toNat_or, show (r : Int) * 2 = ((2 * r : Nat) : Int) by omega, ofInt_nat (by omega), ofInt_nat (by omega), ← e, IntWalk.i64_in _ (by omega)]
theorem half_more (x j : Nat) : x / 2 ^ j / 2 = x / 2 ^ (j + 1) := by rw [Nat.div_div_eq_div_mul, Nat.pow_succ]
theorem rv_step {x j : Nat} (hx : x / 2 ^ j < 1073741824) (hr : rv x j < 1000000) : bits .or .i64 (((rv x j : Nat) : Int) * 2) (bits .and .i64 (((x / 2 ^ j : Nat)) : Int) 1) = ((rv x (j + 1) : Nat) : Int) := by
  rw [bits_and1 hx, bits_or1 hr (by omega), rv]
set_option maxHeartbeats 400000 in
theorem iReverse_on (x k : Nat) (w : World) (hk : k ≤ 9) (hx : x < 2 ^ k) : Calls Tryd.prog 80 #[.int .i64 x, .int .i64 k] w fun e w' => e = .returned (.int .i64 (rv x k : Nat)) ∧ w = w' := by
  have ek := shl_nat (k := k) (by omega)
  have hx2 : (x : Int) < two k := by rw [two_cast]; exact_mod_cast hx
  have hd : decide (two k ≤ (x : Int)) = false := by simpa using hx2
  have tb := two_bd (k := (k : Int)) (by omega) (by omega)
  have t9 := two_512 hk
  have x9 : x < 512 := by omega
  clear hx
  go_enter Tryd.func80, Tryd.ntmps80
  go_wp2_with fail
  clear ek hd tb
  go_loop [0, 5, 23] (fun u v i => ∃ j : Nat, i = .int .i64 j ∧ u = .int .i64 ((x / 2 ^ j : Nat) : Int) ∧ v = .int .i64 ((rv x j : Nat) : Int) ∧ j ≤ k) (fun _ _ i => k - (intOf i).toNat)
  case atStart => exact ⟨0, rfl, by simp, rfl, by omega⟩
  case round =>
    obtain ⟨j, rfl, rfl, rfl, hj⟩ := hrel
    have rb := rv_bd (x := x) hj hk
    have xb : x / 2 ^ j ≤ x := Nat.div_le_self _ _
    by_cases hlt : j < k
    · have H1 := Lib.hid (rv_step (x := x) (j := j) (by omega) (by omega))
      go_wp2
      go_round
      case rel => exact ⟨j + 1, by go_num, vint (by rw [← half_more]; simp), vint (by rw [← H1.out]; simp), by omega⟩
      case measure => simp [intOf]; omega
    · have hd : decide (j < k) = false := by simpa using hlt
      obtain rfl : j = k := by omega
      go_wp2
      go_ret
      exact ⟨rfl, rfl⟩
theorem iReverse_off (x k : Int) (w : World) (h : ¬ ((0 ≤ k ∧ k ≤ 9) ∧ 0 ≤ x ∧ x < two k)) : Calls Tryd.prog 80 #[.int .i64 x, .int .i64 k] w fun e w' => e = .returned (.int .i64 (-1)) ∧ w = w' := by
  by_cases k0 : k < 0
  · go_enter Tryd.func80, Tryd.ntmps80
    go_wp2
    go_ret
    exact ⟨rfl, rfl⟩
  · by_cases k9 : 9 < k
    · go_enter Tryd.func80, Tryd.ntmps80
      go_wp2
      go_ret
      exact ⟨rfl, rfl⟩
    · by_cases x0 : x < 0
      · clear h
        go_enter Tryd.func80, Tryd.ntmps80
        go_wp2
        go_ret
        exact ⟨rfl, rfl⟩
      · obtain ⟨k, rfl⟩ := Int.eq_ofNat_of_zero_le (show 0 ≤ k by omega)
        have ek := shl_nat (k := k) (by omega)
        have hx2 : two k ≤ x := by omega
        have hd : decide (two k ≤ x) = true := by simpa using hx2
        clear h
        go_enter Tryd.func80, Tryd.ntmps80
        go_wp2
        go_ret
        exact ⟨rfl, rfl⟩
theorem iReverse (x k : Int) (w : World) : Calls Tryd.prog 80 #[.int .i64 x, .int .i64 k] w fun e w' => e = .returned (.int .i64 (mRev x k)) ∧ w = w' := by
  by_cases h : (0 ≤ k ∧ k ≤ 9) ∧ 0 ≤ x ∧ x < two k
  · obtain ⟨⟨k0, k1⟩, x0, x1⟩ := h
    obtain ⟨k, rfl⟩ := Int.eq_ofNat_of_zero_le k0
    obtain ⟨x, rfl⟩ := Int.eq_ofNat_of_zero_le x0
    have hx : x < 2 ^ k := by rw [two_cast] at x1; exact_mod_cast x1
    rw [mRev_on (by omega) hx]
    exact iReverse_on x k w (by omega) hx
  · rw [mRev_off h]
    exact iReverse_off x k w h
end Go.Proofs.YtnipffmookkkdaaDoor
namespace Go.Proofs.YtnipffmookkkdaaDoor
open Go.RowKit
theorem perm_set {wr : World} {g n k i : Nat} {F : Nat → Int} (hk : k ≤ 9) (hn : n = 2 ^ k) (hi : i < n) (h : Own wr g n (fun j => if rv j k < i then F (rv j k) else 0)) :
    Own (wr.setCell ⟨g, rv i k, none⟩ (.int .i64 (F i))) g n (fun j => if rv j k < i + 1 then F (rv j k) else 0) := by
  subst hn
  refine (World.rowIs.set h (rv i k) (.int .i64 (F i))).congr fun j hj => ?_
  have e1 := rv_twice hk hi
  have e2 := rv_twice hk hj
  by_cases h1 : j = rv i k
  · subst h1; simp [e1]
  · have h2 : rv j k ≠ i := fun e => h1 (by rw [← e, e2])
    by_cases h3 : rv j k < i
    · simp [h1, h3, show rv j k < i + 1 by omega]
    · simp [h1, h3, show ¬ rv j k < i + 1 by omega]
theorem perm_log {n k : Nat} (hk : k ≤ 9) (hn : n = 2 ^ k) : mLog n = k := by
  rw [hn]
  have := log_two hk
  rw [two_cast] at this
  exact_mod_cast this
set_option maxRecDepth 100000 in
set_option maxHeartbeats 800000 in
theorem iPermute_on (b off n cap k : Nat) (F : Nat → Int) (w : World) (hk : k ≤ 9) (hn : n = 2 ^ k) (hlt : b < w.heap.size) (hc : ∀ j, j < n → w.cell? ⟨b, off + j, none⟩ = some (.int .i64 (F j))) :
    Calls Tryd.prog 68 #[.slice (some ⟨b, off, none⟩) n cap] w (CopyP w n (fun j => F (rv j k))) := by
  have HC := Lib.hid hc
  clear hc
  have HN := Lib.hid hn
  have n9 : n ≤ 512 := by
    have : 2 ^ k ≤ 2 ^ 9 := Nat.pow_le_pow_right (by omega) hk
    omega
  have HL := Lib.hid (perm_log hk hn)
  clear hn
  have hmk := run_make_row' (P := Tryd.prog) 22 3 (.int .i64 0) 8 Tryd.underlying22 info3 rfl .i64 .i64 n (by omega) (by omega)
  go_enter Tryd.func68, Tryd.ntmps68
  go_wp2_with fail
  refine (iLogOf n w).mono ?_
  rintro e w' ⟨rfl, rfl⟩
  rw [HL.out]
  go_wp2_with fail
  clear hmk
  go_loopw [5, 6, 17] (fun _ _ i wr => ∃ j : Nat, i = .int .i64 j ∧ j ≤ n ∧ Own wr w.heap.size n (fun x => if rv x k < j then F (rv x k) else 0) ∧ Below w.heap.size w wr) (fun _ _ i _ => n - (intOf i).toNat)
  case atStart =>
    refine ⟨0, rfl, Nat.zero_le _, ?_, (Below.refl _ _).alloc (Nat.le_refl _) _⟩
    exact (World.rowIs_made w (.int .i64 0) n 3).congr fun j _ => by simp
  case round =>
    obtain ⟨j, rfl, hj, ho, hb⟩ := hrel
    by_cases h1 : j < n
    · have c1 : wr.cell? ⟨b, off + j, none⟩ = some (.int .i64 (F j)) := (hb.cell (p := ⟨b, off + j, none⟩) hlt).trans (HC.out j h1)
      have hr : rv j k < n := by rw [HN.out]; exact rv_lt j k
      have c2 := World.rowIs.cell ho hr
      have c3 := World.rowIs.frozen ho (rv j k)
      have HS := Lib.hid (perm_set hk HN.out h1 ho)
      have HR := Lib.hid (mRev_on hk (show j < 2 ^ k by rw [← HN.out]; exact h1))
      go_wp2_with fail
      refine (iReverse j k wr).mono ?_
      rintro e w' ⟨rfl, rfl⟩
      rw [HR.out]
      go_wp2
      go_roundw
      case rel => exact ⟨j + 1, by go_num, by omega, HS.out, hb.setCell (Nat.le_refl _) _⟩
      case measure => simp [intOf]; omega
    · have hd : decide (j < n) = false := by simpa using h1
      obtain rfl : j = n := by omega
      go_wp2
      go_ret
      exact ⟨rfl, World.rowIs.congr ho (fun x _ => by simp [show rv x k < j by rw [HN.out]; exact rv_lt x k]), hb⟩
theorem src_on {w : World} {a : Option Addr} {n : Nat} {F : Nat → Int} (h : Src w a n F) (hn : n ≠ 0) : ∃ b off, a = some ⟨b, off, none⟩ ∧ b < w.heap.size ∧ ∀ j, j < n → w.cell? ⟨b, off + j, none⟩ = some (.int .i64 (F j)) := by
  rcases h with h | h
  · exact absurd h hn
  · exact h
theorem iPermute (a : Option Addr) (n cap k : Nat) (F : Nat → Int) (w : World) (hk : k ≤ 9) (hn : n = 2 ^ k) (hs : Src w a n F) : Calls Tryd.prog 68 #[.slice a n cap] w (CopyP w n (fun j => F (rv j k))) := by
  have h0 : n ≠ 0 := by have : 0 < 2 ^ k := Nat.pow_pos (by omega); omega
  obtain ⟨b, off, rfl, hlt, hc⟩ := src_on hs h0
  exact iPermute_on b off n cap k F w hk hn hlt hc
theorem Src.congr {w : World} {a : Option Addr} {n : Nat} {F G : Nat → Int} (h : Src w a n F) (e : ∀ j, j < n → F j = G j) : Src w a n G := by
  refine h.imp id ?_
  rintro ⟨b, off, e1, hlt, hc⟩
  exact ⟨b, off, e1, hlt, fun j hj => by rw [hc j hj, e j hj]⟩
end Go.Proofs.YtnipffmookkkdaaDoor
namespace Go.Proofs.YtnipffmookkkdaaDoor
open Mth
theorem mod_2 {n x : Nat} (h : n ≤ x) (h2 : x < n + n) : x % n = x - n := by
  rw [Nat.mod_eq_sub_mod h, Nat.mod_eq_of_lt (by omega)]
theorem turn_int {n : Nat} (h : 0 < n) (r : Int) : (r.tmod n + n).tmod n = (turnN n r : Int) ∧ -(n : Int) < r.tmod n ∧ r.tmod n < n := by
  have hn : (0 : Int) < n := by omega
  have b1 : -(n : Int) < r.tmod n ∧ r.tmod n < n := by
    have := Int.tmod_lt_of_pos r hn
    have := Int.lt_tmod_of_pos r hn
    omega
  refine ⟨?_, b1⟩
  rw [Int.tmod_eq_emod_of_nonneg (by omega), Int.add_emod_right, tmod_emod]
  unfold turnN
  rw [Int.toNat_of_nonneg (Int.emod_nonneg _ (by omega))]
theorem turn_inv {n c t k : Nat} (hc : c < n) (ht : t < n) (hk : k < n) : (t + (n - c)) % n = k ↔ t = (k + c) % n := by
  by_cases h1 : c ≤ t
  · rw [mod_2 (n := n) (x := t + (n - c)) (by omega) (by omega)]
    by_cases h2 : k + c < n
    · rw [Nat.mod_eq_of_lt h2]; omega
    · rw [mod_2 (n := n) (x := k + c) (by omega) (by omega)]; omega
  · rw [Nat.mod_eq_of_lt (show t + (n - c) < n by omega)]
    by_cases h2 : k + c < n
    · rw [Nat.mod_eq_of_lt h2]; omega
    · rw [mod_2 (n := n) (x := k + c) (by omega) (by omega)]; omega
/-- The first k numbers moved. -/
def rtp (n c k : Nat) (A : Nat → Int) (t : Nat) : Int := if (t + (n - c)) % n < k then A ((t + (n - c)) % n) else A t
theorem rtp_zero (n c : Nat) (A : Nat → Int) (t : Nat) : rtp n c 0 A t = A t := if_neg (by omega)
theorem rtp_full {n : Nat} (c : Nat) (hn : 0 < n) (A : Nat → Int) (t : Nat) : rtp n c n A t = rotF n c A t := if_pos (Nat.mod_lt _ hn)
theorem rtp_step {n c k : Nat} (hc : c < n) (hk : k < n) (A : Nat → Int) {t : Nat} (ht : t < n) : (if t = (k + c) % n then A k else rtp n c k A t) = rtp n c (k + 1) A t := by
  by_cases h : t = (k + c) % n
  · have := (turn_inv hc ht hk).2 h
    rw [if_pos h]
    unfold rtp
    rw [this, if_pos (by omega)]
  · rw [if_neg h]
    have : (t + (n - c)) % n ≠ k := fun e => h ((turn_inv hc ht hk).1 e)
    unfold rtp
    by_cases h2 : (t + (n - c)) % n < k
    · rw [if_pos h2, if_pos (by omega)]
    · rw [if_neg h2, if_neg (by omega)]
/-- Within one level: the blocks below B done, and of block B the first j pairs. -/
def stDone (h B j t : Nat) : Prop := t < B * (2 * h) ∨ (t < B * (2 * h) + 2 * h ∧ t % (2 * h) % h < j)
instance (h B j t : Nat) : Decidable (stDone h B j t) := inferInstanceAs (Decidable (_ ∨ _))
def stp (f w : Int) (h d : Nat) (V : Nat → Int) (B j t : Nat) : Int := if stDone h B j t then stgF f w h d V t else V t
theorem stp_start (f w : Int) (h d : Nat) (V : Nat → Int) (t : Nat) : stp f w h d V 0 0 t = V t := if_neg (by unfold stDone; omega)
theorem stp_next (f w : Int) {h : Nat} (d : Nat) (V : Nat → Int) (B t : Nat) (h0 : 0 < h) : stp f w h d V B h t = stp f w h d V (B + 1) 0 t := by
  unfold stp
  have e : stDone h B h t ↔ stDone h (B + 1) 0 t := by
    unfold stDone
    have := Nat.mod_lt (t % (2 * h)) h0
    rw [Nat.add_mul, Nat.one_mul]
    omega
  by_cases h1 : stDone h B h t
  · rw [if_pos h1, if_pos (e.1 h1)]
  · rw [if_neg h1, if_neg fun h2 => h1 (e.2 h2)]
theorem blk_mod {h B r : Nat} (hr : r < 2 * h) : (B * (2 * h) + r) % (2 * h) = r := by
  rw [Nat.add_comm, Nat.add_mul_mod_self_right, Nat.mod_eq_of_lt hr]
theorem stp_low {f w : Int} {h d : Nat} {V : Nat → Int} {B j : Nat} (hj : j < h) : stgF f w h d V (B * (2 * h) + j) = RS (V (B * (2 * h) + j) + RS (V (B * (2 * h) + j + h) * w ^ (j * d)) (P f)) (P f) := by
  unfold stgF
  rw [blk_mod (show j < 2 * h by omega), if_pos hj]
theorem stp_high {f w : Int} {h d : Nat} {V : Nat → Int} {B j : Nat} (hj : j < h) : stgF f w h d V (B * (2 * h) + j + h) = RS (V (B * (2 * h) + j) - RS (V (B * (2 * h) + j + h) * w ^ (j * d)) (P f)) (P f) := by
  unfold stgF
  rw [Nat.add_assoc, blk_mod (show j + h < 2 * h by omega), if_neg (by omega), Nat.add_sub_cancel, ← Nat.add_assoc, Nat.add_sub_cancel]
theorem stDone_step {h B j t : Nat} (hj : j < h) : stDone h B (j + 1) t ↔ stDone h B j t ∨ t = B * (2 * h) + j ∨ t = B * (2 * h) + j + h := by
  unfold stDone
  constructor
  · rintro (h1 | ⟨h1, h2⟩)
    · exact .inl (.inl h1)
    · by_cases h3 : t < B * (2 * h)
      · exact .inl (.inl h3)
      · obtain ⟨r, rfl⟩ : ∃ r, t = B * (2 * h) + r := ⟨t - B * (2 * h), by omega⟩
        have hr : r < 2 * h := by omega
        rw [blk_mod hr] at h2 ⊢
        by_cases h4 : r < h
        · rw [Nat.mod_eq_of_lt h4] at h2 ⊢; omega
        · rw [mod_2 (n := h) (x := r) (by omega) (by omega)] at h2 ⊢; omega
  · rintro ((h1 | ⟨h1, h2⟩) | rfl | rfl)
    · exact .inl h1
    · exact .inr ⟨h1, by omega⟩
    · refine .inr ⟨by omega, ?_⟩
      rw [blk_mod (show j < 2 * h by omega), Nat.mod_eq_of_lt hj]; omega
    · refine .inr ⟨by omega, ?_⟩
      rw [Nat.add_assoc, blk_mod (show j + h < 2 * h by omega), Nat.add_mod_right, Nat.mod_eq_of_lt hj]; omega
theorem stp_step {f w : Int} {h d : Nat} {V : Nat → Int} {B j : Nat} (hj : j < h) (t : Nat) :
    (if t = B * (2 * h) + j + h then stgF f w h d V (B * (2 * h) + j + h) else if t = B * (2 * h) + j then stgF f w h d V (B * (2 * h) + j) else stp f w h d V B j t) = stp f w h d V B (j + 1) t := by
  have e := stDone_step (B := B) (t := t) hj
  unfold stp
  by_cases h1 : t = B * (2 * h) + j + h
  · rw [if_pos h1, if_pos (e.2 (.inr (.inr h1))), h1]
  · rw [if_neg h1]
    by_cases h2 : t = B * (2 * h) + j
    · rw [if_pos h2, if_pos (e.2 (.inr (.inl h2))), h2]
    · rw [if_neg h2]
      by_cases h3 : stDone h B j t
      · rw [if_pos h3, if_pos (e.2 (.inl h3))]
      · rw [if_neg h3, if_neg fun h4 => by rcases e.1 h4 with h5 | h5 | h5 <;> contradiction]
/-- What is read within a level has not been written yet. -/
theorem stp_read {f w : Int} {h d : Nat} {V : Nat → Int} {B j : Nat} (hj : j < h) : stp f w h d V B j (B * (2 * h) + j) = V (B * (2 * h) + j) ∧ stp f w h d V B j (B * (2 * h) + j + h) = V (B * (2 * h) + j + h) := by
  constructor
  · refine if_neg fun hd => ?_
    rcases hd with h1 | ⟨_, h1⟩
    · omega
    · rw [blk_mod (show j < 2 * h by omega), Nat.mod_eq_of_lt hj] at h1; omega
  · refine if_neg fun hd => ?_
    rcases hd with h1 | ⟨_, h1⟩
    · omega
    · rw [Nat.add_assoc, blk_mod (show j + h < 2 * h by omega), Nat.add_mod_right, Nat.mod_eq_of_lt hj] at h1; omega
theorem stp_end {f w : Int} {h d n B : Nat} (hn : n = B * (2 * h)) (V : Nat → Int) {t : Nat} (ht : t < n) : stp f w h d V B 0 t = stgF f w h d V t := if_pos (.inl (by omega))
/-- The list of a level is a vector. -/
theorem stgF_bd {f w : Int} {h d : Nat} {V : Nat → Int} (hp : 0 < P f) (t : Nat) : 0 ≤ stgF f w h d V t ∧ stgF f w h d V t < P f := by
  unfold stgF
  split <;> exact RS_bd hp
theorem VecOk.stg {f : Int} {l : List Int} (h : VecOk f l) (s : Nat) : VecOk f (stgL f l s) := h.tab rfl _ fun _ _ => stgF_bd (P_pos h.f08.1 h.f08.2) _
theorem stgL_len (f : Int) (l : List Int) (s : Nat) : (stgL f l s).length = l.length := tab_len _ _
theorem pow_half {k s : Nat} (h : s < k) : 2 ^ k = 2 ^ (k - s - 1) * (2 * 2 ^ s) := by
  have : k = k - s - 1 + (s + 1) := by omega
  conv => lhs; rw [this]
  rw [Nat.pow_add, Nat.pow_succ, Nat.mul_comm (2 ^ s) 2]
/-- One level of the list. -/
theorem stage_lev {f : Int} {l : List Int} {k s : Nat} {X : Nat → Int} (h : VecOk f l) (hk : l.length = 2 ^ k) (hs : s < k) (hl : Lev f (rootL f l) k s X (lf l)) : Lev f (rootL f l) k (s + 1) X (lf (stgL f l s)) := by
  have hr := h.rt
  rw [hk] at hr
  have g0 : 0 < 2 ^ s := Nat.pow_pos (by omega)
  have ed : l.length / (2 * 2 ^ s) = 2 ^ (k - s - 1) := by rw [hk, pow_half hs, Nat.mul_div_cancel _ (by omega)]
  have e2 : (2 : Nat) ^ (s + 1) = 2 * 2 ^ s := by rw [Nat.pow_succ, Nat.mul_comm]
  have hin : ∀ b t, b < 2 ^ (k - s - 1) → t < 2 ^ s → b * (2 * 2 ^ s) + t + 2 ^ s < l.length := fun b t hb ht => by
    rw [hk, pow_half hs]
    have := Nat.mul_le_mul_right (2 * 2 ^ s) (show b + 1 ≤ 2 ^ (k - s - 1) by omega)
    rw [Nat.add_mul, Nat.one_mul] at this
    omega
  have key : ∀ t, t < l.length → lf (stgL f l s) t = stgF f (rootL f l) (2 ^ s) (2 ^ (k - s - 1)) (lf l) t := fun t ht => by
    unfold stgL
    rw [lf_tab, if_pos ht, ed]
  refine hl.step hr hs (fun b t hb ht => ?_) (fun b t hb ht => ?_)
  · rw [e2, key _ (by have := hin b t hb ht; omega), stp_low ht]
    unfold RS
    rw [Int.emod_emod_of_dvd _ (Int.dvd_refl _)]
    exact emod_add_congr rfl (Int.emod_emod_of_dvd _ (Int.dvd_refl _))
  · rw [e2, key _ (hin b t hb ht), stp_high ht]
    unfold RS
    rw [Int.emod_emod_of_dvd _ (Int.dvd_refl _)]
    exact emod_sub_congr rfl (Int.emod_emod_of_dvd _ (Int.dvd_refl _))
/-- A vector that has gone through all levels is the transform. -/
theorem lev_fwd {f : Int} {l v : List Int} {k : Nat} (_h : VecOk f l) (hv : VecOk f v) (hk : l.length = 2 ^ k) (hl : v.length = l.length) (hlev : Lev f (rootL f l) k k (lf l) (lf v)) : v = fwdL f l := by
  refine list_ext (by rw [fwdL_len, hl]) fun i hi => ?_
  rw [hl] at hi
  have := hlev.last (t := i) (by omega)
  rw [lf_fwdL hi, hk, ← this]
  have b := hv.lt i
  rw [Int.emod_eq_of_lt b.1 b.2]
/-- Powers of the root by mPower. -/
theorem power_root {f : Int} {l : List Int} (h : VecOk f l) {e : Nat} (he : e < l.length) : mPower f (rootL f l) e = rootL f l ^ e % P f := by
  obtain ⟨k, hk9, hn, hl, hk⟩ := h.log
  have e1 : two (k : Int) = (l.length : Int) := by unfold two; rw [hn, Int.toNat_natCast, Int.natCast_pow]; rfl
  unfold rootL
  rw [hl, power_roots hk (by rw [e1]; omega), rootsF_pow hk]
end Go.Proofs.YtnipffmookkkdaaDoor
namespace Go.Proofs.YtnipffmookkkdaaDoor
open Mth
theorem rotL_len (l : List Int) (r : Int) : (rotL l r).length = l.length := tab_len _ _
end Go.Proofs.YtnipffmookkkdaaDoor
namespace Go.Proofs.YtnipffmookkkdaaDoor
open Mth
/-- n levels from level s on. -/
def lvL (f : Int) (l : List Int) (s : Nat) : Nat → List Int
  | 0 => l
  | n + 1 => stgL f (lvL f l s n) (s + n)
theorem lvL_len (f : Int) (l : List Int) (s n : Nat) : (lvL f l s n).length = l.length := by
  induction n with
  | zero => rfl
  | succ n ih => show (stgL f _ _).length = _; rw [stgL_len, ih]
theorem VecOk.lv {f : Int} {l : List Int} (h : VecOk f l) (s n : Nat) : VecOk f (lvL f l s n) := by
  induction n with
  | zero => exact h
  | succ n ih => exact ih.stg _
theorem lv_lev {f : Int} {l : List Int} {k s : Nat} {X : Nat → Int} (h : VecOk f l) (hk : l.length = 2 ^ k) (hl : Lev f (rootL f l) k s X (lf l)) : ∀ n, s + n ≤ k → Lev f (rootL f l) k (s + n) X (lf (lvL f l s n))
  | 0, _ => hl
  | n + 1, hn => by
    have h1 := lv_lev h hk hl n (by omega)
    have e : rootL f (lvL f l s n) = rootL f l := rootL_len (lvL_len f l s n)
    rw [← e] at h1 ⊢
    exact stage_lev (h.lv s n) (by rw [lvL_len, hk]) (show s + n < k by omega) h1
/-- A level, written place by place, is the list of the level. -/
theorem stp_list {f : Int} {l : List Int} {k q : Nat} (hk : l.length = 2 ^ k) (hq : q < k) (j : Nat) : stp f (rootL f l) (2 ^ q) (2 ^ (k - q - 1)) (lf l) (2 ^ (k - q - 1)) 0 j = lf (stgL f l q) j := by
  have g0 : 0 < 2 ^ q := Nat.pow_pos (by omega)
  have hn : l.length = 2 ^ (k - q - 1) * (2 * 2 ^ q) := by rw [hk, pow_half hq]
  unfold stgL
  rw [lf_tab]
  by_cases hj : j < l.length
  · rw [if_pos hj, stp_end hn _ hj]
    rw [hn, Nat.mul_div_cancel _ (by omega)]
  · rw [if_neg hj]
    unfold stp
    rw [if_neg, lf_out l (by omega)]
    rintro (h1 | ⟨_, h1⟩)
    · omega
    · omega
def permL (l : List Int) (k : Nat) : List Int := tab l.length fun j => lf l (rv j k)
theorem permL_len (l : List Int) (k : Nat) : (permL l k).length = l.length := tab_len _ _
theorem VecOk.perm {f : Int} {l : List Int} (h : VecOk f l) (k : Nat) : VecOk f (permL l k) := h.tab rfl _ fun _ _ => h.lt _
/-- Reversed bits, then all levels: the transform. -/
theorem lv_fwd {f : Int} {l : List Int} {k : Nat} (h : VecOk f l) (hk : l.length = 2 ^ k) : lvL f (permL l k) 0 k = fwdL f l := by
  have hp := permL_len l k
  have hlev : Lev f (rootL f (permL l k)) k 0 (lf l) (lf (permL l k)) := Lev.start fun j hj => by unfold permL; rw [lf_tab, if_pos (by omega)]
  have h1 := lv_lev (h.perm k) (by rw [hp, hk]) hlev k (by omega)
  rw [Nat.zero_add, rootL_len hp] at h1
  exact lev_fwd h ((h.perm k).lv 0 k) hk (by rw [lvL_len, hp]) h1
/-- The numbers at the negated places. -/
def mirL (l : List Int) : List Int := tab l.length fun j => lf l ((l.length - j) % l.length)
theorem mirL_len (l : List Int) : (mirL l).length = l.length := tab_len _ _
theorem lf_mirL {l : List Int} {j : Nat} (h : j < l.length) : lf (mirL l) j = lf l ((l.length - j) % l.length) := by unfold mirL; rw [lf_tab, if_pos h]
theorem VecOk.mir {f : Int} {l : List Int} (h : VecOk f l) : VecOk f (mirL l) := h.tab rfl _ fun _ _ => h.lt _
theorem mir_inv {n i : Nat} (hi : i < n) : (n - (n - i) % n) % n = i := by
  by_cases h : i = 0
  · subst h; rw [Nat.sub_zero, Nat.mod_self, Nat.sub_zero, Nat.mod_self]
  · rw [Nat.mod_eq_of_lt (show n - i < n by omega), show n - (n - i) = i by omega, Nat.mod_eq_of_lt hi]
theorem mir_at {n j k : Nat} (hj : j < n) (hk : k < n) : (n - j) % n = k ↔ j = (n - k) % n := by
  constructor
  · intro h; rw [← h, mir_inv hj]
  · intro h; rw [h, mir_inv hk]
/-- A transform at a negated place is the transform by the inverse root. -/
theorem ft_mirror {f w v : Int} {n : Nat} (h : Rt f w v n) (A : Nat → Int) {j : Nat} (hj : j < n) : ftF w n A ((n - j) % n) % P f = ftF v n A j % P f := by
  unfold ftF
  refine sumN_mod fun t _ => emod_mul_congr rfl ?_
  have e4 : w ^ ((n - j) % n * t) % P f = w ^ ((n - j) * t) % P f := h.exp (by rw [Nat.mul_mod, Nat.mod_mod, ← Nat.mul_mod])
  rw [e4]
  have e5 : (v ^ (j * t) * (v ^ ((n - j) * t) * w ^ ((n - j) * t))) % P f = (v ^ (j * t) * 1) % P f := emod_mul_congr rfl (h.swap.wv _)
  have e6 : v ^ (j * t) * (v ^ ((n - j) * t) * w ^ ((n - j) * t)) = v ^ (n * t) * w ^ ((n - j) * t) := by
    rw [← Int.mul_assoc, ← Int.pow_add, ← Nat.add_mul, Nat.add_sub_cancel' (Nat.le_of_lt hj)]
  have e7 : (v ^ (n * t) * w ^ ((n - j) * t)) % P f = (1 * w ^ ((n - j) * t)) % P f := emod_mul_congr ((h.swap.ord _).2 (Nat.dvd_mul_right n t)) rfl
  rw [Int.mul_one] at e5
  rw [Int.one_mul] at e7
  rw [← e5, e6, e7]
/-- The transform back, as the program makes it. -/
theorem bwd_by_fwd {f : Int} {l : List Int} (h : VecOk f l) {i : Nat} (hi : i < l.length) : RS (lf (mirL (fwdL f l)) i * mPower f l.length (-1)) (P f) = lf (bwdL f l) i := by
  have hf := fwdL_len f l
  rw [lf_mirL (by rw [hf]; exact hi), hf, lf_fwdL (Nat.mod_lt _ (by omega)), lf_bwdL hi, RS]
  have e := ft_mirror h.rt (lf l) hi
  rw [e]
  exact emod_mul_congr (Int.emod_emod_of_dvd _ (Int.dvd_refl _)) rfl
/-- The cyclic product, as the program makes it. -/
theorem cyc_by_fwd {f : Int} {a b : List Int} (h : TwoOk f a b) : bwdL f (ptwL f (fwdL f a) (fwdL f b)) = cycL f a b := by
  obtain ⟨e, _, e1, e2, e3⟩ := fwd_cyc h
  have hc : VecOk f (cycL f a b) := h.2.1.tab rfl _ fun _ _ => RS_bd (P_pos h.2.1.f08.1 h.2.1.f08.2)
  have hp : TwoOk f (fwdL f a) (fwdL f b) := ⟨by rw [fwdL_len, fwdL_len, h.1], h.2.1.fwd, h.2.2.fwd⟩
  have h1 := back_fwd hc
  have hv : VecOk f (ptwL f (fwdL f a) (fwdL f b)) := hp.2.1.tab rfl _ fun _ _ => RS_bd (P_pos h.2.1.f08.1 h.2.1.f08.2)
  rw [e1, e2, e3] at e
  rw [e] at h1
  unfold mPointwise at h1
  rw [if_pos hp] at h1
  unfold mBackward at h1
  rw [if_pos hv] at h1
  exact h1
theorem sumN_rev (G : Nat → Int) : ∀ m, sumN (fun j => G (m - 1 - j)) m = sumN G m
  | 0 => rfl
  | m + 1 => by
    rw [sumN_first]
    have : sumN (fun i => G (m + 1 - 1 - (i + 1))) m = sumN (fun j => G (m - 1 - j)) m := sumN_congr fun i _ => by rw [show m + 1 - 1 - (i + 1) = m - 1 - i by omega]
    rw [this, sumN_rev G m]
    show G (m + 1 - 1 - 0) + _ = sumN G m + G m
    rw [show m + 1 - 1 - 0 = m by omega]
    omega
theorem sumN_mirror (F : Nat → Int) : ∀ n, sumN (fun j => F ((n - j) % n)) n = sumN F n
  | 0 => rfl
  | m + 1 => by
    rw [sumN_first, sumN_first]
    have e0 : (m + 1 - 0) % (m + 1) = 0 := by rw [Nat.sub_zero, Nat.mod_self]
    rw [e0]
    congr 1
    rw [← sumN_rev (fun i => F (i + 1)) m]
    exact sumN_congr fun i hi => by rw [Nat.mod_eq_of_lt (by omega), show m + 1 - (i + 1) = m - 1 - i + 1 by omega]
/-- A correlation is a cyclic product with the first vector mirrored. -/
theorem cor_by_cyc {f : Int} {a b : List Int} (_h : TwoOk f a b) : cycL f (mirL a) b = corL f a b := by
  unfold cycL corL
  rw [mirL_len]
  refine tab_congr fun i hi => ?_
  congr 1
  unfold cycF corF
  rw [← sumN_mirror (fun j => lf a j * lf b ((j + i) % a.length)) a.length]
  refine sumN_congr fun j hj => ?_
  rw [lf_mirL hj]
  congr 2
  by_cases hz : j = 0
  · subst hz
    rw [Nat.sub_zero, Nat.sub_zero, Nat.mod_self, Nat.zero_add, Nat.add_mod_right]
  · rw [Nat.mod_eq_of_lt (show a.length - j < a.length by omega), show i + a.length - j = a.length - j + i by omega]
end Go.Proofs.YtnipffmookkkdaaDoor
namespace Go.Proofs.YtnipffmookkkdaaDoor
open Go.RowKit
theorem mLog_le (n : Int) : mLog n ≤ 9 := by
  rcases log_cases n with ⟨k, hk, _, hl⟩ | ⟨_, hl⟩ <;> omega
set_option maxHeartbeats 800000 in
theorem iVectorOk (f : Int) (a : Option Addr) (l : List Int) (cap : Nat) (w : World) (hn : l.length ≤ 1048576) (hs : Src w a l.length (lf l)) (ht : Tab w) : Calls Tryd.prog 15 #[.int .i64 f, .slice a l.length cap] w (SameB w (mVectorOk f l)) := by
  have hl9 := mLog_le l.length
  by_cases hk : hasK f (mLog l.length)
  · have H1 := Lib.hid (hasRoots_yes f (mLog l.length) w ht hk hl9)
    obtain ⟨h0, h8⟩ := hk.1
    have hv : mVectorOk f l = true ↔ AllIn f l := by
      rw [vok_iff]
      exact ⟨fun h => h.2, fun h => ⟨(hasK_iff f _).1 hk, h⟩⟩
    have H2 := Lib.hid (hasAll_c f a l cap w ht h0 h8 hn hs (mVectorOk f l) hv)
    clear hs hv hk hl9
    have H3 := Lib.hid (iLogOf l.length w)
    generalize mLog l.length = L at *
    go_enter Tryd.func15, Tryd.ntmps15
    go_wp2_with fail
    refine H3.out.mono ?_
    rintro e w' ⟨rfl, rfl⟩
    go_wp2_with fail
    refine H1.out.mono ?_
    rintro e w' ⟨rfl, rfl⟩
    go_wp2_with fail
    refine H2.out.mono ?_
    rintro e w' ⟨rfl, rfl⟩
    go_wp2
    go_ret
    exact ⟨rfl, rfl⟩
  · have H1 := Lib.hid (hasRoots_no f (mLog l.length) w ht (fun h => hk h.1))
    have HB := Lib.hid (vok_not.2 fun h : VecOk f l => hk ((hasK_iff f _).2 h.1))
    clear hs hk hl9
    have H3 := Lib.hid (iLogOf l.length w)
    generalize mLog l.length = L at *
    go_enter Tryd.func15, Tryd.ntmps15
    go_wp2_with fail
    refine H3.out.mono ?_
    rintro e w' ⟨rfl, rfl⟩
    go_wp2_with fail
    refine H1.out.mono ?_
    rintro e w' ⟨rfl, rfl⟩
    go_wp2
    go_ret
    exact ⟨by rw [HB.out]; rfl, rfl⟩
set_option maxHeartbeats 800000 in
theorem areVectors_c (f : Int) (a a2 : Option Addr) (l m : List Int) (cap cap2 : Nat) (w : World) (hn : l.length ≤ 1048576) (hn2 : m.length ≤ 1048576) (hs : Src w a l.length (lf l)) (hs2 : Src w a2 m.length (lf m)) (ht : Tab w) : Calls Tryd.prog 50 #[.int .i64 f, .slice a l.length cap, .slice a2 m.length cap2] w (SameB w (mTwo f l m)) := by
  by_cases he : l.length = m.length
  · have hd : ((l.length : Int) == m.length) = true := by rw [beq_iff_eq]; omega
    have R1 := iVectorOk f a l cap w hn hs ht
    have R2 := iVectorOk f a2 m cap2 w hn2 hs2 ht
    by_cases h1 : VecOk f l
    · rw [vok_iff.2 h1] at R1
      have HM : Hid (mTwo f l m = mVectorOk f m) := Lib.hid (by
        by_cases h2 : VecOk f m
        · rw [vok_iff.2 h2, two_iff.2 ⟨he, h1, h2⟩]
        · rw [vok_not.2 h2, two_not.2 fun h => h2 h.2.2])
      have HR1 := Lib.hid R1
      have HR2 := Lib.hid R2
      clear R1 R2 hs hs2 h1 he
      go_enter Tryd.func50, Tryd.ntmps50
      go_wp2_with fail
      refine HR1.out.mono ?_
      rintro e w' ⟨rfl, rfl⟩
      go_wp2_with fail
      refine HR2.out.mono ?_
      rintro e w' ⟨rfl, rfl⟩
      go_wp2
      go_ret
      exact ⟨by rw [HM.out]; rfl, rfl⟩
    · rw [vok_not.2 h1] at R1
      have HM := Lib.hid (two_not.2 fun h : TwoOk f l m => h1 h.2.1)
      have HR1 := Lib.hid R1
      clear R1 R2 hs hs2 h1 he
      go_enter Tryd.func50, Tryd.ntmps50
      go_wp2_with fail
      refine HR1.out.mono ?_
      rintro e w' ⟨rfl, rfl⟩
      go_wp2
      go_ret
      exact ⟨by rw [HM.out]; rfl, rfl⟩
  · have hd : ((l.length : Int) == m.length) = false := by rw [beq_eq_false_iff_ne]; omega
    have HM := Lib.hid (two_not.2 fun h : TwoOk f l m => he h.1)
    clear hs hs2 he
    go_enter Tryd.func50, Tryd.ntmps50
    go_wp2
    go_ret
    exact ⟨by rw [HM.out]; rfl, rfl⟩
/-- A list of n numbers of which the first k have been put at their places, by a map of places that is one to one. -/
theorem place_set {wr : World} {g n k : Nat} {F : Nat → Int} (q : Nat → Nat) (u : Nat) (hq : ∀ j, j < n → (q j = k ↔ j = u)) (h : Own wr g n (fun j => if q j < k then F (q j) else 0)) :
    Own (wr.setCell ⟨g, u, none⟩ (.int .i64 (F k))) g n (fun j => if q j < k + 1 then F (q j) else 0) := by
  refine (World.rowIs.set h u (.int .i64 (F k))).congr fun j hj => ?_
  by_cases h1 : j = u
  · have := (hq j hj).2 h1
    simp [h1]
    rw [← h1, this]
    simp
  · have h2 : q j ≠ k := fun e => h1 ((hq j hj).1 e)
    by_cases h3 : q j < k
    · simp [h1, h3, show q j < k + 1 by omega]
    · simp [h1, h3, show ¬ q j < k + 1 by omega]
set_option maxRecDepth 100000 in
set_option maxHeartbeats 800000 in
theorem mirrored_some (b off n cap : Nat) (F : Nat → Int) (w : World) (n0 : 0 < n) (hn : n ≤ 1048576) (hlt : b < w.heap.size) (hc : ∀ j, j < n → w.cell? ⟨b, off + j, none⟩ = some (.int .i64 (F j))) :
    Calls Tryd.prog 62 #[.slice (some ⟨b, off, none⟩) n cap] w (CopyP w n (fun j => F ((n - j) % n))) := by
  have HC := Lib.hid hc
  clear hc
  have hmk := made_n n hn
  have kz : ((n : Int) == 0) = false := by rw [beq_eq_false_iff_ne]; omega
  go_enter Tryd.func62, Tryd.ntmps62
  go_wp2_with fail
  clear hmk
  go_loopw [4, 5, 11] (fun _ _ i wr => ∃ j : Nat, i = .int .i64 j ∧ j ≤ n ∧ Own wr w.heap.size n (fun x => if (n - x) % n < j then F ((n - x) % n) else 0) ∧ Below w.heap.size w wr) (fun _ _ i _ => n - (intOf i).toNat)
  case atStart =>
    refine ⟨0, rfl, Nat.zero_le _, ?_, (Below.refl _ _).alloc (Nat.le_refl _) _⟩
    exact (World.rowIs_made w (.int .i64 0) n 3).congr fun j _ => by simp
  case round =>
    obtain ⟨j, rfl, hj, ho, hb⟩ := hrel
    by_cases h1 : j < n
    · have c1 : wr.cell? ⟨b, off + j, none⟩ = some (.int .i64 (F j)) := (hb.cell (p := ⟨b, off + j, none⟩) hlt).trans (HC.out j h1)
      have hd1 : decide ((j : Int) < n) = true := decide_eq_true (by omega)
      have HS := Lib.hid (place_set (fun x => (n - x) % n) ((n - j) % n) (fun x hx => mir_at hx h1) ho)
      have hU : (n - j) % n < n := Nat.mod_lt _ n0
      have c2 := World.rowIs.cell ho hU
      have c3 := World.rowIs.frozen ho ((n - j) % n)
      have tm : ((n : Int) - j).tmod n = (((n - j) % n : Nat) : Int) := by rw [show (n : Int) - j = ((n - j : Nat) : Int) by omega, Int.tmod_eq_emod_of_nonneg (by omega), Int.natCast_emod]
      have qc : IntKind.i64.wrap ((n : Int) - j) = (n : Int) - j := IntWalk.i64_in _ (by omega)
      clear ho
      generalize (n - j) % n = U at *
      go_wp2
      go_roundw
      case rel => exact ⟨j + 1, by go_num, by omega, HS.out, hb.setCell (Nat.le_refl _) _⟩
      case measure => simp [intOf]; omega
    · have hd : decide (j < n) = false := by simpa using h1
      obtain rfl : j = n := by omega
      go_wp2
      go_ret
      exact ⟨rfl, World.rowIs.congr ho (fun x _ => by simp [show (j - x) % j < j from Nat.mod_lt _ n0]), hb⟩
theorem mirrored_c (a : Option Addr) (l : List Int) (cap : Nat) (w : World) (n0 : 0 < l.length) (hn : l.length ≤ 1048576) (hs : Src w a l.length (lf l)) : Calls Tryd.prog 62 #[.slice a l.length cap] w (OwnG w (mirL l)) := by
  obtain ⟨b, off, rfl, hlt, hc⟩ := vec_some hs n0
  refine (mirrored_some b off l.length cap (lf l) w n0 hn hlt hc).mono ?_
  rintro e w' ⟨rfl, ho, hb⟩
  exact OwnG.of_own ho (mirL_len l).symm (Nat.le_refl _) (fun j hj => (lf_mirL hj).symm) hb
set_option maxRecDepth 100000 in
set_option maxHeartbeats 800000 in
theorem rotated_some (b off n cap c : Nat) (F : Nat → Int) (w : World) (n0 : 0 < n) (hn : n ≤ 1048576) (hcn : c < n) (hlt : b < w.heap.size) (hc : ∀ j, j < n → w.cell? ⟨b, off + j, none⟩ = some (.int .i64 (F j))) :
    Calls Tryd.prog 63 #[.slice (some ⟨b, off, none⟩) n cap, .int .i64 c] w (CopyP w n (rotF n c F)) := by
  have HC := Lib.hid hc
  clear hc
  have hmk := made_n n hn
  have kz : ((n : Int) == 0) = false := by rw [beq_eq_false_iff_ne]; omega
  go_enter Tryd.func63, Tryd.ntmps63
  go_wp2_with fail
  clear hmk
  go_loopw [6, 7, 13] (fun _ _ i wr => ∃ j : Nat, i = .int .i64 j ∧ j ≤ n ∧ Own wr w.heap.size n (fun x => if (x + (n - c)) % n < j then F ((x + (n - c)) % n) else 0) ∧ Below w.heap.size w wr) (fun _ _ i _ => n - (intOf i).toNat)
  case atStart =>
    refine ⟨0, rfl, Nat.zero_le _, ?_, (Below.refl _ _).alloc (Nat.le_refl _) _⟩
    exact (World.rowIs_made w (.int .i64 0) n 3).congr fun j _ => by simp
  case round =>
    obtain ⟨j, rfl, hj, ho, hb⟩ := hrel
    by_cases h1 : j < n
    · have c1 : wr.cell? ⟨b, off + j, none⟩ = some (.int .i64 (F j)) := (hb.cell (p := ⟨b, off + j, none⟩) hlt).trans (HC.out j h1)
      have hd1 : decide ((j : Int) < n) = true := decide_eq_true (by omega)
      have HS := Lib.hid (place_set (fun x => (x + (n - c)) % n) ((j + c) % n) (fun x hx => turn_inv hcn hx h1) ho)
      have hU : (j + c) % n < n := Nat.mod_lt _ n0
      have c2 := World.rowIs.cell ho hU
      have c3 := World.rowIs.frozen ho ((j + c) % n)
      have tm : ((j : Int) + c).tmod n = (((j + c) % n : Nat) : Int) := by rw [show (j : Int) + c = ((j + c : Nat) : Int) by omega, Int.tmod_eq_emod_of_nonneg (by omega), Int.natCast_emod]
      have qc : IntKind.i64.wrap ((j : Int) + c) = (j : Int) + c := IntWalk.i64_in _ (by omega)
      clear ho
      generalize (j + c) % n = U at *
      go_wp2
      go_roundw
      case rel => exact ⟨j + 1, by go_num, by omega, HS.out, hb.setCell (Nat.le_refl _) _⟩
      case measure => simp [intOf]; omega
    · have hd : decide (j < n) = false := by simpa using h1
      obtain rfl : j = n := by omega
      go_wp2
      go_ret
      exact ⟨rfl, World.rowIs.congr ho (fun x _ => by simp [rotF, show (x + (j - c)) % j < j from Nat.mod_lt _ n0]), hb⟩
set_option maxRecDepth 100000 in
set_option maxHeartbeats 1600000 in
theorem pointwise_some (f : Int) (b off b2 off2 n cap cap2 : Nat) (A B : Nat → Int) (w : World) (ht : Tab w) (h0 : 0 ≤ f) (h8 : f ≤ 8) (hn : n ≤ 1048576) (hA : ∀ j, 0 ≤ A j ∧ A j < P f) (hB : ∀ j, 0 ≤ B j ∧ B j < P f) (hlt : b < w.heap.size) (hlt2 : b2 < w.heap.size)
    (hc : ∀ j, j < n → w.cell? ⟨b, off + j, none⟩ = some (.int .i64 (A j))) (hc2 : ∀ j, j < n → w.cell? ⟨b2, off2 + j, none⟩ = some (.int .i64 (B j))) :
    Calls Tryd.prog 51 #[.int .i64 f, .slice (some ⟨b, off, none⟩) n cap, .slice (some ⟨b2, off2, none⟩) n cap2] w (CopyP w n (fun j => RS (A j * B j) (P f))) := by
  have HC := Lib.hid hc
  have HC2 := Lib.hid hc2
  have HA := Lib.hid hA
  have HB := Lib.hid hB
  clear hc hc2 hA hB
  have hmk := made_n n hn
  go_enter Tryd.func51, Tryd.ntmps51
  go_wp2_with fail
  clear hmk
  go_loopw [8, 9, 15] (fun _ _ i wr => ∃ j : Nat, i = .int .i64 j ∧ j ≤ n ∧ Own wr w.heap.size n (fun x => if x < j then RS (A x * B x) (P f) else 0) ∧ Below w.heap.size w wr) (fun _ _ i _ => n - (intOf i).toNat)
  case atStart =>
    refine ⟨0, rfl, Nat.zero_le _, ?_, (Below.refl _ _).alloc (Nat.le_refl _) _⟩
    exact (World.rowIs_made w (.int .i64 0) n 3).congr fun j _ => by simp
  case round =>
    obtain ⟨j, rfl, hj, ho, hb⟩ := hrel
    by_cases h1 : j < n
    · have c1 : wr.cell? ⟨b, off + j, none⟩ = some (.int .i64 (A j)) := (hb.cell (p := ⟨b, off + j, none⟩) hlt).trans (HC.out j h1)
      have c2 : wr.cell? ⟨b2, off2 + j, none⟩ = some (.int .i64 (B j)) := (hb.cell (p := ⟨b2, off2 + j, none⟩) hlt2).trans (HC2.out j h1)
      have hd1 : decide ((j : Int) < n) = true := decide_eq_true (by omega)
      have HS := Lib.hid (copy_set (w := w) (F := fun x => RS (A x * B x) (P f)) ho)
      have c3 := World.rowIs.cell ho h1
      have c4 := World.rowIs.frozen ho j
      have hAj := HA.out j
      have hBj := HB.out j
      clear ho
      go_wp2_with fail
      refine (mul_c f (A j) (B j) wr (ht.below hb) h0 h8 hAj.1 hAj.2 hBj.1 hBj.2).mono ?_
      rintro e w' ⟨rfl, rfl⟩
      go_wp2
      go_roundw
      case rel => exact ⟨j + 1, by go_num, by omega, HS.out, hb.setCell (Nat.le_refl _) _⟩
      case measure => simp [intOf]; omega
    · have hd : decide (j < n) = false := by simpa using h1
      obtain rfl : j = n := by omega
      go_wp2
      go_ret
      exact ⟨rfl, World.rowIs.congr ho (fun x hx => by simp [hx]), hb⟩
theorem pointwise_c (f : Int) (a : Option Addr) (l : List Int) (cap : Nat) (a2 : Option Addr) (m : List Int) (cap2 : Nat) (w : World) (hs : Src w a l.length (lf l)) (hs2 : Src w a2 m.length (lf m)) (ht : Tab w) (h : TwoOk f l m) : Calls Tryd.prog 51 #[.int .i64 f, .slice a l.length cap, .slice a2 m.length cap2] w (OwnG w (ptwL f l m)) := by
  obtain ⟨hlm, hl, hm⟩ := h
  have hp := hl.pos
  obtain ⟨b, off, rfl, hlt, hc⟩ := vec_some hs hp.1
  obtain ⟨b2, off2, rfl, hlt2, hc2⟩ := vec_some hs2 hm.pos.1
  rw [← hlm] at hc2 ⊢
  refine (pointwise_some f b off b2 off2 l.length cap cap2 (lf l) (lf m) w ht hl.f08.1 hl.f08.2 (by omega) hl.lt hm.lt hlt hlt2 hc hc2).mono ?_
  rintro e w' ⟨rfl, ho, hb⟩
  exact OwnG.of_own ho (tab_len _ _).symm (Nat.le_refl _) (fun j hj => by unfold ptwL; rw [lf_tab, if_pos hj]) hb
end Go.Proofs.YtnipffmookkkdaaDoor
namespace Go.Proofs.YtnipffmookkkdaaDoor
open Go.RowKit Go.Shelf
attribute [local go_sem] Oper.semAt_some
/-- The first c powers of r. -/
def pws (f r : Int) (c : Nat) : List Int := (List.range c).map fun (j : Nat) => PW (P f) r (j : Int)
theorem pws_len (f r : Int) (c : Nat) : (pws f r c).length = c := by simp [pws]
theorem pws_succ (f r : Int) (c : Nat) : pws f r (c + 1) = pws f r c ++ [PW (P f) r c] := by simp [pws, List.range_succ]
theorem pws_pre (f r : Int) {j c : Nat} (h : j ≤ c) : pws f r j <+: pws f r c := by
  refine ⟨((List.range c).drop j).map fun (j : Nat) => PW (P f) r (j : Int), ?_⟩
  unfold pws
  rw [← List.map_append]
  congr 1
  conv => rhs; rw [← List.take_append_drop j (List.range c)]
  rw [List.take_range, Nat.min_eq_left h]
/-- What a round keeps: whatever lay below n₀, and the two boxes that the iterator reads again. -/
def KeepsBoxes (n₀ Bn Ba : Nat) (W W' : World) : Prop := Below n₀ W W' ∧ W'.heap[Bn]? = W.heap[Bn]? ∧ W'.heap[Ba]? = W.heap[Ba]?
theorem cell_same {W W' : World} {B : Nat} (h : W'.heap[B]? = W.heap[B]?) (o : Nat) : W'.cell? ⟨B, o, none⟩ = W.cell? ⟨B, o, none⟩ := by
  unfold World.cell?
  simp only [h]
theorem Tab.from {n₀ : Nat} {w w' : World} (h : Tab w) (h0 : 0 < n₀) (hb : Below n₀ w w') : Tab w' := h.keep fun o => hb.cell (p := ⟨0, o, none⟩) h0
set_option maxRecDepth 100000 in
set_option maxHeartbeats 1000000 in
theorem powers1_in (n : Nat) (hn : 1 ≤ n) (l Bc Bn Ba n₀ : Nat) (f r : Int) (c : Nat) (h0 : 0 ≤ f) (h8 : f ≤ 8) (r0 : 0 ≤ r) (r1 : r < P f) (c9 : c ≤ 1048576) (hn0 : 0 < n₀) (J Jx : List Int → World → Prop)
    (hY : ∀ pre x W, J pre W → pre.length < c → YieldAt Fence.wide (n - 1) Tryd.prog l #[.int .i64 x] W fun e W' =>
      (e = .returned (.bool true) ∧ J (pre ++ [x]) W' ∧ KeepsBoxes n₀ Bn Ba W W') ∨ (e = .returned (.bool false) ∧ Jx (pre ++ [x]) W'))
    (W : World) (ht : Tab W) (hc : W.cell? ⟨Bc, 0, none⟩ = some (.int .i64 c)) (hf : W.cell? ⟨Bn, 0, none⟩ = some (.int .i64 f)) (hr : W.cell? ⟨Ba, 0, none⟩ = some (.int .i64 r)) (hj : J [] W) :
    CallsIn Fence.wide n Tryd.prog 91 #[.func (.yield l) #[] #[], .pointer (some ⟨Bc, 0, none⟩), .pointer (some ⟨Bn, 0, none⟩), .pointer (some ⟨Ba, 0, none⟩)] W fun e W' => (∃ v, e = .returned v) ∧
      ((∃ ys, ys = pws f r c ∧ J ys W') ∨ (∃ pre, pre <+: pws f r c ∧ Jx pre W')) := by
  have hp := P_bd h0 h8
  refine callsIn_of_wp Tryd.func91 rfl trivial ?_ rfl
  simp only [Tryd.ntmps91, List.size_toArray, List.length_cons, List.length_nil, Nat.reduceAdd, Nat.reduceSub, Array.replicate_succ, Array.replicate_zero, List.push_toArray, List.append_toArray, List.nil_append, List.cons_append]
  gi_wp2
  gi_loopw [5, 7] (fun x i wr => ∃ j : Nat, i = .int .i64 j ∧ j ≤ c ∧ x = .int .i64 (PW (P f) r j) ∧ J (pws f r j) wr ∧ Tab wr ∧ wr.cell? ⟨Bn, 0, none⟩ = some (.int .i64 f) ∧ wr.cell? ⟨Ba, 0, none⟩ = some (.int .i64 r)) (fun _ i _ => c - (intOf i).toNat)
  case atStart =>
    exact ⟨0, rfl, Nat.zero_le _, by rw [show ((0 : Nat) : Int) = 0 from rfl, PW_zero h0 h8], hj, ht, hf, hr⟩
  case round =>
    obtain ⟨j, rfl, hjc, rfl, hJ, htr, hfr, hrr⟩ := hrel
    by_cases hlt : j < c
    · obtain ⟨fn, tmps, assign, body, hy, hR⟩ := hY (pws f r j) (PW (P f) r j) wr hJ (by rw [pws_len]; exact hlt)
      have bj := PW_bd (m := P f) (x := r) (e := (j : Int)) (by omega)
      have HS := Lib.hid (PW_succ h0 h8 r0 j)
      gi_wp2
      refine hR.mono ?_
      rintro e W3 (⟨rfl, hJ3, hk3⟩ | ⟨rfl, hJx3⟩)
      · have ht3 := htr.from hn0 hk3.1
        have hf3 : W3.cell? ⟨Bn, 0, none⟩ = some (.int .i64 f) := (cell_same hk3.2.1 0).trans hfr
        have hr3 : W3.cell? ⟨Ba, 0, none⟩ = some (.int .i64 r) := (cell_same hk3.2.2 0).trans hrr
        rw [← pws_succ] at hJ3
        clear hR hy hk3
        gi_wp2_with (refine ⟨trivial, ?_⟩; gi_at_call 71; refine (callsIn_wide.2 (mul_c f (PW (P f) r j) r W3 ht3 h0 h8 bj.1 bj.2 r0 r1)).mono ?_; rintro e w' ⟨rfl, rfl⟩)
        go_roundw
        case rel => exact ⟨j + 1, by go_num, by omega, vint HS.out, hJ3, ht3, hf3, hr3⟩
        case measure => simp [intOf]; omega
      · rw [← pws_succ] at hJx3
        gi_wp2
        refine bodyPost_ret (results_none rfl _ _ _) rfl ?_
        exact ⟨⟨_, rfl⟩, .inr ⟨_, pws_pre f r (by omega), hJx3⟩⟩
    · have hd : decide (j < c) = false := by simpa using hlt
      obtain rfl : j = c := by omega
      gi_wp2
      go_end0
      exact ⟨⟨_, rfl⟩, .inl ⟨_, rfl, hJ⟩⟩
theorem powers_stops (n : Nat) (hn : 1 ≤ n) (Bc Bn Ba n₀ : Nat) (f r : Int) (c : Nat) (h0 : 0 ≤ f) (h8 : f ≤ 8) (r0 : 0 ≤ r) (r1 : r < P f) (c9 : c ≤ 1048576) (hn0 : 0 < n₀) (w : World) (hsz : 0 < w.heap.size) (ht : Tab w)
    (hBc : Bc < w.heap.size) (hBn : Bn < w.heap.size) (hBa : Ba < w.heap.size) (hc : w.cell? ⟨Bc, 0, none⟩ = some (.int .i64 c)) (hf : w.cell? ⟨Bn, 0, none⟩ = some (.int .i64 f)) (hr : w.cell? ⟨Ba, 0, none⟩ = some (.int .i64 r)) :
    SeqStopsK Fence.wide n Tryd.prog 91 #[.pointer (some ⟨Bc, 0, none⟩), .pointer (some ⟨Bn, 0, none⟩), .pointer (some ⟨Ba, 0, none⟩)] (fun x : Int => #[Value.int .i64 x]) (KeepsBoxes n₀ Bn Ba) (fun ys => ys = pws f r c) (fun pre => pre <+: pws f r c) c w :=
  fun l J Jx W hW _ _ hY hj => powers1_in n hn l Bc Bn Ba n₀ f r c h0 h8 r0 r1 c9 hn0 J Jx hY W (ht.from hsz hW)
    ((hW.cell (p := ⟨Bc, 0, none⟩) hBc).trans hc) ((hW.cell (p := ⟨Bn, 0, none⟩) hBn).trans hf) ((hW.cell (p := ⟨Ba, 0, none⟩) hBa).trans hr) hj
theorem powers_c (f r x : Int) (w : World) : Calls Tryd.prog 89 #[.int .i64 f, .int .i64 r, .int .i64 x] w fun e w' =>
    e = .returned (.func (.func 91) #[] #[.pointer (some ⟨w.heap.size + 2, 0, none⟩), .pointer (some ⟨w.heap.size, 0, none⟩), .pointer (some ⟨w.heap.size + 1, 0, none⟩)]) ∧
    w' = ((w.alloc (.cells #[.int .i64 f] 35)).alloc (.cells #[.int .i64 r] 3)).alloc (.cells #[.int .i64 x] 3) := by
  go_enter Tryd.func89, Tryd.ntmps89
  go_wp2
  go_ret
  exact ⟨rfl, rfl⟩
theorem made_cap (n : Nat) (hn : n ≤ 1048576) (w : World) : (Instr.makeSlice 22 (.int .i64 0) (.int .i64 (n : Int))).run Tryd.prog w = .ok (.slice (some ⟨w.heap.size, 0, none⟩) 0 n) (w.alloc (.cells (madeCells #[.int .i64 0] n) 3)) := by
  obtain ⟨i, hi, hzz⟩ := Option.map_eq_some_iff.1 info3
  simp only [Prod.mk.injEq] at hzz
  obtain ⟨hz, hs, hb⟩ := hzz
  have hr := run_make (P := Tryd.prog) w 22 3 i (.int .i64 0) Tryd.underlying22 hi hz .i64 .i64 0 n (Int.le_refl _) (by omega) (by rw [hb]; omega) (by omega)
  simp only [Int.toNat_natCast, hs, Nat.mul_one] at hr
  exact hr
theorem own_of_owns {w' : World} {base g n : Nat} {F : Nat → Int} (h : w'.ownsRow base 3 1 (.slice (some ⟨g, 0, none⟩) n n) n (xsF F n)) : Own w' g n F := by
  obtain ⟨hl, h⟩ := h
  rcases h with ⟨hv, _⟩ | ⟨g', cap, cur, hv, hg, hh, hc, hm, hs, ht⟩
  · cases hv
  · cases hv
    refine ⟨cur, hh, by omega, fun j hj => ?_⟩
    have hx : (xsF F n)[j]? = some (.int .i64 (F j)) := by simp [xsF, hj]
    rw [← ht, List.getElem?_take_of_lt (by omega)] at hx
    simpa using hx
theorem block_same {W w1 : World} {tmp : Obj} {g Bl B : Nat} {v : Value} (hgrow : (W.alloc tmp).grownBy w1 (some g)) (h1 : B < W.heap.size) (h2 : B ≠ g) (h3 : B ≠ Bl) : (w1.setCell ⟨Bl, 0, none⟩ v).heap[B]? = W.heap[B]? :=
  (Below.heap_setCell w1 ⟨Bl, 0, none⟩ v B (fun e => h3 e)).trans ((hgrow.block B (by simp; omega) (fun e => by injection e with e; exact h2 e)).trans (Below.heap_alloc W tmp B h1))
theorem pws_roots (f k : Int) (n : Nat) : (pws f (mRoot f k) n).map (Value.int .i64) = xsF (rootsF f k) n := by
  simp [pws, xsF, rootsF]
theorem keepsBoxes_b {w WL : World} (hz : w.heap.size + 5 ≤ WL.heap.size) (W : World) (l : Nat) (o o' : Obj) (hl : WL.heap.size ≤ l) (ho : W.heap[l]? = some o) (hc : o.isCells = false) (hw : o.isWalk = false) :
    KeepsBoxes w.heap.size (w.heap.size + 2) (w.heap.size + 2 + 1) W (W.putObj l o') :=
  ⟨belowK_b (w := w) (Nat.le_refl _) W l o o' (by omega) ho hc hw, World.putObj_heap_other (by omega), World.putObj_heap_other (by omega)⟩
set_option maxRecDepth 100000 in
set_option maxHeartbeats 2000000 in
theorem iRoots_on (f : Int) (k n : Nat) (w : World) (ht : Tab w) (h : hasK f k) (k9 : k ≤ 9) (hn : n = 2 ^ k) : Calls Tryd.prog 84 #[.int .i64 f, .int .i64 k] w (CopyP w n (rootsF f k)) := by
  have n9 : n ≤ 512 := by
    have : 2 ^ k ≤ 2 ^ 9 := Nat.pow_le_pow_right (by omega) k9
    omega
  have HN : Hid (wrap64 (2 ^ k) = (n : Int)) := Lib.hid (by
    rw [hn]
    have := shl_at (k := (k : Int)) (by omega) (by omega)
    rw [Int.toNat_natCast] at this
    rw [this, two_nat (by omega), Int.toNat_natCast])
  have hmk : ∀ w, (Instr.makeSlice 22 (.int .i64 0) (.int .i64 (wrap64 (2 ^ k)))).run Tryd.prog w = .ok (.slice (some ⟨w.heap.size, 0, none⟩) 0 n) (w.alloc (.cells (madeCells #[.int .i64 0] n) 3)) := fun w => by
    rw [HN.out]; exact made_cap n (by omega) w
  clear hn
  have HR := Lib.hid h
  refine (callsIn_wide (n := 6)).1 ?_
  refine callsIn_of_wp_marks Tryd.func84 rfl trivial ?_ rfl
  simp only [Tryd.ntmps84, List.size_toArray, List.length_cons, List.length_nil, Nat.reduceAdd, Nat.reduceSub, Array.replicate_succ, Array.replicate_zero, List.push_toArray, List.append_toArray, List.nil_append, List.cons_append]
  refine wpIn_wide.2 ?_
  go_wp2_with fail
  refine (hasRoots_yes f k w ht h (by omega)).mono ?_
  rintro e w' ⟨rfl, rfl⟩
  go_wp2
  obtain ⟨W0, hW0⟩ : ∃ W0, (w.alloc (.cells (madeCells #[.int .i64 0] n) 3)).alloc (.cells #[.slice (some ⟨w.heap.size, 0, none⟩) 0 n] 22) = W0 := ⟨_, rfl⟩
  have z0 : W0.heap.size = w.heap.size + 2 := by rw [← hW0]; simp
  have x0 : Boxed W0 (w.heap.size + 1) 22 (.slice (some ⟨w.heap.size, 0, none⟩) 0 n) := by
    rw [← hW0]
    have := Boxed.new (w.alloc (.cells (madeCells #[.int .i64 0] n) 3)) 22 (.slice (some ⟨w.heap.size, 0, none⟩) 0 n)
    rwa [World.size_alloc] at this
  have o0 : W0.ownsRow w.heap.size 3 1 (.slice (some ⟨w.heap.size, 0, none⟩) 0 n) 0 [] := by
    rw [← hW0]
    exact (World.ownsRow_made w (madeCells #[.int .i64 0] n) n (Nat.le_refl _) (by unfold maxLen; omega) (by rw [size_madeCells]; omega)).alloc _
  have b0 : Below w.heap.size w W0 := by rw [← hW0]; exact ((Below.refl _ _).alloc (Nat.le_refl _) _).alloc (by simp) _
  have t0 : Tab W0 := ht.below b0
  rw [hW0]
  clear hW0 hmk
  refine wp_region_still_tail 6 (by kernel_rfl) (by kernel_rfl) ?_
  simp only [List.take_succ_cons, List.take_zero, List.drop_succ_cons, List.drop_zero]
  still_step
  still_step
  still_step
  still_call ((rootk_c f k W0.drew (t0.keep fun _ => rfl) HR.out).mono fun _ _ h => ⟨h.1, h.2.symm⟩)
  still_step
  still_step
  refine wpStill_nil ?_
  change wpList _ _ _ _ _ W0.drew
  obtain ⟨W1, hW1⟩ : ∃ W1, W0.drew = W1 := ⟨_, rfl⟩
  have z1 : W1.heap.size = w.heap.size + 2 := by rw [← hW1]; exact z0
  have x1 : Boxed W1 (w.heap.size + 1) 22 (.slice (some ⟨w.heap.size, 0, none⟩) 0 n) := by rw [← hW1]; exact x0
  have o1 : W1.ownsRow w.heap.size 3 1 (.slice (some ⟨w.heap.size, 0, none⟩) 0 n) 0 [] := by rw [← hW1]; exact o0
  have b1 : Below w.heap.size w W1 := by rw [← hW1]; exact ⟨b0.os, b0.tape, b0.output, b0.size, b0.block⟩
  have t1 : Tab W1 := ht.below b1
  rw [hW1]
  clear hW1 z0 x0 o0 b0 t0
  go_wp2_with fail
  refine (powers_c f (mRoot f k) (wrap64 (2 ^ k)) W1).mono ?_
  rintro e w' ⟨rfl, rfl⟩
  go_wp2
  obtain ⟨WL, hWL⟩ : ∃ WL, ((W1.alloc (.cells #[.int .i64 f] 35)).alloc (.cells #[.int .i64 (mRoot f k)] 3)).alloc (.cells #[.int .i64 (wrap64 (2 ^ k))] 3) = WL := ⟨_, rfl⟩
  have zL : WL.heap.size = w.heap.size + 5 := by rw [← hWL]; simp; omega
  have xL : Boxed WL (w.heap.size + 1) 22 (.slice (some ⟨w.heap.size, 0, none⟩) 0 n) := by rw [← hWL]; exact ((x1.alloc _).alloc _).alloc _
  have oL : WL.ownsRow w.heap.size 3 1 (.slice (some ⟨w.heap.size, 0, none⟩) 0 n) 0 [] := by rw [← hWL]; exact ((o1.alloc _).alloc _).alloc _
  have nL : Boxed WL (w.heap.size + 2) 35 (.int .i64 f) := by
    rw [← hWL, ← z1]; exact ((Boxed.new W1 _ _).alloc _).alloc _
  have aL : Boxed WL (w.heap.size + 2 + 1) 3 (.int .i64 (mRoot f k)) := by
    have := (Boxed.new (W1.alloc (.cells #[.int .i64 f] 35)) 3 (.int .i64 (mRoot f k))).alloc (.cells #[.int .i64 (wrap64 (2 ^ k))] 3)
    rw [World.size_alloc, z1] at this
    rw [← hWL]; exact this
  have cL : Boxed WL (w.heap.size + 2 + 2) 3 (.int .i64 n) := by
    have := Boxed.new ((W1.alloc (.cells #[.int .i64 f] 35)).alloc (.cells #[.int .i64 (mRoot f k)] 3)) 3 (.int .i64 (wrap64 (2 ^ k)))
    rw [World.size_alloc, World.size_alloc, z1] at this
    rw [← hWL, ← HN.out]; exact this
  have bL : Below w.heap.size w WL := by rw [← hWL]; exact ((b1.alloc (by omega) _).alloc (by simp; omega) _).alloc (by simp; omega) _
  have tL : Tab WL := ht.below bL
  rw [hWL]
  clear hWL z1 x1 o1 b1 t1
  have rb := root_bd HR.out
  have f0 := HR.out.1.1
  have f8 := HR.out.1.2
  have w0 : 0 < w.heap.size := (cell_some (ht 0 (by omega) (by omega)).1).2
  obtain ⟨i0, hi, hz0, hz1, hz2⟩ := info_parts info3
  refine (wpIn_wide (n := 6)).1 ?_
  refine wpIn_rangeFunc_ownG (F := Fence.wide) (n := 6) rfl (by omega) (gf := 91) (lb := #[.pointer (some ⟨w.heap.size + 2 + 2, 0, none⟩), .pointer (some ⟨w.heap.size + 2, 0, none⟩), .pointer (some ⟨w.heap.size + 2 + 1, 0, none⟩)]) rfl trivial (enters_of Tryd.func91 (by kernel_rfl) rfl)
    (powers_stops 5 (by omega) (w.heap.size + 2 + 2) (w.heap.size + 2) (w.heap.size + 2 + 1) w.heap.size f (mRoot f k) n f0 f8 (by omega) rb.2 (by omega) w0 WL (by omega) tL (by omega) (by omega) (by omega) cL.cell nL.cell aL.cell)
    (fun h k => ⟨h.1.trans k.1, k.2.1.trans h.2.1, k.2.2.trans h.2.2⟩) (fun W l o o' hl ho hc hw => keepsBoxes_b (by omega) W l o o' hl ho hc hw) (Below.refl _ _) (fun _ => rfl)
    (fun pre W => (∃ v, Boxed W (w.heap.size + 1) 22 v ∧ W.ownsRow w.heap.size 3 1 v pre.length (pre.map (Value.int .i64)) ∧ v = .slice (some ⟨w.heap.size, 0, none⟩) pre.length n) ∧ Below w.heap.size w W ∧ w.heap.size + 5 ≤ W.heap.size)
    (fun _ _ _ => False)
    (OwnFrom.and (Own.from (holdsRow_own w.heap.size (w.heap.size + 1) 22 3 1 (fun (pre : List Int) => pre.length) (fun (pre : List Int) => pre.map (Value.int .i64)) (fun (pre : List Int) v => v = .slice (some ⟨w.heap.size, 0, none⟩) pre.length n)) _) (OwnFrom.and (ownFrom_below (Nat.le_refl _) (by omega)) (fun s A B row hs hg hr => Nat.le_trans hs hg.size)))
    (fun _ _ _ _ _ hs _ _ => hs)
    ⟨⟨_, xL, oL, rfl⟩, bL, by omega⟩
    (fun x => { tmps := #[.int .i64 f, .int .i64 k, undef, undef, .slice none 0 0, .int .i64 f, .pointer (some ⟨w.heap.size + 1, 0, none⟩), .int .i64 x, .int .i64 f, .int .i64 k, .bool true, .bool false, .int .i64 f, .int .i64 k, .int .i64 (wrap64 (2 ^ k)), .slice (some ⟨w.heap.size, 0, none⟩) 0 n, .int .i64 f, .int .i64 f, .int .i64 k, .int .i64 (mRoot f k), .int .i64 k, .int .i64 (wrap64 (2 ^ k)), .func (.func 91) #[] #[.pointer (some ⟨w.heap.size + 2 + 2, 0, none⟩), .pointer (some ⟨w.heap.size + 2, 0, none⟩), .pointer (some ⟨w.heap.size + 2 + 1, 0, none⟩)], .int .i64 x, undef, undef, undef, undef, undef], defers := [] }) ?assign ?body ?done ?stop
  case assign =>
    intro l x W K hK
    gi_wp2
    exact hK
  case body =>
    rintro l pre x W ⟨⟨v, hv, hrow, rfl⟩, hB, hz⟩ hlt
    have hc := hv.cell
    gi_wp2_with (gi_at_builtin; refine wpListIn_append_fits _ rfl _ _ 22 rfl w.heap.size 3 i0 1 Tryd.underlying22 hi hz1 w.heap.size pre.length n _ rfl (hrow.alloc _) ⟨W.heap.size, 0, none⟩ 1 1 [.int .i64 x] rfl rfl (cell_one_new _ _ _) (by simp [Value.oneCell']) (by omega) ?_; intro w1 hown' hgrow; obtain ⟨hv1, hv2, hr2, hk2, hb2⟩ := hv.appended (by decide) hrow hB.size (by omega) hown' hgrow; have hc1 := hv1.cell; have hf1 := hv1.frozen)
    exact ⟨hk2.from _, ⟨hb2, block_same hgrow (by omega) (by omega) (by omega), block_same hgrow (by omega) (by omega) (by omega)⟩, ⟨_, hv2, by simpa using hr2, by simp⟩, hB.trans hb2, Nat.le_trans hz hk2.size⟩
  case done =>
    rintro D ys W hD rfl ⟨⟨v, hv, hrow, rfl⟩, hB, hz⟩ hK
    rw [pws_len] at hv hrow
    rw [pws_roots] at hrow
    have hc := hv.cell
    go_wp2
    refine ⟨by simp, .inl ⟨_, _, rfl, run_takeDeferred hK, ?_⟩⟩
    exact ⟨_, results_tmp rfl _ _ _, rfl, own_of_owns (ownsRow_putObj hrow _ hK rfl), hB.trans (belowK_b (w := w) (Nat.le_refl _) W D _ _ (by omega) hK rfl rfl)⟩
  case stop =>
    rintro D c pre W _ _ h _
    exact h.elim
end Go.Proofs.YtnipffmookkkdaaDoor
namespace Go.Proofs.YtnipffmookkkdaaDoor
open Go.RowKit
/-- A row of words. -/
def RowW (K : IntKind) (t : TypeId) (w : World) (g n : Nat) (F : Nat → Int) : Prop := w.rowIs g t n (fun j => .int K (F j))
theorem RowW.cell {K : IntKind} {t : TypeId} {w : World} {g n : Nat} {F : Nat → Int} (h : RowW K t w g n F) {j : Nat} (hj : j < n) : w.cell? ⟨g, j, none⟩ = some (.int K (F j)) := World.rowIs.cell h hj
theorem RowW.frozen {K : IntKind} {t : TypeId} {w : World} {g n : Nat} {F : Nat → Int} (h : RowW K t w g n F) (j : Nat) : w.frozen? ⟨g, j, none⟩ = false := World.rowIs.frozen h j
theorem RowW.lt {K : IntKind} {t : TypeId} {w : World} {g n : Nat} {F : Nat → Int} (h : RowW K t w g n F) : g < w.heap.size := World.rowIs.lt h
theorem RowW.congr {K : IntKind} {t : TypeId} {w : World} {g n : Nat} {F G : Nat → Int} (h : RowW K t w g n F) (e : ∀ j, j < n → F j = G j) : RowW K t w g n G := World.rowIs.congr h fun j hj => by rw [e j hj]
theorem RowW.set {K : IntKind} {t : TypeId} {w : World} {g n : Nat} {F : Nat → Int} (h : RowW K t w g n F) (s : Nat) (x : Int) : RowW K t (w.setCell ⟨g, s, none⟩ (.int K x)) g n (fun j => if j = s then x else F j) :=
  (World.rowIs.set h s (.int K x)).congr fun j _ => by show (if j = s then Value.int K x else Value.int K (F j)) = Value.int K (if j = s then x else F j); split <;> rfl
theorem RowW.other {K : IntKind} {t : TypeId} {w w' : World} {g r n : Nat} {F : Nat → Int} (h : RowW K t w r n F) (hg : w.grownBy w' (some g)) (hne : r ≠ g) : RowW K t w' r n F :=
  World.rowIs.of_block h (hg.block r h.lt (fun e => hne (by injection e)))
theorem RowW.keep {K : IntKind} {t : TypeId} {w w' : World} {g n : Nat} {F : Nat → Int} (h : RowW K t w g n F) (hb : Below w.heap.size w w') : RowW K t w' g n F := World.rowIs.of_block h (hb.block g h.lt)
theorem grown_refl (w : World) (g : Nat) : w.grownBy w (some g) := ⟨rfl, rfl, rfl, Nat.le_refl _, fun _ _ _ => rfl⟩
theorem grown_put {w wr : World} {g i : Nat} {v : Value} (h : w.grownBy wr (some g)) : w.grownBy (wr.setCell ⟨g, i, none⟩ v) (some g) :=
  grown_set h i v
theorem grown_drews {w wr : World} {g : Nat} (h : w.grownBy wr (some g)) (n : Nat) : w.grownBy (wr.drewN n) (some g) := ⟨h.os, h.tape, h.output, h.size, h.block⟩
theorem grown_cell {w wr : World} {g b o : Nat} (h : w.grownBy wr (some g)) (hlt : b < w.heap.size) (hne : b ≠ g) : wr.cell? ⟨b, o, none⟩ = w.cell? ⟨b, o, none⟩ :=
  World.cell?_of_block (a := ⟨b, o, none⟩) (h.block b hlt (fun e => hne (by injection e)))
theorem mul_le_sq {a b M : Int} (a0 : 0 ≤ a) (a1 : a ≤ M) (b0 : 0 ≤ b) (b1 : b ≤ M) : a * b ≤ M * M := Int.mul_le_mul a1 b1 b0 (by omega)
/-- A slice of a slice that starts at a block's head, with all three indices. -/
theorem slice_3 {P : Program} {t e : TypeId} {z : Value} {by' : Nat} (hu : P.underlying t = some (.slice e)) (hinfo : (P.info? e).map (fun i => (i.zero, i.size, i.bytes)) = some (some z, 1, by')) (g lo hi k n cap : Nat) (vh vl : Int) (e1 : vl = (lo : Int)) (e2 : vh = (hi : Int)) (hk : hi = lo + k) (k0 : 0 < k) (hc : hi ≤ cap) (w : World) :
    (Instr.slice t (.slice (some ⟨g, 0, none⟩) n cap) (some (.int .i64 vl)) (some (.int .i64 vh)) (some (.int .i64 vh))).run P w = .ok (.slice (some ⟨g, lo, none⟩) k k) w := by
  subst e1 e2 hk
  obtain ⟨i, hi, hzz⟩ := Option.map_eq_some_iff.1 hinfo
  simp only [Prod.mk.injEq] at hzz
  have hm2 : ¬ k = 0 := by omega
  have b1 : (0 : Int) ≤ (lo : Int) + k ∧ (lo : Int) + k ≤ cap := by omega
  have b3 : ((lo : Int) + k).toNat = lo + k := by omega
  simp [Instr.slice, run_underlying hu, Instr.sliceBounds, Instr.sliceBound, asIntOf, sizeOf, typeInfo, hi, hzz.2.1, b1, b3, hm2, Addr.add_lit, Nat.add_sub_cancel_left]
theorem info_uint32 : (Tryd.prog.info? 47).map (fun i => (i.zero, i.size, i.bytes)) = some (some (.int .u32 0), 1, 4) := by kernel_rfl
set_option maxRecDepth 100000 in
set_option maxHeartbeats 1600000 in
theorem fill_uint32 (t : TypeId) (g n N b off cap : Nat) (A F : Nat → Int) (w : World) (hg : RowW .u32 t w g N A) (hnN : n ≤ N) (hN : N ≤ 1048576) (hne : b ≠ g) (hlt : b < w.heap.size) (hF : ∀ j, 0 ≤ F j ∧ F j ≤ 4294967295)
    (hc : ∀ j, j < n → w.cell? ⟨b, off + j, none⟩ = some (.int .i64 (F j))) :
    Calls Tryd.prog 83 #[.slice (some ⟨g, 0, none⟩) n n, .slice (some ⟨b, off, none⟩) n cap] w fun e w' => e = .returned (.tuple #[]) ∧ RowW .u32 t w' g N (fun j => if j < n then F j else A j) ∧ w.grownBy w' (some g) := by
  have HC := Lib.hid hc
  have HF := Lib.hid hF
  clear hc hF
  go_enter Tryd.func83, Tryd.ntmps83
  go_wp2_with fail
  go_loopw [4, 5, 8] (fun _ _ i wr => ∃ k : Nat, i = .int .i64 k ∧ k ≤ n ∧ RowW .u32 t wr g N (fun j => if j < k then F j else A j) ∧ w.grownBy wr (some g)) (fun _ _ i _ => n - (intOf i).toNat)
  case atStart => exact ⟨0, rfl, Nat.zero_le _, hg.congr fun j _ => by simp, grown_refl w g⟩
  case round =>
    clear hg
    obtain ⟨k, rfl, hk, ho, hb⟩ := hrel
    by_cases h1 : k < n
    · have c1 : wr.cell? ⟨b, off + k, none⟩ = some (.int .i64 (F k)) := (grown_cell hb hlt hne).trans (HC.out k h1)
      have hd1 : decide ((k : Int) < n) = true := decide_eq_true (by omega)
      have c2 := ho.cell (show k < N by omega)
      have c3 := ho.frozen k
      have hf := HF.out k
      have q1 : IntKind.u32.wrap (F k) = F k := IntWalk.u32_in _ (by omega)
      have HS : Hid (RowW .u32 t (wr.setCell ⟨g, k, none⟩ (.int .u32 (F k))) g N (fun j => if j < k + 1 then F j else A j)) := Lib.hid ((ho.set k (F k)).congr fun j _ => by
        by_cases e : j = k
        · subst e; simp
        · by_cases e2 : j < k
          · simp [e, e2, show j < k + 1 by omega]
          · simp [e, e2, show ¬ j < k + 1 by omega])
      have HG := Lib.hid (grown_put (i := k) (v := .int .u32 (F k)) hb)
      clear ho hb hf
      go_wp2
      go_roundw
      case rel => exact ⟨k + 1, by go_num, by omega, HS.out, HG.out⟩
      case measure => simp [intOf]; omega
    · have hd1 : decide ((k : Int) < n) = false := decide_eq_false (by omega)
      obtain rfl : k = n := by omega
      go_wp2
      go_end0
      exact ⟨rfl, ho, hb⟩
set_option maxRecDepth 100000 in
set_option maxHeartbeats 6400000 in
theorem butter_uint32 (f x : Int) (t : TypeId) (g r n N h d : Nat) (A R : Nat → Int) (w : World) (h0 : 0 ≤ f) (h8 : f ≤ 8) (hP : P f < 65536) (hg : RowW .u32 t w g N A) (hr : RowW .u32 t w r N R) (hgr : r ≠ g) (hnN : n ≤ N) (hN : N ≤ 512) (hpos : 0 < h) (hnd : n = d * (2 * h)) (n0 : 0 < n)
    (hA : ∀ j, j < n → 0 ≤ A j ∧ A j < P f) (hR : ∀ j, j < n → R j = x ^ j % P f) :
    Calls Tryd.prog 85 #[.slice (some ⟨g, 0, none⟩) n n, .slice (some ⟨r, 0, none⟩) n n, .int .u32 (P f), .int .i64 h] w fun e w' => e = .returned (.tuple #[]) ∧ RowW .u32 t w' g N (stp f x h d A d 0) ∧ w.grownBy w' (some g) := by
  have hp := P_bd h0 h8
  have HND := Lib.hid hnd
  have d0 : 0 < d := by
    rcases Nat.eq_zero_or_pos d with hz | hz
    · rw [hz, Nat.zero_mul] at hnd; omega
    · exact hz
  have hhn : 2 * h ≤ n := by rw [hnd]; exact Nat.le_mul_of_pos_left _ d0
  have td0 : (n : Int).tdiv (2 * (h : Int)) = d := by
    rw [show 2 * (h : Int) = ((2 * h : Nat) : Int) by omega, Int.tdiv_eq_ediv_of_nonneg (by omega), ← Int.natCast_ediv, hnd, Nat.mul_div_cancel _ (by omega)]
  have td1 : (n : Int) / (2 * (h : Int)) = d := by rw [← td0, Int.tdiv_eq_ediv_of_nonneg (by omega)]
  have hz2 : (2 * (h : Int) == 0) = false := by rw [beq_eq_false_iff_ne]; omega
  have hz3 : ¬ 2 * (h : Int) = 0 := by omega
  have qd : IntKind.i64.wrap (2 * (h : Int)) = 2 * (h : Int) := IntWalk.i64_in _ (by omega)
  have hdn : d ≤ n := by rw [hnd]; exact Nat.le_mul_of_pos_right _ (by omega)
  have HA := Lib.hid hA
  have HRR := Lib.hid hR
  have HG0 := Lib.hid hg
  have HR0 := Lib.hid hr
  have hrlt := hr.lt
  clear hnd hA hR hg hr
  go_enter Tryd.func85, Tryd.ntmps85
  go_wp2_with fail
  go_loopw [9, 10, 11, 12, 13, 14, 52] (fun i _ _ _ _ _ _ wr => ∃ B : Nat, i = .int .i64 ((B * (2 * h) : Nat) : Int) ∧ B ≤ d ∧ RowW .u32 t wr g N (stp f x h d A B 0) ∧ w.grownBy wr (some g)) (fun i _ _ _ _ _ _ _ => n - (intOf i).toNat)
  case atStart => exact ⟨0, by simp, Nat.zero_le _, HG0.out.congr fun j _ => (stp_start f x h d A j).symm, grown_refl w g⟩
  case round =>
    clear HG0 td0 td1
    obtain ⟨B, rfl, hB, ho, hb⟩ := hrel
    by_cases h1 : B < d
    · have hBn : B * (2 * h) + 2 * h ≤ n := by
        have := Nat.mul_le_mul_right (2 * h) (show B + 1 ≤ d by omega)
        rw [Nat.add_mul, Nat.one_mul, ← HND.out] at this
        exact this
      have hd1 : decide (((B * (2 * h) : Nat) : Int) < n) = true := decide_eq_true (by omega)
      obtain ⟨I, hI⟩ : ∃ I, B * (2 * h) = I := ⟨_, rfl⟩
      have HNX : Hid (((I + 2 * h : Nat) : Int) = (((B + 1) * (2 * h) : Nat) : Int)) := Lib.hid (by rw [Nat.add_mul, Nat.one_mul, hI])
      have HOI := Lib.hid ho
      have HRD : Hid (∀ j, j < h → stp f x h d A B j (I + j) = A (I + j) ∧ stp f x h d A B j (I + j + h) = A (I + j + h)) := Lib.hid fun j hj => by rw [← hI]; exact stp_read hj
      have HST : Hid (∀ j, j < h → ∀ t, (if t = I + j + h then RS (A (I + j) - RS (A (I + j + h) * x ^ (j * d)) (P f)) (P f) else if t = I + j then RS (A (I + j) + RS (A (I + j + h) * x ^ (j * d)) (P f)) (P f) else stp f x h d A B j t) = stp f x h d A B (j + 1) t) := Lib.hid fun j hj t => by
        have := stp_step (f := f) (w := x) (d := d) (V := A) (B := B) hj t
        rw [stp_low hj, stp_high hj, hI] at this
        exact this
      have HFULL : Hid (∀ t, stp f x h d A B h t = stp f x h d A (B + 1) 0 t) := Lib.hid fun t => stp_next f x d A B t hpos
      clear ho
      rw [hI] at hd1 hBn ⊢
      clear hI
      have hIn : I < n := by omega
      have u1 : IntKind.i64.wrap ((I : Int) + h) = (I : Int) + h := IntWalk.i64_in _ (by omega)
      have u2 : IntKind.i64.wrap ((I : Int) + 2 * h) = (I : Int) + 2 * h := IntWalk.i64_in _ (by omega)
      have sl0 : ∀ w, (Instr.slice 55 (.slice (some ⟨g, 0, none⟩) n n) (some (.int .i64 I)) (some (.int .i64 ((I : Int) + h))) (some (.int .i64 ((I : Int) + h)))).run Tryd.prog w = .ok (.slice (some ⟨g, I, none⟩) h h) w := fun w => slice_3 Tryd.underlying55 info_uint32 g I (I + h) h n n _ _ (by omega) (by omega) (by omega) (by omega) (by omega) w
      have sl1 : ∀ w, (Instr.slice 55 (.slice (some ⟨g, 0, none⟩) n n) (some (.int .i64 ((I : Int) + h))) (some (.int .i64 ((I : Int) + 2 * h))) (some (.int .i64 ((I : Int) + 2 * h)))).run Tryd.prog w = .ok (.slice (some ⟨g, I + h, none⟩) h h) w := fun w => slice_3 Tryd.underlying55 info_uint32 g (I + h) (I + 2 * h) h n n _ _ (by omega) (by omega) (by omega) (by omega) (by omega) w
      go_wp2_with fail
      clear sl0 sl1
      go_loopw [12, 13, 14, 52] (fun _ _ _ jj W => ∃ j : Nat, jj = .int .i64 j ∧ j ≤ h ∧ RowW .u32 t W g N (stp f x h d A B j) ∧ w.grownBy W (some g)) (fun _ _ _ jj _ => h - (intOf jj).toNat)
      case atStart => exact ⟨0, rfl, Nat.zero_le _, HOI.out, hb⟩
      case round =>
        clear HOI hb
        obtain ⟨j, rfl, hj, ho, hb⟩ := hrel
        by_cases h2 : j < h
        · have hd2 : decide ((j : Int) < h) = true := decide_eq_true (by omega)
          have hrd := HRD.out j h2
          have c1 : wr.cell? ⟨g, I + j, none⟩ = some (.int .u32 (A (I + j))) := by rw [ho.cell (show I + j < N by omega), hrd.1]
          have c2 : wr.cell? ⟨g, I + h + j, none⟩ = some (.int .u32 (A (I + j + h))) := by rw [show I + h + j = I + j + h by omega, ho.cell (show I + j + h < N by omega), hrd.2]
          have hjd : j * d < n := by
            have : j * d < 2 * h * d := Nat.mul_lt_mul_of_pos_right (by omega) d0
            rw [Nat.mul_comm (2 * h) d, ← HND.out] at this
            exact this
          have c3 : wr.cell? ⟨r, j * d, none⟩ = some (.int .u32 (x ^ (j * d) % P f)) := by rw [(HR0.out.other hb hgr).cell (show j * d < N by omega), HRR.out _ hjd]
          have b1 := HA.out (I + j) (by omega)
          have b2 := HA.out (I + j + h) (by omega)
          have b3 : 0 ≤ x ^ (j * d) % P f ∧ x ^ (j * d) % P f < P f := ⟨Int.emod_nonneg _ (by omega), Int.emod_lt_of_pos _ (by omega)⟩
          have hY : RS (A (I + j + h) * (x ^ (j * d) % P f)) (P f) = RS (A (I + j + h) * x ^ (j * d)) (P f) := by unfold RS; exact emod_mul_congr rfl (Int.emod_emod_of_dvd _ (Int.dvd_refl _))
          have HSTj := Lib.hid (HST.out j h2)
          have jdn : ((j : Int) * d) = ((j * d : Nat) : Int) := by rw [Int.natCast_mul]
          have v1 : IntKind.i64.wrap ((j : Int) * d) = (j : Int) * d := IntWalk.i64_in _ (by omega)
          have v2 : (0 : Int) ≤ (j : Int) * d := by omega
          have v3 : (j : Int) * d < n := by omega
          have v4 : ((j : Int) * d).toNat = j * d := by omega
          clear jdn hjd
          have ho2 : RowW .u32 t wr g N (stp f x h d A B j) := ho
          clear ho
          obtain ⟨X, hX⟩ : ∃ X, A (I + j) = X := ⟨_, rfl⟩
          obtain ⟨Y0, hY0⟩ : ∃ Y0, A (I + j + h) = Y0 := ⟨_, rfl⟩
          obtain ⟨R0, hR0⟩ : ∃ R0, x ^ (j * d) % P f = R0 := ⟨_, rfl⟩
          rw [hX] at c1 b1
          rw [hY0] at c2 b2 hY
          rw [hR0] at c3 b3 hY
          rw [hX, hY0] at HSTj
          rw [← hY] at HSTj
          clear hX hY0 hR0 hY hrd
          have m0 : 0 ≤ Y0 * R0 := Int.mul_nonneg b2.1 b3.1
          have m1 : Y0 * R0 ≤ 65535 * 65535 := mul_le_sq b2.1 (by omega) b3.1 (by omega)
          have hb2 : 0 ≤ RS (Y0 * R0) (P f) ∧ RS (Y0 * R0) (P f) < P f := RS_bd (by omega)
          have t1 : (Y0 * R0).tmod (P f) = RS (Y0 * R0) (P f) := by rw [Int.tmod_eq_emod_of_nonneg m0]; rfl
          have t1' : (Y0 * R0) % (P f) = RS (Y0 * R0) (P f) := rfl
          have k1 : IntKind.u32.wrap (Y0 * R0) = Y0 * R0 := IntWalk.u32_in _ (by omega)
          have pz : (P f == 0) = false := by rw [beq_eq_false_iff_ne]; omega
          have pz2 : ¬ P f = 0 := by omega
          generalize RS (Y0 * R0) (P f) = Y at *
          have k2 : IntKind.u32.wrap Y = Y := IntWalk.u32_in _ (by omega)
          have k3 : IntKind.u32.wrap (X + Y) = X + Y := IntWalk.u32_in _ (by omega)
          have k4 : IntKind.u32.wrap (X + P f) = X + P f := IntWalk.u32_in _ (by omega)
          have k5 : IntKind.u32.wrap (X + P f - Y) = X + P f - Y := IntWalk.u32_in _ (by omega)
          have e1 : (X + Y).tmod (P f) = RS (X + Y) (P f) := by rw [Int.tmod_eq_emod_of_nonneg (by omega)]; rfl
          have e1' : (X + Y) % (P f) = RS (X + Y) (P f) := rfl
          have e2' : (X + P f - Y) % (P f) = RS (X - Y) (P f) := by unfold RS; rw [show X + P f - Y = X - Y + P f by omega, Int.add_emod_right]
          have e2 : (X + P f - Y).tmod (P f) = RS (X - Y) (P f) := by rw [Int.tmod_eq_emod_of_nonneg (by omega), e2']
          have l1 : 0 ≤ RS (X + Y) (P f) ∧ RS (X + Y) (P f) < P f := RS_bd (by omega)
          have l2 : 0 ≤ RS (X - Y) (P f) ∧ RS (X - Y) (P f) < P f := RS_bd (by omega)
          have k6 : IntKind.u32.wrap (RS (X + Y) (P f)) = RS (X + Y) (P f) := IntWalk.u32_in _ (by omega)
          have k7 : IntKind.u32.wrap (RS (X - Y) (P f)) = RS (X - Y) (P f) := IntWalk.u32_in _ (by omega)
          clear m0 m1
          go_wp2
          go_quiet (fail)
          have how2 : RowW .u32 t (wr.drewN nq) g N (stp f x h d A B j) := ho2
          have hgb2 := grown_drews hb nq
          clear c1 c2 c3 hb ho2 t1 t1' k1
          generalize wr.drewN nq = W2 at *
          have cI := how2.cell (show I + j < N by omega)
          have fI := how2.frozen (I + j)
          have how3 := how2.set (I + j) (RS (X + Y) (P f))
          have hgb3 := grown_put (i := I + j) (v := .int .u32 (RS (X + Y) (P f))) hgb2
          obtain ⟨W3, hW3⟩ : ∃ W3, W2.setCell ⟨g, I + j, none⟩ (.int .u32 (RS (X + Y) (P f))) = W3 := ⟨_, rfl⟩
          have HW3 := Lib.hid hW3
          rw [hW3] at how3 hgb3
          have cH := how3.cell (show I + j + h < N by omega)
          have fH := how3.frozen (I + j + h)
          have HOW4 : Hid (RowW .u32 t (W3.setCell ⟨g, I + h + j, none⟩ (.int .u32 (RS (X - Y) (P f)))) g N (stp f x h d A B (j + 1))) := Lib.hid (by
            rw [show I + h + j = I + j + h by omega]
            exact (how3.set (I + j + h) (RS (X - Y) (P f))).congr fun t _ => HSTj.out t)
          have HB4 := Lib.hid (grown_put (i := I + h + j) (v := .int .u32 (RS (X - Y) (P f))) hgb3)
          rw [show I + j + h = I + h + j by omega] at cH fH
          clear how2 how3 hgb2 hgb3 HSTj
          go_wp2_with (rw [hW3])
          go_roundw
          case rel => exact ⟨j + 1, by go_num, by omega, HOW4.out, HB4.out⟩
          case measure => simp [intOf]; omega
        · have hd2 : decide ((j : Int) < h) = false := decide_eq_false (by omega)
          obtain rfl : j = h := by omega
          have HOF : Hid (RowW .u32 t wr g N (stp f x j d A (B + 1) 0)) := Lib.hid (ho.congr fun t _ => HFULL.out t)
          clear ho HFULL HST HRD
          go_wp2
          go_roundw
          case rel => exact ⟨B + 1, vint (by rw [← HNX.out]; omega), by omega, HOF.out, hb⟩
          case measure => simp [intOf]; omega
    · have hBd : B = d := by omega
      subst hBd
      have hBn : B * (2 * h) = n := HND.out.symm
      have hd1 : decide ((n : Int) < n) = false := decide_eq_false (by omega)
      rw [hBn]
      clear hBn
      go_wp2
      go_end0
      exact ⟨rfl, ho, hb⟩
theorem info_uint64 : (Tryd.prog.info? 48).map (fun i => (i.zero, i.size, i.bytes)) = some (some (.int .u64 0), 1, 8) := by kernel_rfl
set_option maxRecDepth 100000 in
set_option maxHeartbeats 1600000 in
theorem fill_uint64 (t : TypeId) (g n N b off cap : Nat) (A F : Nat → Int) (w : World) (hg : RowW .u64 t w g N A) (hnN : n ≤ N) (hN : N ≤ 1048576) (hne : b ≠ g) (hlt : b < w.heap.size) (hF : ∀ j, 0 ≤ F j ∧ F j ≤ 4294967295)
    (hc : ∀ j, j < n → w.cell? ⟨b, off + j, none⟩ = some (.int .i64 (F j))) :
    Calls Tryd.prog 86 #[.slice (some ⟨g, 0, none⟩) n n, .slice (some ⟨b, off, none⟩) n cap] w fun e w' => e = .returned (.tuple #[]) ∧ RowW .u64 t w' g N (fun j => if j < n then F j else A j) ∧ w.grownBy w' (some g) := by
  have HC := Lib.hid hc
  have HF := Lib.hid hF
  clear hc hF
  go_enter Tryd.func86, Tryd.ntmps86
  go_wp2_with fail
  go_loopw [4, 5, 8] (fun _ _ i wr => ∃ k : Nat, i = .int .i64 k ∧ k ≤ n ∧ RowW .u64 t wr g N (fun j => if j < k then F j else A j) ∧ w.grownBy wr (some g)) (fun _ _ i _ => n - (intOf i).toNat)
  case atStart => exact ⟨0, rfl, Nat.zero_le _, hg.congr fun j _ => by simp, grown_refl w g⟩
  case round =>
    clear hg
    obtain ⟨k, rfl, hk, ho, hb⟩ := hrel
    by_cases h1 : k < n
    · have c1 : wr.cell? ⟨b, off + k, none⟩ = some (.int .i64 (F k)) := (grown_cell hb hlt hne).trans (HC.out k h1)
      have hd1 : decide ((k : Int) < n) = true := decide_eq_true (by omega)
      have c2 := ho.cell (show k < N by omega)
      have c3 := ho.frozen k
      have hf := HF.out k
      have q1 : IntKind.u64.wrap (F k) = F k := IntWalk.u64_in _ (by omega)
      have HS : Hid (RowW .u64 t (wr.setCell ⟨g, k, none⟩ (.int .u64 (F k))) g N (fun j => if j < k + 1 then F j else A j)) := Lib.hid ((ho.set k (F k)).congr fun j _ => by
        by_cases e : j = k
        · subst e; simp
        · by_cases e2 : j < k
          · simp [e, e2, show j < k + 1 by omega]
          · simp [e, e2, show ¬ j < k + 1 by omega])
      have HG := Lib.hid (grown_put (i := k) (v := .int .u64 (F k)) hb)
      clear ho hb hf
      go_wp2
      go_roundw
      case rel => exact ⟨k + 1, by go_num, by omega, HS.out, HG.out⟩
      case measure => simp [intOf]; omega
    · have hd1 : decide ((k : Int) < n) = false := decide_eq_false (by omega)
      obtain rfl : k = n := by omega
      go_wp2
      go_end0
      exact ⟨rfl, ho, hb⟩
set_option maxRecDepth 100000 in
set_option maxHeartbeats 6400000 in
theorem butter_uint64 (f x : Int) (t : TypeId) (g r n N h d : Nat) (A R : Nat → Int) (w : World) (h0 : 0 ≤ f) (h8 : f ≤ 8) (hg : RowW .u64 t w g N A) (hr : RowW .u64 t w r N R) (hgr : r ≠ g) (hnN : n ≤ N) (hN : N ≤ 512) (hpos : 0 < h) (hnd : n = d * (2 * h)) (n0 : 0 < n)
    (hA : ∀ j, j < n → 0 ≤ A j ∧ A j < P f) (hR : ∀ j, j < n → R j = x ^ j % P f) :
    Calls Tryd.prog 87 #[.slice (some ⟨g, 0, none⟩) n n, .slice (some ⟨r, 0, none⟩) n n, .int .u64 (P f), .int .i64 h] w fun e w' => e = .returned (.tuple #[]) ∧ RowW .u64 t w' g N (stp f x h d A d 0) ∧ w.grownBy w' (some g) := by
  have hp := P_bd h0 h8
  have HND := Lib.hid hnd
  have d0 : 0 < d := by
    rcases Nat.eq_zero_or_pos d with hz | hz
    · rw [hz, Nat.zero_mul] at hnd; omega
    · exact hz
  have hhn : 2 * h ≤ n := by rw [hnd]; exact Nat.le_mul_of_pos_left _ d0
  have td0 : (n : Int).tdiv (2 * (h : Int)) = d := by
    rw [show 2 * (h : Int) = ((2 * h : Nat) : Int) by omega, Int.tdiv_eq_ediv_of_nonneg (by omega), ← Int.natCast_ediv, hnd, Nat.mul_div_cancel _ (by omega)]
  have td1 : (n : Int) / (2 * (h : Int)) = d := by rw [← td0, Int.tdiv_eq_ediv_of_nonneg (by omega)]
  have hz2 : (2 * (h : Int) == 0) = false := by rw [beq_eq_false_iff_ne]; omega
  have hz3 : ¬ 2 * (h : Int) = 0 := by omega
  have qd : IntKind.i64.wrap (2 * (h : Int)) = 2 * (h : Int) := IntWalk.i64_in _ (by omega)
  have hdn : d ≤ n := by rw [hnd]; exact Nat.le_mul_of_pos_right _ (by omega)
  have HA := Lib.hid hA
  have HRR := Lib.hid hR
  have HG0 := Lib.hid hg
  have HR0 := Lib.hid hr
  have hrlt := hr.lt
  clear hnd hA hR hg hr
  go_enter Tryd.func87, Tryd.ntmps87
  go_wp2_with fail
  go_loopw [9, 10, 11, 12, 13, 14, 52] (fun i _ _ _ _ _ _ wr => ∃ B : Nat, i = .int .i64 ((B * (2 * h) : Nat) : Int) ∧ B ≤ d ∧ RowW .u64 t wr g N (stp f x h d A B 0) ∧ w.grownBy wr (some g)) (fun i _ _ _ _ _ _ _ => n - (intOf i).toNat)
  case atStart => exact ⟨0, by simp, Nat.zero_le _, HG0.out.congr fun j _ => (stp_start f x h d A j).symm, grown_refl w g⟩
  case round =>
    clear HG0 td0 td1
    obtain ⟨B, rfl, hB, ho, hb⟩ := hrel
    by_cases h1 : B < d
    · have hBn : B * (2 * h) + 2 * h ≤ n := by
        have := Nat.mul_le_mul_right (2 * h) (show B + 1 ≤ d by omega)
        rw [Nat.add_mul, Nat.one_mul, ← HND.out] at this
        exact this
      have hd1 : decide (((B * (2 * h) : Nat) : Int) < n) = true := decide_eq_true (by omega)
      obtain ⟨I, hI⟩ : ∃ I, B * (2 * h) = I := ⟨_, rfl⟩
      have HNX : Hid (((I + 2 * h : Nat) : Int) = (((B + 1) * (2 * h) : Nat) : Int)) := Lib.hid (by rw [Nat.add_mul, Nat.one_mul, hI])
      have HOI := Lib.hid ho
      have HRD : Hid (∀ j, j < h → stp f x h d A B j (I + j) = A (I + j) ∧ stp f x h d A B j (I + j + h) = A (I + j + h)) := Lib.hid fun j hj => by rw [← hI]; exact stp_read hj
      have HST : Hid (∀ j, j < h → ∀ t, (if t = I + j + h then RS (A (I + j) - RS (A (I + j + h) * x ^ (j * d)) (P f)) (P f) else if t = I + j then RS (A (I + j) + RS (A (I + j + h) * x ^ (j * d)) (P f)) (P f) else stp f x h d A B j t) = stp f x h d A B (j + 1) t) := Lib.hid fun j hj t => by
        have := stp_step (f := f) (w := x) (d := d) (V := A) (B := B) hj t
        rw [stp_low hj, stp_high hj, hI] at this
        exact this
      have HFULL : Hid (∀ t, stp f x h d A B h t = stp f x h d A (B + 1) 0 t) := Lib.hid fun t => stp_next f x d A B t hpos
      clear ho
      rw [hI] at hd1 hBn ⊢
      clear hI
      have hIn : I < n := by omega
      have u1 : IntKind.i64.wrap ((I : Int) + h) = (I : Int) + h := IntWalk.i64_in _ (by omega)
      have u2 : IntKind.i64.wrap ((I : Int) + 2 * h) = (I : Int) + 2 * h := IntWalk.i64_in _ (by omega)
      have sl0 : ∀ w, (Instr.slice 60 (.slice (some ⟨g, 0, none⟩) n n) (some (.int .i64 I)) (some (.int .i64 ((I : Int) + h))) (some (.int .i64 ((I : Int) + h)))).run Tryd.prog w = .ok (.slice (some ⟨g, I, none⟩) h h) w := fun w => slice_3 Tryd.underlying60 info_uint64 g I (I + h) h n n _ _ (by omega) (by omega) (by omega) (by omega) (by omega) w
      have sl1 : ∀ w, (Instr.slice 60 (.slice (some ⟨g, 0, none⟩) n n) (some (.int .i64 ((I : Int) + h))) (some (.int .i64 ((I : Int) + 2 * h))) (some (.int .i64 ((I : Int) + 2 * h)))).run Tryd.prog w = .ok (.slice (some ⟨g, I + h, none⟩) h h) w := fun w => slice_3 Tryd.underlying60 info_uint64 g (I + h) (I + 2 * h) h n n _ _ (by omega) (by omega) (by omega) (by omega) (by omega) w
      go_wp2_with fail
      clear sl0 sl1
      go_loopw [12, 13, 14, 52] (fun _ _ _ jj W => ∃ j : Nat, jj = .int .i64 j ∧ j ≤ h ∧ RowW .u64 t W g N (stp f x h d A B j) ∧ w.grownBy W (some g)) (fun _ _ _ jj _ => h - (intOf jj).toNat)
      case atStart => exact ⟨0, rfl, Nat.zero_le _, HOI.out, hb⟩
      case round =>
        clear HOI hb
        obtain ⟨j, rfl, hj, ho, hb⟩ := hrel
        by_cases h2 : j < h
        · have hd2 : decide ((j : Int) < h) = true := decide_eq_true (by omega)
          have hrd := HRD.out j h2
          have c1 : wr.cell? ⟨g, I + j, none⟩ = some (.int .u64 (A (I + j))) := by rw [ho.cell (show I + j < N by omega), hrd.1]
          have c2 : wr.cell? ⟨g, I + h + j, none⟩ = some (.int .u64 (A (I + j + h))) := by rw [show I + h + j = I + j + h by omega, ho.cell (show I + j + h < N by omega), hrd.2]
          have hjd : j * d < n := by
            have : j * d < 2 * h * d := Nat.mul_lt_mul_of_pos_right (by omega) d0
            rw [Nat.mul_comm (2 * h) d, ← HND.out] at this
            exact this
          have c3 : wr.cell? ⟨r, j * d, none⟩ = some (.int .u64 (x ^ (j * d) % P f)) := by rw [(HR0.out.other hb hgr).cell (show j * d < N by omega), HRR.out _ hjd]
          have b1 := HA.out (I + j) (by omega)
          have b2 := HA.out (I + j + h) (by omega)
          have b3 : 0 ≤ x ^ (j * d) % P f ∧ x ^ (j * d) % P f < P f := ⟨Int.emod_nonneg _ (by omega), Int.emod_lt_of_pos _ (by omega)⟩
          have hY : RS (A (I + j + h) * (x ^ (j * d) % P f)) (P f) = RS (A (I + j + h) * x ^ (j * d)) (P f) := by unfold RS; exact emod_mul_congr rfl (Int.emod_emod_of_dvd _ (Int.dvd_refl _))
          have HSTj := Lib.hid (HST.out j h2)
          have jdn : ((j : Int) * d) = ((j * d : Nat) : Int) := by rw [Int.natCast_mul]
          have v1 : IntKind.i64.wrap ((j : Int) * d) = (j : Int) * d := IntWalk.i64_in _ (by omega)
          have v2 : (0 : Int) ≤ (j : Int) * d := by omega
          have v3 : (j : Int) * d < n := by omega
          have v4 : ((j : Int) * d).toNat = j * d := by omega
          clear jdn hjd
          have ho2 : RowW .u64 t wr g N (stp f x h d A B j) := ho
          clear ho
          obtain ⟨X, hX⟩ : ∃ X, A (I + j) = X := ⟨_, rfl⟩
          obtain ⟨Y0, hY0⟩ : ∃ Y0, A (I + j + h) = Y0 := ⟨_, rfl⟩
          obtain ⟨R0, hR0⟩ : ∃ R0, x ^ (j * d) % P f = R0 := ⟨_, rfl⟩
          rw [hX] at c1 b1
          rw [hY0] at c2 b2 hY
          rw [hR0] at c3 b3 hY
          rw [hX, hY0] at HSTj
          rw [← hY] at HSTj
          clear hX hY0 hR0 hY hrd
          have m0 : 0 ≤ Y0 * R0 := Int.mul_nonneg b2.1 b3.1
          have m1 : Y0 * R0 ≤ 1073741824 * 1073741824 := mul_le_sq b2.1 (by omega) b3.1 (by omega)
          have hb2 : 0 ≤ RS (Y0 * R0) (P f) ∧ RS (Y0 * R0) (P f) < P f := RS_bd (by omega)
          have t1 : (Y0 * R0).tmod (P f) = RS (Y0 * R0) (P f) := by rw [Int.tmod_eq_emod_of_nonneg m0]; rfl
          have t1' : (Y0 * R0) % (P f) = RS (Y0 * R0) (P f) := rfl
          have k1 : IntKind.u64.wrap (Y0 * R0) = Y0 * R0 := IntWalk.u64_in _ (by omega)
          have pz : (P f == 0) = false := by rw [beq_eq_false_iff_ne]; omega
          have pz2 : ¬ P f = 0 := by omega
          generalize RS (Y0 * R0) (P f) = Y at *
          have k2 : IntKind.u64.wrap Y = Y := IntWalk.u64_in _ (by omega)
          have k3 : IntKind.u64.wrap (X + Y) = X + Y := IntWalk.u64_in _ (by omega)
          have k4 : IntKind.u64.wrap (X + P f) = X + P f := IntWalk.u64_in _ (by omega)
          have k5 : IntKind.u64.wrap (X + P f - Y) = X + P f - Y := IntWalk.u64_in _ (by omega)
          have e1 : (X + Y).tmod (P f) = RS (X + Y) (P f) := by rw [Int.tmod_eq_emod_of_nonneg (by omega)]; rfl
          have e1' : (X + Y) % (P f) = RS (X + Y) (P f) := rfl
          have e2' : (X + P f - Y) % (P f) = RS (X - Y) (P f) := by unfold RS; rw [show X + P f - Y = X - Y + P f by omega, Int.add_emod_right]
          have e2 : (X + P f - Y).tmod (P f) = RS (X - Y) (P f) := by rw [Int.tmod_eq_emod_of_nonneg (by omega), e2']
          have l1 : 0 ≤ RS (X + Y) (P f) ∧ RS (X + Y) (P f) < P f := RS_bd (by omega)
          have l2 : 0 ≤ RS (X - Y) (P f) ∧ RS (X - Y) (P f) < P f := RS_bd (by omega)
          have k6 : IntKind.u64.wrap (RS (X + Y) (P f)) = RS (X + Y) (P f) := IntWalk.u64_in _ (by omega)
          have k7 : IntKind.u64.wrap (RS (X - Y) (P f)) = RS (X - Y) (P f) := IntWalk.u64_in _ (by omega)
          clear m0 m1
          go_wp2
          go_quiet (fail)
          have how2 : RowW .u64 t (wr.drewN nq) g N (stp f x h d A B j) := ho2
          have hgb2 := grown_drews hb nq
          clear c1 c2 c3 hb ho2 t1 t1' k1
          generalize wr.drewN nq = W2 at *
          have cI := how2.cell (show I + j < N by omega)
          have fI := how2.frozen (I + j)
          have how3 := how2.set (I + j) (RS (X + Y) (P f))
          have hgb3 := grown_put (i := I + j) (v := .int .u64 (RS (X + Y) (P f))) hgb2
          obtain ⟨W3, hW3⟩ : ∃ W3, W2.setCell ⟨g, I + j, none⟩ (.int .u64 (RS (X + Y) (P f))) = W3 := ⟨_, rfl⟩
          have HW3 := Lib.hid hW3
          rw [hW3] at how3 hgb3
          have cH := how3.cell (show I + j + h < N by omega)
          have fH := how3.frozen (I + j + h)
          have HOW4 : Hid (RowW .u64 t (W3.setCell ⟨g, I + h + j, none⟩ (.int .u64 (RS (X - Y) (P f)))) g N (stp f x h d A B (j + 1))) := Lib.hid (by
            rw [show I + h + j = I + j + h by omega]
            exact (how3.set (I + j + h) (RS (X - Y) (P f))).congr fun t _ => HSTj.out t)
          have HB4 := Lib.hid (grown_put (i := I + h + j) (v := .int .u64 (RS (X - Y) (P f))) hgb3)
          rw [show I + j + h = I + h + j by omega] at cH fH
          clear how2 how3 hgb2 hgb3 HSTj
          go_wp2_with (rw [hW3])
          go_roundw
          case rel => exact ⟨j + 1, by go_num, by omega, HOW4.out, HB4.out⟩
          case measure => simp [intOf]; omega
        · have hd2 : decide ((j : Int) < h) = false := decide_eq_false (by omega)
          obtain rfl : j = h := by omega
          have HOF : Hid (RowW .u64 t wr g N (stp f x j d A (B + 1) 0)) := Lib.hid (ho.congr fun t _ => HFULL.out t)
          clear ho HFULL HST HRD
          go_wp2
          go_roundw
          case rel => exact ⟨B + 1, vint (by rw [← HNX.out]; omega), by omega, HOF.out, hb⟩
          case measure => simp [intOf]; omega
    · have hBd : B = d := by omega
      subst hBd
      have hBn : B * (2 * h) = n := HND.out.symm
      have hd1 : decide ((n : Int) < n) = false := decide_eq_false (by omega)
      rw [hBn]
      clear hBn
      go_wp2
      go_end0
      exact ⟨rfl, ho, hb⟩
end Go.Proofs.YtnipffmookkkdaaDoor
namespace Go.Proofs.YtnipffmookkkdaaDoor
open Go.RowKit
theorem slice_arr {P : Program} {t e : TypeId} {z : Value} {by' N : Nat} (hu : P.underlying t = some (.array N e)) (hinfo : (P.info? e).map (fun i => (i.zero, i.size, i.bytes)) = some (some z, 1, by')) (g n : Nat) (hn : n ≤ N) (w : World) :
    (Instr.sliceAt t (.pointer (some ⟨g, 0, none⟩)) none (some (.int .i64 n)) (some (.int .i64 n))).run P w = .ok (.slice (some ⟨g, 0, none⟩) n n) w := by
  obtain ⟨i, hi, hzz⟩ := Option.map_eq_some_iff.1 hinfo
  simp only [Prod.mk.injEq] at hzz
  simp [Instr.sliceAt, Instr.sureAddr, run_underlying hu, Instr.sliceBounds, Instr.sliceBound, asIntOf, sizeOf, typeInfo, hi, hn, Addr.add_zero']
end Go.Proofs.YtnipffmookkkdaaDoor
namespace Go.Proofs.YtnipffmookkkdaaDoor
open Go.RowKit
theorem zero_uint32 : ((Tryd.prog.info? 54).bind (fun i => i.zero)).map (fun z => z.cells) = some (madeCells #[.int .u32 0] 512) := by kernel_rfl
theorem alloc_uint32 (w : World) : (Instr.alloc 54 true (.tuple #[])).run Tryd.prog w = .ok (.pointer (some ⟨w.heap.size, 0, none⟩)) (w.alloc (.cells (madeCells #[.int .u32 0] 512) 54)) := by
  obtain ⟨z, hz, hcz⟩ := Option.map_eq_some_iff.1 zero_uint32
  obtain ⟨i, hi, hiz⟩ := Option.bind_eq_some_iff.1 hz
  generalize madeCells #[.int .u32 0] 512 = M at *
  simp [Instr.alloc, zeroValue, typeInfo, hi, hiz, newVar, newRow, hcz]
theorem wpList_arr_uint32 {w : World} {ops : Array Oper} {rest : List Oper} {o : Oper} {a : Act} {Q : Exit → Act → World → Prop} (hgd : o.guard = none) (ho : o.op = .alloc 54)
    (h : ∀ w', w'.heap.size = w.heap.size + 1 → Hid (RowW .u32 54 w' w.heap.size 512 (fun _ => 0)) → Below w.heap.size w w' → wpList Tryd.prog ops Q rest (a.put o.dst (.pointer (some ⟨w.heap.size, 0, none⟩))) w') : wpList Tryd.prog ops Q (o :: rest) a w := by
  refine wpList_plain hgd fun K hK' => ?_
  have hrun := alloc_uint32 w
  have hK := h _ (World.size_alloc _ _) (Lib.hid (World.rowIs_made w (.int .u32 0) 512 54)) ((Below.refl _ _).alloc (Nat.le_refl _) _)
  clear h
  generalize w.alloc (.cells (madeCells #[.int .u32 0] 512) 54) = W at *
  unfold Oper.wp
  simp [execOp, ho, hrun, Result.andThen]
  exact hK' _ _ hK
theorem arr_uint32 : Tryd.prog.underlying 54 = some (.array 512 47) := by kernel_rfl
set_option maxRecDepth 100000 in
set_option maxHeartbeats 2000000 in
theorem levelsIn_uint32 (f : Int) (l : List Int) (b off n cap s m k E : Nat) (w : World) (ht : Tab w) (h : VecOk f l) (hP : P f < 65536) (hn : l.length = n) (hk : n = 2 ^ k) (k9 : k ≤ 9) (hh : hasK f k) (hlog : mLog n = k) (hE : E = s + m) (hEk : E ≤ k) (hlt : b < w.heap.size)
    (hc : ∀ j, j < n → w.cell? ⟨b, off + j, none⟩ = some (.int .i64 (lf l j))) :
    Calls Tryd.prog 74 #[.int .i64 f, .slice (some ⟨b, off, none⟩) n cap, .int .i64 s, .int .i64 E] w (OwnG w (lvL f l s m)) := by
  have HVO := Lib.hid h
  have hpos := h.pos
  rw [hn] at hpos
  have hp := P_bd h.f08.1 h.f08.2
  obtain ⟨h0, h8⟩ := h.f08
  have HN := Lib.hid hn
  have HK := Lib.hid hk
  have HH := Lib.hid hh
  have HC := Lib.hid hc
  have HLOG := Lib.hid hlog
  have HLEN : Hid (∀ t, (lvL f l s t).length = n) := Lib.hid fun t => by rw [lvL_len, HN.out]
  have HX : Hid (∀ t, rootL f (lvL f l s t) = mRoot f k) := Lib.hid fun t => by unfold rootL; rw [HLEN.out t, HLOG.out]
  have HE := Lib.hid hE
  have hsmE : s + m = E := hE.symm
  clear h hn hk hh hc hlog hE hsmE
  have hsl : ∀ (g : Nat) (w : World), (Instr.sliceAt 54 (.pointer (some ⟨g, 0, none⟩)) none (some (.int .i64 n)) (some (.int .i64 n))).run Tryd.prog w = .ok (.slice (some ⟨g, 0, none⟩) n n) w := fun g w => slice_arr arr_uint32 info_uint32 g n hpos.2 w
  go_enter Tryd.func74, Tryd.ntmps74
  go_wp2_with (with_reducible refine wpList_arr_uint32 rfl rfl ?_)
  intro w1 z1 r1 b1
  go_wp2_with (with_reducible refine wpList_arr_uint32 rfl rfl ?_)
  intro w2 z2 r2 b2
  have r1' : Hid (RowW .u32 54 w2 w.heap.size 512 (fun _ => 0)) := Lib.hid (r1.out.keep (by rw [z1]; exact b2))
  have b3 : Below w.heap.size w w2 := b1.trans (b2.mono (by omega))
  have z3 : w2.heap.size = w.heap.size + 2 := by omega
  clear r1 b1 b2 z1 z2
  go_wp2
  go_quiet (fail)
  have r3 : RowW .u32 54 (w2.drewN nq) w.heap.size 512 (fun _ => 0) := r1'.out
  have r4 : RowW .u32 54 (w2.drewN nq) (w.heap.size + 1) 512 (fun _ => 0) := r2.out
  have b4 := below_drewN b3 nq
  have z4 : (w2.drewN nq).heap.size = w2.heap.size := rfl
  clear r1' r2 b3 hsl
  generalize w2.drewN nq = W2 at *
  go_wp2_with fail
  refine (fill_uint32 54 w.heap.size n 512 b off cap (fun _ => 0) (lf l) W2 r3 hpos.2 (by omega) (by omega) (by omega) (fun j => by have := HVO.out.lt j; omega) (fun j hj => (b4.cell (p := ⟨b, off + j, none⟩) hlt).trans (HC.out j hj))).mono ?_
  rintro e W3 ⟨rfl, r5, gb5⟩
  have r6 := r4.other gb5 (show w.heap.size + 1 ≠ w.heap.size by omega)
  have b6 : Below w.heap.size w W3 := b4.grown gb5 (by omega) (fun r hr => by injection hr with hr; omega)
  have z6 := gb5.size
  clear r3 r4 b4 gb5
  go_wp2_with fail
  refine (iLogOf n W3).mono ?_
  rintro e w' ⟨rfl, rfl⟩
  rw [HLOG.out]
  go_wp2_with fail
  refine (iRoots_on f k n W3 (ht.below b6) HH.out k9 HK.out).mono ?_
  rintro e W4 ⟨rfl, o4, b7⟩
  have r7 := r5.keep b7
  have r8 := r6.keep b7
  have b8 := below_up b6 b7 b6.size
  have z8 := b7.size
  clear r5 r6 b6 b7
  go_wp2_with fail
  refine (fill_uint32 54 (w.heap.size + 1) n 512 W3.heap.size 0 n (fun _ => 0) (rootsF f k) W4 r8 hpos.2 (by omega) (by omega) o4.lt (fun j => by have := rootsF_bd HH.out j; omega) (fun j hj => by rw [Nat.zero_add]; exact World.rowIs.cell o4 hj)).mono ?_
  rintro e W5 ⟨rfl, r9, gb9⟩
  have r10 := r7.other gb9 (show w.heap.size ≠ w.heap.size + 1 by omega)
  have b10 : Below w.heap.size w W5 := b8.grown gb9 (by omega) (fun r hr => by injection hr with hr; omega)
  have r11 : Hid (RowW .u32 54 W5 w.heap.size 512 (lf (lvL f l s 0))) := Lib.hid (r10.congr fun j _ => by
    show (if j < n then lf l j else 0) = lf l j
    by_cases hj : j < n
    · rw [if_pos hj]
    · rw [if_neg hj, lf_out l (by rw [HN.out]; omega)])
  have r9' := Lib.hid r9
  clear r7 r8 b8 r9 r10 gb9 o4
  go_wp2_with fail
  go_loopw [14] (fun i wr => ∃ t : Nat, i = .int .i64 ((s + t : Nat) : Int) ∧ t ≤ m ∧ RowW .u32 54 wr w.heap.size 512 (lf (lvL f l s t)) ∧ RowW .u32 54 wr (w.heap.size + 1) 512 (fun j => if j < n then rootsF f k j else 0) ∧ Below w.heap.size w wr) (fun i _ => E - (intOf i).toNat)
  case atStart => exact ⟨0, rfl, Nat.zero_le _, r11.out, r9'.out, b10⟩
  case round =>
    clear r11 r9' b10
    obtain ⟨t, rfl, htm, ho, hr, hb⟩ := hrel
    by_cases h1 : t < m
    · obtain ⟨q, hq⟩ : ∃ q, s + t = q := ⟨_, rfl⟩
      have HNX : Hid (((q + 1 : Nat) : Int) = ((s + (t + 1) : Nat) : Int)) := Lib.hid (by omega)
      have hqk : q < k := by have := HE.out; omega
      have HST : Hid (∀ j, stp f (mRoot f k) (2 ^ q) (2 ^ (k - q - 1)) (lf (lvL f l s t)) (2 ^ (k - q - 1)) 0 j = lf (lvL f l s (t + 1)) j) := Lib.hid fun j => by
        have := stp_list (f := f) (l := lvL f l s t) (k := k) (q := q) (by rw [HLEN.out, HK.out]) hqk j
        rw [HX.out t] at this
        rw [this, ← hq]
        rfl
      rw [hq]
      have hqE : q < E := by have := HE.out; omega
      clear hq
      have hd1 : decide ((q : Int) < E) = true := decide_eq_true (by omega)
      have HEH : Hid (wrap64 (2 ^ q) = ((2 ^ q : Nat) : Int)) := Lib.hid (by rw [shl_nat (by omega)]; unfold two; rw [Int.toNat_natCast, Int.natCast_pow]; rfl)
      have kP : IntKind.u32.wrap (P f) = P f := IntWalk.u32_in _ (by omega)
      have HBT := Lib.hid (fun (W : World) (ho : RowW .u32 54 W w.heap.size 512 (lf (lvL f l s t))) (hr : RowW .u32 54 W (w.heap.size + 1) 512 (fun j => if j < n then rootsF f k j else 0)) => butter_uint32 f (mRoot f k) 54 w.heap.size (w.heap.size + 1) n 512 (2 ^ q) (2 ^ (k - q - 1)) (lf (lvL f l s t)) (fun j => if j < n then rootsF f k j else 0) W h0 h8 hP ho hr (by omega) hpos.2 (by omega) (Nat.pow_pos (by omega)) (by rw [HK.out, pow_half hqk]) hpos.1 (fun j _ => (HVO.out.lv s t).lt j) (fun j hj => by show (if j < n then rootsF f k j else 0) = _; rw [if_pos hj, rootsF_pow HH.out]))
      have ho2 : Hid (RowW .u32 54 wr.drew w.heap.size 512 (lf (lvL f l s t))) := Lib.hid ho
      have hr2 : Hid (RowW .u32 54 wr.drew (w.heap.size + 1) 512 (fun j => if j < n then rootsF f k j else 0)) := Lib.hid hr
      have hb2 : Below w.heap.size w wr.drew := ⟨hb.os, hb.tape, hb.output, hb.size, hb.block⟩
      have htd := ht.below hb2
      clear ho hr hb
      go_wp2
      refine wp_region_still_tail 7 (by kernel_rfl) (by kernel_rfl) ?_
      simp only [List.take_succ_cons, List.take_zero, List.drop_succ_cons, List.drop_zero]
      still_step
      still_step
      still_step
      still_call ((prime_c f wr.drew htd h0 h8).mono fun _ _ h => ⟨h.1, h.2.symm⟩)
      still_step
      still_step
      still_step
      refine wpStill_nil ?_
      change wpList _ _ _ _ _ wr.drew
      generalize wr.drew = W at *
      go_wp2_with fail
      rw [HEH.out]
      refine (HBT.out W ho2.out hr2.out).mono ?_
      rintro e W' ⟨rfl, ro, rg⟩
      have ro2 : Hid (RowW .u32 54 W' w.heap.size 512 (lf (lvL f l s (t + 1)))) := Lib.hid (ro.congr fun j _ => HST.out j)
      have rr2 := Lib.hid (hr2.out.other rg (show w.heap.size + 1 ≠ w.heap.size by omega))
      have rb : Below w.heap.size w W' := hb2.grown rg (by have := hb2.size; omega) (fun r hr => by injection hr with hr; omega)
      clear ro rg HBT HST ho2 hr2 hb2 htd HEH
      go_wp2
      go_roundw
      case rel => exact ⟨t + 1, vint (by rw [← HNX.out]; omega), by omega, ro2.out, rr2.out, rb⟩
      case measure => simp [intOf]; omega
    · obtain rfl : t = m := by omega
      have hd1 : decide ((E : Int) < E) = false := decide_eq_false (by omega)
      rw [← HE.out]
      obtain ⟨wo, hwo⟩ : ∃ wo, wo = wr := ⟨_, rfl⟩
      subst hwo
      have hmk := made_n n (by omega)
      have zw := hb.size
      go_wp2_with fail
      clear hmk hr
      go_loopw [16, 17, 53] (fun _ _ i W => ∃ j : Nat, i = .int .i64 j ∧ j ≤ n ∧ Own W wo.heap.size n (fun x => if x < j then lf (lvL f l s t) x else 0) ∧ Below wo.heap.size wo W) (fun _ _ i _ => n - (intOf i).toNat)
      case atStart =>
        refine ⟨0, rfl, Nat.zero_le _, ?_, (Below.refl _ _).alloc (Nat.le_refl _) _⟩
        exact (World.rowIs_made wo (.int .i64 0) n 3).congr fun j _ => by simp
      case round =>
        obtain ⟨j, rfl, hj, ho2, hb2⟩ := hrel
        by_cases h2 : j < n
        · have c1 : wr.cell? ⟨w.heap.size, j, none⟩ = some (.int .u32 (lf (lvL f l s t) j)) := (ho.keep hb2).cell (by omega)
          have hd2 : decide ((j : Int) < n) = true := decide_eq_true (by omega)
          have HS := Lib.hid (copy_set (w := wo) (F := lf (lvL f l s t)) ho2)
          have c3 := World.rowIs.cell ho2 h2
          have c4 := World.rowIs.frozen ho2 j
          have bv := (HVO.out.lv s t).lt j
          have q1 : IntKind.i64.wrap (lf (lvL f l s t) j) = lf (lvL f l s t) j := IntWalk.i64_in _ (by omega)
          clear ho2
          go_wp2
          go_roundw
          case rel => exact ⟨j + 1, by go_num, by omega, HS.out, hb2.setCell (Nat.le_refl _) _⟩
          case measure => simp [intOf]; omega
        · have hd2 : decide ((j : Int) < n) = false := decide_eq_false (by omega)
          obtain rfl : j = n := by omega
          have HF : Hid (OwnG w (lvL f l s t) (.returned (.slice (some ⟨wo.heap.size, 0, none⟩) j j)) wr) := Lib.hid (OwnG.of_own ho2 (HLEN.out t).symm zw (fun x hx => by simp [hx]) (below_up hb hb2 zw))
          clear ho2
          go_wp2
          go_ret
          exact HF.out
end Go.Proofs.YtnipffmookkkdaaDoor
