/-
  Texts of the proofs of this seat, joined (part 2).
-/
import Derived.BigQuiet
import Derived.StillTailTactics
import Derived.Deep.RegionHeld3
import Derived.Deep.AppendLies
import Derived.Deep.CutBlock
import Derived.Deep.CutRange
import Derived.Outline
import Derived.RangeFuncBox
import Derived.RangeFuncLeaves
import Derived.RangeFuncCalls
import Derived.Shelf.Abstract
import Derived.OwnWalkIn
import Derived.TacticsInMore
import Derived.LoopNIn
import Derived.LoopIn
import Derived.Maps.AppendAt
import Derived.Test.YtoonpnfhcmghmaaDoorJ1
namespace Go.Proofs.YtoonpnfhcmghmaaDoor
open Mth
theorem sumN_mod {p : Int} {f g : Nat → Int} {n : Nat} (h : ∀ i, i < n → f i % p = g i % p) : sumN f n % p = sumN g n % p := by
  induction n with
  | zero => rfl
  | succ n ih => rw [sumN, sumN]; exact emod_add_congr (ih fun i hi => h i (by omega)) (h n (by omega))
theorem sumN_zero {f : Nat → Int} {n : Nat} (h : ∀ i, i < n → f i = 0) : sumN f n = 0 := by
  induction n with
  | zero => rfl
  | succ n ih => rw [sumN, ih fun i hi => h i (by omega), h n (by omega)]; rfl
theorem sumN_split (f : Nat → Int) (a b : Nat) : sumN f (a + b) = sumN f a + sumN (fun i => f (a + i)) b := by
  induction b with
  | zero => simp [sumN]
  | succ b ih => rw [← Nat.add_assoc, sumN, ih, sumN]; omega
theorem sumN_swap (F : Nat → Nat → Int) (n m : Nat) : sumN (fun i => sumN (fun j => F i j) m) n = sumN (fun j => sumN (fun i => F i j) n) m := by
  induction n with
  | zero => rw [sumN]; exact (sumN_zero fun _ _ => rfl).symm
  | succ n ih => rw [sumN, ih, ← sumN_add]; rfl
theorem sumN_mul_r (c : Int) (g : Nat → Int) (n : Nat) : sumN (fun i => g i * c) n = sumN g n * c := by
  rw [Int.mul_comm (sumN g n), ← sumN_mul]
  exact sumN_congr fun i _ => Int.mul_comm _ _
theorem sumN_const (c : Int) (n : Nat) : sumN (fun _ => c) n = n * c := by
  induction n with
  | zero => simp [sumN]
  | succ n ih => rw [sumN, ih, show ((n + 1 : Nat) : Int) = (n : Int) + 1 by omega, Int.add_mul, Int.one_mul]
/-- A sum over all residues, begun elsewhere. -/
theorem sumN_turn (F : Nat → Int) {n c : Nat} (hc : c ≤ n) : sumN (fun i => F ((i + c) % n)) n = sumN F n := by
  have e1 : sumN (fun i => F ((i + c) % n)) n = sumN (fun i => F ((i + c) % n)) (n - c) + sumN (fun u => F ((n - c + u + c) % n)) c := by
    have := sumN_split (fun i => F ((i + c) % n)) (n - c) c
    rwa [Nat.sub_add_cancel hc] at this
  have e2 : sumN F n = sumN F c + sumN (fun i => F (c + i)) (n - c) := by
    have := sumN_split F c (n - c)
    rwa [Nat.add_sub_cancel' hc] at this
  rw [e1, e2, Int.add_comm]
  congr 1
  · exact sumN_congr fun u hu => by rw [show n - c + u + c = u + n by omega, Nat.add_mod_right, Nat.mod_eq_of_lt (by omega)]
  · exact sumN_congr fun i hi => by rw [Nat.mod_eq_of_lt (by omega), Nat.add_comm]
/-- Even and odd places. -/
theorem sumN_even (F : Nat → Int) (h : Nat) : sumN F (2 * h) = sumN (fun u => F (2 * u)) h + sumN (fun u => F (2 * u + 1)) h := by
  induction h with
  | zero => rfl
  | succ h ih => rw [show 2 * (h + 1) = 2 * h + 1 + 1 by omega, sumN, sumN, ih, sumN, sumN]; omega
theorem geo (z : Int) (n : Nat) : (z - 1) * sumN (fun j => z ^ j) n = z ^ n - 1 := by
  induction n with
  | zero => simp [sumN]
  | succ n ih => rw [sumN, Int.mul_add, ih, Int.pow_succ, Int.sub_mul, Int.one_mul, Int.mul_comm z]; omega
theorem pow_mod_congr {p a b : Int} (k : Nat) (h : a % p = b % p) : a ^ k % p = b ^ k % p := by
  induction k with
  | zero => rw [Int.pow_zero, Int.pow_zero]
  | succ k ih => rw [Int.pow_succ, Int.pow_succ]; exact emod_mul_congr ih h
theorem one_pow_mod {p a : Int} (k : Nat) (h : a % p = 1 % p) : a ^ k % p = 1 % p := by
  have := pow_mod_congr k h
  rwa [Int.one_pow] at this
theorem one_p {f : Int} (h0 : 0 ≤ f) (h8 : f ≤ 8) : (1 : Int) % P f = 1 := by
  have := P_bd h0 h8
  exact Int.emod_eq_of_lt (by omega) (by omega)
/-- w is a root of order n in field f, v its inverse. -/
structure Rt (f : Int) (w v : Int) (n : Nat) : Prop where
  h0 : 0 ≤ f
  h8 : f ≤ 8
  n0 : 0 < n
  ord : ∀ m, w ^ m % P f = 1 % P f ↔ n ∣ m
  inv : (w * v) % P f = 1 % P f
theorem Rt.wv {f w v : Int} {n : Nat} (h : Rt f w v n) (m : Nat) : (w ^ m * v ^ m) % P f = 1 % P f := by
  rw [← Int.mul_pow]
  exact one_pow_mod m h.inv
theorem Rt.swap {f w v : Int} {n : Nat} (h : Rt f w v n) : Rt f v w n := by
  refine ⟨h.h0, h.h8, h.n0, fun m => ?_, by rw [Int.mul_comm]; exact h.inv⟩
  rw [← h.ord m]
  have e := h.wv m
  constructor
  · intro hv
    have : (w ^ m * v ^ m) % P f = (w ^ m * 1) % P f := emod_mul_congr rfl hv
    rw [Int.mul_one] at this
    rw [← this, e]
  · intro hw
    have : (w ^ m * v ^ m) % P f = (1 * v ^ m) % P f := emod_mul_congr hw rfl
    rw [Int.one_mul] at this
    rw [← this, e]
theorem Rt.full {f w v : Int} {n : Nat} (h : Rt f w v n) : w ^ n % P f = 1 % P f := (h.ord n).2 (Nat.dvd_refl n)
/-- Exponents count modulo n. -/
theorem Rt.exp {f w v : Int} {n : Nat} (h : Rt f w v n) {a b : Nat} (e : a % n = b % n) : w ^ a % P f = w ^ b % P f := by
  have step : ∀ c, w ^ c % P f = w ^ (c % n) % P f := fun c => by
    have : w ^ c = (w ^ n) ^ (c / n) * w ^ (c % n) := by rw [← Int.pow_mul, ← Int.pow_add, Nat.div_add_mod]
    rw [this]
    have := emod_mul_congr (one_pow_mod (c / n) h.full) (show w ^ (c % n) % P f = w ^ (c % n) % P f from rfl)
    rwa [Int.one_mul] at this
  rw [step a, step b, e]
theorem Rt.geo0 {f w v : Int} {n : Nat} (h : Rt f w v n) {z : Int} (hz : z % P f ≠ 1 % P f) (hn : z ^ n % P f = 1 % P f) : sumN (fun j => z ^ j) n % P f = 0 := by
  refine Classical.byContradiction fun hs => ?_
  have hz1 : (z - 1) % P f ≠ 0 := fun e => hz (Int.emod_emod_of_dvd z (Int.dvd_refl _) ▸ by
    have := emod_add_congr (p := P f) (a := z - 1) (b := 0) (c := 1) (d := 1) (by rw [e]; simp) rfl
    rw [Int.sub_add_cancel, Int.zero_add] at this
    rw [Int.emod_emod_of_dvd z (Int.dvd_refl _)]
    exact this)
  have := mul_nz h.h0 h.h8 hz1 hs
  rw [geo] at this
  exact this (emod_zero_of_sub hn)
/-- The sum of (w^u v^l)^j over j is n where u = l, else 0. -/
theorem Rt.delta {f w v : Int} {n : Nat} (h : Rt f w v n) {u l : Nat} (hu : u < n) (hl : l < n) : sumN (fun j => w ^ (j * u) * v ^ (l * j)) n % P f = (if u = l then (n : Int) else 0) % P f := by
  have e : ∀ j, w ^ (j * u) * v ^ (l * j) = (w ^ u * v ^ l) ^ j := fun j => by rw [Int.mul_pow, ← Int.pow_mul, ← Int.pow_mul, Nat.mul_comm u j]
  rw [sumN_congr fun j _ => e j]
  by_cases hul : u = l
  · subst hul
    rw [if_pos rfl]
    have : sumN (fun j => (w ^ u * v ^ u) ^ j) n % P f = sumN (fun _ => 1) n % P f := sumN_mod fun j _ => one_pow_mod j (h.wv u)
    rw [this, sumN_const, Int.mul_one]
  · rw [if_neg hul]
    have hn : (w ^ u * v ^ l) ^ n % P f = 1 % P f := by
      rw [Int.mul_pow, ← Int.pow_mul, ← Int.pow_mul]
      have := emod_mul_congr ((h.ord (u * n)).2 (Nat.dvd_mul_left n u)) ((h.swap.ord (l * n)).2 (Nat.dvd_mul_left n l))
      rwa [Int.mul_one] at this
    rw [h.geo0 _ hn]
    · simp
    · intro hz
      -- times w^l
      have e2 : (w ^ u * v ^ l * w ^ l) % P f = (1 * w ^ l) % P f := emod_mul_congr hz rfl
      have e3 : (w ^ u * (w ^ l * v ^ l)) % P f = (w ^ u * 1) % P f := emod_mul_congr rfl (h.wv l)
      have e4 : w ^ u % P f = w ^ l % P f := by
        rw [Int.mul_one] at e3
        rw [Int.one_mul] at e2
        rw [← e3, ← e2]
        congr 1
        rw [Int.mul_assoc, Int.mul_comm (v ^ l)]
      -- exponents apart by less than n
      have key : ∀ a b : Nat, a < b → b < n → w ^ a % P f ≠ w ^ b % P f := fun a b hab hb e => by
        have : w ^ (b - a) % P f = 1 % P f := by
          have e5 : (w ^ b * v ^ a) % P f = (w ^ a * v ^ a) % P f := emod_mul_congr e.symm rfl
          rw [h.wv a] at e5
          have e6 : w ^ b * v ^ a = w ^ (b - a) * (w ^ a * v ^ a) := by rw [← Int.mul_assoc, ← Int.pow_add, Nat.sub_add_cancel (Nat.le_of_lt hab)]
          rw [e6] at e5
          have e7 := emod_mul_congr (p := P f) (show w ^ (b - a) % P f = w ^ (b - a) % P f from rfl) (h.wv a)
          rw [Int.mul_one] at e7
          rw [← e7, e5]
        have := Nat.le_of_dvd (by omega) ((h.ord _).1 this)
        omega
      rcases Nat.lt_or_gt_of_ne hul with hlt | hgt
      · exact key u l hlt hl e4
      · exact key l u hgt hu e4.symm
/-- The transform, unreduced. -/
def ftF (w : Int) (n : Nat) (A : Nat → Int) (i : Nat) : Int := sumN (fun j => A j * w ^ (i * j)) n
theorem ft_mod {p w : Int} {n : Nat} {A B : Nat → Int} (h : ∀ j, j < n → A j % p = B j % p) (i : Nat) : ftF w n A i % p = ftF w n B i % p := sumN_mod fun j hj => emod_mul_congr (h j hj) rfl
/-- There and back: n times the vector. -/
theorem ft_back {f w v : Int} {n : Nat} (h : Rt f w v n) (A : Nat → Int) {l : Nat} (hl : l < n) : ftF v n (ftF w n A) l % P f = (A l * n) % P f := by
  unfold ftF
  have e1 : sumN (fun j => sumN (fun u => A u * w ^ (j * u)) n * v ^ (l * j)) n = sumN (fun u => A u * sumN (fun j => w ^ (j * u) * v ^ (l * j)) n) n := by
    rw [sumN_congr fun j _ => (sumN_mul_r (v ^ (l * j)) (fun u => A u * w ^ (j * u)) n).symm, sumN_swap]
    exact sumN_congr fun u _ => by
      rw [← sumN_mul]
      exact sumN_congr fun j _ => Int.mul_assoc _ _ _
  rw [e1]
  have e2 : sumN (fun u => A u * sumN (fun j => w ^ (j * u) * v ^ (l * j)) n) n % P f = sumN (fun u => if u = l then A u * n else 0) n % P f := sumN_mod fun u hu => by
    rw [emod_mul_congr (p := P f) (show A u % P f = A u % P f from rfl) (h.delta hu hl)]
    by_cases hul : u = l
    · rw [if_pos hul, if_pos hul]
    · rw [if_neg hul, if_neg hul, Int.mul_zero]
  rw [e2, sumN_single (fun u => A u * n) l n, if_pos hl]
/-- Cyclic convolution. -/
def cycF (n : Nat) (A B : Nat → Int) (i : Nat) : Int := sumN (fun j => A j * B ((i + n - j) % n)) n
theorem ft_cyc {f w v : Int} {n : Nat} (h : Rt f w v n) (A B : Nat → Int) (i : Nat) : ftF w n (cycF n A B) i % P f = (ftF w n A i * ftF w n B i) % P f := by
  have e1 : ftF w n (cycF n A B) i = sumN (fun j => A j * sumN (fun t => B ((t + n - j) % n) * w ^ (i * t)) n) n := by
    unfold ftF cycF
    rw [sumN_congr fun t _ => (sumN_mul_r (w ^ (i * t)) (fun j => A j * B ((t + n - j) % n)) n).symm, sumN_swap]
    exact sumN_congr fun j _ => by
      rw [← sumN_mul]
      exact sumN_congr fun t _ => Int.mul_assoc _ _ _
  have e2 : ∀ j, j < n → sumN (fun t => B ((t + n - j) % n) * w ^ (i * t)) n % P f = (ftF w n B i * w ^ (i * j)) % P f := fun j hj => by
    have e3 : sumN (fun t => B ((t + n - j) % n) * w ^ (i * t)) n % P f = sumN (fun t => (fun s => B s * w ^ (i * (s + j))) ((t + (n - j)) % n)) n % P f := sumN_mod fun t _ => by
      show _ = (B ((t + (n - j)) % n) * w ^ (i * ((t + (n - j)) % n + j))) % P f
      rw [show t + n - j = t + (n - j) by omega]
      refine emod_mul_congr rfl (h.exp ?_)
      rw [Nat.mul_mod, Nat.mul_mod i ((t + (n - j)) % n + j), Nat.mod_add_mod, show t + (n - j) + j = t + n by omega, Nat.add_mod_right]
    rw [e3, sumN_turn (fun s => B s * w ^ (i * (s + j))) (by omega)]
    unfold ftF
    rw [← sumN_mul_r]
    congr 1
    exact sumN_congr fun s _ => by rw [Nat.mul_add, Int.pow_add, Int.mul_assoc]
  rw [e1]
  have e4 : sumN (fun j => A j * sumN (fun t => B ((t + n - j) % n) * w ^ (i * t)) n) n % P f = sumN (fun j => A j * w ^ (i * j) * ftF w n B i) n % P f := sumN_mod fun j hj => by
    rw [emod_mul_congr (p := P f) (show A j % P f = A j % P f from rfl) (e2 j hj), Int.mul_comm (ftF w n B i), ← Int.mul_assoc]
  rw [e4, sumN_mul_r]
  rfl
/-- Twisted convolution. -/
def twiF (n : Nat) (A B : Nat → Int) (i : Nat) : Int := sumN (fun j => if j ≤ i then A j * B (i - j) else - (A j * B (i + n - j))) n
theorem twi_fold {n i : Nat} (hi : i < n) {A B : Nat → Int} (hA : ∀ j, n ≤ j → A j = 0) (hB : ∀ j, n ≤ j → B j = 0) : twiF n A B i = cv i A B - cv (i + n) A B := by
  have e1 : cv i A B = sumN (fun j => if j ≤ i then A j * B (i - j) else 0) n := by
    rw [cv_sum]
    have : sumN (fun j => if j ≤ i then A j * B (i - j) else 0) n = sumN (fun j => if j ≤ i then A j * B (i - j) else 0) (i + 1) := sumN_more (by omega) fun j hj _ => by rw [if_neg (by omega)]
    rw [this]
    exact sumN_congr fun j hj => by rw [if_pos (by omega)]
  have e2 : cv (i + n) A B = sumN (fun j => if j ≤ i then 0 else A j * B (i + n - j)) n := by
    rw [cv_sum]
    have : sumN (fun j => A j * B (i + n - j)) (i + n + 1) = sumN (fun j => A j * B (i + n - j)) n := sumN_more (by omega) fun j hj _ => by rw [hA j hj, Int.zero_mul]
    rw [this]
    exact sumN_congr fun j hj => by
      by_cases hji : j ≤ i
      · rw [if_pos hji, hB _ (by omega), Int.mul_zero]
      · rw [if_neg hji]
  rw [e1, e2]
  unfold twiF
  have e3 : sumN (fun j => if j ≤ i then A j * B (i - j) else - (A j * B (i + n - j))) n = sumN (fun j => (if j ≤ i then A j * B (i - j) else 0) + (-1) * (if j ≤ i then 0 else A j * B (i + n - j))) n := sumN_congr fun j _ => by
    by_cases hji : j ≤ i
    · rw [if_pos hji, if_pos hji, if_pos hji]; omega
    · rw [if_neg hji, if_neg hji, if_neg hji]; omega
  rw [e3, sumN_add, sumN_mul]
  omega
end Go.Proofs.YtoonpnfhcmghmaaDoor
namespace Go.Proofs.YtoonpnfhcmghmaaDoor
open Mth
theorem pow_cast {f : Int} (h0 : 0 ≤ f) (h8 : f ≤ 8) {x : Int} (hx : 0 ≤ x) (m : Nat) : x ^ m % P f = ((x.toNat ^ m % (P f).toNat : Nat) : Int) := by
  have hp := P_bd h0 h8
  rw [Int.natCast_emod, Int.natCast_pow, Int.toNat_of_nonneg hx, Int.toNat_of_nonneg (by omega)]
theorem PW_pow {f x : Int} (h0 : 0 ≤ f) (h8 : f ≤ 8) (hx : 0 ≤ x) (m : Nat) : PW (P f) x m = x ^ m % P f := by
  rw [pow_cast h0 h8 hx]
  unfold PW
  rw [Int.toNat_natCast]
theorem rootsF_pow {f k : Int} (h : hasK f k) (j : Nat) : rootsF f k j = mRoot f k ^ j % P f := by
  have b := root_bd h
  exact PW_pow h.1.1 h.1.2 (by omega) j
/-- The inverse of the root. -/
def mInvR (f k : Int) : Int := mPower f (mRoot f k) (-1)
theorem invR_bd {f k : Int} (h : hasK f k) : 0 < mInvR f k ∧ mInvR f k < P f := by
  have b := root_bd h
  have hz : RS (mRoot f k) (P f) ≠ 0 := by rw [RS_self (by omega) b.2]; omega
  exact (inv_one h.1.1 h.1.2 hz).2
theorem rt_of {f k : Int} (h : hasK f k) : Rt f (mRoot f k) (mInvR f k) (2 ^ k.toNat) := by
  have b := root_bd h
  have h0 := h.1.1
  have h8 := h.1.2
  have hp := P_bd h0 h8
  have hz : RS (mRoot f k) (P f) ≠ 0 := by rw [RS_self (by omega) b.2]; omega
  refine ⟨h0, h8, Nat.pow_pos (by omega), fun m => ?_, ?_⟩
  · rw [one_p h0 h8, pow_cast h0 h8 (by omega), ← root_ord h m]
    omega
  · have := (inv_one h0 h8 hz).1
    rw [RS_self (x := mRoot f k) (by omega) b.2, Int.mul_comm] at this
    rw [one_p h0 h8]
    exact this
/-- Half way round is -1. -/
theorem Rt.half {f w v : Int} {m : Nat} (h : Rt f w v (m + m)) : (w ^ m + 1) % P f = 0 := by
  have m0 : 0 < m := by have := h.n0; omega
  refine Classical.byContradiction fun hs => ?_
  have h1 : (w ^ m - 1) % P f ≠ 0 := fun e => by
    have : w ^ m % P f = 1 % P f := by
      have := emod_add_congr (p := P f) (a := w ^ m - 1) (b := 0) (c := 1) (d := 1) (by rw [e]; simp) rfl
      rwa [Int.sub_add_cancel, Int.zero_add] at this
    have := Nat.le_of_dvd m0 ((h.ord m).1 this)
    omega
  have := mul_nz h.h0 h.h8 h1 hs
  refine this ?_
  have e : (w ^ m - 1) * (w ^ m + 1) = w ^ (m + m) - 1 := by
    rw [Int.pow_add, Int.mul_add, Int.sub_mul, Int.sub_mul]
    omega
  rw [e]
  exact emod_zero_of_sub h.full
theorem rv_bit (b c : Nat) (hc : c < 2) : ∀ j, rv (2 * b + c) (j + 1) = c * 2 ^ j + rv b j
  | 0 => by simp [rv]; omega
  | j + 1 => by
    rw [rv, rv_bit b c hc j]
    show 2 * (c * 2 ^ j + rv b j) + (2 * b + c) / 2 ^ (j + 1) % 2 = c * 2 ^ (j + 1) + rv b (j + 1)
    rw [rv, Nat.pow_succ, Nat.mul_comm (2 ^ j) 2, ← Nat.div_div_eq_div_mul, show (2 * b + c) / 2 = b by omega, Nat.mul_add, ← Nat.mul_assoc c, Nat.mul_comm c 2, Nat.mul_assoc 2 c, Nat.add_assoc]
/-- After s levels: each block of 2^s is the transform of every 2^(k-s)-th number of X. -/
def Lev (f w : Int) (k s : Nat) (X V : Nat → Int) : Prop :=
  ∀ b t, b < 2 ^ (k - s) → t < 2 ^ s → V (b * 2 ^ s + t) % P f = sumN (fun u => X (rv b (k - s) + u * 2 ^ (k - s)) * w ^ (t * (u * 2 ^ (k - s)))) (2 ^ s) % P f
theorem Lev.start {f w : Int} {k : Nat} {X V : Nat → Int} (h : ∀ j, j < 2 ^ k → V j % P f = X (rv j k) % P f) : Lev f w k 0 X V := by
  intro b t hb ht
  have : t = 0 := by have : t < 1 := ht; omega
  subst this
  rw [Nat.sub_zero] at hb ⊢
  rw [show b * 2 ^ 0 + 0 = b by simp, h b hb]
  show _ = (sumN _ 0 + X (rv b k + 0 * 2 ^ k) * w ^ (0 * (0 * 2 ^ k))) % P f
  simp [sumN]
/-- One level. -/
theorem Lev.step {f w v : Int} {k s : Nat} {X V V' : Nat → Int} (hr : Rt f w v (2 ^ k)) (hs : s < k) (h : Lev f w k s X V)
    (hlo : ∀ b t, b < 2 ^ (k - s - 1) → t < 2 ^ s → V' (b * 2 ^ (s + 1) + t) % P f = (V (b * 2 ^ (s + 1) + t) + V (b * 2 ^ (s + 1) + t + 2 ^ s) * w ^ (t * 2 ^ (k - s - 1))) % P f)
    (hhi : ∀ b t, b < 2 ^ (k - s - 1) → t < 2 ^ s → V' (b * 2 ^ (s + 1) + t + 2 ^ s) % P f = (V (b * 2 ^ (s + 1) + t) - V (b * 2 ^ (s + 1) + t + 2 ^ s) * w ^ (t * 2 ^ (k - s - 1))) % P f) : Lev f w k (s + 1) X V' := by
  intro b t hb ht
  obtain ⟨m, hm⟩ : ∃ m, m = 2 ^ (k - s - 1) := ⟨_, rfl⟩
  obtain ⟨g, hg⟩ : ∃ g, g = 2 ^ s := ⟨_, rfl⟩
  have e1 : k - (s + 1) = k - s - 1 := by omega
  have e2 : k - s = k - s - 1 + 1 := by omega
  have p1 : (2 : Nat) ^ (k - s) = 2 * m := by rw [e2, Nat.pow_succ, hm, Nat.mul_comm]
  have p2 : (2 : Nat) ^ (s + 1) = 2 * g := by rw [Nat.pow_succ, hg, Nat.mul_comm]
  have p3 : (2 : Nat) ^ k = g * m + g * m := by
    have : k = s + (k - s - 1) + 1 := by omega
    rw [this, Nat.pow_succ, Nat.pow_add, ← hg, ← hm]
    omega
  have hr2 : Rt f w v (g * m + g * m) := by rw [← p3]; exact hr
  have hhalf := hr2.half
  rw [e1, ← hm] at hb
  rw [← hm] at hlo hhi
  rw [← hg] at hlo hhi
  rw [p2] at hlo hhi ht
  rw [e1, ← hm, p2]
  -- the two blocks below
  have r0 : rv (2 * b) (k - s) = rv b (k - s - 1) := by rw [e2]; have := rv_bit b 0 (by omega) (k - s - 1); simpa using this
  have r1 : rv (2 * b + 1) (k - s) = rv b (k - s - 1) + m := by rw [e2]; have := rv_bit b 1 (by omega) (k - s - 1); rw [Nat.one_mul, ← hm] at this; rw [show k - s - 1 + 1 - 1 = k - s - 1 by omega]; omega
  have LE : ∀ t, t < g → V (b * (2 * g) + t) % P f = sumN (fun u => X (rv b (k - s - 1) + u * (2 * m)) * w ^ (t * (u * (2 * m)))) g % P f := fun t ht => by
    have := h (2 * b) t (by rw [p1]; omega) (by rw [← hg]; exact ht)
    rw [r0, p1, ← hg, show 2 * b * g = b * (2 * g) by rw [Nat.mul_comm 2 b, Nat.mul_assoc]] at this
    exact this
  have LO : ∀ t, t < g → V (b * (2 * g) + t + g) % P f = sumN (fun u => X (rv b (k - s - 1) + m + u * (2 * m)) * w ^ (t * (u * (2 * m)))) g % P f := fun t ht => by
    have := h (2 * b + 1) t (by rw [p1]; omega) (by rw [← hg]; exact ht)
    rw [r1, p1, ← hg, show (2 * b + 1) * g + t = b * (2 * g) + t + g by rw [Nat.add_mul, Nat.mul_comm 2 b, Nat.mul_assoc]; omega] at this
    exact this
  -- the whole sum, split
  have split : ∀ t, sumN (fun u => X (rv b (k - s - 1) + u * m) * w ^ (t * (u * m))) (2 * g) = sumN (fun u => X (rv b (k - s - 1) + u * (2 * m)) * w ^ (t * (u * (2 * m)))) g + sumN (fun u => X (rv b (k - s - 1) + m + u * (2 * m)) * w ^ (t * (u * (2 * m)))) g * w ^ (t * m) := fun t => by
    rw [sumN_even, ← sumN_mul_r]
    congr 1
    · exact sumN_congr fun u _ => by rw [show 2 * u * m = u * (2 * m) by rw [Nat.mul_comm 2 u, Nat.mul_assoc]]
    · exact sumN_congr fun u _ => by
        rw [show (2 * u + 1) * m = m + u * (2 * m) by rw [Nat.add_mul, Nat.mul_comm 2 u, Nat.mul_assoc]; omega, ← Nat.add_assoc, Int.mul_assoc, ← Int.pow_add, ← Nat.mul_add, Nat.add_comm m]
  by_cases htg : t < g
  · rw [hlo b t hb htg, split t]
    exact emod_add_congr (LE t htg) (emod_mul_congr (LO t htg) rfl)
  · obtain ⟨r, rfl⟩ : ∃ r, t = r + g := ⟨t - g, by omega⟩
    have hrg : r < g := by omega
    rw [← Nat.add_assoc, hhi b r hb hrg, split (r + g)]
    -- w^((r+g) u 2m) = w^(r u 2m), w^((r+g) m) = - w^(r m)
    have x1 : ∀ u, w ^ ((r + g) * (u * (2 * m))) % P f = w ^ (r * (u * (2 * m))) % P f := fun u => hr2.exp (by
      rw [Nat.add_mul, show g * (u * (2 * m)) = (g * m + g * m) * u by rw [← Nat.mul_assoc, Nat.mul_comm g u, Nat.mul_assoc, Nat.mul_comm _ u, ← Nat.mul_add g, Nat.two_mul], Nat.add_mul_mod_self_left])
    have x2 : w ^ ((r + g) * m) % P f = (- w ^ (r * m)) % P f := by
      rw [Nat.add_mul, Int.pow_add]
      have : (w ^ (r * m) * w ^ (g * m)) % P f = (w ^ (r * m) * (-1)) % P f := emod_mul_congr rfl (by
        have := emod_add_congr (p := P f) (a := w ^ (g * m) + 1) (b := 0) (c := -1) (d := -1) (by rw [hhalf]; simp) rfl
        rw [Int.zero_add] at this
        rw [← this]
        congr 1
        omega)
      rw [this]
      congr 1
      omega
    have y1 : (sumN (fun u => X (rv b (k - s - 1) + u * (2 * m)) * w ^ ((r + g) * (u * (2 * m)))) g) % P f = V (b * (2 * g) + r) % P f := by
      rw [LE r hrg]
      exact sumN_mod fun u _ => emod_mul_congr rfl (x1 u)
    have y2 : (sumN (fun u => X (rv b (k - s - 1) + m + u * (2 * m)) * w ^ ((r + g) * (u * (2 * m)))) g) % P f = V (b * (2 * g) + r + g) % P f := by
      rw [LO r hrg]
      exact sumN_mod fun u _ => emod_mul_congr rfl (x1 u)
    have y3 := emod_add_congr y1 (emod_mul_congr y2 x2)
    rw [y3]
    congr 1
    rw [Int.mul_neg]
    omega
/-- All levels: the transform. -/
theorem Lev.last {f w : Int} {k : Nat} {X V : Nat → Int} (h : Lev f w k k X V) {t : Nat} (ht : t < 2 ^ k) : V t % P f = ftF w (2 ^ k) X t % P f := by
  have := h 0 t (by simp) ht
  rw [Nat.sub_self, Nat.zero_mul, Nat.zero_add] at this
  rw [this]
  unfold ftF
  congr 1
  exact sumN_congr fun u _ => by simp [rv]
end Go.Proofs.YtoonpnfhcmghmaaDoor
namespace Go.Proofs.YtoonpnfhcmghmaaDoor
open Mth
def VecOk (f : Int) (l : List Int) : Prop := (0 ≤ mLog l.length ∧ mLog l.length ≤ T f) ∧ ∀ j, j < l.length → 0 ≤ lf l j ∧ lf l j < P f
def TwoOk (f : Int) (a b : List Int) : Prop := a.length = b.length ∧ VecOk f a ∧ VecOk f b
open Classical in
noncomputable def mVectorOk (f : Int) (l : List Int) : Bool := decide (VecOk f l)
/-- The log of a vector. -/
theorem VecOk.log {f : Int} {l : List Int} (h : VecOk f l) : ∃ k : Nat, k ≤ 9 ∧ l.length = 2 ^ k ∧ mLog l.length = k ∧ hasK f k := by
  rcases log_cases (l.length : Int) with ⟨k, hk, hn, hl⟩ | ⟨_, hl⟩
  · refine ⟨k, hk, ?_, hl, (hasK_iff f k).2 ⟨by omega, by have := h.1.2; omega⟩⟩
    have e : ((2 ^ k : Nat) : Int) = 2 ^ k := by rw [Int.natCast_pow]; rfl
    omega
  · have := h.1.1
    omega
theorem VecOk.f08 {f : Int} {l : List Int} (h : VecOk f l) : 0 ≤ f ∧ f ≤ 8 := by
  obtain ⟨k, _, _, _, hk⟩ := h.log
  exact hk.1
theorem VecOk.pos {f : Int} {l : List Int} (h : VecOk f l) : 0 < l.length ∧ l.length ≤ 512 := by
  obtain ⟨k, hk, hn, _, _⟩ := h.log
  have : 2 ^ k ≤ 2 ^ 9 := Nat.pow_le_pow_right (by omega) hk
  have h0 : 0 < 2 ^ k := Nat.pow_pos (by omega)
  omega
theorem VecOk.lt {f : Int} {l : List Int} (h : VecOk f l) (j : Nat) : 0 ≤ lf l j ∧ lf l j < P f := by
  have h08 := h.f08
  have hp := P_bd h08.1 h08.2
  by_cases hj : j < l.length
  · exact h.2 j hj
  · rw [lf_out l (by omega)]; omega
def rootL (f : Int) (l : List Int) : Int := mRoot f (mLog l.length)
def invRL (f : Int) (l : List Int) : Int := mInvR f (mLog l.length)
theorem VecOk.rt {f : Int} {l : List Int} (h : VecOk f l) : Rt f (rootL f l) (invRL f l) l.length := by
  obtain ⟨k, hk, hn, hl, hh⟩ := h.log
  have := rt_of hh
  unfold rootL invRL
  rw [hl, hn]
  rwa [Int.toNat_natCast] at this
def fwdL (f : Int) (l : List Int) : List Int := tab l.length fun i => RS (ftF (rootL f l) l.length (lf l) i) (P f)
def bwdL (f : Int) (l : List Int) : List Int := tab l.length fun i => RS (ftF (invRL f l) l.length (lf l) i * mPower f l.length (-1)) (P f)
def ptwL (f : Int) (a b : List Int) : List Int := tab a.length fun i => RS (lf a i * lf b i) (P f)
def twiL (f : Int) (a b : List Int) : List Int := tab a.length fun i => RS (twiF a.length (lf a) (lf b) i) (P f)
/-- By how much a rotation by r turns a vector of n numbers. -/
def turnN (n : Nat) (r : Int) : Nat := (r % n).toNat
/-- One level, at place t; d is n / (2 h). -/
def stgF (f w : Int) (h d : Nat) (V : Nat → Int) (t : Nat) : Int :=
  if t % (2 * h) < h then RS (V t + RS (V (t + h) * w ^ (t % (2 * h) * d)) (P f)) (P f) else RS (V (t - h) - RS (V t * w ^ ((t % (2 * h) - h) * d)) (P f)) (P f)
def stgL (f : Int) (l : List Int) (s : Nat) : List Int := tab l.length (stgF f (rootL f l) (2 ^ s) (l.length / (2 * 2 ^ s)) (lf l))
open Classical in
noncomputable def mPointwise (f : Int) (a b : List Int) : List Int := if TwoOk f a b then ptwL f a b else []
open Classical in
noncomputable def mTwisted (f : Int) (a b : List Int) : List Int := if TwoOk f a b then twiL f a b else []
theorem len_mTwisted (f : Int) (a b : List Int) (n : a.length ≤ 1048576) (_m : b.length ≤ 1048576) : (mTwisted f a b).length ≤ 1048576 := by
  unfold mTwisted; split
  · unfold twiL; rw [tab_len]; exact n
  · exact Nat.zero_le _
/-- A list of the same length whose numbers are reduced is a vector. -/
theorem VecOk.tab {f : Int} {l : List Int} (h : VecOk f l) {n : Nat} (hn : n = l.length) (F : Nat → Int) (hF : ∀ j, j < n → 0 ≤ F j ∧ F j < P f) : VecOk f (tab n F) := by
  subst hn
  refine ⟨by rw [tab_len]; exact h.1, fun j hj => ?_⟩
  rw [tab_len] at hj
  rw [lf_tab, if_pos hj]
  exact hF j hj
theorem VecOk.fwd {f : Int} {l : List Int} (h : VecOk f l) : VecOk f (fwdL f l) := h.tab rfl _ fun _ _ => RS_bd (P_pos h.f08.1 h.f08.2)
theorem VecOk.bwd {f : Int} {l : List Int} (h : VecOk f l) : VecOk f (bwdL f l) := h.tab rfl _ fun _ _ => RS_bd (P_pos h.f08.1 h.f08.2)
theorem fwdL_len (f : Int) (l : List Int) : (fwdL f l).length = l.length := tab_len _ _
theorem bwdL_len (f : Int) (l : List Int) : (bwdL f l).length = l.length := tab_len _ _
theorem rootL_len {f : Int} {a b : List Int} (h : a.length = b.length) : rootL f a = rootL f b := by unfold rootL; rw [h]
theorem lf_fwdL {f : Int} {l : List Int} {i : Nat} (h : i < l.length) : lf (fwdL f l) i = ftF (rootL f l) l.length (lf l) i % P f := by
  unfold fwdL; rw [lf_tab, if_pos h]; rfl
theorem lf_bwdL {f : Int} {l : List Int} {i : Nat} (h : i < l.length) : lf (bwdL f l) i = (ftF (invRL f l) l.length (lf l) i * mPower f l.length (-1)) % P f := by
  unfold bwdL; rw [lf_tab, if_pos h]; rfl
/-- n has an inverse. -/
theorem VecOk.inv_n {f : Int} {l : List Int} (h : VecOk f l) : ((l.length : Int) * mPower f l.length (-1)) % P f = 1 % P f := by
  have h08 := h.f08
  have hp := P_bd h08.1 h08.2
  obtain ⟨k, hk, hn, hl, hh⟩ := h.log
  have hle := two_le hh
  have hpos := h.pos
  have e : two (k : Int) = (l.length : Int) := by unfold two; rw [hn, Int.toNat_natCast, Int.natCast_pow]; rfl
  have hs : RS (l.length : Int) (P f) = l.length := RS_self (by omega) (by omega)
  have := (inv_one h08.1 h08.2 (z := (l.length : Int)) (by rw [hs]; omega)).1
  rw [hs, Int.mul_comm] at this
  rw [one_p h08.1 h08.2]
  exact this
end Go.Proofs.YtoonpnfhcmghmaaDoor
namespace Go.Proofs.YtoonpnfhcmghmaaDoor
open Go.RowKit
def NilP (w : World) (e : Ending) (w' : World) : Prop := e = .returned (.slice none 0 0) ∧ Below w.heap.size w w'
theorem NilP.list {w w' : World} {l : List Int} {e : Ending} (hl : l = []) (h : NilP w e w') : ListL w l e w' := by
  subst hl
  obtain ⟨rfl, hb⟩ := h
  exact ⟨none, 0, rfl, .inl rfl, hb⟩
theorem NilP.own {w w' : World} {l : List Int} {e : Ending} (hl : l = []) (h : NilP w e w') : OwnL w l e w' := by
  subst hl
  obtain ⟨rfl, hb⟩ := h
  exact ⟨none, 0, rfl, OwnA.nil rfl, hb⟩
end Go.Proofs.YtoonpnfhcmghmaaDoor
namespace Go.Proofs.YtoonpnfhcmghmaaDoor
open Go.RowKit
theorem inverse_c (n a : Int) (w : World) (ht : Tab w) (h0 : 0 ≤ n) (h8 : n ≤ 8) (ha : 0 ≤ a) (ha2 : a < P n) : Calls Tryd.prog 112 #[.int .i64 n, .int .i64 a] w fun e w' => e = .returned (.int .i64 (PW (P n) a (P n - 2))) ∧ w = w' := by
  have hp := P_bd h0 h8
  go_enter Tryd.func112, Tryd.ntmps112
  go_wp2_with fail
  refine (prime_c n w ht h0 h8).mono ?_
  rintro e w' ⟨rfl, rfl⟩
  go_wp2_with fail
  refine (power_c n a (P n - 2) w ht h0 h8 ha ha2 (by omega) (by omega)).mono ?_
  rintro e w' ⟨rfl, rfl⟩
  go_wp2
  go_ret
  exact ⟨rfl, rfl⟩
theorem inverse_inv {f x : Int} (h0 : 0 ≤ f) (h8 : f ≤ 8) (x0 : 0 < x) (x1 : x < P f) : PW (P f) x (P f - 2) = invF f x := by
  have hp := P_bd h0 h8
  have b := PW_bd (m := P f) (x := x) (e := P f - 2) (by omega)
  refine inv_unique h0 h8 b.1 b.2 ?_ ?_
  · rw [RS_self (by omega) x1]; omega
  · rw [RS_self (by omega) x1]; exact back_first h0 h8 x0 x1
def upd (Q : Nat → Int) (s : Nat) (m : Int) : Nat → Int := fun j => if j = s then m else Q j
end Go.Proofs.YtoonpnfhcmghmaaDoor
namespace Go.Proofs.YtoonpnfhcmghmaaDoor
open Go.RowKit
/-- The row within a round: the first j of row i done. -/
def prw (f : Int) (A B : Nat → Int) (i j : Nat) : Nat → Int := fun k => if i ≤ k ∧ k < i + j then RS (cpar A B k (i + 1)) (P f) else RS (cpar A B k i) (P f)
theorem prw_zero (f : Int) (A B : Nat → Int) (i k : Nat) : RS (cpar A B k i) (P f) = prw f A B i 0 k := by unfold prw; rw [if_neg (by omega)]
theorem prw_at (f : Int) (A B : Nat → Int) (i j : Nat) : prw f A B i j (i + j) = RS (cpar A B (i + j) i) (P f) := by unfold prw; rw [if_neg (by omega)]
theorem prw_new (f : Int) (A B : Nat → Int) (i j : Nat) : RS (RS (cpar A B (i + j) i) (P f) + A i * B j) (P f) = RS (cpar A B (i + j) (i + 1)) (P f) := by
  rw [cpar_succ, if_pos (by omega), Nat.add_sub_cancel_left]
  unfold RS
  exact emod_add_congr (by simp) rfl
theorem prw_succ (f : Int) (A B : Nat → Int) (i j k : Nat) : (if k = i + j then RS (cpar A B (i + j) (i + 1)) (P f) else prw f A B i j k) = prw f A B i (j + 1) k := by
  unfold prw
  by_cases h : k = i + j
  · subst h
    rw [if_pos rfl, if_pos (by omega)]
  · rw [if_neg h]
    by_cases h1 : i ≤ k ∧ k < i + j
    · rw [if_pos h1, if_pos (by omega)]
    · rw [if_neg h1, if_neg (by omega)]
theorem prw_end {f : Int} {A B : Nat → Int} {m : Nat} (hB : ∀ j, m ≤ j → B j = 0) (i k : Nat) : prw f A B i m k = RS (cpar A B k (i + 1)) (P f) := by
  unfold prw
  split
  · rfl
  · rename_i h
    rw [cpar_succ]
    by_cases h1 : i ≤ k
    · rw [if_pos h1, hB (k - i) (by omega), Int.mul_zero, Int.add_zero]
    · rw [if_neg h1, Int.add_zero]
theorem prw_set {f : Int} {wr : World} {g N i j : Nat} {A B : Nat → Int} (h : Own wr g N (prw f A B i j)) : Own (wr.setCell ⟨g, i + j, none⟩ (.int .i64 (RS (cpar A B (i + j) (i + 1)) (P f)))) g N (prw f A B i (j + 1)) := by
  refine (World.rowIs.set h (i + j) (.int .i64 (RS (cpar A B (i + j) (i + 1)) (P f)))).congr fun k _ => ?_
  rw [← prw_succ]
  split <;> rfl
set_option maxRecDepth 100000 in
set_option maxHeartbeats 3200000 in
theorem product_some (f : Int) (b off b2 off2 n m cap cap2 N : Nat) (A B : Nat → Int) (w : World) (ht : Tab w) (h0 : 0 ≤ f) (h8 : f ≤ 8) (hn : n ≤ 4096) (hm : m ≤ 4096) (n0 : 0 < n) (m0 : 0 < m) (hN : n + m = N + 1)
    (hA : ∀ j, 0 ≤ A j ∧ A j < P f) (hB : ∀ j, 0 ≤ B j ∧ B j < P f) (hB2 : ∀ j, m ≤ j → B j = 0) (hlt : b < w.heap.size) (hlt2 : b2 < w.heap.size)
    (hc : ∀ j, j < n → w.cell? ⟨b, off + j, none⟩ = some (.int .i64 (A j))) (hc2 : ∀ j, j < m → w.cell? ⟨b2, off2 + j, none⟩ = some (.int .i64 (B j))) :
    Calls Tryd.prog 104 #[.int .i64 f, .slice (some ⟨b, off, none⟩) n cap, .slice (some ⟨b2, off2, none⟩) m cap2] w fun e w' => e = .returned (.slice (some ⟨w.heap.size, 0, none⟩) N N) ∧ Own w' w.heap.size N (fun k => RS (cpar A B k n) (P f)) ∧ Below w.heap.size w w' := by
  have HC := Lib.hid hc
  have HC2 := Lib.hid hc2
  have HA := Lib.hid hA
  have HB := Lib.hid hB
  have HB2 := Lib.hid hB2
  clear hc hc2 hA hB hB2
  have hp := P_bd h0 h8
  have z1 : ((n : Int) == 0) = false := by simp; omega
  have z2 : ((m : Int) == 0) = false := by simp; omega
  have hmk : ∀ w, (Instr.makeSlice 24 (.int .i64 ((n : Int) + m - 1)) (.int .i64 ((n : Int) + m - 1))).run Tryd.prog w = .ok (.slice (some ⟨w.heap.size, 0, none⟩) N N) (w.alloc (.cells (madeCells #[.int .i64 0] N) 3)) := fun w => by
    rw [show ((n : Int) + m - 1) = (N : Int) by omega]; exact made_n N (by omega) w
  go_enter Tryd.func104, Tryd.ntmps104
  go_wp2_with fail
  clear hmk
  go_loopw [8, 9, 10, 11, 30] (fun _ _ _ _ i wr => ∃ k : Nat, i = .int .i64 k ∧ k ≤ n ∧ Own wr w.heap.size N (fun j => RS (cpar A B j k) (P f)) ∧ Below w.heap.size w wr) (fun _ _ _ _ i _ => n - (intOf i).toNat)
  case atStart =>
    refine ⟨0, rfl, Nat.zero_le _, ?_, (Below.refl _ _).alloc (Nat.le_refl _) _⟩
    exact (World.rowIs_made w (.int .i64 0) N 3).congr fun j _ => by simp [cpar, sumN, RS]
  case round =>
    obtain ⟨i, rfl, hi, ho, hb⟩ := hrel
    by_cases h1 : i < n
    · have d1 : wr.cell? ⟨b, off + i, none⟩ = some (.int .i64 (A i)) := (hb.cell (p := ⟨b, off + i, none⟩) hlt).trans (HC.out i h1)
      have bA := HA.out i
      have HO := Lib.hid (own_congr ho rfl (fun k _ => prw_zero f A B i k))
      clear ho
      go_wp2_with fail
      go_loopw [10, 11, 37] (fun _ _ i2 wr => ∃ j : Nat, i2 = .int .i64 j ∧ j ≤ m ∧ Own wr w.heap.size N (prw f A B i j) ∧ Below w.heap.size w wr) (fun _ _ i2 _ => m - (intOf i2).toNat)
      case atStart => exact ⟨0, rfl, Nat.zero_le _, HO.out, hb⟩
      case round =>
        clear HO d1 hb
        obtain ⟨j, rfl, hj, ho, hb⟩ := hrel
        by_cases h2 : j < m
        · have d2 : wr.cell? ⟨b2, off2 + j, none⟩ = some (.int .i64 (B j)) := (hb.cell (p := ⟨b2, off2 + j, none⟩) hlt2).trans (HC2.out j h2)
          have hij : i + j < N := by omega
          have c2 := World.rowIs.cell ho hij
          rw [prw_at] at c2
          have c3 := World.rowIs.frozen ho (i + j)
          have HT := Lib.hid (ht.below hb)
          have bB := HB.out j
          have pb := prod_bd h0 h8 bA.1 bA.2 bB.1 bB.2
          have pr := RS_bd (x := cpar A B (i + j) i) (m := P f) (by omega)
          have HS := Lib.hid (prw_set ho)
          have HE := Lib.hid (prw_new f A B i j)
          clear ho
          generalize RS (cpar A B (i + j) i) (P f) = X at *
          go_wp2_with fail
          refine (reduce_c f (X + A i * B j) wr HT.out h0 h8).mono ?_
          rintro e w' ⟨rfl, rfl⟩
          rw [HE.out]
          go_wp2
          go_roundw
          case rel => exact ⟨j + 1, by go_num, by omega, HS.out, hb.setCell (Nat.le_refl _) _⟩
          case measure => simp [intOf]; omega
        · have hd2 : decide (j < m) = false := by simpa using h2
          obtain rfl : j = m := by omega
          have HO := Lib.hid (own_congr ho rfl (fun k _ => prw_end HB2.out i k))
          clear ho
          go_wp2
          go_roundw
          case rel => exact ⟨i + 1, by go_num, by omega, HO.out, hb⟩
          case measure => simp [intOf]; omega
    · have hd : decide (i < n) = false := by simpa using h1
      obtain rfl : i = n := by omega
      have HO := Lib.hid ho
      clear ho
      go_wp2
      go_ret
      exact ⟨rfl, HO.out, hb⟩
end Go.Proofs.YtoonpnfhcmghmaaDoor
namespace Go.Proofs.YtoonpnfhcmghmaaDoor
open Go.RowKit
/-- A row with room: the first n cells are known. -/
def OwnV (w : World) (g n cap : Nat) (F : Nat → Int) : Prop := ∃ V, w.rowIs g 3 cap V ∧ n ≤ cap ∧ ∀ j, j < n → V j = .int .i64 (F j)
theorem OwnV.cell {w : World} {g n cap : Nat} {F : Nat → Int} (h : OwnV w g n cap F) {j : Nat} (hj : j < n) : w.cell? ⟨g, j, none⟩ = some (.int .i64 (F j)) := by
  obtain ⟨V, h1, h2, h3⟩ := h
  rw [← h3 j hj]
  exact World.rowIs.cell h1 (by omega)
theorem OwnV.frozen {w : World} {g n cap : Nat} {F : Nat → Int} (h : OwnV w g n cap F) (j : Nat) : w.frozen? ⟨g, j, none⟩ = false := by
  obtain ⟨V, h1, h2, h3⟩ := h
  exact World.rowIs.frozen h1 j
theorem OwnV.lt {w : World} {g n cap : Nat} {F : Nat → Int} (h : OwnV w g n cap F) : g < w.heap.size := by
  obtain ⟨V, h1, _⟩ := h
  exact World.rowIs.lt h1
theorem OwnV.set {w : World} {g n cap s : Nat} {F : Nat → Int} {x : Int} (h : OwnV w g n cap F) : OwnV (w.setCell ⟨g, s, none⟩ (.int .i64 x)) g n cap (upd F s x) := by
  obtain ⟨V, h1, h2, h3⟩ := h
  refine ⟨_, World.rowIs.set h1 s (.int .i64 x), h2, fun j hj => ?_⟩
  unfold upd
  by_cases e : j = s
  · simp [e]
  · simp [e, h3 j hj]
theorem OwnV.other {w : World} {g g2 n cap s : Nat} {F : Nat → Int} {v : Value} (h : OwnV w g n cap F) (hne : g ≠ g2) : OwnV (w.setCell ⟨g2, s, none⟩ v) g n cap F := by
  obtain ⟨V, h1, h2, h3⟩ := h
  exact ⟨V, World.rowIs.setOther h1 (a := ⟨g2, s, none⟩) hne v, h2, h3⟩
theorem OwnV.keep {w w' : World} {g n cap : Nat} {F : Nat → Int} (h : OwnV w g n cap F) (hb : Below w.heap.size w w') : OwnV w' g n cap F := by
  obtain ⟨V, h1, h2, h3⟩ := h
  exact ⟨V, World.rowIs.of_block h1 (hb.block g (World.rowIs.lt h1)), h2, h3⟩
theorem OwnV.congr {w : World} {g n cap : Nat} {F G : Nat → Int} (h : OwnV w g n cap F) (e : ∀ j, j < n → F j = G j) : OwnV w g n cap G := by
  obtain ⟨V, h1, h2, h3⟩ := h
  exact ⟨V, h1, h2, fun j hj => by rw [h3 j hj, e j hj]⟩
theorem OwnV.src {w : World} {g n cap : Nat} {F : Nat → Int} (h : OwnV w g n cap F) : Src w (some ⟨g, 0, none⟩) n F :=
  .inr ⟨g, 0, rfl, h.lt, fun j hj => by rw [Nat.zero_add]; exact h.cell hj⟩
theorem OwnV.of_owns {w : World} {base n : Nat} {v : Value} {F : Nat → Int} (h : w.ownsRow base 3 1 v n (xsF F n)) (hn : n ≠ 0) : ∃ g cap, v = .slice (some ⟨g, 0, none⟩) n cap ∧ base ≤ g ∧ OwnV w g n cap F := by
  obtain ⟨hl, h⟩ := h
  rcases h with ⟨h1, h2⟩ | ⟨g, cap, cur, h1, hg, hh, hc, hm, hs, ht⟩
  · exact absurd h2 hn
  · refine ⟨g, cap, h1, hg, fun j => (cur[j]?).getD .nilIface, ⟨cur, hh, by omega, fun j hj => ?_⟩, hc, fun j hj => ?_⟩
    · have : j < cur.size := by omega
      simp [this]
    · have hx : (xsF F n)[j]? = some (.int .i64 (F j)) := by simp [xsF, hj]
      rw [← ht, List.getElem?_take_of_lt (by omega)] at hx
      have : cur[j]? = some (.int .i64 (F j)) := by simpa using hx
      show (cur[j]?).getD .nilIface = _
      rw [this]; rfl
end Go.Proofs.YtoonpnfhcmghmaaDoor
namespace Go.Proofs.YtoonpnfhcmghmaaDoor
open Go.RowKit
def NilB (w : World) (e : Ending) (w' : World) : Prop := e = .returned (.tuple #[.slice none 0 0, .bool false]) ∧ Below w.heap.size w w'
theorem NilB.list {w w' : World} {l : List Int} {b : Bool} {e : Ending} (hl : l = []) (hb : b = false) (h : NilB w e w') : ListLB w l b e w' := by
  subst hl; subst hb
  obtain ⟨rfl, hb⟩ := h
  exact ⟨none, 0, rfl, .inl rfl, hb⟩
theorem NilB.own {w w' : World} {l : List Int} {b : Bool} {e : Ending} (hl : l = []) (hb : b = false) (h : NilB w e w') : OwnLB w l b e w' := by
  subst hl; subst hb
  obtain ⟨rfl, hb⟩ := h
  exact ⟨none, 0, rfl, OwnA.nil rfl, hb⟩
/-- Horner's sums. -/
def hz (f x : Int) (A : Nat → Int) (n : Nat) : Nat → Int
  | 0 => 0
  | t + 1 => RS (RS (hz f x A n t * x) (P f) + A (n - (t + 1))) (P f)
end Go.Proofs.YtoonpnfhcmghmaaDoor
namespace Go.Proofs.YtoonpnfhcmghmaaDoor
open Go.RowKit
set_option maxHeartbeats 800000 in
theorem sameZ_some (b off b2 off2 n cap cap2 : Nat) (F : Nat → Int) (w : World) (hn : n ≤ 1048576) (hlt : b < w.heap.size) (hlt2 : b2 < w.heap.size) (hc : ∀ j, j < n → w.cell? ⟨b, off + j, none⟩ = some (.int .i64 (F j))) (hc2 : ∀ j, j < n → w.cell? ⟨b2, off2 + j, none⟩ = some (.int .i64 (F j))) :
    Calls Tryd.prog 19 #[.slice (some ⟨b, off, none⟩) n cap, .slice (some ⟨b2, off2, none⟩) n cap2] w (TrueP w) := by
  have HC := Lib.hid hc
  have HC2 := Lib.hid hc2
  clear hc hc2
  go_enter Tryd.func19, Tryd.ntmps19
  go_wp2_with fail
  go_loopw [5] (fun i wr => ∃ k : Nat, i = .int .i64 k ∧ k ≤ n ∧ Below w.heap.size w wr) (fun i _ => n - (intOf i).toNat)
  case atStart => exact ⟨0, rfl, Nat.zero_le _, Below.refl _ _⟩
  case round =>
    obtain ⟨k, rfl, hk, hb⟩ := hrel
    by_cases h1 : k < n
    · have c1 : wr.cell? ⟨b, off + k, none⟩ = some (.int .i64 (F k)) := (hb.cell (p := ⟨b, off + k, none⟩) hlt).trans (HC.out k h1)
      have c2 : wr.cell? ⟨b2, off2 + k, none⟩ = some (.int .i64 (F k)) := (hb.cell (p := ⟨b2, off2 + k, none⟩) hlt2).trans (HC2.out k h1)
      go_wp2
      go_quiet (fail)
      go_wp2
      go_roundw
      case rel => exact ⟨k + 1, by go_num, by omega, below_drewN hb _⟩
      case measure => simp [intOf]; omega
    · have hd : decide (k < n) = false := by simpa using h1
      go_wp2
      go_ret
      exact ⟨rfl, hb⟩
theorem sameZ_none (a a2 : Option Addr) (cap cap2 : Nat) (w : World) : Calls Tryd.prog 19 #[.slice a 0 cap, .slice a2 0 cap2] w (TrueP w) := by
  go_enter Tryd.func19, Tryd.ntmps19
  go_wp2
  refine wp_loop_rounds 1 ?_
  rw [rounds_succ]
  go_wp2
  go_ret
  exact ⟨rfl, Below.refl _ _⟩
theorem sameZ (a a2 : Option Addr) (l : List Int) (cap cap2 : Nat) (w : World) (hn : l.length ≤ 1048576) (hs : Src w a l.length (lf l)) (hs2 : Src w a2 l.length (lf l)) : Calls Tryd.prog 19 #[.slice a l.length cap, .slice a2 l.length cap2] w (TrueP w) := by
  rcases hs with h | ⟨b, off, rfl, hlt, hc⟩
  · rw [h]; exact sameZ_none a a2 cap cap2 w
  · rcases hs2 with h | ⟨b2, off2, rfl, hlt2, hc2⟩
    · rw [h]; exact sameZ_none _ a2 cap cap2 w
    · exact sameZ_some b off b2 off2 l.length cap cap2 (lf l) w hn hlt hlt2 hc hc2
/-- The state of the loop that draws a list: the cursor's block is g. -/
def ZAt (g : Nat) (w wr : World) (v : Value) (k : Nat) : Prop := (∃ F, wr.ownsRow w.heap.size 3 1 v k (xsF F k)) ∧ Cur g wr ∧ w.grownBy wr (some g) ∧ w.heap.size ≤ wr.heap.size
theorem zxs_more (F : Nat → Int) (k : Nat) (x : Int) : xsF F k ++ [.int .i64 x] = xsF (fun j => if j < k then F j else x) (k + 1) := by
  rw [← xsF_succ, xsF_congr (F := F) (G := fun j => if j < k then F j else x) (fun j hj => by simp [hj])]
  simp
theorem zown_ne {wr : World} {B g : Nat} {v : Value} {k : Nat} {xs : List Value} (hB : g < B) (h : wr.ownsRow B 3 1 v k xs) : v.ownBlock = none ∨ v.ownBlock ≠ some g := by
  refine .inr fun e => ?_
  have := own_ge h g e
  omega
/-- Growth that writes only into a block made since is growth that writes only into g. -/
theorem grown_new {w w1 w2 : World} {g : Nat} {row : Option Nat} (h1 : w.grownBy w1 (some g)) (h2 : w1.grownBy w2 row) (hr : ∀ k, row = some k → w.heap.size ≤ k) : w.grownBy w2 (some g) :=
  ⟨h2.os.trans h1.os, h2.tape.trans h1.tape, h2.output.trans h1.output, Nat.le_trans h1.size h2.size, fun i hi hne => (h2.block i (Nat.lt_of_lt_of_le hi h1.size) (fun e => by have := hr i e.symm; omega)).trans (h1.block i hi hne)⟩
theorem zdraw_step {g : Nat} {w w1 w2 : World} {v v' : Value} {k : Nat} {x : Int} {F : Nat → Int} {o : Obj} (hB : g < w.heap.size) (g1 : w.grownBy w1 (some g)) (c1 : Cur g w1) (hown1 : w1.ownsRow w.heap.size 3 1 v k (xsF F k))
    (hown' : w2.ownsRow w.heap.size 3 1 v' (k + 1) (xsF F k ++ [.int .i64 x])) (hgrow : (w1.alloc o).grownBy w2 v.ownBlock) : ZAt g w w2 v' (k + 1) := by
  have hge := own_ge hown1
  have hg := grown_new (g1.trans (World.grownBy_alloc w1 o (some g))) hgrow hge
  exact ⟨⟨_, by rw [zxs_more] at hown'; exact hown'⟩, (c1.alloc o).other hgrow (fun r hr => by have := hge r hr; omega), hg, hg.size⟩
def ZRow (g : Nat) (w : World) (n : Nat) (e : Ending) (w' : World) : Prop := ∃ v, e = .returned v ∧ ZAt g w w' v n
set_option maxRecDepth 100000 in
set_option maxHeartbeats 1600000 in
theorem drawList_c (g : Nat) (f : Int) (n : Nat) (w : World) (hc : Cur g w) (hn : n ≤ 4096) : Calls Tryd.prog 99 #[.pointer (some ⟨g, 0, none⟩), .int .i64 f, .int .i64 n] w (ZRow g w n) := by
  obtain ⟨i0, hi, hz0, hz1, hz2⟩ := info_parts info3
  have HI := Lib.hid hi
  have HZ0 := Lib.hid hz0
  have HZ1 := Lib.hid hz1
  have HZ2 := Lib.hid hz2
  clear hi hz0 hz1 hz2
  have hB : g < w.heap.size := hc.lt
  go_enter Tryd.func99, Tryd.ntmps99
  go_wp2_with fail
  go_loopw [7, 8] (fun v i wr => ∃ k : Nat, i = .int .i64 k ∧ k ≤ n ∧ ZAt g w wr v k) (fun _ i _ => n - (intOf i).toNat)
  case atStart => exact ⟨0, rfl, by omega, ⟨fun _ => 0, own_empty w (fun _ => 0)⟩, hc.alloc _, World.grownBy_alloc _ _ _, by simp⟩
  case round =>
    obtain ⟨k, rfl, hk, ⟨F, hown⟩, hcur, hbel, hsz⟩ := hrel
    by_cases hlt : k < n
    · have hd : decide ((k : Int) < n) = true := decide_eq_true (by omega)
      go_wp2_with fail
      refine (element_c g f wr hcur).mono ?_
      rintro e w9 ⟨x9, _, rfl, g9, c9⟩
      have hown9 := hown.kept g9 (zown_ne hB hown)
      have hb9 := hbel.trans g9
      have hs9 : w.heap.size ≤ w9.heap.size := Nat.le_trans hsz g9.size
      clear hown hcur hbel g9
      go_wp2_with (at_builtin; refine wpList_append_own _ rfl _ _ 24 rfl w.heap.size 3 i0 (.int .i64 0) 1 8 Tryd.underlying24 HI.out HZ0.out HZ1.out HZ2.out rfl (by decide) _ _ _ rfl (hown9.alloc _) ⟨w9.heap.size, 0, none⟩ 1 1 [.int .i64 x9] rfl rfl ?c1 ?c2 ?c3 ?c4 ?c5 ?_)
      case c1 => exact cell_one_new _ _ _
      case c2 => intro u hu; simp at hu; subst hu; rfl
      case c3 => unfold maxLen; omega
      case c4 => omega
      case c5 => simp; omega
      intro v' w10 hown' hgrow _
      have hst := zdraw_step hB hb9 c9 hown9 hown' hgrow
      clear hgrow hown' hown9 c9 hb9
      go_wp2
      go_roundw
      case rel => exact ⟨k + 1, by go_num, by omega, hst⟩
      case measure => simp [intOf]; omega
    · have hd : decide ((k : Int) < n) = false := decide_eq_false (by omega)
      obtain rfl : k = n := by omega
      go_wp2
      go_ret
      exact ⟨_, rfl, ⟨F, hown⟩, hcur, hbel, hsz⟩
/-- A list apart from the cursor. -/
def SrcO (g : Nat) (w : World) (a : Option Addr) (n : Nat) (F : Nat → Int) : Prop :=
  n = 0 ∨ ∃ b off, a = some ⟨b, off, none⟩ ∧ b ≠ g ∧ b < w.heap.size ∧ ∀ j, j < n → w.cell? ⟨b, off + j, none⟩ = some (.int .i64 (F j))
theorem SrcO.src {g : Nat} {w : World} {a : Option Addr} {n : Nat} {F : Nat → Int} (h : SrcO g w a n F) : Src w a n F := by
  refine h.imp id ?_
  rintro ⟨b, off, e, _, hlt, hc⟩
  exact ⟨b, off, e, hlt, hc⟩
theorem SrcO.grown {g : Nat} {w w' : World} {a : Option Addr} {n : Nat} {F : Nat → Int} (h : SrcO g w a n F) (hg : w.grownBy w' (some g)) : SrcO g w' a n F := by
  refine h.imp id ?_
  rintro ⟨b, off, e, hne, hlt, hc⟩
  exact ⟨b, off, e, hne, Nat.lt_of_lt_of_le hlt hg.size, fun j hj => hg.cell (hc j hj) (fun e => by injection e with e; exact hne e)⟩
theorem SrcO.of {B g : Nat} {w : World} {v : Value} {n : Nat} {F : Nat → Int} (h : w.ownsRow B 3 1 v n (xsF F n)) (hB : g < B) : ∃ a cap, v = .slice a n cap ∧ n ≤ cap ∧ SrcO g w a n F := by
  by_cases hn : n = 0
  · obtain ⟨a, cap, hv, hc, _⟩ := src_of_owns2 h
    exact ⟨a, cap, hv, hc, .inl hn⟩
  · obtain ⟨g2, cap, hv, hg, ho⟩ := OwnV.of_owns h hn
    have hcap : n ≤ cap := by obtain ⟨_, _, h, _⟩ := ho; exact h
    exact ⟨_, cap, hv, hcap, .inr ⟨g2, 0, rfl, by omega, ho.lt, fun j hj => by rw [Nat.zero_add]; exact ho.cell hj⟩⟩
theorem Cur.below {g : Nat} {w w' : World} (h : Cur g w) (hb : Below w.heap.size w w') : Cur g w' :=
  h.other (row := none) ⟨hb.os, hb.tape, hb.output, hb.size, fun i hi _ => hb.block i hi⟩ (fun _ h => by cases h)
/-- The drawn list, in a row of the draw's own. -/
def ZPol (g : Nat) (w : World) (n : Nat) (e : Ending) (w' : World) : Prop := ∃ (l : List Int) (a : Option Addr) (cap : Nat), e = .returned (.slice a l.length cap) ∧ l.length ≤ n ∧ l.length ≤ cap ∧ SrcO g w' a l.length (lf l) ∧ Cur g w' ∧ w.grownBy w' (some g)
theorem ZPol.of {g : Nat} {w w' : World} {v : Value} {n : Nat} {l : List Int} (h : w'.ownsRow w.heap.size 3 1 v l.length (xsF (lf l) l.length)) (hB : g < w.heap.size) (hl : l.length ≤ n) (hc : Cur g w') (hg : w.grownBy w' (some g)) : ZPol g w n (.returned v) w' := by
  obtain ⟨a, cap, rfl, hcap, hs⟩ := SrcO.of h hB
  exact ⟨l, a, cap, rfl, hl, hcap, hs, hc, hg⟩
theorem lf_tabF (n : Nat) (F : Nat → Int) : xsF (lf (tab n F)) n = xsF F n := xsF_congr fun j hj => by rw [lf_tab, if_pos hj]
/-- The row, its last number written anew. -/
theorem owns_to_tab {w : World} {B n : Nat} {v : Value} {F : Nat → Int} (h : w.ownsRow B 3 1 v n (xsF F n)) : w.ownsRow B 3 1 v (tab n F).length (xsF (lf (tab n F)) (tab n F).length) := by
  rw [tab_len, lf_tabF]
  exact h
end Go.Proofs.YtoonpnfhcmghmaaDoor
namespace Go.Proofs.YtoonpnfhcmghmaaDoor
open Go.RowKit
theorem vok_iff {f : Int} {l : List Int} : mVectorOk f l = true ↔ VecOk f l := by unfold mVectorOk; simp
theorem vok_not {f : Int} {l : List Int} : mVectorOk f l = false ↔ ¬ VecOk f l := by unfold mVectorOk; simp
set_option maxHeartbeats 800000 in
theorem sVectorOk (f : Int) (a : Option Addr) (l : List Int) (cap : Nat) (w : World) (hn : l.length ≤ 1048576) (hs : Src w a l.length (lf l)) : Calls Tryd.prog 14 #[.int .i64 f, .slice a l.length cap] w (SameB w (mVectorOk f l)) := by
  have HL := Lib.hid (show mVectorOk f l = decide ((0 ≤ mLog l.length ∧ mLog l.length ≤ T f) ∧ ∀ j, j < l.length → 0 ≤ lf l j ∧ lf l j < P f) by unfold mVectorOk VecOk; congr)
  by_cases h0 : 0 ≤ mLog l.length
  · by_cases h1 : mLog l.length ≤ T f
    · have h08 : 0 ≤ f ∧ f ≤ 8 := by
        have := (hasK_iff f (mLog l.length)).2 ⟨h0, h1⟩
        exact this.1
      have HE := Lib.hid (elements_c f a l.length cap (lf l) w h08.1 h08.2 hn hs)
      have d0 : decide (0 ≤ mLog l.length) = true := decide_eq_true h0
      have d1 : decide (mLog l.length ≤ T f) = true := decide_eq_true h1
      have HB : Hid (∀ B, elemsB f l.length (lf l) B → mVectorOk f l = B) := Lib.hid fun B hB => by
        cases B
        · obtain ⟨k, hk, hbad⟩ := hB.2 rfl
          exact vok_not.2 fun h => by have := h.2 k hk; omega
        · exact vok_iff.2 ⟨⟨h0, h1⟩, hB.1 rfl⟩
      clear hs HL
      go_enter Tryd.func14, Tryd.ntmps14
      go_wp2_with fail
      refine (sLogOf l.length w).mono ?_
      rintro e w' ⟨rfl, rfl⟩
      go_wp2_with fail
      refine (sTwoPower f w).mono ?_
      rintro e w' ⟨rfl, rfl⟩
      go_wp2_with fail
      refine HE.out.mono ?_
      rintro e w' ⟨B, hB, rfl, rfl⟩
      have HB2 := Lib.hid (HB.out B hB)
      clear hB HE HB
      go_wp2
      go_ret
      exact ⟨by rw [HB2.out]; rfl, rfl⟩
    · have d0 : decide (0 ≤ mLog l.length) = true := decide_eq_true h0
      have d1 : decide (mLog l.length ≤ T f) = false := decide_eq_false h1
      have HB := Lib.hid (vok_not.2 fun h : VecOk f l => h1 h.1.2)
      clear hs HL
      go_enter Tryd.func14, Tryd.ntmps14
      go_wp2_with fail
      refine (sLogOf l.length w).mono ?_
      rintro e w' ⟨rfl, rfl⟩
      go_wp2_with fail
      refine (sTwoPower f w).mono ?_
      rintro e w' ⟨rfl, rfl⟩
      go_wp2
      go_ret
      exact ⟨by rw [HB.out]; rfl, rfl⟩
  · have d0 : decide (0 ≤ mLog l.length) = false := decide_eq_false h0
    have HB := Lib.hid (vok_not.2 fun h : VecOk f l => h0 h.1.1)
    clear hs HL
    go_enter Tryd.func14, Tryd.ntmps14
    go_wp2_with fail
    refine (sLogOf l.length w).mono ?_
    rintro e w' ⟨rfl, rfl⟩
    go_wp2
    go_ret
    exact ⟨by rw [HB.out]; rfl, rfl⟩
open Classical in
noncomputable def mTwo (f : Int) (a b : List Int) : Bool := decide (TwoOk f a b)
theorem two_iff {f : Int} {a b : List Int} : mTwo f a b = true ↔ TwoOk f a b := by unfold mTwo; simp
theorem two_not {f : Int} {a b : List Int} : mTwo f a b = false ↔ ¬ TwoOk f a b := by unfold mTwo; simp
set_option maxHeartbeats 800000 in
theorem sTwo (f : Int) (a a2 : Option Addr) (l m : List Int) (cap cap2 : Nat) (w : World) (hn : l.length ≤ 1048576) (hn2 : m.length ≤ 1048576) (hs : Src w a l.length (lf l)) (hs2 : Src w a2 m.length (lf m)) : Calls Tryd.prog 74 #[.int .i64 f, .slice a l.length cap, .slice a2 m.length cap2] w (SameB w (mTwo f l m)) := by
  by_cases he : l.length = m.length
  · have hd : ((l.length : Int) == m.length) = true := by rw [beq_iff_eq]; omega
    have R1 := sVectorOk f a l cap w hn hs
    have R2 := sVectorOk f a2 m cap2 w hn2 hs2
    by_cases h1 : VecOk f l
    · rw [vok_iff.2 h1] at R1
      have HM : Hid (mTwo f l m = mVectorOk f m) := Lib.hid (by
        by_cases h2 : VecOk f m
        · rw [vok_iff.2 h2, two_iff.2 ⟨he, h1, h2⟩]
        · rw [vok_not.2 h2, two_not.2 fun h => h2 h.2.2])
      have HR1 := Lib.hid R1
      have HR2 := Lib.hid R2
      clear R1 R2 hs hs2 h1 he
      go_enter Tryd.func74, Tryd.ntmps74
      go_wp2_with fail
      refine HR1.out.mono ?_
      rintro e w' ⟨rfl, rfl⟩
      go_wp2_with fail
      refine HR2.out.mono ?_
      rintro e w' ⟨rfl, rfl⟩
      go_wp2
      go_ret
      exact ⟨by rw [HM.out]; rfl, rfl⟩
    · rw [vok_not.2 h1] at R1
      have HM := Lib.hid (two_not.2 fun h : TwoOk f l m => h1 h.2.1)
      have HR1 := Lib.hid R1
      clear R1 R2 hs hs2 h1 he
      go_enter Tryd.func74, Tryd.ntmps74
      go_wp2_with fail
      refine HR1.out.mono ?_
      rintro e w' ⟨rfl, rfl⟩
      go_wp2
      go_ret
      exact ⟨by rw [HM.out]; rfl, rfl⟩
  · have hd : ((l.length : Int) == m.length) = false := by rw [beq_eq_false_iff_ne]; omega
    have HM := Lib.hid (two_not.2 fun h : TwoOk f l m => he h.1)
    clear hs hs2 he
    go_enter Tryd.func74, Tryd.ntmps74
    go_wp2
    go_ret
    exact ⟨by rw [HM.out]; rfl, rfl⟩
theorem sum_step (S x p : Int) : RS (RS S p + x) p = RS (S + x) p := by
  unfold RS
  exact emod_add_congr (Int.emod_emod_of_dvd _ (Int.dvd_refl _)) rfl
theorem vec_some {w : World} {a : Option Addr} {n : Nat} {F : Nat → Int} (h : Src w a n F) (hn : 0 < n) : ∃ b off, a = some ⟨b, off, none⟩ ∧ b < w.heap.size ∧ ∀ j, j < n → w.cell? ⟨b, off + j, none⟩ = some (.int .i64 (F j)) := by
  rcases h with hz | h
  · omega
  · exact h
theorem twi_step {f : Int} {n i k : Nat} (hi : i < n) (hk : k < n) (A B : Nat → Int) :
    (k ≤ i → RS (RS (sumN (fun j => if j ≤ i then A j * B (i - j) else -(A j * B (i + n - j))) k) (P f) + RS (A k * B ((i + n - k) % n)) (P f)) (P f) = RS (sumN (fun j => if j ≤ i then A j * B (i - j) else -(A j * B (i + n - j))) (k + 1)) (P f)) ∧
    (i < k → RS (RS (sumN (fun j => if j ≤ i then A j * B (i - j) else -(A j * B (i + n - j))) k) (P f) + (P f - RS (A k * B ((i + n - k) % n)) (P f))) (P f) = RS (sumN (fun j => if j ≤ i then A j * B (i - j) else -(A j * B (i + n - j))) (k + 1)) (P f)) := by
  constructor
  · intro h
    rw [RS_add, show (i + n - k) % n = i - k by rw [show i + n - k = i - k + n by omega, Nat.add_mod_right, Nat.mod_eq_of_lt (by omega)]]
    show _ = RS (_ + if k ≤ i then A k * B (i - k) else -(A k * B (i + n - k))) (P f)
    rw [if_pos h]
  · intro h
    rw [sum_step, Nat.mod_eq_of_lt (show i + n - k < n by omega)]
    show _ = RS (_ + if k ≤ i then A k * B (i - k) else -(A k * B (i + n - k))) (P f)
    rw [if_neg (by omega)]
    unfold RS
    refine emod_add_congr rfl ?_
    have := emod_sub_congr (p := P f) (a := P f) (b := 0) (c := A k * B (i + n - k) % P f) (d := A k * B (i + n - k)) (by rw [Int.emod_self]; rfl) (Int.emod_emod_of_dvd _ (Int.dvd_refl _))
    rw [this, Int.zero_sub]
set_option maxRecDepth 100000 in
set_option maxHeartbeats 3200000 in
theorem sTwisted_on (f : Int) (a : Option Addr) (l : List Int) (cap : Nat) (a2 : Option Addr) (m : List Int) (cap2 : Nat) (w : World) (hn : l.length ≤ 1048576) (hn2 : m.length ≤ 1048576) (hs : Src w a l.length (lf l)) (hs2 : Src w a2 m.length (lf m)) (h : TwoOk f l m) : Calls Tryd.prog 35 #[.int .i64 f, .slice a l.length cap, .slice a2 m.length cap2] w (ListL w (twiL f l m)) := by
  obtain ⟨i0, hi, hz0, hz1, hz2⟩ := info_parts info3
  have HI := Lib.hid hi
  have HZ0 := Lib.hid hz0
  have HZ1 := Lib.hid hz1
  have HZ2 := Lib.hid hz2
  clear hi hz0 hz1 hz2
  have e0 : twiL f l m = tab l.length fun i => RS (sumN (fun j => if j ≤ i then lf l j * lf m (i - j) else -(lf l j * lf m (i + l.length - j))) l.length) (P f) := rfl
  rw [e0]
  have BA : Hid (∀ o, Below w.heap.size w (w.alloc o)) := Lib.hid fun o => (Below.refl _ _).alloc (Nat.le_refl _) o
  have HV : Hid (∀ w2, Below w.heap.size w w2 → Calls Tryd.prog 74 #[.int .i64 f, .slice a l.length cap, .slice a2 m.length cap2] w2 (SameB w2 true)) := Lib.hid fun w2 hb => by
    have R1 := sTwo f a a2 l m cap cap2 w2 hn hn2 (hs.keep hb) (hs2.keep hb)
    rwa [two_iff.2 h] at R1
  obtain ⟨hlm, hl, hm⟩ := h
  have hn0 := hl.pos.1
  have hn5 := hl.pos.2
  obtain ⟨h0, h8⟩ := hl.f08
  have hp := P_bd h0 h8
  have q7 : ¬ P f = 0 := by omega
  have HA := Lib.hid hl.lt
  have HB := Lib.hid hm.lt
  rw [← hlm] at hs2 HV ⊢
  obtain ⟨b, off, rfl, hlt, hc⟩ := vec_some hs hn0
  obtain ⟨b2, off2, rfl, hlt2, hc2⟩ := vec_some hs2 hn0
  have HC := Lib.hid hc
  have HC2 := Lib.hid hc2
  clear hs hs2 hc hc2 hl hm hlm hn2
  generalize lf l = A at *
  generalize lf m = B at *
  generalize l.length = n at *
  go_enter Tryd.func35, Tryd.ntmps35
  go_wp2_with fail
  refine (HV.out _ (BA.out _)).mono ?_
  rintro e w' ⟨rfl, rfl⟩
  go_wp2_with fail
  refine (sModulus f _).mono ?_
  rintro e w' ⟨rfl, rfl⟩
  go_wp2_with fail
  go_loopw [7, 10, 11, 12, 13] (fun v i _ _ _ wr => ∃ k : Nat, i = .int .i64 k ∧ k ≤ n ∧ wr.ownsRow w.heap.size 3 1 v k (xsF (fun i => RS (sumN (fun j => if j ≤ i then A j * B (i - j) else -(A j * B (i + n - j))) n) (P f)) k) ∧ Below w.heap.size w wr) (fun _ i _ _ _ _ => n - (intOf i).toNat)
  case atStart => exact ⟨0, rfl, Nat.zero_le _, own_empty w _, BA.out _⟩
  case round =>
    obtain ⟨i, rfl, hin, hown, hnx⟩ := hrel
    have hs := hnx.size
    by_cases h1 : i < n
    · have hd1 : decide ((i : Int) < n) = true := decide_eq_true (by omega)
      have HOWN := Lib.hid hown
      clear hown
      go_wp2_with fail
      go_loopw [11, 12, 13] (fun s j _ W2 => ∃ k : Nat, j = .int .i64 k ∧ k ≤ n ∧ s = .int .i64 (RS (sumN (fun j => if j ≤ i then A j * B (i - j) else -(A j * B (i + n - j))) k) (P f)) ∧ ∃ q, W2 = wr.drewN q) (fun _ j _ _ => n - (intOf j).toNat)
      case atStart => exact ⟨0, rfl, Nat.zero_le _, by simp [sumN, RS], 0, rfl⟩
      case round =>
        obtain ⟨k, rfl, hk, rfl, q, rfl⟩ := hrel
        by_cases h3 : k < n
        · have hd3 : decide ((k : Int) < n) = true := decide_eq_true (by omega)
          have d1 : wr.cell? ⟨b, off + k, none⟩ = some (.int .i64 (A k)) := (hnx.cell (p := ⟨b, off + k, none⟩) hlt).trans (HC.out k h3)
          have hlk : (i + n - k) % n < n := Nat.mod_lt _ (by omega)
          have d2 : wr.cell? ⟨b2, off2 + (i + n - k) % n, none⟩ = some (.int .i64 (B ((i + n - k) % n))) := (hnx.cell (p := ⟨b2, off2 + (i + n - k) % n, none⟩) hlt2).trans (HC2.out _ hlk)
          have bA := HA.out k
          have bB := HB.out ((i + n - k) % n)
          have pb := prod_bd h0 h8 bA.1 bA.2 bB.1 bB.2
          have pr := RS_bd (x := sumN (fun j => if j ≤ i then A j * B (i - j) else -(A j * B (i + n - j))) k) (m := P f) (by omega)
          have HS := Lib.hid (twi_step (f := f) h1 h3 A B)
          have qa : IntKind.i64.wrap ((i : Int) - k) = (i : Int) - k := IntWalk.i64_in _ (by omega)
          have qb : IntKind.i64.wrap ((i : Int) - k + n) = (i : Int) - k + n := IntWalk.i64_in _ (by omega)
          have tm : ((i : Int) - k + n).tmod n = (((i + n - k) % n : Nat) : Int) := by
            rw [show (i : Int) - k + n = (((i + n - k) : Nat) : Int) by omega, Int.tmod_eq_emod_of_nonneg (by omega), Int.natCast_emod]
          have q2 : ((((i + n - k) % n : Nat) : Int)).toNat = (i + n - k) % n := by omega
          have q3 : (0 : Int) ≤ (((i + n - k) % n : Nat) : Int) := by omega
          have q4 : (((i + n - k) % n : Nat) : Int) < n := by omega
          have kz : ((n : Int) == 0) = false := by rw [beq_eq_false_iff_ne]; omega
          have kz2 : ¬ (n : Int) = 0 := by omega
          generalize B ((i + n - k) % n) = Y at *
          generalize (i + n - k) % n = U at *
          have q5 : IntKind.i64.wrap (A k * Y) = A k * Y := IntWalk.i64_in _ (by omega)
          generalize RS (sumN (fun j => if j ≤ i then A j * B (i - j) else -(A j * B (i + n - j))) k) (P f) = X at *
          have XB : 0 ≤ (A k * Y) % P f ∧ (A k * Y) % P f < P f := ⟨Int.emod_nonneg _ (by omega), Int.emod_lt_of_pos _ (by omega)⟩
          by_cases hki : k ≤ i
          · have hdk : decide ((i : Int) < k) = false := decide_eq_false (by omega)
            have HS2 := Lib.hid (HS.out.1 hki)
            clear HS
            go_wp2
            go_quiet (fail)
            go_wp2
            go_roundw
            case rel => exact ⟨k + 1, by go_num, by omega, vint HS2.out, _, rfl⟩
            case measure => simp [intOf]; omega
          · have hdk : decide ((i : Int) < k) = true := decide_eq_true (by omega)
            have HS2 := Lib.hid (HS.out.2 (by omega))
            clear HS
            go_wp2
            go_quiet (fail)
            go_wp2
            go_roundw
            case rel => exact ⟨k + 1, by go_num, by omega, vint HS2.out, _, rfl⟩
            case measure => simp [intOf]; omega
        · have hd3 : decide ((k : Int) < n) = false := decide_eq_false (by omega)
          obtain rfl : k = n := by omega
          have hown : (wr.drewN q).ownsRow w.heap.size 3 1 _ i (xsF (fun i => RS (sumN (fun j => if j ≤ i then A j * B (i - j) else -(A j * B (i + k - j))) k) (P f)) i) := HOWN.out
          have hbq := below_drewN hnx q
          have hqs : (wr.drewN q).heap.size = wr.heap.size := rfl
          go_wp2_with (at_builtin; refine wpList_append_own _ rfl _ _ 24 rfl w.heap.size 3 i0 (.int .i64 0) 1 8 Tryd.underlying24 HI.out HZ0.out HZ1.out HZ2.out rfl (by decide) _ _ _ rfl (hown.alloc _) ⟨(wr.drewN q).heap.size, 0, none⟩ 1 1 [.int .i64 (RS (sumN (fun j => if j ≤ i then A j * B (i - j) else -(A j * B (i + k - j))) k) (P f))] rfl rfl ?d1 ?d2 ?d3 ?d4 ?d5 ?_)
          case d1 => exact cell_one_new _ _ _
          case d2 => intro u hu; simp at hu; subst hu; rfl
          case d3 => unfold maxLen; omega
          case d4 => omega
          case d5 => simp; omega
          intro v' w1 hown' hgrow _
          have hbel : Below w.heap.size w w1 := (hbq.alloc (by omega) _).grown hgrow (by simp; omega) (own_ge hown)
          rw [xsF_succ (fun i => RS (sumN (fun j => if j ≤ i then A j * B (i - j) else -(A j * B (i + k - j))) k) (P f))] at hown'
          clear hgrow hown HOWN
          go_wp2
          go_roundw
          case rel => exact ⟨i + 1, by go_num, by omega, hown', hbel⟩
          case measure => simp [intOf]; omega
    · have hd1 : decide ((i : Int) < n) = false := decide_eq_false (by omega)
      obtain rfl : i = n := by omega
      have HO := Lib.hid (owns_to (w := w) (l := tab i fun t => RS (sumN (fun j => if j ≤ t then A j * B (t - j) else -(A j * B (t + i - j))) i) (P f)) hown (by rw [tab_len]) (fun j hj => by rw [lf_tab, if_pos hj]) hnx)
      clear hown
      go_wp2
      go_ret
      exact HO.out.list
end Go.Proofs.YtoonpnfhcmghmaaDoor
namespace Go.Proofs.YtoonpnfhcmghmaaDoor
open Mth
theorem mod_2 {n x : Nat} (h : n ≤ x) (h2 : x < n + n) : x % n = x - n := by
  rw [Nat.mod_eq_sub_mod h, Nat.mod_eq_of_lt (by omega)]
theorem turn_int {n : Nat} (h : 0 < n) (r : Int) : (r.tmod n + n).tmod n = (turnN n r : Int) ∧ -(n : Int) < r.tmod n ∧ r.tmod n < n := by
  have hn : (0 : Int) < n := by omega
  have b1 : -(n : Int) < r.tmod n ∧ r.tmod n < n := by
    have := Int.tmod_lt_of_pos r hn
    have := Int.lt_tmod_of_pos r hn
    omega
  refine ⟨?_, b1⟩
  rw [Int.tmod_eq_emod_of_nonneg (by omega), Int.add_emod_right, tmod_emod]
  unfold turnN
  rw [Int.toNat_of_nonneg (Int.emod_nonneg _ (by omega))]
/-- Within one level: the blocks below B done, and of block B the first j pairs. -/
def stDone (h B j t : Nat) : Prop := t < B * (2 * h) ∨ (t < B * (2 * h) + 2 * h ∧ t % (2 * h) % h < j)
instance (h B j t : Nat) : Decidable (stDone h B j t) := inferInstanceAs (Decidable (_ ∨ _))
def stp (f w : Int) (h d : Nat) (V : Nat → Int) (B j t : Nat) : Int := if stDone h B j t then stgF f w h d V t else V t
theorem stp_start (f w : Int) (h d : Nat) (V : Nat → Int) (t : Nat) : stp f w h d V 0 0 t = V t := if_neg (by unfold stDone; omega)
theorem stp_next (f w : Int) {h : Nat} (d : Nat) (V : Nat → Int) (B t : Nat) (h0 : 0 < h) : stp f w h d V B h t = stp f w h d V (B + 1) 0 t := by
  unfold stp
  have e : stDone h B h t ↔ stDone h (B + 1) 0 t := by
    unfold stDone
    have := Nat.mod_lt (t % (2 * h)) h0
    rw [Nat.add_mul, Nat.one_mul]
    omega
  by_cases h1 : stDone h B h t
  · rw [if_pos h1, if_pos (e.1 h1)]
  · rw [if_neg h1, if_neg fun h2 => h1 (e.2 h2)]
theorem blk_mod {h B r : Nat} (hr : r < 2 * h) : (B * (2 * h) + r) % (2 * h) = r := by
  rw [Nat.add_comm, Nat.add_mul_mod_self_right, Nat.mod_eq_of_lt hr]
theorem stp_low {f w : Int} {h d : Nat} {V : Nat → Int} {B j : Nat} (hj : j < h) : stgF f w h d V (B * (2 * h) + j) = RS (V (B * (2 * h) + j) + RS (V (B * (2 * h) + j + h) * w ^ (j * d)) (P f)) (P f) := by
  unfold stgF
  rw [blk_mod (show j < 2 * h by omega), if_pos hj]
theorem stp_high {f w : Int} {h d : Nat} {V : Nat → Int} {B j : Nat} (hj : j < h) : stgF f w h d V (B * (2 * h) + j + h) = RS (V (B * (2 * h) + j) - RS (V (B * (2 * h) + j + h) * w ^ (j * d)) (P f)) (P f) := by
  unfold stgF
  rw [Nat.add_assoc, blk_mod (show j + h < 2 * h by omega), if_neg (by omega), Nat.add_sub_cancel, ← Nat.add_assoc, Nat.add_sub_cancel]
theorem stDone_step {h B j t : Nat} (hj : j < h) : stDone h B (j + 1) t ↔ stDone h B j t ∨ t = B * (2 * h) + j ∨ t = B * (2 * h) + j + h := by
  unfold stDone
  constructor
  · rintro (h1 | ⟨h1, h2⟩)
    · exact .inl (.inl h1)
    · by_cases h3 : t < B * (2 * h)
      · exact .inl (.inl h3)
      · obtain ⟨r, rfl⟩ : ∃ r, t = B * (2 * h) + r := ⟨t - B * (2 * h), by omega⟩
        have hr : r < 2 * h := by omega
        rw [blk_mod hr] at h2 ⊢
        by_cases h4 : r < h
        · rw [Nat.mod_eq_of_lt h4] at h2 ⊢; omega
        · rw [mod_2 (n := h) (x := r) (by omega) (by omega)] at h2 ⊢; omega
  · rintro ((h1 | ⟨h1, h2⟩) | rfl | rfl)
    · exact .inl h1
    · exact .inr ⟨h1, by omega⟩
    · refine .inr ⟨by omega, ?_⟩
      rw [blk_mod (show j < 2 * h by omega), Nat.mod_eq_of_lt hj]; omega
    · refine .inr ⟨by omega, ?_⟩
      rw [Nat.add_assoc, blk_mod (show j + h < 2 * h by omega), Nat.add_mod_right, Nat.mod_eq_of_lt hj]; omega
theorem stp_step {f w : Int} {h d : Nat} {V : Nat → Int} {B j : Nat} (hj : j < h) (t : Nat) :
    (if t = B * (2 * h) + j + h then stgF f w h d V (B * (2 * h) + j + h) else if t = B * (2 * h) + j then stgF f w h d V (B * (2 * h) + j) else stp f w h d V B j t) = stp f w h d V B (j + 1) t := by
  have e := stDone_step (B := B) (t := t) hj
  unfold stp
  by_cases h1 : t = B * (2 * h) + j + h
  · rw [if_pos h1, if_pos (e.2 (.inr (.inr h1))), h1]
  · rw [if_neg h1]
    by_cases h2 : t = B * (2 * h) + j
    · rw [if_pos h2, if_pos (e.2 (.inr (.inl h2))), h2]
    · rw [if_neg h2]
      by_cases h3 : stDone h B j t
      · rw [if_pos h3, if_pos (e.2 (.inl h3))]
      · rw [if_neg h3, if_neg fun h4 => by rcases e.1 h4 with h5 | h5 | h5 <;> contradiction]
/-- What is read within a level has not been written yet. -/
theorem stp_read {f w : Int} {h d : Nat} {V : Nat → Int} {B j : Nat} (hj : j < h) : stp f w h d V B j (B * (2 * h) + j) = V (B * (2 * h) + j) ∧ stp f w h d V B j (B * (2 * h) + j + h) = V (B * (2 * h) + j + h) := by
  constructor
  · refine if_neg fun hd => ?_
    rcases hd with h1 | ⟨_, h1⟩
    · omega
    · rw [blk_mod (show j < 2 * h by omega), Nat.mod_eq_of_lt hj] at h1; omega
  · refine if_neg fun hd => ?_
    rcases hd with h1 | ⟨_, h1⟩
    · omega
    · rw [Nat.add_assoc, blk_mod (show j + h < 2 * h by omega), Nat.add_mod_right, Nat.mod_eq_of_lt hj] at h1; omega
theorem stp_end {f w : Int} {h d n B : Nat} (hn : n = B * (2 * h)) (V : Nat → Int) {t : Nat} (ht : t < n) : stp f w h d V B 0 t = stgF f w h d V t := if_pos (.inl (by omega))
/-- The list of a level is a vector. -/
theorem stgF_bd {f w : Int} {h d : Nat} {V : Nat → Int} (hp : 0 < P f) (t : Nat) : 0 ≤ stgF f w h d V t ∧ stgF f w h d V t < P f := by
  unfold stgF
  split <;> exact RS_bd hp
theorem VecOk.stg {f : Int} {l : List Int} (h : VecOk f l) (s : Nat) : VecOk f (stgL f l s) := h.tab rfl _ fun _ _ => stgF_bd (P_pos h.f08.1 h.f08.2) _
theorem stgL_len (f : Int) (l : List Int) (s : Nat) : (stgL f l s).length = l.length := tab_len _ _
theorem pow_half {k s : Nat} (h : s < k) : 2 ^ k = 2 ^ (k - s - 1) * (2 * 2 ^ s) := by
  have : k = k - s - 1 + (s + 1) := by omega
  conv => lhs; rw [this]
  rw [Nat.pow_add, Nat.pow_succ, Nat.mul_comm (2 ^ s) 2]
/-- One level of the list. -/
theorem stage_lev {f : Int} {l : List Int} {k s : Nat} {X : Nat → Int} (h : VecOk f l) (hk : l.length = 2 ^ k) (hs : s < k) (hl : Lev f (rootL f l) k s X (lf l)) : Lev f (rootL f l) k (s + 1) X (lf (stgL f l s)) := by
  have hr := h.rt
  rw [hk] at hr
  have g0 : 0 < 2 ^ s := Nat.pow_pos (by omega)
  have ed : l.length / (2 * 2 ^ s) = 2 ^ (k - s - 1) := by rw [hk, pow_half hs, Nat.mul_div_cancel _ (by omega)]
  have e2 : (2 : Nat) ^ (s + 1) = 2 * 2 ^ s := by rw [Nat.pow_succ, Nat.mul_comm]
  have hin : ∀ b t, b < 2 ^ (k - s - 1) → t < 2 ^ s → b * (2 * 2 ^ s) + t + 2 ^ s < l.length := fun b t hb ht => by
    rw [hk, pow_half hs]
    have := Nat.mul_le_mul_right (2 * 2 ^ s) (show b + 1 ≤ 2 ^ (k - s - 1) by omega)
    rw [Nat.add_mul, Nat.one_mul] at this
    omega
  have key : ∀ t, t < l.length → lf (stgL f l s) t = stgF f (rootL f l) (2 ^ s) (2 ^ (k - s - 1)) (lf l) t := fun t ht => by
    unfold stgL
    rw [lf_tab, if_pos ht, ed]
  refine hl.step hr hs (fun b t hb ht => ?_) (fun b t hb ht => ?_)
  · rw [e2, key _ (by have := hin b t hb ht; omega), stp_low ht]
    unfold RS
    rw [Int.emod_emod_of_dvd _ (Int.dvd_refl _)]
    exact emod_add_congr rfl (Int.emod_emod_of_dvd _ (Int.dvd_refl _))
  · rw [e2, key _ (hin b t hb ht), stp_high ht]
    unfold RS
    rw [Int.emod_emod_of_dvd _ (Int.dvd_refl _)]
    exact emod_sub_congr rfl (Int.emod_emod_of_dvd _ (Int.dvd_refl _))
/-- A vector that has gone through all levels is the transform. -/
theorem lev_fwd {f : Int} {l v : List Int} {k : Nat} (_h : VecOk f l) (hv : VecOk f v) (hk : l.length = 2 ^ k) (hl : v.length = l.length) (hlev : Lev f (rootL f l) k k (lf l) (lf v)) : v = fwdL f l := by
  refine list_ext (by rw [fwdL_len, hl]) fun i hi => ?_
  rw [hl] at hi
  have := hlev.last (t := i) (by omega)
  rw [lf_fwdL hi, hk, ← this]
  have b := hv.lt i
  rw [Int.emod_eq_of_lt b.1 b.2]
end Go.Proofs.YtoonpnfhcmghmaaDoor
namespace Go.Proofs.YtoonpnfhcmghmaaDoor
open Go.RowKit
theorem OwnV.grown {g : Nat} {w w' : World} {g2 n cap : Nat} {F : Nat → Int} (h : OwnV w g2 n cap F) (hg : w.grownBy w' (some g)) (hne : g2 ≠ g) : OwnV w' g2 n cap F := by
  obtain ⟨V, h1, h2, h3⟩ := h
  have hlt := OwnV.lt ⟨V, h1, h2, h3⟩
  exact ⟨V, World.rowIs.of_block h1 (hg.block g2 hlt (fun e => by injection e with e; exact hne e)), h2, h3⟩
/-- A drawn list, whose row may still be written. -/
def ZVal (g : Nat) (w : World) (n : Nat) (v : Value) (w' : World) : Prop := ∃ l : List Int, l.length ≤ n ∧ (∃ B, g < B ∧ w.heap.size ≤ B ∧ w'.ownsRow B 3 1 v l.length (xsF (lf l) l.length)) ∧ Cur g w' ∧ w.grownBy w' (some g)
theorem ZVal.of {g : Nat} {w w' : World} {n : Nat} {v : Value} (hB : g < w.heap.size) (h : ZAt g w w' v n) : ZVal g w n v w' := by
  obtain ⟨⟨F, ho⟩, hc, hg, hs⟩ := h
  exact ⟨tab n F, by rw [tab_len]; exact Nat.le_refl _, ⟨w.heap.size, hB, Nat.le_refl _, owns_to_tab ho⟩, hc, hg⟩
theorem ZVal.grown {g : Nat} {w w1 w2 : World} {n : Nat} {v : Value} (h : ZVal g w n v w1) (hg : w1.grownBy w2 (some g)) (hc : Cur g w2) : ZVal g w n v w2 := by
  obtain ⟨l, hl, ⟨B, hB, hB2, ho⟩, _, hg1⟩ := h
  exact ⟨l, hl, ⟨B, hB, hB2, ho.kept hg (zown_ne hB ho)⟩, hc, hg1.trans hg⟩
theorem ZVal.pol {g : Nat} {w w1 : World} {n : Nat} {v : Value} (h : ZVal g w n v w1) : ZPol g w n (.returned v) w1 := by
  obtain ⟨l, hl, ⟨B, hB, hB2, ho⟩, hc, hg⟩ := h
  obtain ⟨a, cap, rfl, hcap, hs⟩ := SrcO.of ho hB
  exact ⟨l, a, cap, rfl, hl, hcap, hs, hc, hg⟩
/-- The value is a slice: empty, or a row that can be written. -/
theorem ZVal.cases {g : Nat} {w w1 : World} {n : Nat} {v : Value} (h : ZVal g w n v w1) : ∃ (l : List Int) (a : Option Addr) (cap : Nat), v = .slice a l.length cap ∧ l.length ≤ n ∧ (l.length = 0 ∨ ∃ g2, a = some ⟨g2, 0, none⟩ ∧ g2 ≠ g ∧ w.heap.size ≤ g2 ∧ OwnV w1 g2 l.length cap (lf l)) := by
  obtain ⟨l, hl, ⟨B, hB, hB2, ho⟩, hc, hg⟩ := h
  by_cases hz : l.length = 0
  · obtain ⟨a, cap, rfl, hcap, hs⟩ := SrcO.of ho hB
    exact ⟨l, a, cap, rfl, hl, .inl hz⟩
  · obtain ⟨g2, cap, rfl, hg2, ho2⟩ := OwnV.of_owns ho hz
    exact ⟨l, _, cap, rfl, hl, .inr ⟨g2, rfl, by omega, by omega, ho2⟩⟩
end Go.Proofs.YtoonpnfhcmghmaaDoor
namespace Go.Proofs.YtoonpnfhcmghmaaDoor
open Go.RowKit
def Draw2L (N : Nat) (w : World) (e : Ending) (w' : World) : Prop := ∃ (f : Int) (a : Option Addr) (l : List Int) (cap : Nat) (a2 : Option Addr) (m : List Int) (cap2 : Nat),
  e = .returned (.tuple #[.int .i64 f, .slice a l.length cap, .slice a2 m.length cap2]) ∧ l.length ≤ N ∧ m.length ≤ N ∧ Src w' a l.length (lf l) ∧ Src w' a2 m.length (lf m) ∧ Below w.heap.size w w'
/-- A byte of the code, or a number below 256. -/
theorem byteAt_c (a : Option Addr) (len cap i : Nat) (w : World) (hl : len ≤ 1048576) (hi : i ≤ 1000) (hc : Code w a len) : Calls Tryd.prog 15 #[.slice a len cap, .int .i64 i] w fun e w' => ∃ x : Int, e = .returned (.int .i64 x) ∧ 0 ≤ x ∧ x < 256 ∧ w = w' := by
  by_cases h : i < len
  · have hd : decide ((i : Int) < len) = true := decide_eq_true (by omega)
    rcases hc.2 with hz | ⟨b, off, rfl, hne, hlt, hb⟩
    · omega
    · obtain ⟨n, n0, n1, hcell⟩ := hb i h
      go_enter Tryd.func15, Tryd.ntmps15
      go_wp2
      go_ret
      exact ⟨n, rfl, n0, n1, rfl⟩
  · have hd : decide ((i : Int) < len) = false := decide_eq_false (by omega)
    go_enter Tryd.func15, Tryd.ntmps15
    go_wp2
    go_ret
    exact ⟨_, rfl, by omega, by omega, rfl⟩
end Go.Proofs.YtoonpnfhcmghmaaDoor
namespace Go.Proofs.YtoonpnfhcmghmaaDoor
open Go.RowKit
theorem shl_cast {k : Nat} (h : k ≤ 9) : wrap64 (2 ^ k) = ((2 ^ k : Nat) : Int) ∧ 0 < 2 ^ k ∧ 2 ^ k ≤ 512 := by
  have : 2 ^ k ≤ 2 ^ 9 := Nat.pow_le_pow_right (by omega) h
  refine ⟨?_, Nat.pow_pos (by omega), by omega⟩
  rw [shl_nat (by omega)]
  unfold two
  rw [Int.toNat_natCast, Int.natCast_pow]
  rfl
/-- After one number of the row has been written anew. -/
theorem zpol_put {g : Nat} {w w1 w2 : World} {N n k g2 cap : Nat} {F : Nat → Int} {y : Int} (hn : n ≤ N) (hne : g2 ≠ g) (h2 : w.heap.size ≤ g2) (ho : OwnV w1 g2 n cap F) (hg : w.grownBy w1 (some g)) (g3 : w1.grownBy w2 (some g)) (hc : Cur g w2) (hgl : g < w.heap.size) :
    ZPol g w N (.returned (.slice (some ⟨g2, 0, none⟩) n cap)) (w2.setCell ⟨g2, k, none⟩ (.int .i64 y)) := by
  have ho2 := ho.grown g3 hne
  have ho3 := OwnV.set (s := k) (x := y) ho2
  have hcap : n ≤ cap := by obtain ⟨_, _, h, _⟩ := ho; exact h
  have hg3 : w.grownBy w2 (some g) := hg.trans g3
  have hset : w2.grownBy (w2.setCell ⟨g2, k, none⟩ (.int .i64 y)) (some g2) := grown_set (World.grownBy.refl _ _) _ _
  refine ⟨tab n (upd F k y), some ⟨g2, 0, none⟩, cap, by rw [tab_len], by rw [tab_len]; exact hn, by rw [tab_len]; exact hcap, ?_, ?_, ?_⟩
  · rw [tab_len]
    refine .inr ⟨g2, 0, rfl, hne, ho3.lt, fun j hj => ?_⟩
    rw [Nat.zero_add, ho3.cell hj, lf_tab, if_pos hj]
  · exact hc.other hset (fun r hr => by injection hr with hr; omega)
  · exact grown_new hg3 hset (fun r hr => by injection hr with hr; omega)
/-- The row that was drawn, in a world whose cursor has gone on. -/
def ZKeep (g : Nat) (w w1 : World) (g2 n cap : Nat) (F : Nat → Int) : Prop := w1.ownsRow w.heap.size 3 1 (.slice (some ⟨g2, 0, none⟩) n cap) n (xsF F n) ∧ OwnV w1 g2 n cap F ∧ g2 ≠ g ∧ w.heap.size ≤ g2 ∧ Cur g w1 ∧ w.grownBy w1 (some g)
theorem ZKeep.of {g : Nat} {w w1 : World} {n : Nat} {v : Value} (hB : g < w.heap.size) (hn : n ≠ 0) (h : ZAt g w w1 v n) : ∃ g2 cap F, v = .slice (some ⟨g2, 0, none⟩) n cap ∧ ZKeep g w w1 g2 n cap F := by
  obtain ⟨⟨F, ho⟩, hc, hg, hs⟩ := h
  obtain ⟨g2, cap, rfl, hg2, hov⟩ := OwnV.of_owns ho hn
  exact ⟨g2, cap, F, rfl, ho, hov, by omega, hg2, hc, hg⟩
theorem ZKeep.grown {g : Nat} {w w1 w2 : World} {g2 n cap : Nat} {F : Nat → Int} (h : ZKeep g w w1 g2 n cap F) (hg : w1.grownBy w2 (some g)) (hc : Cur g w2) : ZKeep g w w2 g2 n cap F := by
  obtain ⟨ho, hov, hne, h2, _, hgw⟩ := h
  exact ⟨ho.kept hg (.inr (fun e => by injection e with e; exact hne e)), hov.grown hg hne, hne, h2, hc, hgw.trans hg⟩
theorem ZKeep.pol {g : Nat} {w w1 : World} {g2 n cap N : Nat} {F : Nat → Int} (h : ZKeep g w w1 g2 n cap F) (hn : n ≤ N) : ZPol g w N (.returned (.slice (some ⟨g2, 0, none⟩) n cap)) w1 := by
  obtain ⟨ho, hov, hne, h2, hc, hgw⟩ := h
  have hcap : n ≤ cap := by obtain ⟨_, _, h, _⟩ := hov; exact h
  refine ⟨tab n F, some ⟨g2, 0, none⟩, cap, by rw [tab_len], by rw [tab_len]; exact hn, by rw [tab_len]; exact hcap, ?_, hc, hgw⟩
  rw [tab_len]
  refine .inr ⟨g2, 0, rfl, hne, hov.lt, fun j hj => ?_⟩
  rw [Nat.zero_add, hov.cell hj, lf_tab, if_pos hj]
theorem zpol_more {g : Nat} {w w1 w2 : World} {g2 n cap N : Nat} {F : Nat → Int} {v' : Value} {x : Int} {o : Obj} (hB : g < w.heap.size) (h : ZKeep g w w1 g2 n cap F) (hn : n + 1 ≤ N) (hown' : w2.ownsRow w.heap.size 3 1 v' (n + 1) (xsF F n ++ [.int .i64 x])) (hgrow : (w1.alloc o).grownBy w2 (Value.slice (some ⟨g2, 0, none⟩) n cap).ownBlock) : ZPol g w N (.returned v') w2 := by
  have hz := zdraw_step hB h.2.2.2.2.2 h.2.2.2.2.1 h.1 hown' hgrow
  obtain ⟨l, a, cap2, e, h1, h2, h3, h4, h5⟩ := (ZVal.of hB hz).pol
  exact ⟨l, a, cap2, e, by omega, h2, h3, h4, h5⟩
theorem lower_own {w : World} {B B' : Nat} {v : Value} {n : Nat} {xs : List Value} (h : w.ownsRow B 3 1 v n xs) (hB : B' ≤ B) : w.ownsRow B' 3 1 v n xs := by
  obtain ⟨h1, h2⟩ := h
  refine ⟨h1, h2.imp id ?_⟩
  rintro ⟨g, cap, cur, e, hg, hr⟩
  exact ⟨g, cap, cur, e, Nat.le_trans hB hg, hr⟩
set_option maxRecDepth 100000 in
set_option maxHeartbeats 6400000 in
theorem drawVector_c (g : Nat) (f : Int) (a : Option Addr) (len cap : Nat) (w : World) (hc : Cur g w) (_hl : len ≤ 1048576) : Calls Tryd.prog 98 #[.pointer (some ⟨g, 0, none⟩), .int .i64 f, .slice a len cap] w (ZPol g w 513) := by
  have hB : g < w.heap.size := hc.lt
  obtain ⟨i0, hi, hz0, hz1, hz2⟩ := info_parts info3
  have HI := Lib.hid hi
  have HZ0 := Lib.hid hz0
  have HZ1 := Lib.hid hz1
  have HZ2 := Lib.hid hz2
  clear hi hz0 hz1 hz2
  have hT := T_le f
  go_enter Tryd.func98, Tryd.ntmps98
  go_upto_block 0 with fail
  go_cut [7] from 10 (fun i wc => ∃ k : Nat, i = .int .i64 k ∧ k ≤ 8 ∧ w = wc)
  case first =>
    go_wp2_with fail
    go_loopw [7] (fun i wr => ∃ k : Nat, i = .int .i64 k ∧ k ≤ 8 ∧ w = wr) (fun i _ => 8 - (intOf i).toNat)
    case atStart => exact ⟨0, rfl, by omega, rfl⟩
    case round =>
      obtain ⟨k, rfl, hk, rfl⟩ := hrel
      by_cases h8 : k < 8
      · have hkk : (k : Int) < 8 := by omega
        have hd8 : decide ((k : Int) < 8) = true := decide_eq_true (by omega)
        by_cases hq : wrap64 (4 * 2 ^ k) < (len : Int)
        · have hdq : decide (wrap64 (4 * 2 ^ k) < (len : Int)) = true := decide_eq_true hq
          go_wp2
          go_roundw
          case rel => exact ⟨k + 1, by go_num, by omega, by trivial⟩
          case measure => simp [intOf]; omega
        · have hdq : decide (wrap64 (4 * 2 ^ k) < (len : Int)) = false := decide_eq_false hq
          go_wp2
          go_meet
          case rel => exact ⟨k, rfl, by omega, rfl⟩
      · obtain rfl : k = 8 := by omega
        go_wp2
        go_meet
        case rel => exact ⟨8, rfl, by omega, rfl⟩
  case rest =>
    obtain ⟨k0, rfl, hk0, rfl⟩ := hcut
    go_wp2_with fail
    refine (below_c g ((k0 : Int) + 2) w hc (by omega) (by omega)).mono ?_
    rintro e w2 ⟨x, ⟨x0, x1⟩, rfl, g2, c2⟩
    obtain ⟨x, rfl⟩ := Int.eq_ofNat_of_zero_le x0
    have hx9 : x ≤ 9 := by omega
    clear x0 x1 hk0
    go_wp2_with fail
    refine (sTwoPower f w2).mono ?_
    rintro e w' ⟨rfl, rfl⟩
    go_upto_region 6 with fail
    go_cut [34] from 28 (fun s wd => ∃ b6 : Bool, s = .bool b6 ∧ (b6 = true → 0 ≤ T f ∧ T f < x) ∧ w2 = wd)
    case first =>
      by_cases h1 : 0 ≤ T f
      · have d1 : decide (0 ≤ T f) = true := decide_eq_true h1
        by_cases h2 : T f < x
        · have d2 : decide (T f < (x : Int)) = true := decide_eq_true h2
          go_wp2
          go_meet
          case rel => exact ⟨true, rfl, fun _ => ⟨h1, h2⟩, rfl⟩
        · have d2 : decide (T f < (x : Int)) = false := decide_eq_false h2
          go_wp2
          go_meet
          case rel => exact ⟨false, rfl, (fun h => by cases h), rfl⟩
      · have d1 : decide (0 ≤ T f) = false := decide_eq_false h1
        go_wp2
        go_meet
        case rel => exact ⟨false, rfl, (fun h => by cases h), rfl⟩
    case rest =>
      obtain ⟨b6, rfl, hb6, rfl⟩ := hcut
      go_upto_if 34 with fail
      go_cut [7] from 28 (fun s wd => ∃ k : Nat, s = .int .i64 k ∧ k ≤ 9 ∧ w2 = wd)
      case first =>
        cases b6
        · go_wp2
          go_meet
          case rel => exact ⟨x, rfl, hx9, rfl⟩
        · obtain ⟨h1, h2⟩ := hb6 rfl
          go_wp2
          go_meet
          case rel => exact ⟨(T f).toNat, vint (by omega), by omega, rfl⟩
      case rest =>
        obtain ⟨k1, rfl, hk1, rfl⟩ := hcut
        clear hb6 hx9
        go_wp2_with fail
        refine (once_c g 25 w2 c2 (by omega) (by omega)).mono ?_
        rintro e w3 ⟨b3, rfl, g3, c3⟩
        have g3w := g2.trans g3
        clear g2 g3 c2
        go_upto_if 37 with fail
        go_cut [7] from 28 (fun s w5 => ∃ k : Nat, s = .int .i64 k ∧ k ≤ 9 ∧ Cur g w5 ∧ w.grownBy w5 (some g))
        case first =>
          cases b3
          · go_wp2
            go_meet
            case rel => exact ⟨k1, rfl, hk1, c3, g3w⟩
          · go_wp2_with fail
            refine (pick_c (fun n => 0 ≤ n ∧ n ≤ 9) g w3.heap.size 3 3 _ (c3.alloc _) (by omega) (by omega) (ints_alloc _ c3.lt #[.int .i64 0, .int .i64 5, .int .i64 9] 3 (fun j hj => by
              have h3 : j = 0 ∨ j = 1 ∨ j = 2 := by have : j < 3 := hj; omega
              rcases h3 with rfl | rfl | rfl <;> exact ⟨_, rfl, by omega⟩))).mono ?_
            rintro e w4 ⟨z, ⟨z0, z9⟩, rfl, g4, c4⟩
            obtain ⟨z, rfl⟩ := Int.eq_ofNat_of_zero_le z0
            have g4w := g3w.trans ((World.grownBy_alloc w3 _ (some g)).trans g4)
            go_wp2
            go_meet
            case rel => exact ⟨z, rfl, by omega, c4, g4w⟩
        case rest =>
          obtain ⟨k, rfl, hk, c5, g5⟩ := hcut
          obtain ⟨w5, rfl⟩ : ∃ w5, w5 = wc := ⟨wc, rfl⟩
          obtain ⟨e2, p0, p5⟩ := shl_cast (k := k) (by omega)
          have HE2 := Lib.hid e2
          clear e2
          go_wp2_with fail
          rw [HE2.out]
          generalize 2 ^ k = n at *
          refine (drawList_c g f n w5 c5 (by omega)).mono ?_
          rintro e w6 ⟨v6, rfl, hz6⟩
          obtain ⟨g2, cap2, F, rfl, hk6⟩ := ZKeep.of c5.lt (by omega) hz6
          have HK6 : Hid (ZKeep g w w6 g2 n cap2 F) := Lib.hid ⟨by exact lower_own hk6.1 g5.size, hk6.2.1, hk6.2.2.1, Nat.le_trans g5.size hk6.2.2.2.1, hk6.2.2.2.2.1, g5.trans hk6.2.2.2.2.2⟩
          have c6 := hk6.2.2.2.2.1
          clear hz6 hk6 c5 g5 HE2
          go_wp2_with fail
          refine (once_c g 12 w6 c6 (by omega) (by omega)).mono ?_
          rintro e w7 ⟨b7, rfl, g7, c7⟩
          have HK7 := Lib.hid (HK6.out.grown g7 c7)
          clear HK6 g7 c6
          cases b7
          · go_wp2
            go_ret
            exact HK7.out.pol (by omega)
          · go_wp2_with fail
            refine (below_c g 3 w7 c7 (by omega) (by omega)).mono ?_
            rintro e w8 ⟨u, ⟨u0, u1⟩, rfl, g8, c8⟩
            have HK8 := Lib.hid (HK7.out.grown g8 c8)
            clear HK7 g8 c7
            by_cases hu0 : u = 0
            · subst hu0
              have hown8 := HK8.out.1
              have hs8 : w.heap.size ≤ w8.heap.size := HK8.out.2.2.2.2.2.size
              go_wp2_with (at_builtin; refine wpList_append_own _ rfl _ _ 24 rfl w.heap.size 3 i0 (.int .i64 0) 1 8 Tryd.underlying24 HI.out HZ0.out HZ1.out HZ2.out rfl (by decide) _ _ _ rfl (hown8.alloc _) ⟨w8.heap.size, 0, none⟩ 1 1 [.int .i64 (0)] rfl rfl ?c1 ?c2 ?c3 ?c4 ?c5 ?_)
              case c1 => exact cell_one_new _ _ _
              case c2 => intro u hu; simp at hu; subst hu; rfl
              case c3 => unfold maxLen; omega
              case c4 => omega
              case c5 => simp; omega
              intro v' w9 hown' hgrow _
              have HF := Lib.hid (zpol_more (N := 513) hB HK8.out (by omega) hown' hgrow)
              clear hown' hgrow hown8 HK8
              go_wp2
              go_ret
              exact HF.out
            · have hb0 : (u == 0) = false := by simpa using hu0
              by_cases hu1 : u = 1
              · subst hu1
                go_wp2_with fail
                refine (below_c g n w8 c8 (by omega) (by omega)).mono ?_
                rintro e w9 ⟨t, ⟨t0, t1⟩, rfl, g9, c9⟩
                obtain ⟨t, rfl⟩ := Int.eq_ofNat_of_zero_le t0
                have HK9 := Lib.hid (HK8.out.grown g9 c9)
                clear HK8 g9 c8
                go_wp2_with fail
                refine (sModulus f w9).mono ?_
                rintro e w' ⟨rfl, rfl⟩
                go_wp2_with fail
                refine (pick_c (fun _ => True) g w9.heap.size 2 2 _ (c9.alloc _) (by omega) (by omega) (ints_alloc (fun _ => True) c9.lt #[.int .i64 (-1), .int .i64 (P f)] 3 (fun j hj => by
                  have h3 : j = 0 ∨ j = 1 := by have : j < 2 := hj; omega
                  rcases h3 with rfl | rfl <;> exact ⟨_, rfl, trivial⟩))).mono ?_
                rintro e w10 ⟨y, _, rfl, g10, c10⟩
                have g10' := (World.grownBy_alloc w9 _ (some g)).trans g10
                have HO10 := Lib.hid (HK9.out.2.1.grown g10' HK9.out.2.2.1)
                have cc := HO10.out.cell (show t < n by omega)
                have fr := HO10.out.frozen t
                have tn : (t : Int) < (n : Int) := t1
                have HF : Hid (ZPol g w 513 (.returned (.slice (some ⟨g2, 0, none⟩) n cap2)) (w10.setCell ⟨g2, t, none⟩ (.int .i64 y))) := Lib.hid (zpol_put (by omega) HK9.out.2.2.1 HK9.out.2.2.2.1 HK9.out.2.1 HK9.out.2.2.2.2.2 g10' c10 hB)
                clear HK9 g10' g10
                go_wp2
                go_ret
                exact HF.out
              · have hb1 : (u == 1) = false := by simpa using hu1
                obtain rfl : u = 2 := by omega
                have HF : Hid (ZPol g w 513 (.returned (.slice none 0 0)) w8) := Lib.hid ⟨[], none, 0, rfl, by simp, by simp, .inl rfl, c8, HK8.out.2.2.2.2.2⟩
                clear HK8
                go_wp2
                go_ret
                exact HF.out
set_option maxRecDepth 100000 in
set_option maxHeartbeats 1600000 in
theorem drawTwo4_c (a : Option Addr) (len cap : Nat) (w : World) (hl : len ≤ 1048576) (hc : Code w a len) : Calls Tryd.prog 51 #[.slice a len cap] w (Draw2L 1048576 w) := by
  go_enter Tryd.func51, Tryd.ntmps51
  go_wp2_with fail
  refine (new_c a len cap w hc).mono ?_
  rintro e w1 ⟨rfl, b1, c1⟩
  go_wp2_with fail
  refine (field_c w.heap.size w1 c1).mono ?_
  rintro e w2 ⟨f, _, rfl, g2, c2⟩
  go_wp2_with fail
  refine (drawVector_c w.heap.size f a len cap w2 c2 hl).mono ?_
  rintro e w3 ⟨l, a3, cap3, rfl, hl3, _, s3, c3, g3⟩
  have b3 := below_of_grown b1 (g2.trans g3)
  have HS3 := Lib.hid s3
  clear b1 g2 g3 c1 c2 s3 hc
  go_wp2_with fail
  refine (once_c w.heap.size 12 w3 c3 (by omega) (by omega)).mono ?_
  rintro e w4 ⟨b4, rfl, g4, c4⟩
  have b4w := below_of_grown b3 g4
  have HS4 := Lib.hid (HS3.out.grown g4)
  clear b3 g4 c3 HS3
  cases b4
  · go_wp2_with fail
    refine (drawList_c w.heap.size f l.length w4 c4 (by omega)).mono ?_
    rintro e w5 ⟨v5, rfl, hz5⟩
    obtain ⟨m, a5, cap5, hv5, hm5, _, s5, c5, g5⟩ := (ZVal.of c4.lt hz5).pol
    cases hv5
    have b5 := below_of_grown b4w g5
    have HS5 := Lib.hid (HS4.out.grown g5)
    have HM5 := Lib.hid s5
    clear b4w g5 c4 HS4 s5 hz5
    go_wp2
    go_ret3
    exact ⟨f, a3, l, cap3, a5, m, cap5, rfl, by omega, by omega, HS5.out.src, HM5.out.src, b5⟩
  · have e2 : (2 : Int) * l.length = ((2 * l.length : Nat) : Int) := by omega
    have HE2 := Lib.hid e2
    clear e2
    go_wp2_with fail
    rw [HE2.out]
    refine (drawList_c w.heap.size f (2 * l.length) w4 c4 (by omega)).mono ?_
    rintro e w5 ⟨v5, rfl, hz5⟩
    obtain ⟨m, a5, cap5, hv5, hm5, _, s5, c5, g5⟩ := (ZVal.of c4.lt hz5).pol
    cases hv5
    have b5 := below_of_grown b4w g5
    have HS5 := Lib.hid (HS4.out.grown g5)
    have HM5 := Lib.hid s5
    clear b4w g5 c4 HS4 s5 hz5 HE2
    go_wp2
    go_ret3
    exact ⟨f, a3, l, cap3, a5, m, cap5, rfl, by omega, by omega, HS5.out.src, HM5.out.src, b5⟩
theorem drawTwisted_c (a : Option Addr) (len cap : Nat) (w : World) (hl : len ≤ 1048576) (hc : Code w a len) : Calls Tryd.prog 13 #[.slice a len cap] w (Draw2L 1048576 w) := by
  go_enter Tryd.func13, Tryd.ntmps13
  go_wp2_with fail
  refine (drawTwo4_c a len cap w hl hc).mono ?_
  rintro e w1 ⟨f, a1, l, cap1, a2, m, cap2, rfl, h1, h2, s1, s2, b1⟩
  have HS1 := Lib.hid s1
  have HS2 := Lib.hid s2
  clear s1 s2
  go_wp2
  go_ret3
  exact ⟨f, a1, l, cap1, a2, m, cap2, rfl, h1, h2, HS1.out, HS2.out, b1⟩
end Go.Proofs.YtoonpnfhcmghmaaDoor
namespace Go.Proofs.YtoonpnfhcmghmaaDoor
open Go.RowKit
theorem mRev_on {x : Nat} {k : Nat} (hk : k ≤ 9) (hx : x < 2 ^ k) : mRev x k = (rv x k : Nat) := by
  unfold mRev
  rw [if_pos ⟨⟨by omega, by omega⟩, by omega, by rw [two_cast]; exact_mod_cast hx⟩]
  simp
theorem mRev_off {x k : Int} (h : ¬ ((0 ≤ k ∧ k ≤ 9) ∧ 0 ≤ x ∧ x < two k)) : mRev x k = -1 := if_neg h
theorem rv_bd {x j k : Nat} (hj : j ≤ k) (hk : k ≤ 9) : rv x j < 512 := by
  have := rv_lt x j
  have : 2 ^ j ≤ 2 ^ 9 := Nat.pow_le_pow_right (by omega) (by omega)
  omega
theorem two_512 {k : Nat} (hk : k ≤ 9) : two (k : Int) ≤ 512 := by
  rcases ten hk with rfl | rfl | rfl | rfl | rfl | rfl | rfl | rfl | rfl | rfl <;> decide
theorem ofInt_nat {x : Nat} (h : x < 1073741824) : (BitVec.ofInt 64 (x : Int)).toNat = x := by
  rw [BitVec.toNat_ofInt]
  have : ((x : Int) % ((2 ^ 64 : Nat) : Int)).toNat = x := by rw [Int.emod_eq_of_lt (by omega) (by omega)]; rfl
  exact this
theorem bits_and1 {x : Nat} (h : x < 1073741824) : bits .and .i64 (x : Int) 1 = ((x % 2 : Nat) : Int) := by
  unfold bits
  show IntKind.i64.wrap ((BitVec.ofInt 64 (x : Int) &&& BitVec.ofInt 64 ((1 : Nat) : Int)).toNat : Int) = _
  rw [BitVec.toNat_and, ofInt_nat h, ofInt_nat (by omega), Nat.and_one_is_mod, IntWalk.i64_in _ (by omega)]
theorem bits_or1 {r b : Nat} (hr : r < 1000000) (hb : b < 2) : bits .or .i64 ((r : Int) * 2) (b : Int) = ((2 * r + b : Nat) : Int) := by
  unfold bits
  show IntKind.i64.wrap ((BitVec.ofInt 64 ((r : Int) * 2) ||| BitVec.ofInt 64 (b : Int)).toNat : Int) = _
  have e : 2 * r + b = 2 * r ||| b := by
    have := Nat.two_pow_add_eq_or_of_lt (b := b) (i := 1) (by omega) r
    simpa using this
  rw [BitVec.toNat_or, show (r : Int) * 2 = ((2 * r : Nat) : Int) by omega, ofInt_nat (by omega), ofInt_nat (by omega), ← e, IntWalk.i64_in _ (by omega)]
theorem half_more (x j : Nat) : x / 2 ^ j / 2 = x / 2 ^ (j + 1) := by rw [Nat.div_div_eq_div_mul, Nat.pow_succ]
theorem rv_step {x j : Nat} (hx : x / 2 ^ j < 1073741824) (hr : rv x j < 1000000) : bits .or .i64 (((rv x j : Nat) : Int) * 2) (bits .and .i64 (((x / 2 ^ j : Nat)) : Int) 1) = ((rv x (j + 1) : Nat) : Int) := by
  rw [bits_and1 hx, bits_or1 hr (by omega), rv]
set_option maxHeartbeats 400000 in
theorem iReverse_on (x k : Nat) (w : World) (hk : k ≤ 9) (hx : x < 2 ^ k) : Calls Tryd.prog 141 #[.int .i64 x, .int .i64 k] w fun e w' => e = .returned (.int .i64 (rv x k : Nat)) ∧ w = w' := by
  have ek := shl_nat (k := k) (by omega)
  have hx2 : (x : Int) < two k := by rw [two_cast]; exact_mod_cast hx
  have hd : decide (two k ≤ (x : Int)) = false := by simpa using hx2
  have tb := two_bd (k := (k : Int)) (by omega) (by omega)
  have t9 := two_512 hk
  have x9 : x < 512 := by omega
  clear hx
  go_enter Tryd.func141, Tryd.ntmps141
  go_wp2_with fail
  clear ek hd tb
  go_loop [0, 5, 23] (fun u v i => ∃ j : Nat, i = .int .i64 j ∧ u = .int .i64 ((x / 2 ^ j : Nat) : Int) ∧ v = .int .i64 ((rv x j : Nat) : Int) ∧ j ≤ k) (fun _ _ i => k - (intOf i).toNat)
  case atStart => exact ⟨0, rfl, by simp, rfl, by omega⟩
  case round =>
    obtain ⟨j, rfl, rfl, rfl, hj⟩ := hrel
    have rb := rv_bd (x := x) hj hk
    have xb : x / 2 ^ j ≤ x := Nat.div_le_self _ _
    by_cases hlt : j < k
    · have H1 := Lib.hid (rv_step (x := x) (j := j) (by omega) (by omega))
      go_wp2
      go_round
      case rel => exact ⟨j + 1, by go_num, vint (by rw [← half_more]; simp), vint (by rw [← H1.out]; simp), by omega⟩
      case measure => simp [intOf]; omega
    · have hd : decide (j < k) = false := by simpa using hlt
      obtain rfl : j = k := by omega
      go_wp2
      go_ret
      exact ⟨rfl, rfl⟩
theorem iReverse_off (x k : Int) (w : World) (h : ¬ ((0 ≤ k ∧ k ≤ 9) ∧ 0 ≤ x ∧ x < two k)) : Calls Tryd.prog 141 #[.int .i64 x, .int .i64 k] w fun e w' => e = .returned (.int .i64 (-1)) ∧ w = w' := by
  by_cases k0 : k < 0
  · go_enter Tryd.func141, Tryd.ntmps141
    go_wp2
    go_ret
    exact ⟨rfl, rfl⟩
  · by_cases k9 : 9 < k
    · go_enter Tryd.func141, Tryd.ntmps141
      go_wp2
      go_ret
      exact ⟨rfl, rfl⟩
    · by_cases x0 : x < 0
      · clear h
        go_enter Tryd.func141, Tryd.ntmps141
        go_wp2
        go_ret
        exact ⟨rfl, rfl⟩
      · obtain ⟨k, rfl⟩ := Int.eq_ofNat_of_zero_le (show 0 ≤ k by omega)
        have ek := shl_nat (k := k) (by omega)
        have hx2 : two k ≤ x := by omega
        have hd : decide (two k ≤ x) = true := by simpa using hx2
        clear h
        go_enter Tryd.func141, Tryd.ntmps141
        go_wp2
        go_ret
        exact ⟨rfl, rfl⟩
theorem iReverse (x k : Int) (w : World) : Calls Tryd.prog 141 #[.int .i64 x, .int .i64 k] w fun e w' => e = .returned (.int .i64 (mRev x k)) ∧ w = w' := by
  by_cases h : (0 ≤ k ∧ k ≤ 9) ∧ 0 ≤ x ∧ x < two k
  · obtain ⟨⟨k0, k1⟩, x0, x1⟩ := h
    obtain ⟨k, rfl⟩ := Int.eq_ofNat_of_zero_le k0
    obtain ⟨x, rfl⟩ := Int.eq_ofNat_of_zero_le x0
    have hx : x < 2 ^ k := by rw [two_cast] at x1; exact_mod_cast x1
    rw [mRev_on (by omega) hx]
    exact iReverse_on x k w (by omega) hx
  · rw [mRev_off h]
    exact iReverse_off x k w h
end Go.Proofs.YtoonpnfhcmghmaaDoor
namespace Go.Proofs.YtoonpnfhcmghmaaDoor
open Go.RowKit
theorem perm_set {wr : World} {g n k i : Nat} {F : Nat → Int} (hk : k ≤ 9) (hn : n = 2 ^ k) (hi : i < n) (h : Own wr g n (fun j => if rv j k < i then F (rv j k) else 0)) :
    Own (wr.setCell ⟨g, rv i k, none⟩ (.int .i64 (F i))) g n (fun j => if rv j k < i + 1 then F (rv j k) else 0) := by
  subst hn
  refine (World.rowIs.set h (rv i k) (.int .i64 (F i))).congr fun j hj => ?_
  have e1 := rv_twice hk hi
  have e2 := rv_twice hk hj
  by_cases h1 : j = rv i k
  · subst h1; simp [e1]
  · have h2 : rv j k ≠ i := fun e => h1 (by rw [← e, e2])
    by_cases h3 : rv j k < i
    · simp [h1, h3, show rv j k < i + 1 by omega]
    · simp [h1, h3, show ¬ rv j k < i + 1 by omega]
theorem perm_log {n k : Nat} (hk : k ≤ 9) (hn : n = 2 ^ k) : mLog n = k := by
  rw [hn]
  have := log_two hk
  rw [two_cast] at this
  exact_mod_cast this
set_option maxRecDepth 100000 in
set_option maxHeartbeats 800000 in
theorem iPermute_on (b off n cap k : Nat) (F : Nat → Int) (w : World) (hk : k ≤ 9) (hn : n = 2 ^ k) (hlt : b < w.heap.size) (hc : ∀ j, j < n → w.cell? ⟨b, off + j, none⟩ = some (.int .i64 (F j))) :
    Calls Tryd.prog 131 #[.slice (some ⟨b, off, none⟩) n cap] w (CopyP w n (fun j => F (rv j k))) := by
  have HC := Lib.hid hc
  clear hc
  have HN := Lib.hid hn
  have n9 : n ≤ 512 := by
    have : 2 ^ k ≤ 2 ^ 9 := Nat.pow_le_pow_right (by omega) hk
    omega
  have HL := Lib.hid (perm_log hk hn)
  clear hn
  have hmk := run_make_row' (P := Tryd.prog) 24 3 (.int .i64 0) 8 Tryd.underlying24 info3 rfl .i64 .i64 n (by omega) (by omega)
  go_enter Tryd.func131, Tryd.ntmps131
  go_wp2_with fail
  refine (iLogOf n w).mono ?_
  rintro e w' ⟨rfl, rfl⟩
  rw [HL.out]
  go_wp2_with fail
  clear hmk
  go_loopw [5, 6, 17] (fun _ _ i wr => ∃ j : Nat, i = .int .i64 j ∧ j ≤ n ∧ Own wr w.heap.size n (fun x => if rv x k < j then F (rv x k) else 0) ∧ Below w.heap.size w wr) (fun _ _ i _ => n - (intOf i).toNat)
  case atStart =>
    refine ⟨0, rfl, Nat.zero_le _, ?_, (Below.refl _ _).alloc (Nat.le_refl _) _⟩
    exact (World.rowIs_made w (.int .i64 0) n 3).congr fun j _ => by simp
  case round =>
    obtain ⟨j, rfl, hj, ho, hb⟩ := hrel
    by_cases h1 : j < n
    · have c1 : wr.cell? ⟨b, off + j, none⟩ = some (.int .i64 (F j)) := (hb.cell (p := ⟨b, off + j, none⟩) hlt).trans (HC.out j h1)
      have hr : rv j k < n := by rw [HN.out]; exact rv_lt j k
      have c2 := World.rowIs.cell ho hr
      have c3 := World.rowIs.frozen ho (rv j k)
      have HS := Lib.hid (perm_set hk HN.out h1 ho)
      have HR := Lib.hid (mRev_on hk (show j < 2 ^ k by rw [← HN.out]; exact h1))
      go_wp2_with fail
      refine (iReverse j k wr).mono ?_
      rintro e w' ⟨rfl, rfl⟩
      rw [HR.out]
      go_wp2
      go_roundw
      case rel => exact ⟨j + 1, by go_num, by omega, HS.out, hb.setCell (Nat.le_refl _) _⟩
      case measure => simp [intOf]; omega
    · have hd : decide (j < n) = false := by simpa using h1
      obtain rfl : j = n := by omega
      go_wp2
      go_ret
      exact ⟨rfl, World.rowIs.congr ho (fun x _ => by simp [show rv x k < j by rw [HN.out]; exact rv_lt x k]), hb⟩
theorem src_on {w : World} {a : Option Addr} {n : Nat} {F : Nat → Int} (h : Src w a n F) (hn : n ≠ 0) : ∃ b off, a = some ⟨b, off, none⟩ ∧ b < w.heap.size ∧ ∀ j, j < n → w.cell? ⟨b, off + j, none⟩ = some (.int .i64 (F j)) := by
  rcases h with h | h
  · exact absurd h hn
  · exact h
theorem iPermute (a : Option Addr) (n cap k : Nat) (F : Nat → Int) (w : World) (hk : k ≤ 9) (hn : n = 2 ^ k) (hs : Src w a n F) : Calls Tryd.prog 131 #[.slice a n cap] w (CopyP w n (fun j => F (rv j k))) := by
  have h0 : n ≠ 0 := by have : 0 < 2 ^ k := Nat.pow_pos (by omega); omega
  obtain ⟨b, off, rfl, hlt, hc⟩ := src_on hs h0
  exact iPermute_on b off n cap k F w hk hn hlt hc
theorem Src.congr {w : World} {a : Option Addr} {n : Nat} {F G : Nat → Int} (h : Src w a n F) (e : ∀ j, j < n → F j = G j) : Src w a n G := by
  refine h.imp id ?_
  rintro ⟨b, off, e1, hlt, hc⟩
  exact ⟨b, off, e1, hlt, fun j hj => by rw [hc j hj, e j hj]⟩
end Go.Proofs.YtoonpnfhcmghmaaDoor
namespace Go.Proofs.YtoonpnfhcmghmaaDoor
open Mth
/-- n levels from level s on. -/
def lvL (f : Int) (l : List Int) (s : Nat) : Nat → List Int
  | 0 => l
  | n + 1 => stgL f (lvL f l s n) (s + n)
theorem lvL_len (f : Int) (l : List Int) (s n : Nat) : (lvL f l s n).length = l.length := by
  induction n with
  | zero => rfl
  | succ n ih => show (stgL f _ _).length = _; rw [stgL_len, ih]
theorem VecOk.lv {f : Int} {l : List Int} (h : VecOk f l) (s n : Nat) : VecOk f (lvL f l s n) := by
  induction n with
  | zero => exact h
  | succ n ih => exact ih.stg _
theorem lv_lev {f : Int} {l : List Int} {k s : Nat} {X : Nat → Int} (h : VecOk f l) (hk : l.length = 2 ^ k) (hl : Lev f (rootL f l) k s X (lf l)) : ∀ n, s + n ≤ k → Lev f (rootL f l) k (s + n) X (lf (lvL f l s n))
  | 0, _ => hl
  | n + 1, hn => by
    have h1 := lv_lev h hk hl n (by omega)
    have e : rootL f (lvL f l s n) = rootL f l := rootL_len (lvL_len f l s n)
    rw [← e] at h1 ⊢
    exact stage_lev (h.lv s n) (by rw [lvL_len, hk]) (show s + n < k by omega) h1
/-- A level, written place by place, is the list of the level. -/
theorem stp_list {f : Int} {l : List Int} {k q : Nat} (hk : l.length = 2 ^ k) (hq : q < k) (j : Nat) : stp f (rootL f l) (2 ^ q) (2 ^ (k - q - 1)) (lf l) (2 ^ (k - q - 1)) 0 j = lf (stgL f l q) j := by
  have g0 : 0 < 2 ^ q := Nat.pow_pos (by omega)
  have hn : l.length = 2 ^ (k - q - 1) * (2 * 2 ^ q) := by rw [hk, pow_half hq]
  unfold stgL
  rw [lf_tab]
  by_cases hj : j < l.length
  · rw [if_pos hj, stp_end hn _ hj]
    rw [hn, Nat.mul_div_cancel _ (by omega)]
  · rw [if_neg hj]
    unfold stp
    rw [if_neg, lf_out l (by omega)]
    rintro (h1 | ⟨_, h1⟩)
    · omega
    · omega
def permL (l : List Int) (k : Nat) : List Int := tab l.length fun j => lf l (rv j k)
theorem permL_len (l : List Int) (k : Nat) : (permL l k).length = l.length := tab_len _ _
theorem VecOk.perm {f : Int} {l : List Int} (h : VecOk f l) (k : Nat) : VecOk f (permL l k) := h.tab rfl _ fun _ _ => h.lt _
/-- Reversed bits, then all levels: the transform. -/
theorem lv_fwd {f : Int} {l : List Int} {k : Nat} (h : VecOk f l) (hk : l.length = 2 ^ k) : lvL f (permL l k) 0 k = fwdL f l := by
  have hp := permL_len l k
  have hlev : Lev f (rootL f (permL l k)) k 0 (lf l) (lf (permL l k)) := Lev.start fun j hj => by unfold permL; rw [lf_tab, if_pos (by omega)]
  have h1 := lv_lev (h.perm k) (by rw [hp, hk]) hlev k (by omega)
  rw [Nat.zero_add, rootL_len hp] at h1
  exact lev_fwd h ((h.perm k).lv 0 k) hk (by rw [lvL_len, hp]) h1
/-- The numbers at the negated places. -/
def mirL (l : List Int) : List Int := tab l.length fun j => lf l ((l.length - j) % l.length)
theorem mirL_len (l : List Int) : (mirL l).length = l.length := tab_len _ _
theorem lf_mirL {l : List Int} {j : Nat} (h : j < l.length) : lf (mirL l) j = lf l ((l.length - j) % l.length) := by unfold mirL; rw [lf_tab, if_pos h]
theorem VecOk.mir {f : Int} {l : List Int} (h : VecOk f l) : VecOk f (mirL l) := h.tab rfl _ fun _ _ => h.lt _
theorem mir_inv {n i : Nat} (hi : i < n) : (n - (n - i) % n) % n = i := by
  by_cases h : i = 0
  · subst h; rw [Nat.sub_zero, Nat.mod_self, Nat.sub_zero, Nat.mod_self]
  · rw [Nat.mod_eq_of_lt (show n - i < n by omega), show n - (n - i) = i by omega, Nat.mod_eq_of_lt hi]
theorem mir_at {n j k : Nat} (hj : j < n) (hk : k < n) : (n - j) % n = k ↔ j = (n - k) % n := by
  constructor
  · intro h; rw [← h, mir_inv hj]
  · intro h; rw [h, mir_inv hk]
/-- A transform at a negated place is the transform by the inverse root. -/
theorem ft_mirror {f w v : Int} {n : Nat} (h : Rt f w v n) (A : Nat → Int) {j : Nat} (hj : j < n) : ftF w n A ((n - j) % n) % P f = ftF v n A j % P f := by
  unfold ftF
  refine sumN_mod fun t _ => emod_mul_congr rfl ?_
  have e4 : w ^ ((n - j) % n * t) % P f = w ^ ((n - j) * t) % P f := h.exp (by rw [Nat.mul_mod, Nat.mod_mod, ← Nat.mul_mod])
  rw [e4]
  have e5 : (v ^ (j * t) * (v ^ ((n - j) * t) * w ^ ((n - j) * t))) % P f = (v ^ (j * t) * 1) % P f := emod_mul_congr rfl (h.swap.wv _)
  have e6 : v ^ (j * t) * (v ^ ((n - j) * t) * w ^ ((n - j) * t)) = v ^ (n * t) * w ^ ((n - j) * t) := by
    rw [← Int.mul_assoc, ← Int.pow_add, ← Nat.add_mul, Nat.add_sub_cancel' (Nat.le_of_lt hj)]
  have e7 : (v ^ (n * t) * w ^ ((n - j) * t)) % P f = (1 * w ^ ((n - j) * t)) % P f := emod_mul_congr ((h.swap.ord _).2 (Nat.dvd_mul_right n t)) rfl
  rw [Int.mul_one] at e5
  rw [Int.one_mul] at e7
  rw [← e5, e6, e7]
/-- The transform back, as the program makes it. -/
theorem bwd_by_fwd {f : Int} {l : List Int} (h : VecOk f l) {i : Nat} (hi : i < l.length) : RS (lf (mirL (fwdL f l)) i * mPower f l.length (-1)) (P f) = lf (bwdL f l) i := by
  have hf := fwdL_len f l
  rw [lf_mirL (by rw [hf]; exact hi), hf, lf_fwdL (Nat.mod_lt _ (by omega)), lf_bwdL hi, RS]
  have e := ft_mirror h.rt (lf l) hi
  rw [e]
  exact emod_mul_congr (Int.emod_emod_of_dvd _ (Int.dvd_refl _)) rfl
/-- Zeros behind. -/
def padL (l : List Int) (n : Nat) : List Int := tab n (lf l)
theorem padL_len (l : List Int) (n : Nat) : (padL l n).length = n := tab_len _ _
theorem lf_padL (l : List Int) {n : Nat} (h : l.length ≤ n) (j : Nat) : lf (padL l n) j = lf l j := by
  unfold padL
  rw [lf_tab]
  by_cases hj : j < n
  · rw [if_pos hj]
  · rw [if_neg hj, lf_out l (by omega)]
end Go.Proofs.YtoonpnfhcmghmaaDoor
namespace Go.Proofs.YtoonpnfhcmghmaaDoor
open Go.RowKit
theorem mLog_le (n : Int) : mLog n ≤ 9 := by
  rcases log_cases n with ⟨k, hk, _, hl⟩ | ⟨_, hl⟩ <;> omega
set_option maxHeartbeats 800000 in
theorem iVectorOk (f : Int) (a : Option Addr) (l : List Int) (cap : Nat) (w : World) (hn : l.length ≤ 1048576) (hs : Src w a l.length (lf l)) (ht : Tab w) : Calls Tryd.prog 53 #[.int .i64 f, .slice a l.length cap] w (SameB w (mVectorOk f l)) := by
  have hl9 := mLog_le l.length
  by_cases hk : hasK f (mLog l.length)
  · have H1 := Lib.hid (hasRoots_yes f (mLog l.length) w ht hk hl9)
    obtain ⟨h0, h8⟩ := hk.1
    have hv : mVectorOk f l = true ↔ AllIn f l := by
      rw [vok_iff]
      exact ⟨fun h => h.2, fun h => ⟨(hasK_iff f _).1 hk, h⟩⟩
    have H2 := Lib.hid (hasAll_c f a l cap w ht h0 h8 hn hs (mVectorOk f l) hv)
    clear hs hv hk hl9
    have H3 := Lib.hid (iLogOf l.length w)
    generalize mLog l.length = L at *
    go_enter Tryd.func53, Tryd.ntmps53
    go_wp2_with fail
    refine H3.out.mono ?_
    rintro e w' ⟨rfl, rfl⟩
    go_wp2_with fail
    refine H1.out.mono ?_
    rintro e w' ⟨rfl, rfl⟩
    go_wp2_with fail
    refine H2.out.mono ?_
    rintro e w' ⟨rfl, rfl⟩
    go_wp2
    go_ret
    exact ⟨rfl, rfl⟩
  · have H1 := Lib.hid (hasRoots_no f (mLog l.length) w ht (fun h => hk h.1))
    have HB := Lib.hid (vok_not.2 fun h : VecOk f l => hk ((hasK_iff f _).2 h.1))
    clear hs hk hl9
    have H3 := Lib.hid (iLogOf l.length w)
    generalize mLog l.length = L at *
    go_enter Tryd.func53, Tryd.ntmps53
    go_wp2_with fail
    refine H3.out.mono ?_
    rintro e w' ⟨rfl, rfl⟩
    go_wp2_with fail
    refine H1.out.mono ?_
    rintro e w' ⟨rfl, rfl⟩
    go_wp2
    go_ret
    exact ⟨by rw [HB.out]; rfl, rfl⟩
set_option maxHeartbeats 800000 in
theorem areVectors_c (f : Int) (a a2 : Option Addr) (l m : List Int) (cap cap2 : Nat) (w : World) (hn : l.length ≤ 1048576) (hn2 : m.length ≤ 1048576) (hs : Src w a l.length (lf l)) (hs2 : Src w a2 m.length (lf m)) (ht : Tab w) : Calls Tryd.prog 56 #[.int .i64 f, .slice a l.length cap, .slice a2 m.length cap2] w (SameB w (mTwo f l m)) := by
  by_cases he : l.length = m.length
  · have hd : ((l.length : Int) == m.length) = true := by rw [beq_iff_eq]; omega
    have R1 := iVectorOk f a l cap w hn hs ht
    have R2 := iVectorOk f a2 m cap2 w hn2 hs2 ht
    by_cases h1 : VecOk f l
    · rw [vok_iff.2 h1] at R1
      have HM : Hid (mTwo f l m = mVectorOk f m) := Lib.hid (by
        by_cases h2 : VecOk f m
        · rw [vok_iff.2 h2, two_iff.2 ⟨he, h1, h2⟩]
        · rw [vok_not.2 h2, two_not.2 fun h => h2 h.2.2])
      have HR1 := Lib.hid R1
      have HR2 := Lib.hid R2
      clear R1 R2 hs hs2 h1 he
      go_enter Tryd.func56, Tryd.ntmps56
      go_wp2_with fail
      refine HR1.out.mono ?_
      rintro e w' ⟨rfl, rfl⟩
      go_wp2_with fail
      refine HR2.out.mono ?_
      rintro e w' ⟨rfl, rfl⟩
      go_wp2
      go_ret
      exact ⟨by rw [HM.out]; rfl, rfl⟩
    · rw [vok_not.2 h1] at R1
      have HM := Lib.hid (two_not.2 fun h : TwoOk f l m => h1 h.2.1)
      have HR1 := Lib.hid R1
      clear R1 R2 hs hs2 h1 he
      go_enter Tryd.func56, Tryd.ntmps56
      go_wp2_with fail
      refine HR1.out.mono ?_
      rintro e w' ⟨rfl, rfl⟩
      go_wp2
      go_ret
      exact ⟨by rw [HM.out]; rfl, rfl⟩
  · have hd : ((l.length : Int) == m.length) = false := by rw [beq_eq_false_iff_ne]; omega
    have HM := Lib.hid (two_not.2 fun h : TwoOk f l m => he h.1)
    clear hs hs2 he
    go_enter Tryd.func56, Tryd.ntmps56
    go_wp2
    go_ret
    exact ⟨by rw [HM.out]; rfl, rfl⟩
/-- A list of n numbers of which the first k have been put at their places, by a map of places that is one to one. -/
theorem place_set {wr : World} {g n k : Nat} {F : Nat → Int} (q : Nat → Nat) (u : Nat) (hq : ∀ j, j < n → (q j = k ↔ j = u)) (h : Own wr g n (fun j => if q j < k then F (q j) else 0)) :
    Own (wr.setCell ⟨g, u, none⟩ (.int .i64 (F k))) g n (fun j => if q j < k + 1 then F (q j) else 0) := by
  refine (World.rowIs.set h u (.int .i64 (F k))).congr fun j hj => ?_
  by_cases h1 : j = u
  · have := (hq j hj).2 h1
    simp [h1]
    rw [← h1, this]
    simp
  · have h2 : q j ≠ k := fun e => h1 ((hq j hj).1 e)
    by_cases h3 : q j < k
    · simp [h1, h3, show q j < k + 1 by omega]
    · simp [h1, h3, show ¬ q j < k + 1 by omega]
set_option maxRecDepth 100000 in
set_option maxHeartbeats 800000 in
theorem mirrored_some (b off n cap : Nat) (F : Nat → Int) (w : World) (n0 : 0 < n) (hn : n ≤ 1048576) (hlt : b < w.heap.size) (hc : ∀ j, j < n → w.cell? ⟨b, off + j, none⟩ = some (.int .i64 (F j))) :
    Calls Tryd.prog 132 #[.slice (some ⟨b, off, none⟩) n cap] w (CopyP w n (fun j => F ((n - j) % n))) := by
  have HC := Lib.hid hc
  clear hc
  have hmk := made_n n hn
  have kz : ((n : Int) == 0) = false := by rw [beq_eq_false_iff_ne]; omega
  go_enter Tryd.func132, Tryd.ntmps132
  go_wp2_with fail
  clear hmk
  go_loopw [4, 5, 11] (fun _ _ i wr => ∃ j : Nat, i = .int .i64 j ∧ j ≤ n ∧ Own wr w.heap.size n (fun x => if (n - x) % n < j then F ((n - x) % n) else 0) ∧ Below w.heap.size w wr) (fun _ _ i _ => n - (intOf i).toNat)
  case atStart =>
    refine ⟨0, rfl, Nat.zero_le _, ?_, (Below.refl _ _).alloc (Nat.le_refl _) _⟩
    exact (World.rowIs_made w (.int .i64 0) n 3).congr fun j _ => by simp
  case round =>
    obtain ⟨j, rfl, hj, ho, hb⟩ := hrel
    by_cases h1 : j < n
    · have c1 : wr.cell? ⟨b, off + j, none⟩ = some (.int .i64 (F j)) := (hb.cell (p := ⟨b, off + j, none⟩) hlt).trans (HC.out j h1)
      have hd1 : decide ((j : Int) < n) = true := decide_eq_true (by omega)
      have HS := Lib.hid (place_set (fun x => (n - x) % n) ((n - j) % n) (fun x hx => mir_at hx h1) ho)
      have hU : (n - j) % n < n := Nat.mod_lt _ n0
      have c2 := World.rowIs.cell ho hU
      have c3 := World.rowIs.frozen ho ((n - j) % n)
      have tm : ((n : Int) - j).tmod n = (((n - j) % n : Nat) : Int) := by rw [show (n : Int) - j = ((n - j : Nat) : Int) by omega, Int.tmod_eq_emod_of_nonneg (by omega), Int.natCast_emod]
      have qc : IntKind.i64.wrap ((n : Int) - j) = (n : Int) - j := IntWalk.i64_in _ (by omega)
      clear ho
      generalize (n - j) % n = U at *
      go_wp2
      go_roundw
      case rel => exact ⟨j + 1, by go_num, by omega, HS.out, hb.setCell (Nat.le_refl _) _⟩
      case measure => simp [intOf]; omega
    · have hd : decide (j < n) = false := by simpa using h1
      obtain rfl : j = n := by omega
      go_wp2
      go_ret
      exact ⟨rfl, World.rowIs.congr ho (fun x _ => by simp [show (j - x) % j < j from Nat.mod_lt _ n0]), hb⟩
theorem mirrored_c (a : Option Addr) (l : List Int) (cap : Nat) (w : World) (n0 : 0 < l.length) (hn : l.length ≤ 1048576) (hs : Src w a l.length (lf l)) : Calls Tryd.prog 132 #[.slice a l.length cap] w (OwnG w (mirL l)) := by
  obtain ⟨b, off, rfl, hlt, hc⟩ := vec_some hs n0
  refine (mirrored_some b off l.length cap (lf l) w n0 hn hlt hc).mono ?_
  rintro e w' ⟨rfl, ho, hb⟩
  exact OwnG.of_own ho (mirL_len l).symm (Nat.le_refl _) (fun j hj => (lf_mirL hj).symm) hb
set_option maxRecDepth 100000 in
set_option maxHeartbeats 1600000 in
theorem pointwise_some (f : Int) (b off b2 off2 n cap cap2 : Nat) (A B : Nat → Int) (w : World) (ht : Tab w) (h0 : 0 ≤ f) (h8 : f ≤ 8) (hn : n ≤ 1048576) (hA : ∀ j, 0 ≤ A j ∧ A j < P f) (hB : ∀ j, 0 ≤ B j ∧ B j < P f) (hlt : b < w.heap.size) (hlt2 : b2 < w.heap.size)
    (hc : ∀ j, j < n → w.cell? ⟨b, off + j, none⟩ = some (.int .i64 (A j))) (hc2 : ∀ j, j < n → w.cell? ⟨b2, off2 + j, none⟩ = some (.int .i64 (B j))) :
    Calls Tryd.prog 64 #[.int .i64 f, .slice (some ⟨b, off, none⟩) n cap, .slice (some ⟨b2, off2, none⟩) n cap2] w (CopyP w n (fun j => RS (A j * B j) (P f))) := by
  have HC := Lib.hid hc
  have HC2 := Lib.hid hc2
  have HA := Lib.hid hA
  have HB := Lib.hid hB
  clear hc hc2 hA hB
  have hmk := made_n n hn
  go_enter Tryd.func64, Tryd.ntmps64
  go_wp2_with fail
  clear hmk
  go_loopw [8, 9, 15] (fun _ _ i wr => ∃ j : Nat, i = .int .i64 j ∧ j ≤ n ∧ Own wr w.heap.size n (fun x => if x < j then RS (A x * B x) (P f) else 0) ∧ Below w.heap.size w wr) (fun _ _ i _ => n - (intOf i).toNat)
  case atStart =>
    refine ⟨0, rfl, Nat.zero_le _, ?_, (Below.refl _ _).alloc (Nat.le_refl _) _⟩
    exact (World.rowIs_made w (.int .i64 0) n 3).congr fun j _ => by simp
  case round =>
    obtain ⟨j, rfl, hj, ho, hb⟩ := hrel
    by_cases h1 : j < n
    · have c1 : wr.cell? ⟨b, off + j, none⟩ = some (.int .i64 (A j)) := (hb.cell (p := ⟨b, off + j, none⟩) hlt).trans (HC.out j h1)
      have c2 : wr.cell? ⟨b2, off2 + j, none⟩ = some (.int .i64 (B j)) := (hb.cell (p := ⟨b2, off2 + j, none⟩) hlt2).trans (HC2.out j h1)
      have hd1 : decide ((j : Int) < n) = true := decide_eq_true (by omega)
      have HS := Lib.hid (copy_set (w := w) (F := fun x => RS (A x * B x) (P f)) ho)
      have c3 := World.rowIs.cell ho h1
      have c4 := World.rowIs.frozen ho j
      have hAj := HA.out j
      have hBj := HB.out j
      clear ho
      go_wp2_with fail
      refine (mul_c f (A j) (B j) wr (ht.below hb) h0 h8 hAj.1 hAj.2 hBj.1 hBj.2).mono ?_
      rintro e w' ⟨rfl, rfl⟩
      go_wp2
      go_roundw
      case rel => exact ⟨j + 1, by go_num, by omega, HS.out, hb.setCell (Nat.le_refl _) _⟩
      case measure => simp [intOf]; omega
    · have hd : decide (j < n) = false := by simpa using h1
      obtain rfl : j = n := by omega
      go_wp2
      go_ret
      exact ⟨rfl, World.rowIs.congr ho (fun x hx => by simp [hx]), hb⟩
theorem pointwise_c (f : Int) (a : Option Addr) (l : List Int) (cap : Nat) (a2 : Option Addr) (m : List Int) (cap2 : Nat) (w : World) (hs : Src w a l.length (lf l)) (hs2 : Src w a2 m.length (lf m)) (ht : Tab w) (h : TwoOk f l m) : Calls Tryd.prog 64 #[.int .i64 f, .slice a l.length cap, .slice a2 m.length cap2] w (OwnG w (ptwL f l m)) := by
  obtain ⟨hlm, hl, hm⟩ := h
  have hp := hl.pos
  obtain ⟨b, off, rfl, hlt, hc⟩ := vec_some hs hp.1
  obtain ⟨b2, off2, rfl, hlt2, hc2⟩ := vec_some hs2 hm.pos.1
  rw [← hlm] at hc2 ⊢
  refine (pointwise_some f b off b2 off2 l.length cap cap2 (lf l) (lf m) w ht hl.f08.1 hl.f08.2 (by omega) hl.lt hm.lt hlt hlt2 hc hc2).mono ?_
  rintro e w' ⟨rfl, ho, hb⟩
  exact OwnG.of_own ho (tab_len _ _).symm (Nat.le_refl _) (fun j hj => by unfold ptwL; rw [lf_tab, if_pos hj]) hb
end Go.Proofs.YtoonpnfhcmghmaaDoor
namespace Go.Proofs.YtoonpnfhcmghmaaDoor
open Go.RowKit Go.Shelf
attribute [local go_sem] Oper.semAt_some
/-- The first c powers of r. -/
def pws (f r : Int) (c : Nat) : List Int := (List.range c).map fun (j : Nat) => PW (P f) r (j : Int)
theorem pws_len (f r : Int) (c : Nat) : (pws f r c).length = c := by simp [pws]
theorem pws_succ (f r : Int) (c : Nat) : pws f r (c + 1) = pws f r c ++ [PW (P f) r c] := by simp [pws, List.range_succ]
theorem pws_pre (f r : Int) {j c : Nat} (h : j ≤ c) : pws f r j <+: pws f r c := by
  refine ⟨((List.range c).drop j).map fun (j : Nat) => PW (P f) r (j : Int), ?_⟩
  unfold pws
  rw [← List.map_append]
  congr 1
  conv => rhs; rw [← List.take_append_drop j (List.range c)]
  rw [List.take_range, Nat.min_eq_left h]
/-- What a round keeps: whatever lay below n₀, and the two boxes that the iterator reads again. -/
def KeepsBoxes (n₀ Bn Ba : Nat) (W W' : World) : Prop := Below n₀ W W' ∧ W'.heap[Bn]? = W.heap[Bn]? ∧ W'.heap[Ba]? = W.heap[Ba]?
theorem cell_same {W W' : World} {B : Nat} (h : W'.heap[B]? = W.heap[B]?) (o : Nat) : W'.cell? ⟨B, o, none⟩ = W.cell? ⟨B, o, none⟩ := by
  unfold World.cell?
  simp only [h]
theorem Tab.from {n₀ : Nat} {w w' : World} (h : Tab w) (h0 : 0 < n₀) (hb : Below n₀ w w') : Tab w' := h.keep fun o => hb.cell (p := ⟨0, o, none⟩) h0
set_option maxRecDepth 100000 in
set_option maxHeartbeats 1000000 in
theorem powers1_in (n : Nat) (hn : 1 ≤ n) (l Bc Bn Ba n₀ : Nat) (f r : Int) (c : Nat) (h0 : 0 ≤ f) (h8 : f ≤ 8) (r0 : 0 ≤ r) (r1 : r < P f) (c9 : c ≤ 1048576) (hn0 : 0 < n₀) (J Jx : List Int → World → Prop)
    (hY : ∀ pre x W, J pre W → pre.length < c → YieldAt Fence.wide (n - 1) Tryd.prog l #[.int .i64 x] W fun e W' =>
      (e = .returned (.bool true) ∧ J (pre ++ [x]) W' ∧ KeepsBoxes n₀ Bn Ba W W') ∨ (e = .returned (.bool false) ∧ Jx (pre ++ [x]) W'))
    (W : World) (ht : Tab W) (hc : W.cell? ⟨Bc, 0, none⟩ = some (.int .i64 c)) (hf : W.cell? ⟨Bn, 0, none⟩ = some (.int .i64 f)) (hr : W.cell? ⟨Ba, 0, none⟩ = some (.int .i64 r)) (hj : J [] W) :
    CallsIn Fence.wide n Tryd.prog 137 #[.func (.yield l) #[] #[], .pointer (some ⟨Bc, 0, none⟩), .pointer (some ⟨Bn, 0, none⟩), .pointer (some ⟨Ba, 0, none⟩)] W fun e W' => (∃ v, e = .returned v) ∧
      ((∃ ys, ys = pws f r c ∧ J ys W') ∨ (∃ pre, pre <+: pws f r c ∧ Jx pre W')) := by
  have hp := P_bd h0 h8
  refine callsIn_of_wp Tryd.func137 rfl trivial ?_ rfl
  simp only [Tryd.ntmps137, List.size_toArray, List.length_cons, List.length_nil, Nat.reduceAdd, Nat.reduceSub, Array.replicate_succ, Array.replicate_zero, List.push_toArray, List.append_toArray, List.nil_append, List.cons_append]
  gi_wp2
  gi_loopw [5, 7] (fun x i wr => ∃ j : Nat, i = .int .i64 j ∧ j ≤ c ∧ x = .int .i64 (PW (P f) r j) ∧ J (pws f r j) wr ∧ Tab wr ∧ wr.cell? ⟨Bn, 0, none⟩ = some (.int .i64 f) ∧ wr.cell? ⟨Ba, 0, none⟩ = some (.int .i64 r)) (fun _ i _ => c - (intOf i).toNat)
  case atStart =>
    exact ⟨0, rfl, Nat.zero_le _, by rw [show ((0 : Nat) : Int) = 0 from rfl, PW_zero h0 h8], hj, ht, hf, hr⟩
  case round =>
    obtain ⟨j, rfl, hjc, rfl, hJ, htr, hfr, hrr⟩ := hrel
    by_cases hlt : j < c
    · obtain ⟨fn, tmps, assign, body, hy, hR⟩ := hY (pws f r j) (PW (P f) r j) wr hJ (by rw [pws_len]; exact hlt)
      have bj := PW_bd (m := P f) (x := r) (e := (j : Int)) (by omega)
      have HS := Lib.hid (PW_succ h0 h8 r0 j)
      gi_wp2
      refine hR.mono ?_
      rintro e W3 (⟨rfl, hJ3, hk3⟩ | ⟨rfl, hJx3⟩)
      · have ht3 := htr.from hn0 hk3.1
        have hf3 : W3.cell? ⟨Bn, 0, none⟩ = some (.int .i64 f) := (cell_same hk3.2.1 0).trans hfr
        have hr3 : W3.cell? ⟨Ba, 0, none⟩ = some (.int .i64 r) := (cell_same hk3.2.2 0).trans hrr
        rw [← pws_succ] at hJ3
        clear hR hy hk3
        gi_wp2_with (refine ⟨trivial, ?_⟩; gi_at_call 113; refine (callsIn_wide.2 (mul_c f (PW (P f) r j) r W3 ht3 h0 h8 bj.1 bj.2 r0 r1)).mono ?_; rintro e w' ⟨rfl, rfl⟩)
        go_roundw
        case rel => exact ⟨j + 1, by go_num, by omega, vint HS.out, hJ3, ht3, hf3, hr3⟩
        case measure => simp [intOf]; omega
      · rw [← pws_succ] at hJx3
        gi_wp2
        refine bodyPost_ret (results_none rfl _ _ _) rfl ?_
        exact ⟨⟨_, rfl⟩, .inr ⟨_, pws_pre f r (by omega), hJx3⟩⟩
    · have hd : decide (j < c) = false := by simpa using hlt
      obtain rfl : j = c := by omega
      gi_wp2
      go_end0
      exact ⟨⟨_, rfl⟩, .inl ⟨_, rfl, hJ⟩⟩
theorem powers_stops (n : Nat) (hn : 1 ≤ n) (Bc Bn Ba n₀ : Nat) (f r : Int) (c : Nat) (h0 : 0 ≤ f) (h8 : f ≤ 8) (r0 : 0 ≤ r) (r1 : r < P f) (c9 : c ≤ 1048576) (hn0 : 0 < n₀) (w : World) (hsz : 0 < w.heap.size) (ht : Tab w)
    (hBc : Bc < w.heap.size) (hBn : Bn < w.heap.size) (hBa : Ba < w.heap.size) (hc : w.cell? ⟨Bc, 0, none⟩ = some (.int .i64 c)) (hf : w.cell? ⟨Bn, 0, none⟩ = some (.int .i64 f)) (hr : w.cell? ⟨Ba, 0, none⟩ = some (.int .i64 r)) :
    SeqStopsK Fence.wide n Tryd.prog 137 #[.pointer (some ⟨Bc, 0, none⟩), .pointer (some ⟨Bn, 0, none⟩), .pointer (some ⟨Ba, 0, none⟩)] (fun x : Int => #[Value.int .i64 x]) (KeepsBoxes n₀ Bn Ba) (fun ys => ys = pws f r c) (fun pre => pre <+: pws f r c) c w :=
  fun l J Jx W hW _ _ hY hj => powers1_in n hn l Bc Bn Ba n₀ f r c h0 h8 r0 r1 c9 hn0 J Jx hY W (ht.from hsz hW)
    ((hW.cell (p := ⟨Bc, 0, none⟩) hBc).trans hc) ((hW.cell (p := ⟨Bn, 0, none⟩) hBn).trans hf) ((hW.cell (p := ⟨Ba, 0, none⟩) hBa).trans hr) hj
theorem powers_c (f r x : Int) (w : World) : Calls Tryd.prog 128 #[.int .i64 f, .int .i64 r, .int .i64 x] w fun e w' =>
    e = .returned (.func (.func 137) #[] #[.pointer (some ⟨w.heap.size + 2, 0, none⟩), .pointer (some ⟨w.heap.size, 0, none⟩), .pointer (some ⟨w.heap.size + 1, 0, none⟩)]) ∧
    w' = ((w.alloc (.cells #[.int .i64 f] 54)).alloc (.cells #[.int .i64 r] 3)).alloc (.cells #[.int .i64 x] 3) := by
  go_enter Tryd.func128, Tryd.ntmps128
  go_wp2
  go_ret
  exact ⟨rfl, rfl⟩
theorem made_cap (n : Nat) (hn : n ≤ 1048576) (w : World) : (Instr.makeSlice 24 (.int .i64 0) (.int .i64 (n : Int))).run Tryd.prog w = .ok (.slice (some ⟨w.heap.size, 0, none⟩) 0 n) (w.alloc (.cells (madeCells #[.int .i64 0] n) 3)) := by
  obtain ⟨i, hi, hzz⟩ := Option.map_eq_some_iff.1 info3
  simp only [Prod.mk.injEq] at hzz
  obtain ⟨hz, hs, hb⟩ := hzz
  have hr := run_make (P := Tryd.prog) w 24 3 i (.int .i64 0) Tryd.underlying24 hi hz .i64 .i64 0 n (Int.le_refl _) (by omega) (by rw [hb]; omega) (by omega)
  simp only [Int.toNat_natCast, hs, Nat.mul_one] at hr
  exact hr
theorem own_of_owns {w' : World} {base g n : Nat} {F : Nat → Int} (h : w'.ownsRow base 3 1 (.slice (some ⟨g, 0, none⟩) n n) n (xsF F n)) : Own w' g n F := by
  obtain ⟨hl, h⟩ := h
  rcases h with ⟨hv, _⟩ | ⟨g', cap, cur, hv, hg, hh, hc, hm, hs, ht⟩
  · cases hv
  · cases hv
    refine ⟨cur, hh, by omega, fun j hj => ?_⟩
    have hx : (xsF F n)[j]? = some (.int .i64 (F j)) := by simp [xsF, hj]
    rw [← ht, List.getElem?_take_of_lt (by omega)] at hx
    simpa using hx
theorem block_same {W w1 : World} {tmp : Obj} {g Bl B : Nat} {v : Value} (hgrow : (W.alloc tmp).grownBy w1 (some g)) (h1 : B < W.heap.size) (h2 : B ≠ g) (h3 : B ≠ Bl) : (w1.setCell ⟨Bl, 0, none⟩ v).heap[B]? = W.heap[B]? :=
  (Below.heap_setCell w1 ⟨Bl, 0, none⟩ v B (fun e => h3 e)).trans ((hgrow.block B (by simp; omega) (fun e => by injection e with e; exact h2 e)).trans (Below.heap_alloc W tmp B h1))
theorem pws_roots (f k : Int) (n : Nat) : (pws f (mRoot f k) n).map (Value.int .i64) = xsF (rootsF f k) n := by
  simp [pws, xsF, rootsF]
theorem keepsBoxes_b {w WL : World} (hz : w.heap.size + 5 ≤ WL.heap.size) (W : World) (l : Nat) (o o' : Obj) (hl : WL.heap.size ≤ l) (ho : W.heap[l]? = some o) (hc : o.isCells = false) (hw : o.isWalk = false) :
    KeepsBoxes w.heap.size (w.heap.size + 2) (w.heap.size + 2 + 1) W (W.putObj l o') :=
  ⟨belowK_b (w := w) (Nat.le_refl _) W l o o' (by omega) ho hc hw, World.putObj_heap_other (by omega), World.putObj_heap_other (by omega)⟩
set_option maxRecDepth 100000 in
set_option maxHeartbeats 2000000 in
theorem iRoots_on (f : Int) (k n : Nat) (w : World) (ht : Tab w) (h : hasK f k) (k9 : k ≤ 9) (hn : n = 2 ^ k) : Calls Tryd.prog 144 #[.int .i64 f, .int .i64 k] w (CopyP w n (rootsF f k)) := by
  have n9 : n ≤ 512 := by
    have : 2 ^ k ≤ 2 ^ 9 := Nat.pow_le_pow_right (by omega) k9
    omega
  have HN : Hid (wrap64 (2 ^ k) = (n : Int)) := Lib.hid (by
    rw [hn]
    have := shl_at (k := (k : Int)) (by omega) (by omega)
    rw [Int.toNat_natCast] at this
    rw [this, two_nat (by omega), Int.toNat_natCast])
  have hmk : ∀ w, (Instr.makeSlice 24 (.int .i64 0) (.int .i64 (wrap64 (2 ^ k)))).run Tryd.prog w = .ok (.slice (some ⟨w.heap.size, 0, none⟩) 0 n) (w.alloc (.cells (madeCells #[.int .i64 0] n) 3)) := fun w => by
    rw [HN.out]; exact made_cap n (by omega) w
  clear hn
  have HR := Lib.hid h
  refine (callsIn_wide (n := 6)).1 ?_
  refine callsIn_of_wp_marks Tryd.func144 rfl trivial ?_ rfl
  simp only [Tryd.ntmps144, List.size_toArray, List.length_cons, List.length_nil, Nat.reduceAdd, Nat.reduceSub, Array.replicate_succ, Array.replicate_zero, List.push_toArray, List.append_toArray, List.nil_append, List.cons_append]
  refine wpIn_wide.2 ?_
  go_wp2_with fail
  refine (hasRoots_yes f k w ht h (by omega)).mono ?_
  rintro e w' ⟨rfl, rfl⟩
  go_wp2
  obtain ⟨W0, hW0⟩ : ∃ W0, (w.alloc (.cells (madeCells #[.int .i64 0] n) 3)).alloc (.cells #[.slice (some ⟨w.heap.size, 0, none⟩) 0 n] 24) = W0 := ⟨_, rfl⟩
  have z0 : W0.heap.size = w.heap.size + 2 := by rw [← hW0]; simp
  have x0 : Boxed W0 (w.heap.size + 1) 24 (.slice (some ⟨w.heap.size, 0, none⟩) 0 n) := by
    rw [← hW0]
    have := Boxed.new (w.alloc (.cells (madeCells #[.int .i64 0] n) 3)) 24 (.slice (some ⟨w.heap.size, 0, none⟩) 0 n)
    rwa [World.size_alloc] at this
  have o0 : W0.ownsRow w.heap.size 3 1 (.slice (some ⟨w.heap.size, 0, none⟩) 0 n) 0 [] := by
    rw [← hW0]
    exact (World.ownsRow_made w (madeCells #[.int .i64 0] n) n (Nat.le_refl _) (by unfold maxLen; omega) (by rw [size_madeCells]; omega)).alloc _
  have b0 : Below w.heap.size w W0 := by rw [← hW0]; exact ((Below.refl _ _).alloc (Nat.le_refl _) _).alloc (by simp) _
  have t0 : Tab W0 := ht.below b0
  rw [hW0]
  clear hW0 hmk
  refine wp_region_still_tail 6 (by kernel_rfl) (by kernel_rfl) ?_
  simp only [List.take_succ_cons, List.take_zero, List.drop_succ_cons, List.drop_zero]
  still_step
  still_step
  still_step
  still_call ((rootk_c f k W0.drew (t0.keep fun _ => rfl) HR.out).mono fun _ _ h => ⟨h.1, h.2.symm⟩)
  still_step
  still_step
  refine wpStill_nil ?_
  change wpList _ _ _ _ _ W0.drew
  obtain ⟨W1, hW1⟩ : ∃ W1, W0.drew = W1 := ⟨_, rfl⟩
  have z1 : W1.heap.size = w.heap.size + 2 := by rw [← hW1]; exact z0
  have x1 : Boxed W1 (w.heap.size + 1) 24 (.slice (some ⟨w.heap.size, 0, none⟩) 0 n) := by rw [← hW1]; exact x0
  have o1 : W1.ownsRow w.heap.size 3 1 (.slice (some ⟨w.heap.size, 0, none⟩) 0 n) 0 [] := by rw [← hW1]; exact o0
  have b1 : Below w.heap.size w W1 := by rw [← hW1]; exact ⟨b0.os, b0.tape, b0.output, b0.size, b0.block⟩
  have t1 : Tab W1 := ht.below b1
  rw [hW1]
  clear hW1 z0 x0 o0 b0 t0
  go_wp2_with fail
  refine (powers_c f (mRoot f k) (wrap64 (2 ^ k)) W1).mono ?_
  rintro e w' ⟨rfl, rfl⟩
  go_wp2
  obtain ⟨WL, hWL⟩ : ∃ WL, ((W1.alloc (.cells #[.int .i64 f] 54)).alloc (.cells #[.int .i64 (mRoot f k)] 3)).alloc (.cells #[.int .i64 (wrap64 (2 ^ k))] 3) = WL := ⟨_, rfl⟩
  have zL : WL.heap.size = w.heap.size + 5 := by rw [← hWL]; simp; omega
  have xL : Boxed WL (w.heap.size + 1) 24 (.slice (some ⟨w.heap.size, 0, none⟩) 0 n) := by rw [← hWL]; exact ((x1.alloc _).alloc _).alloc _
  have oL : WL.ownsRow w.heap.size 3 1 (.slice (some ⟨w.heap.size, 0, none⟩) 0 n) 0 [] := by rw [← hWL]; exact ((o1.alloc _).alloc _).alloc _
  have nL : Boxed WL (w.heap.size + 2) 54 (.int .i64 f) := by
    rw [← hWL, ← z1]; exact ((Boxed.new W1 _ _).alloc _).alloc _
  have aL : Boxed WL (w.heap.size + 2 + 1) 3 (.int .i64 (mRoot f k)) := by
    have := (Boxed.new (W1.alloc (.cells #[.int .i64 f] 54)) 3 (.int .i64 (mRoot f k))).alloc (.cells #[.int .i64 (wrap64 (2 ^ k))] 3)
    rw [World.size_alloc, z1] at this
    rw [← hWL]; exact this
  have cL : Boxed WL (w.heap.size + 2 + 2) 3 (.int .i64 n) := by
    have := Boxed.new ((W1.alloc (.cells #[.int .i64 f] 54)).alloc (.cells #[.int .i64 (mRoot f k)] 3)) 3 (.int .i64 (wrap64 (2 ^ k)))
    rw [World.size_alloc, World.size_alloc, z1] at this
    rw [← hWL, ← HN.out]; exact this
  have bL : Below w.heap.size w WL := by rw [← hWL]; exact ((b1.alloc (by omega) _).alloc (by simp; omega) _).alloc (by simp; omega) _
  have tL : Tab WL := ht.below bL
  rw [hWL]
  clear hWL z1 x1 o1 b1 t1
  have rb := root_bd HR.out
  have f0 := HR.out.1.1
  have f8 := HR.out.1.2
  have w0 : 0 < w.heap.size := (cell_some (ht 0 (by omega) (by omega)).1).2
  obtain ⟨i0, hi, hz0, hz1, hz2⟩ := info_parts info3
  refine (wpIn_wide (n := 6)).1 ?_
  refine wpIn_rangeFunc_ownG (F := Fence.wide) (n := 6) rfl (by omega) (gf := 137) (lb := #[.pointer (some ⟨w.heap.size + 2 + 2, 0, none⟩), .pointer (some ⟨w.heap.size + 2, 0, none⟩), .pointer (some ⟨w.heap.size + 2 + 1, 0, none⟩)]) rfl trivial (enters_of Tryd.func137 (by kernel_rfl) rfl)
    (powers_stops 5 (by omega) (w.heap.size + 2 + 2) (w.heap.size + 2) (w.heap.size + 2 + 1) w.heap.size f (mRoot f k) n f0 f8 (by omega) rb.2 (by omega) w0 WL (by omega) tL (by omega) (by omega) (by omega) cL.cell nL.cell aL.cell)
    (fun h k => ⟨h.1.trans k.1, k.2.1.trans h.2.1, k.2.2.trans h.2.2⟩) (fun W l o o' hl ho hc hw => keepsBoxes_b (by omega) W l o o' hl ho hc hw) (Below.refl _ _) (fun _ => rfl)
    (fun pre W => (∃ v, Boxed W (w.heap.size + 1) 24 v ∧ W.ownsRow w.heap.size 3 1 v pre.length (pre.map (Value.int .i64)) ∧ v = .slice (some ⟨w.heap.size, 0, none⟩) pre.length n) ∧ Below w.heap.size w W ∧ w.heap.size + 5 ≤ W.heap.size)
    (fun _ _ _ => False)
    (OwnFrom.and (Own.from (holdsRow_own w.heap.size (w.heap.size + 1) 24 3 1 (fun (pre : List Int) => pre.length) (fun (pre : List Int) => pre.map (Value.int .i64)) (fun (pre : List Int) v => v = .slice (some ⟨w.heap.size, 0, none⟩) pre.length n)) _) (OwnFrom.and (ownFrom_below (Nat.le_refl _) (by omega)) (fun s A B row hs hg hr => Nat.le_trans hs hg.size)))
    (fun _ _ _ _ _ hs _ _ => hs)
    ⟨⟨_, xL, oL, rfl⟩, bL, by omega⟩
    (fun x => { tmps := #[.int .i64 f, .int .i64 k, undef, undef, .slice none 0 0, .int .i64 f, .pointer (some ⟨w.heap.size + 1, 0, none⟩), .int .i64 x, .int .i64 f, .int .i64 k, .bool true, .bool false, .int .i64 f, .int .i64 k, .int .i64 (wrap64 (2 ^ k)), .slice (some ⟨w.heap.size, 0, none⟩) 0 n, .int .i64 f, .int .i64 f, .int .i64 k, .int .i64 (mRoot f k), .int .i64 k, .int .i64 (wrap64 (2 ^ k)), .func (.func 137) #[] #[.pointer (some ⟨w.heap.size + 2 + 2, 0, none⟩), .pointer (some ⟨w.heap.size + 2, 0, none⟩), .pointer (some ⟨w.heap.size + 2 + 1, 0, none⟩)], .int .i64 x, undef, undef, undef, undef, undef], defers := [] }) ?assign ?body ?done ?stop
  case assign =>
    intro l x W K hK
    gi_wp2
    exact hK
  case body =>
    rintro l pre x W ⟨⟨v, hv, hrow, rfl⟩, hB, hz⟩ hlt
    have hc := hv.cell
    gi_wp2_with (gi_at_builtin; refine wpListIn_append_fits _ rfl _ _ 24 rfl w.heap.size 3 i0 1 Tryd.underlying24 hi hz1 w.heap.size pre.length n _ rfl (hrow.alloc _) ⟨W.heap.size, 0, none⟩ 1 1 [.int .i64 x] rfl rfl (cell_one_new _ _ _) (by simp [Value.oneCell']) (by omega) ?_; intro w1 hown' hgrow; obtain ⟨hv1, hv2, hr2, hk2, hb2⟩ := hv.appended (by decide) hrow hB.size (by omega) hown' hgrow; have hc1 := hv1.cell; have hf1 := hv1.frozen)
    exact ⟨hk2.from _, ⟨hb2, block_same hgrow (by omega) (by omega) (by omega), block_same hgrow (by omega) (by omega) (by omega)⟩, ⟨_, hv2, by simpa using hr2, by simp⟩, hB.trans hb2, Nat.le_trans hz hk2.size⟩
  case done =>
    rintro D ys W hD rfl ⟨⟨v, hv, hrow, rfl⟩, hB, hz⟩ hK
    rw [pws_len] at hv hrow
    rw [pws_roots] at hrow
    have hc := hv.cell
    go_wp2
    refine ⟨by simp, .inl ⟨_, _, rfl, run_takeDeferred hK, ?_⟩⟩
    exact ⟨_, results_tmp rfl _ _ _, rfl, own_of_owns (ownsRow_putObj hrow _ hK rfl), hB.trans (belowK_b (w := w) (Nat.le_refl _) W D _ _ (by omega) hK rfl rfl)⟩
  case stop =>
    rintro D c pre W _ _ h _
    exact h.elim
end Go.Proofs.YtoonpnfhcmghmaaDoor
namespace Go.Proofs.YtoonpnfhcmghmaaDoor
open Go.RowKit
/-- A row of words. -/
def RowW (K : IntKind) (t : TypeId) (w : World) (g n : Nat) (F : Nat → Int) : Prop := w.rowIs g t n (fun j => .int K (F j))
theorem RowW.cell {K : IntKind} {t : TypeId} {w : World} {g n : Nat} {F : Nat → Int} (h : RowW K t w g n F) {j : Nat} (hj : j < n) : w.cell? ⟨g, j, none⟩ = some (.int K (F j)) := World.rowIs.cell h hj
theorem RowW.frozen {K : IntKind} {t : TypeId} {w : World} {g n : Nat} {F : Nat → Int} (h : RowW K t w g n F) (j : Nat) : w.frozen? ⟨g, j, none⟩ = false := World.rowIs.frozen h j
theorem RowW.lt {K : IntKind} {t : TypeId} {w : World} {g n : Nat} {F : Nat → Int} (h : RowW K t w g n F) : g < w.heap.size := World.rowIs.lt h
theorem RowW.congr {K : IntKind} {t : TypeId} {w : World} {g n : Nat} {F G : Nat → Int} (h : RowW K t w g n F) (e : ∀ j, j < n → F j = G j) : RowW K t w g n G := World.rowIs.congr h fun j hj => by rw [e j hj]
theorem RowW.set {K : IntKind} {t : TypeId} {w : World} {g n : Nat} {F : Nat → Int} (h : RowW K t w g n F) (s : Nat) (x : Int) : RowW K t (w.setCell ⟨g, s, none⟩ (.int K x)) g n (fun j => if j = s then x else F j) :=
  (World.rowIs.set h s (.int K x)).congr fun j _ => by show (if j = s then Value.int K x else Value.int K (F j)) = Value.int K (if j = s then x else F j); split <;> rfl
theorem RowW.other {K : IntKind} {t : TypeId} {w w' : World} {g r n : Nat} {F : Nat → Int} (h : RowW K t w r n F) (hg : w.grownBy w' (some g)) (hne : r ≠ g) : RowW K t w' r n F :=
  World.rowIs.of_block h (hg.block r h.lt (fun e => hne (by injection e)))
theorem RowW.keep {K : IntKind} {t : TypeId} {w w' : World} {g n : Nat} {F : Nat → Int} (h : RowW K t w g n F) (hb : Below w.heap.size w w') : RowW K t w' g n F := World.rowIs.of_block h (hb.block g h.lt)
theorem grown_refl (w : World) (g : Nat) : w.grownBy w (some g) := ⟨rfl, rfl, rfl, Nat.le_refl _, fun _ _ _ => rfl⟩
theorem grown_put {w wr : World} {g i : Nat} {v : Value} (h : w.grownBy wr (some g)) : w.grownBy (wr.setCell ⟨g, i, none⟩ v) (some g) :=
  grown_set h i v
theorem grown_drews {w wr : World} {g : Nat} (h : w.grownBy wr (some g)) (n : Nat) : w.grownBy (wr.drewN n) (some g) := ⟨h.os, h.tape, h.output, h.size, h.block⟩
theorem grown_cell {w wr : World} {g b o : Nat} (h : w.grownBy wr (some g)) (hlt : b < w.heap.size) (hne : b ≠ g) : wr.cell? ⟨b, o, none⟩ = w.cell? ⟨b, o, none⟩ :=
  World.cell?_of_block (a := ⟨b, o, none⟩) (h.block b hlt (fun e => hne (by injection e)))
theorem mul_le_sq {a b M : Int} (a0 : 0 ≤ a) (a1 : a ≤ M) (b0 : 0 ≤ b) (b1 : b ≤ M) : a * b ≤ M * M := Int.mul_le_mul a1 b1 b0 (by omega)
/-- A slice of a slice that starts at a block's head, with all three indices. -/
theorem slice_3 {P : Program} {t e : TypeId} {z : Value} {by' : Nat} (hu : P.underlying t = some (.slice e)) (hinfo : (P.info? e).map (fun i => (i.zero, i.size, i.bytes)) = some (some z, 1, by')) (g lo hi k n cap : Nat) (vh vl : Int) (e1 : vl = (lo : Int)) (e2 : vh = (hi : Int)) (hk : hi = lo + k) (k0 : 0 < k) (hc : hi ≤ cap) (w : World) :
    (Instr.slice t (.slice (some ⟨g, 0, none⟩) n cap) (some (.int .i64 vl)) (some (.int .i64 vh)) (some (.int .i64 vh))).run P w = .ok (.slice (some ⟨g, lo, none⟩) k k) w := by
  subst e1 e2 hk
  obtain ⟨i, hi, hzz⟩ := Option.map_eq_some_iff.1 hinfo
  simp only [Prod.mk.injEq] at hzz
  have hm2 : ¬ k = 0 := by omega
  have b1 : (0 : Int) ≤ (lo : Int) + k ∧ (lo : Int) + k ≤ cap := by omega
  have b3 : ((lo : Int) + k).toNat = lo + k := by omega
  simp [Instr.slice, run_underlying hu, Instr.sliceBounds, Instr.sliceBound, asIntOf, sizeOf, typeInfo, hi, hzz.2.1, b1, b3, hm2, Addr.add_lit, Nat.add_sub_cancel_left]
theorem info_uint32 : (Tryd.prog.info? 110).map (fun i => (i.zero, i.size, i.bytes)) = some (some (.int .u32 0), 1, 4) := by kernel_rfl
set_option maxRecDepth 100000 in
set_option maxHeartbeats 1600000 in
theorem fill_uint32 (t : TypeId) (g n N b off cap : Nat) (A F : Nat → Int) (w : World) (hg : RowW .u32 t w g N A) (hnN : n ≤ N) (hN : N ≤ 1048576) (hne : b ≠ g) (hlt : b < w.heap.size) (hF : ∀ j, 0 ≤ F j ∧ F j ≤ 4294967295)
    (hc : ∀ j, j < n → w.cell? ⟨b, off + j, none⟩ = some (.int .i64 (F j))) :
    Calls Tryd.prog 143 #[.slice (some ⟨g, 0, none⟩) n n, .slice (some ⟨b, off, none⟩) n cap] w fun e w' => e = .returned (.tuple #[]) ∧ RowW .u32 t w' g N (fun j => if j < n then F j else A j) ∧ w.grownBy w' (some g) := by
  have HC := Lib.hid hc
  have HF := Lib.hid hF
  clear hc hF
  go_enter Tryd.func143, Tryd.ntmps143
  go_wp2_with fail
  go_loopw [4, 5, 8] (fun _ _ i wr => ∃ k : Nat, i = .int .i64 k ∧ k ≤ n ∧ RowW .u32 t wr g N (fun j => if j < k then F j else A j) ∧ w.grownBy wr (some g)) (fun _ _ i _ => n - (intOf i).toNat)
  case atStart => exact ⟨0, rfl, Nat.zero_le _, hg.congr fun j _ => by simp, grown_refl w g⟩
  case round =>
    clear hg
    obtain ⟨k, rfl, hk, ho, hb⟩ := hrel
    by_cases h1 : k < n
    · have c1 : wr.cell? ⟨b, off + k, none⟩ = some (.int .i64 (F k)) := (grown_cell hb hlt hne).trans (HC.out k h1)
      have hd1 : decide ((k : Int) < n) = true := decide_eq_true (by omega)
      have c2 := ho.cell (show k < N by omega)
      have c3 := ho.frozen k
      have hf := HF.out k
      have q1 : IntKind.u32.wrap (F k) = F k := IntWalk.u32_in _ (by omega)
      have HS : Hid (RowW .u32 t (wr.setCell ⟨g, k, none⟩ (.int .u32 (F k))) g N (fun j => if j < k + 1 then F j else A j)) := Lib.hid ((ho.set k (F k)).congr fun j _ => by
        by_cases e : j = k
        · subst e; simp
        · by_cases e2 : j < k
          · simp [e, e2, show j < k + 1 by omega]
          · simp [e, e2, show ¬ j < k + 1 by omega])
      have HG := Lib.hid (grown_put (i := k) (v := .int .u32 (F k)) hb)
      clear ho hb hf
      go_wp2
      go_roundw
      case rel => exact ⟨k + 1, by go_num, by omega, HS.out, HG.out⟩
      case measure => simp [intOf]; omega
    · have hd1 : decide ((k : Int) < n) = false := decide_eq_false (by omega)
      obtain rfl : k = n := by omega
      go_wp2
      go_end0
      exact ⟨rfl, ho, hb⟩
set_option maxRecDepth 100000 in
set_option maxHeartbeats 6400000 in
theorem butter_uint32 (f x : Int) (t : TypeId) (g r n N h d : Nat) (A R : Nat → Int) (w : World) (h0 : 0 ≤ f) (h8 : f ≤ 8) (hP : P f < 65536) (hg : RowW .u32 t w g N A) (hr : RowW .u32 t w r N R) (hgr : r ≠ g) (hnN : n ≤ N) (hN : N ≤ 512) (hpos : 0 < h) (hnd : n = d * (2 * h)) (n0 : 0 < n)
    (hA : ∀ j, j < n → 0 ≤ A j ∧ A j < P f) (hR : ∀ j, j < n → R j = x ^ j % P f) :
    Calls Tryd.prog 145 #[.slice (some ⟨g, 0, none⟩) n n, .slice (some ⟨r, 0, none⟩) n n, .int .u32 (P f), .int .i64 h] w fun e w' => e = .returned (.tuple #[]) ∧ RowW .u32 t w' g N (stp f x h d A d 0) ∧ w.grownBy w' (some g) := by
  have hp := P_bd h0 h8
  have HND := Lib.hid hnd
  have d0 : 0 < d := by
    rcases Nat.eq_zero_or_pos d with hz | hz
    · rw [hz, Nat.zero_mul] at hnd; omega
    · exact hz
  have hhn : 2 * h ≤ n := by rw [hnd]; exact Nat.le_mul_of_pos_left _ d0
  have td0 : (n : Int).tdiv (2 * (h : Int)) = d := by
    rw [show 2 * (h : Int) = ((2 * h : Nat) : Int) by omega, Int.tdiv_eq_ediv_of_nonneg (by omega), ← Int.natCast_ediv, hnd, Nat.mul_div_cancel _ (by omega)]
  have td1 : (n : Int) / (2 * (h : Int)) = d := by rw [← td0, Int.tdiv_eq_ediv_of_nonneg (by omega)]
  have hz2 : (2 * (h : Int) == 0) = false := by rw [beq_eq_false_iff_ne]; omega
  have hz3 : ¬ 2 * (h : Int) = 0 := by omega
  have qd : IntKind.i64.wrap (2 * (h : Int)) = 2 * (h : Int) := IntWalk.i64_in _ (by omega)
  have hdn : d ≤ n := by rw [hnd]; exact Nat.le_mul_of_pos_right _ (by omega)
  have HA := Lib.hid hA
  have HRR := Lib.hid hR
  have HG0 := Lib.hid hg
  have HR0 := Lib.hid hr
  have hrlt := hr.lt
  clear hnd hA hR hg hr
  go_enter Tryd.func145, Tryd.ntmps145
  go_wp2_with fail
  go_loopw [9, 10, 11, 12, 13, 14, 52] (fun i _ _ _ _ _ _ wr => ∃ B : Nat, i = .int .i64 ((B * (2 * h) : Nat) : Int) ∧ B ≤ d ∧ RowW .u32 t wr g N (stp f x h d A B 0) ∧ w.grownBy wr (some g)) (fun i _ _ _ _ _ _ _ => n - (intOf i).toNat)
  case atStart => exact ⟨0, by simp, Nat.zero_le _, HG0.out.congr fun j _ => (stp_start f x h d A j).symm, grown_refl w g⟩
  case round =>
    clear HG0 td0 td1
    obtain ⟨B, rfl, hB, ho, hb⟩ := hrel
    by_cases h1 : B < d
    · have hBn : B * (2 * h) + 2 * h ≤ n := by
        have := Nat.mul_le_mul_right (2 * h) (show B + 1 ≤ d by omega)
        rw [Nat.add_mul, Nat.one_mul, ← HND.out] at this
        exact this
      have hd1 : decide (((B * (2 * h) : Nat) : Int) < n) = true := decide_eq_true (by omega)
      obtain ⟨I, hI⟩ : ∃ I, B * (2 * h) = I := ⟨_, rfl⟩
      have HNX : Hid (((I + 2 * h : Nat) : Int) = (((B + 1) * (2 * h) : Nat) : Int)) := Lib.hid (by rw [Nat.add_mul, Nat.one_mul, hI])
      have HOI := Lib.hid ho
      have HRD : Hid (∀ j, j < h → stp f x h d A B j (I + j) = A (I + j) ∧ stp f x h d A B j (I + j + h) = A (I + j + h)) := Lib.hid fun j hj => by rw [← hI]; exact stp_read hj
      have HST : Hid (∀ j, j < h → ∀ t, (if t = I + j + h then RS (A (I + j) - RS (A (I + j + h) * x ^ (j * d)) (P f)) (P f) else if t = I + j then RS (A (I + j) + RS (A (I + j + h) * x ^ (j * d)) (P f)) (P f) else stp f x h d A B j t) = stp f x h d A B (j + 1) t) := Lib.hid fun j hj t => by
        have := stp_step (f := f) (w := x) (d := d) (V := A) (B := B) hj t
        rw [stp_low hj, stp_high hj, hI] at this
        exact this
      have HFULL : Hid (∀ t, stp f x h d A B h t = stp f x h d A (B + 1) 0 t) := Lib.hid fun t => stp_next f x d A B t hpos
      clear ho
      rw [hI] at hd1 hBn ⊢
      clear hI
      have hIn : I < n := by omega
      have u1 : IntKind.i64.wrap ((I : Int) + h) = (I : Int) + h := IntWalk.i64_in _ (by omega)
      have u2 : IntKind.i64.wrap ((I : Int) + 2 * h) = (I : Int) + 2 * h := IntWalk.i64_in _ (by omega)
      have sl0 : ∀ w, (Instr.slice 114 (.slice (some ⟨g, 0, none⟩) n n) (some (.int .i64 I)) (some (.int .i64 ((I : Int) + h))) (some (.int .i64 ((I : Int) + h)))).run Tryd.prog w = .ok (.slice (some ⟨g, I, none⟩) h h) w := fun w => slice_3 Tryd.underlying114 info_uint32 g I (I + h) h n n _ _ (by omega) (by omega) (by omega) (by omega) (by omega) w
      have sl1 : ∀ w, (Instr.slice 114 (.slice (some ⟨g, 0, none⟩) n n) (some (.int .i64 ((I : Int) + h))) (some (.int .i64 ((I : Int) + 2 * h))) (some (.int .i64 ((I : Int) + 2 * h)))).run Tryd.prog w = .ok (.slice (some ⟨g, I + h, none⟩) h h) w := fun w => slice_3 Tryd.underlying114 info_uint32 g (I + h) (I + 2 * h) h n n _ _ (by omega) (by omega) (by omega) (by omega) (by omega) w
      go_wp2_with fail
      clear sl0 sl1
      go_loopw [12, 13, 14, 52] (fun _ _ _ jj W => ∃ j : Nat, jj = .int .i64 j ∧ j ≤ h ∧ RowW .u32 t W g N (stp f x h d A B j) ∧ w.grownBy W (some g)) (fun _ _ _ jj _ => h - (intOf jj).toNat)
      case atStart => exact ⟨0, rfl, Nat.zero_le _, HOI.out, hb⟩
      case round =>
        clear HOI hb
        obtain ⟨j, rfl, hj, ho, hb⟩ := hrel
        by_cases h2 : j < h
        · have hd2 : decide ((j : Int) < h) = true := decide_eq_true (by omega)
          have hrd := HRD.out j h2
          have c1 : wr.cell? ⟨g, I + j, none⟩ = some (.int .u32 (A (I + j))) := by rw [ho.cell (show I + j < N by omega), hrd.1]
          have c2 : wr.cell? ⟨g, I + h + j, none⟩ = some (.int .u32 (A (I + j + h))) := by rw [show I + h + j = I + j + h by omega, ho.cell (show I + j + h < N by omega), hrd.2]
          have hjd : j * d < n := by
            have : j * d < 2 * h * d := Nat.mul_lt_mul_of_pos_right (by omega) d0
            rw [Nat.mul_comm (2 * h) d, ← HND.out] at this
            exact this
          have c3 : wr.cell? ⟨r, j * d, none⟩ = some (.int .u32 (x ^ (j * d) % P f)) := by rw [(HR0.out.other hb hgr).cell (show j * d < N by omega), HRR.out _ hjd]
          have b1 := HA.out (I + j) (by omega)
          have b2 := HA.out (I + j + h) (by omega)
          have b3 : 0 ≤ x ^ (j * d) % P f ∧ x ^ (j * d) % P f < P f := ⟨Int.emod_nonneg _ (by omega), Int.emod_lt_of_pos _ (by omega)⟩
          have hY : RS (A (I + j + h) * (x ^ (j * d) % P f)) (P f) = RS (A (I + j + h) * x ^ (j * d)) (P f) := by unfold RS; exact emod_mul_congr rfl (Int.emod_emod_of_dvd _ (Int.dvd_refl _))
          have HSTj := Lib.hid (HST.out j h2)
          have jdn : ((j : Int) * d) = ((j * d : Nat) : Int) := by rw [Int.natCast_mul]
          have v1 : IntKind.i64.wrap ((j : Int) * d) = (j : Int) * d := IntWalk.i64_in _ (by omega)
          have v2 : (0 : Int) ≤ (j : Int) * d := by omega
          have v3 : (j : Int) * d < n := by omega
          have v4 : ((j : Int) * d).toNat = j * d := by omega
          clear jdn hjd
          have ho2 : RowW .u32 t wr g N (stp f x h d A B j) := ho
          clear ho
          obtain ⟨X, hX⟩ : ∃ X, A (I + j) = X := ⟨_, rfl⟩
          obtain ⟨Y0, hY0⟩ : ∃ Y0, A (I + j + h) = Y0 := ⟨_, rfl⟩
          obtain ⟨R0, hR0⟩ : ∃ R0, x ^ (j * d) % P f = R0 := ⟨_, rfl⟩
          rw [hX] at c1 b1
          rw [hY0] at c2 b2 hY
          rw [hR0] at c3 b3 hY
          rw [hX, hY0] at HSTj
          rw [← hY] at HSTj
          clear hX hY0 hR0 hY hrd
          have m0 : 0 ≤ Y0 * R0 := Int.mul_nonneg b2.1 b3.1
          have m1 : Y0 * R0 ≤ 65535 * 65535 := mul_le_sq b2.1 (by omega) b3.1 (by omega)
          have hb2 : 0 ≤ RS (Y0 * R0) (P f) ∧ RS (Y0 * R0) (P f) < P f := RS_bd (by omega)
          have t1 : (Y0 * R0).tmod (P f) = RS (Y0 * R0) (P f) := by rw [Int.tmod_eq_emod_of_nonneg m0]; rfl
          have t1' : (Y0 * R0) % (P f) = RS (Y0 * R0) (P f) := rfl
          have k1 : IntKind.u32.wrap (Y0 * R0) = Y0 * R0 := IntWalk.u32_in _ (by omega)
          have pz : (P f == 0) = false := by rw [beq_eq_false_iff_ne]; omega
          have pz2 : ¬ P f = 0 := by omega
          generalize RS (Y0 * R0) (P f) = Y at *
          have k2 : IntKind.u32.wrap Y = Y := IntWalk.u32_in _ (by omega)
          have k3 : IntKind.u32.wrap (X + Y) = X + Y := IntWalk.u32_in _ (by omega)
          have k4 : IntKind.u32.wrap (X + P f) = X + P f := IntWalk.u32_in _ (by omega)
          have k5 : IntKind.u32.wrap (X + P f - Y) = X + P f - Y := IntWalk.u32_in _ (by omega)
          have e1 : (X + Y).tmod (P f) = RS (X + Y) (P f) := by rw [Int.tmod_eq_emod_of_nonneg (by omega)]; rfl
          have e1' : (X + Y) % (P f) = RS (X + Y) (P f) := rfl
          have e2' : (X + P f - Y) % (P f) = RS (X - Y) (P f) := by unfold RS; rw [show X + P f - Y = X - Y + P f by omega, Int.add_emod_right]
          have e2 : (X + P f - Y).tmod (P f) = RS (X - Y) (P f) := by rw [Int.tmod_eq_emod_of_nonneg (by omega), e2']
          have l1 : 0 ≤ RS (X + Y) (P f) ∧ RS (X + Y) (P f) < P f := RS_bd (by omega)
          have l2 : 0 ≤ RS (X - Y) (P f) ∧ RS (X - Y) (P f) < P f := RS_bd (by omega)
          have k6 : IntKind.u32.wrap (RS (X + Y) (P f)) = RS (X + Y) (P f) := IntWalk.u32_in _ (by omega)
          have k7 : IntKind.u32.wrap (RS (X - Y) (P f)) = RS (X - Y) (P f) := IntWalk.u32_in _ (by omega)
          clear m0 m1
          go_wp2
          go_quiet (fail)
          have how2 : RowW .u32 t (wr.drewN nq) g N (stp f x h d A B j) := ho2
          have hgb2 := grown_drews hb nq
          clear c1 c2 c3 hb ho2 t1 t1' k1
          generalize wr.drewN nq = W2 at *
          have cI := how2.cell (show I + j < N by omega)
          have fI := how2.frozen (I + j)
          have how3 := how2.set (I + j) (RS (X + Y) (P f))
          have hgb3 := grown_put (i := I + j) (v := .int .u32 (RS (X + Y) (P f))) hgb2
          obtain ⟨W3, hW3⟩ : ∃ W3, W2.setCell ⟨g, I + j, none⟩ (.int .u32 (RS (X + Y) (P f))) = W3 := ⟨_, rfl⟩
          have HW3 := Lib.hid hW3
          rw [hW3] at how3 hgb3
          have cH := how3.cell (show I + j + h < N by omega)
          have fH := how3.frozen (I + j + h)
          have HOW4 : Hid (RowW .u32 t (W3.setCell ⟨g, I + h + j, none⟩ (.int .u32 (RS (X - Y) (P f)))) g N (stp f x h d A B (j + 1))) := Lib.hid (by
            rw [show I + h + j = I + j + h by omega]
            exact (how3.set (I + j + h) (RS (X - Y) (P f))).congr fun t _ => HSTj.out t)
          have HB4 := Lib.hid (grown_put (i := I + h + j) (v := .int .u32 (RS (X - Y) (P f))) hgb3)
          rw [show I + j + h = I + h + j by omega] at cH fH
          clear how2 how3 hgb2 hgb3 HSTj
          go_wp2_with (rw [hW3])
          go_roundw
          case rel => exact ⟨j + 1, by go_num, by omega, HOW4.out, HB4.out⟩
          case measure => simp [intOf]; omega
        · have hd2 : decide ((j : Int) < h) = false := decide_eq_false (by omega)
          obtain rfl : j = h := by omega
          have HOF : Hid (RowW .u32 t wr g N (stp f x j d A (B + 1) 0)) := Lib.hid (ho.congr fun t _ => HFULL.out t)
          clear ho HFULL HST HRD
          go_wp2
          go_roundw
          case rel => exact ⟨B + 1, vint (by rw [← HNX.out]; omega), by omega, HOF.out, hb⟩
          case measure => simp [intOf]; omega
    · have hBd : B = d := by omega
      subst hBd
      have hBn : B * (2 * h) = n := HND.out.symm
      have hd1 : decide ((n : Int) < n) = false := decide_eq_false (by omega)
      rw [hBn]
      clear hBn
      go_wp2
      go_end0
      exact ⟨rfl, ho, hb⟩
theorem info_uint64 : (Tryd.prog.info? 111).map (fun i => (i.zero, i.size, i.bytes)) = some (some (.int .u64 0), 1, 8) := by kernel_rfl
set_option maxRecDepth 100000 in
set_option maxHeartbeats 1600000 in
theorem fill_uint64 (t : TypeId) (g n N b off cap : Nat) (A F : Nat → Int) (w : World) (hg : RowW .u64 t w g N A) (hnN : n ≤ N) (hN : N ≤ 1048576) (hne : b ≠ g) (hlt : b < w.heap.size) (hF : ∀ j, 0 ≤ F j ∧ F j ≤ 4294967295)
    (hc : ∀ j, j < n → w.cell? ⟨b, off + j, none⟩ = some (.int .i64 (F j))) :
    Calls Tryd.prog 146 #[.slice (some ⟨g, 0, none⟩) n n, .slice (some ⟨b, off, none⟩) n cap] w fun e w' => e = .returned (.tuple #[]) ∧ RowW .u64 t w' g N (fun j => if j < n then F j else A j) ∧ w.grownBy w' (some g) := by
  have HC := Lib.hid hc
  have HF := Lib.hid hF
  clear hc hF
  go_enter Tryd.func146, Tryd.ntmps146
  go_wp2_with fail
  go_loopw [4, 5, 8] (fun _ _ i wr => ∃ k : Nat, i = .int .i64 k ∧ k ≤ n ∧ RowW .u64 t wr g N (fun j => if j < k then F j else A j) ∧ w.grownBy wr (some g)) (fun _ _ i _ => n - (intOf i).toNat)
  case atStart => exact ⟨0, rfl, Nat.zero_le _, hg.congr fun j _ => by simp, grown_refl w g⟩
  case round =>
    clear hg
    obtain ⟨k, rfl, hk, ho, hb⟩ := hrel
    by_cases h1 : k < n
    · have c1 : wr.cell? ⟨b, off + k, none⟩ = some (.int .i64 (F k)) := (grown_cell hb hlt hne).trans (HC.out k h1)
      have hd1 : decide ((k : Int) < n) = true := decide_eq_true (by omega)
      have c2 := ho.cell (show k < N by omega)
      have c3 := ho.frozen k
      have hf := HF.out k
      have q1 : IntKind.u64.wrap (F k) = F k := IntWalk.u64_in _ (by omega)
      have HS : Hid (RowW .u64 t (wr.setCell ⟨g, k, none⟩ (.int .u64 (F k))) g N (fun j => if j < k + 1 then F j else A j)) := Lib.hid ((ho.set k (F k)).congr fun j _ => by
        by_cases e : j = k
        · subst e; simp
        · by_cases e2 : j < k
          · simp [e, e2, show j < k + 1 by omega]
          · simp [e, e2, show ¬ j < k + 1 by omega])
      have HG := Lib.hid (grown_put (i := k) (v := .int .u64 (F k)) hb)
      clear ho hb hf
      go_wp2
      go_roundw
      case rel => exact ⟨k + 1, by go_num, by omega, HS.out, HG.out⟩
      case measure => simp [intOf]; omega
    · have hd1 : decide ((k : Int) < n) = false := decide_eq_false (by omega)
      obtain rfl : k = n := by omega
      go_wp2
      go_end0
      exact ⟨rfl, ho, hb⟩
set_option maxRecDepth 100000 in
set_option maxHeartbeats 6400000 in
theorem butter_uint64 (f x : Int) (t : TypeId) (g r n N h d : Nat) (A R : Nat → Int) (w : World) (h0 : 0 ≤ f) (h8 : f ≤ 8) (hg : RowW .u64 t w g N A) (hr : RowW .u64 t w r N R) (hgr : r ≠ g) (hnN : n ≤ N) (hN : N ≤ 512) (hpos : 0 < h) (hnd : n = d * (2 * h)) (n0 : 0 < n)
    (hA : ∀ j, j < n → 0 ≤ A j ∧ A j < P f) (hR : ∀ j, j < n → R j = x ^ j % P f) :
    Calls Tryd.prog 147 #[.slice (some ⟨g, 0, none⟩) n n, .slice (some ⟨r, 0, none⟩) n n, .int .u64 (P f), .int .i64 h] w fun e w' => e = .returned (.tuple #[]) ∧ RowW .u64 t w' g N (stp f x h d A d 0) ∧ w.grownBy w' (some g) := by
  have hp := P_bd h0 h8
  have HND := Lib.hid hnd
  have d0 : 0 < d := by
    rcases Nat.eq_zero_or_pos d with hz | hz
    · rw [hz, Nat.zero_mul] at hnd; omega
    · exact hz
  have hhn : 2 * h ≤ n := by rw [hnd]; exact Nat.le_mul_of_pos_left _ d0
  have td0 : (n : Int).tdiv (2 * (h : Int)) = d := by
    rw [show 2 * (h : Int) = ((2 * h : Nat) : Int) by omega, Int.tdiv_eq_ediv_of_nonneg (by omega), ← Int.natCast_ediv, hnd, Nat.mul_div_cancel _ (by omega)]
  have td1 : (n : Int) / (2 * (h : Int)) = d := by rw [← td0, Int.tdiv_eq_ediv_of_nonneg (by omega)]
  have hz2 : (2 * (h : Int) == 0) = false := by rw [beq_eq_false_iff_ne]; omega
  have hz3 : ¬ 2 * (h : Int) = 0 := by omega
  have qd : IntKind.i64.wrap (2 * (h : Int)) = 2 * (h : Int) := IntWalk.i64_in _ (by omega)
  have hdn : d ≤ n := by rw [hnd]; exact Nat.le_mul_of_pos_right _ (by omega)
  have HA := Lib.hid hA
  have HRR := Lib.hid hR
  have HG0 := Lib.hid hg
  have HR0 := Lib.hid hr
  have hrlt := hr.lt
  clear hnd hA hR hg hr
  go_enter Tryd.func147, Tryd.ntmps147
  go_wp2_with fail
  go_loopw [9, 10, 11, 12, 13, 14, 52] (fun i _ _ _ _ _ _ wr => ∃ B : Nat, i = .int .i64 ((B * (2 * h) : Nat) : Int) ∧ B ≤ d ∧ RowW .u64 t wr g N (stp f x h d A B 0) ∧ w.grownBy wr (some g)) (fun i _ _ _ _ _ _ _ => n - (intOf i).toNat)
  case atStart => exact ⟨0, by simp, Nat.zero_le _, HG0.out.congr fun j _ => (stp_start f x h d A j).symm, grown_refl w g⟩
  case round =>
    clear HG0 td0 td1
    obtain ⟨B, rfl, hB, ho, hb⟩ := hrel
    by_cases h1 : B < d
    · have hBn : B * (2 * h) + 2 * h ≤ n := by
        have := Nat.mul_le_mul_right (2 * h) (show B + 1 ≤ d by omega)
        rw [Nat.add_mul, Nat.one_mul, ← HND.out] at this
        exact this
      have hd1 : decide (((B * (2 * h) : Nat) : Int) < n) = true := decide_eq_true (by omega)
      obtain ⟨I, hI⟩ : ∃ I, B * (2 * h) = I := ⟨_, rfl⟩
      have HNX : Hid (((I + 2 * h : Nat) : Int) = (((B + 1) * (2 * h) : Nat) : Int)) := Lib.hid (by rw [Nat.add_mul, Nat.one_mul, hI])
      have HOI := Lib.hid ho
      have HRD : Hid (∀ j, j < h → stp f x h d A B j (I + j) = A (I + j) ∧ stp f x h d A B j (I + j + h) = A (I + j + h)) := Lib.hid fun j hj => by rw [← hI]; exact stp_read hj
      have HST : Hid (∀ j, j < h → ∀ t, (if t = I + j + h then RS (A (I + j) - RS (A (I + j + h) * x ^ (j * d)) (P f)) (P f) else if t = I + j then RS (A (I + j) + RS (A (I + j + h) * x ^ (j * d)) (P f)) (P f) else stp f x h d A B j t) = stp f x h d A B (j + 1) t) := Lib.hid fun j hj t => by
        have := stp_step (f := f) (w := x) (d := d) (V := A) (B := B) hj t
        rw [stp_low hj, stp_high hj, hI] at this
        exact this
      have HFULL : Hid (∀ t, stp f x h d A B h t = stp f x h d A (B + 1) 0 t) := Lib.hid fun t => stp_next f x d A B t hpos
      clear ho
      rw [hI] at hd1 hBn ⊢
      clear hI
      have hIn : I < n := by omega
      have u1 : IntKind.i64.wrap ((I : Int) + h) = (I : Int) + h := IntWalk.i64_in _ (by omega)
      have u2 : IntKind.i64.wrap ((I : Int) + 2 * h) = (I : Int) + 2 * h := IntWalk.i64_in _ (by omega)
      have sl0 : ∀ w, (Instr.slice 118 (.slice (some ⟨g, 0, none⟩) n n) (some (.int .i64 I)) (some (.int .i64 ((I : Int) + h))) (some (.int .i64 ((I : Int) + h)))).run Tryd.prog w = .ok (.slice (some ⟨g, I, none⟩) h h) w := fun w => slice_3 Tryd.underlying118 info_uint64 g I (I + h) h n n _ _ (by omega) (by omega) (by omega) (by omega) (by omega) w
      have sl1 : ∀ w, (Instr.slice 118 (.slice (some ⟨g, 0, none⟩) n n) (some (.int .i64 ((I : Int) + h))) (some (.int .i64 ((I : Int) + 2 * h))) (some (.int .i64 ((I : Int) + 2 * h)))).run Tryd.prog w = .ok (.slice (some ⟨g, I + h, none⟩) h h) w := fun w => slice_3 Tryd.underlying118 info_uint64 g (I + h) (I + 2 * h) h n n _ _ (by omega) (by omega) (by omega) (by omega) (by omega) w
      go_wp2_with fail
      clear sl0 sl1
      go_loopw [12, 13, 14, 52] (fun _ _ _ jj W => ∃ j : Nat, jj = .int .i64 j ∧ j ≤ h ∧ RowW .u64 t W g N (stp f x h d A B j) ∧ w.grownBy W (some g)) (fun _ _ _ jj _ => h - (intOf jj).toNat)
      case atStart => exact ⟨0, rfl, Nat.zero_le _, HOI.out, hb⟩
      case round =>
        clear HOI hb
        obtain ⟨j, rfl, hj, ho, hb⟩ := hrel
        by_cases h2 : j < h
        · have hd2 : decide ((j : Int) < h) = true := decide_eq_true (by omega)
          have hrd := HRD.out j h2
          have c1 : wr.cell? ⟨g, I + j, none⟩ = some (.int .u64 (A (I + j))) := by rw [ho.cell (show I + j < N by omega), hrd.1]
          have c2 : wr.cell? ⟨g, I + h + j, none⟩ = some (.int .u64 (A (I + j + h))) := by rw [show I + h + j = I + j + h by omega, ho.cell (show I + j + h < N by omega), hrd.2]
          have hjd : j * d < n := by
            have : j * d < 2 * h * d := Nat.mul_lt_mul_of_pos_right (by omega) d0
            rw [Nat.mul_comm (2 * h) d, ← HND.out] at this
            exact this
          have c3 : wr.cell? ⟨r, j * d, none⟩ = some (.int .u64 (x ^ (j * d) % P f)) := by rw [(HR0.out.other hb hgr).cell (show j * d < N by omega), HRR.out _ hjd]
          have b1 := HA.out (I + j) (by omega)
          have b2 := HA.out (I + j + h) (by omega)
          have b3 : 0 ≤ x ^ (j * d) % P f ∧ x ^ (j * d) % P f < P f := ⟨Int.emod_nonneg _ (by omega), Int.emod_lt_of_pos _ (by omega)⟩
          have hY : RS (A (I + j + h) * (x ^ (j * d) % P f)) (P f) = RS (A (I + j + h) * x ^ (j * d)) (P f) := by unfold RS; exact emod_mul_congr rfl (Int.emod_emod_of_dvd _ (Int.dvd_refl _))
          have HSTj := Lib.hid (HST.out j h2)
          have jdn : ((j : Int) * d) = ((j * d : Nat) : Int) := by rw [Int.natCast_mul]
          have v1 : IntKind.i64.wrap ((j : Int) * d) = (j : Int) * d := IntWalk.i64_in _ (by omega)
          have v2 : (0 : Int) ≤ (j : Int) * d := by omega
          have v3 : (j : Int) * d < n := by omega
          have v4 : ((j : Int) * d).toNat = j * d := by omega
          clear jdn hjd
          have ho2 : RowW .u64 t wr g N (stp f x h d A B j) := ho
          clear ho
          obtain ⟨X, hX⟩ : ∃ X, A (I + j) = X := ⟨_, rfl⟩
          obtain ⟨Y0, hY0⟩ : ∃ Y0, A (I + j + h) = Y0 := ⟨_, rfl⟩
          obtain ⟨R0, hR0⟩ : ∃ R0, x ^ (j * d) % P f = R0 := ⟨_, rfl⟩
          rw [hX] at c1 b1
          rw [hY0] at c2 b2 hY
          rw [hR0] at c3 b3 hY
          rw [hX, hY0] at HSTj
          rw [← hY] at HSTj
          clear hX hY0 hR0 hY hrd
          have m0 : 0 ≤ Y0 * R0 := Int.mul_nonneg b2.1 b3.1
          have m1 : Y0 * R0 ≤ 1073741824 * 1073741824 := mul_le_sq b2.1 (by omega) b3.1 (by omega)
          have hb2 : 0 ≤ RS (Y0 * R0) (P f) ∧ RS (Y0 * R0) (P f) < P f := RS_bd (by omega)
          have t1 : (Y0 * R0).tmod (P f) = RS (Y0 * R0) (P f) := by rw [Int.tmod_eq_emod_of_nonneg m0]; rfl
          have t1' : (Y0 * R0) % (P f) = RS (Y0 * R0) (P f) := rfl
          have k1 : IntKind.u64.wrap (Y0 * R0) = Y0 * R0 := IntWalk.u64_in _ (by omega)
          have pz : (P f == 0) = false := by rw [beq_eq_false_iff_ne]; omega
          have pz2 : ¬ P f = 0 := by omega
          generalize RS (Y0 * R0) (P f) = Y at *
          have k2 : IntKind.u64.wrap Y = Y := IntWalk.u64_in _ (by omega)
          have k3 : IntKind.u64.wrap (X + Y) = X + Y := IntWalk.u64_in _ (by omega)
          have k4 : IntKind.u64.wrap (X + P f) = X + P f := IntWalk.u64_in _ (by omega)
          have k5 : IntKind.u64.wrap (X + P f - Y) = X + P f - Y := IntWalk.u64_in _ (by omega)
          have e1 : (X + Y).tmod (P f) = RS (X + Y) (P f) := by rw [Int.tmod_eq_emod_of_nonneg (by omega)]; rfl
          have e1' : (X + Y) % (P f) = RS (X + Y) (P f) := rfl
          have e2' : (X + P f - Y) % (P f) = RS (X - Y) (P f) := by unfold RS; rw [show X + P f - Y = X - Y + P f by omega, Int.add_emod_right]
          have e2 : (X + P f - Y).tmod (P f) = RS (X - Y) (P f) := by rw [Int.tmod_eq_emod_of_nonneg (by omega), e2']
          have l1 : 0 ≤ RS (X + Y) (P f) ∧ RS (X + Y) (P f) < P f := RS_bd (by omega)
          have l2 : 0 ≤ RS (X - Y) (P f) ∧ RS (X - Y) (P f) < P f := RS_bd (by omega)
          have k6 : IntKind.u64.wrap (RS (X + Y) (P f)) = RS (X + Y) (P f) := IntWalk.u64_in _ (by omega)
          have k7 : IntKind.u64.wrap (RS (X - Y) (P f)) = RS (X - Y) (P f) := IntWalk.u64_in _ (by omega)
          clear m0 m1
          go_wp2
          go_quiet (fail)
          have how2 : RowW .u64 t (wr.drewN nq) g N (stp f x h d A B j) := ho2
          have hgb2 := grown_drews hb nq
          clear c1 c2 c3 hb ho2 t1 t1' k1
          generalize wr.drewN nq = W2 at *
          have cI := how2.cell (show I + j < N by omega)
          have fI := how2.frozen (I + j)
          have how3 := how2.set (I + j) (RS (X + Y) (P f))
          have hgb3 := grown_put (i := I + j) (v := .int .u64 (RS (X + Y) (P f))) hgb2
          obtain ⟨W3, hW3⟩ : ∃ W3, W2.setCell ⟨g, I + j, none⟩ (.int .u64 (RS (X + Y) (P f))) = W3 := ⟨_, rfl⟩
          have HW3 := Lib.hid hW3
          rw [hW3] at how3 hgb3
          have cH := how3.cell (show I + j + h < N by omega)
          have fH := how3.frozen (I + j + h)
          have HOW4 : Hid (RowW .u64 t (W3.setCell ⟨g, I + h + j, none⟩ (.int .u64 (RS (X - Y) (P f)))) g N (stp f x h d A B (j + 1))) := Lib.hid (by
            rw [show I + h + j = I + j + h by omega]
            exact (how3.set (I + j + h) (RS (X - Y) (P f))).congr fun t _ => HSTj.out t)
          have HB4 := Lib.hid (grown_put (i := I + h + j) (v := .int .u64 (RS (X - Y) (P f))) hgb3)
          rw [show I + j + h = I + h + j by omega] at cH fH
          clear how2 how3 hgb2 hgb3 HSTj
          go_wp2_with (rw [hW3])
          go_roundw
          case rel => exact ⟨j + 1, by go_num, by omega, HOW4.out, HB4.out⟩
          case measure => simp [intOf]; omega
        · have hd2 : decide ((j : Int) < h) = false := decide_eq_false (by omega)
          obtain rfl : j = h := by omega
          have HOF : Hid (RowW .u64 t wr g N (stp f x j d A (B + 1) 0)) := Lib.hid (ho.congr fun t _ => HFULL.out t)
          clear ho HFULL HST HRD
          go_wp2
          go_roundw
          case rel => exact ⟨B + 1, vint (by rw [← HNX.out]; omega), by omega, HOF.out, hb⟩
          case measure => simp [intOf]; omega
    · have hBd : B = d := by omega
      subst hBd
      have hBn : B * (2 * h) = n := HND.out.symm
      have hd1 : decide ((n : Int) < n) = false := decide_eq_false (by omega)
      rw [hBn]
      clear hBn
      go_wp2
      go_end0
      exact ⟨rfl, ho, hb⟩
end Go.Proofs.YtoonpnfhcmghmaaDoor
namespace Go.Proofs.YtoonpnfhcmghmaaDoor
open Go.RowKit
theorem slice_arr {P : Program} {t e : TypeId} {z : Value} {by' N : Nat} (hu : P.underlying t = some (.array N e)) (hinfo : (P.info? e).map (fun i => (i.zero, i.size, i.bytes)) = some (some z, 1, by')) (g n : Nat) (hn : n ≤ N) (w : World) :
    (Instr.sliceAt t (.pointer (some ⟨g, 0, none⟩)) none (some (.int .i64 n)) (some (.int .i64 n))).run P w = .ok (.slice (some ⟨g, 0, none⟩) n n) w := by
  obtain ⟨i, hi, hzz⟩ := Option.map_eq_some_iff.1 hinfo
  simp only [Prod.mk.injEq] at hzz
  simp [Instr.sliceAt, Instr.sureAddr, run_underlying hu, Instr.sliceBounds, Instr.sliceBound, asIntOf, sizeOf, typeInfo, hi, hn, Addr.add_zero']
end Go.Proofs.YtoonpnfhcmghmaaDoor
namespace Go.Proofs.YtoonpnfhcmghmaaDoor
open Go.RowKit
theorem zero_uint32 : ((Tryd.prog.info? 113).bind (fun i => i.zero)).map (fun z => z.cells) = some (madeCells #[.int .u32 0] 512) := by kernel_rfl
theorem alloc_uint32 (w : World) : (Instr.alloc 113 true (.tuple #[])).run Tryd.prog w = .ok (.pointer (some ⟨w.heap.size, 0, none⟩)) (w.alloc (.cells (madeCells #[.int .u32 0] 512) 113)) := by
  obtain ⟨z, hz, hcz⟩ := Option.map_eq_some_iff.1 zero_uint32
  obtain ⟨i, hi, hiz⟩ := Option.bind_eq_some_iff.1 hz
  generalize madeCells #[.int .u32 0] 512 = M at *
  simp [Instr.alloc, zeroValue, typeInfo, hi, hiz, newVar, newRow, hcz]
theorem wpList_arr_uint32 {w : World} {ops : Array Oper} {rest : List Oper} {o : Oper} {a : Act} {Q : Exit → Act → World → Prop} (hgd : o.guard = none) (ho : o.op = .alloc 113)
    (h : ∀ w', w'.heap.size = w.heap.size + 1 → Hid (RowW .u32 113 w' w.heap.size 512 (fun _ => 0)) → Below w.heap.size w w' → wpList Tryd.prog ops Q rest (a.put o.dst (.pointer (some ⟨w.heap.size, 0, none⟩))) w') : wpList Tryd.prog ops Q (o :: rest) a w := by
  refine wpList_plain hgd fun K hK' => ?_
  have hrun := alloc_uint32 w
  have hK := h _ (World.size_alloc _ _) (Lib.hid (World.rowIs_made w (.int .u32 0) 512 113)) ((Below.refl _ _).alloc (Nat.le_refl _) _)
  clear h
  generalize w.alloc (.cells (madeCells #[.int .u32 0] 512) 113) = W at *
  unfold Oper.wp
  simp [execOp, ho, hrun, Result.andThen]
  exact hK' _ _ hK
theorem arr_uint32 : Tryd.prog.underlying 113 = some (.array 512 110) := by kernel_rfl
set_option maxRecDepth 100000 in
set_option maxHeartbeats 2000000 in
theorem levelsIn_uint32 (f : Int) (l : List Int) (b off n cap s m k E : Nat) (w : World) (ht : Tab w) (h : VecOk f l) (hP : P f < 65536) (hn : l.length = n) (hk : n = 2 ^ k) (k9 : k ≤ 9) (hh : hasK f k) (hlog : mLog n = k) (hE : E = s + m) (hEk : E ≤ k) (hlt : b < w.heap.size)
    (hc : ∀ j, j < n → w.cell? ⟨b, off + j, none⟩ = some (.int .i64 (lf l j))) :
    Calls Tryd.prog 139 #[.int .i64 f, .slice (some ⟨b, off, none⟩) n cap, .int .i64 s, .int .i64 E] w (OwnG w (lvL f l s m)) := by
  have HVO := Lib.hid h
  have hpos := h.pos
  rw [hn] at hpos
  have hp := P_bd h.f08.1 h.f08.2
  obtain ⟨h0, h8⟩ := h.f08
  have HN := Lib.hid hn
  have HK := Lib.hid hk
  have HH := Lib.hid hh
  have HC := Lib.hid hc
  have HLOG := Lib.hid hlog
  have HLEN : Hid (∀ t, (lvL f l s t).length = n) := Lib.hid fun t => by rw [lvL_len, HN.out]
  have HX : Hid (∀ t, rootL f (lvL f l s t) = mRoot f k) := Lib.hid fun t => by unfold rootL; rw [HLEN.out t, HLOG.out]
  have HE := Lib.hid hE
  have hsmE : s + m = E := hE.symm
  clear h hn hk hh hc hlog hE hsmE
  have hsl : ∀ (g : Nat) (w : World), (Instr.sliceAt 113 (.pointer (some ⟨g, 0, none⟩)) none (some (.int .i64 n)) (some (.int .i64 n))).run Tryd.prog w = .ok (.slice (some ⟨g, 0, none⟩) n n) w := fun g w => slice_arr arr_uint32 info_uint32 g n hpos.2 w
  go_enter Tryd.func139, Tryd.ntmps139
  go_wp2_with (with_reducible refine wpList_arr_uint32 rfl rfl ?_)
  intro w1 z1 r1 b1
  go_wp2_with (with_reducible refine wpList_arr_uint32 rfl rfl ?_)
  intro w2 z2 r2 b2
  have r1' : Hid (RowW .u32 113 w2 w.heap.size 512 (fun _ => 0)) := Lib.hid (r1.out.keep (by rw [z1]; exact b2))
  have b3 : Below w.heap.size w w2 := b1.trans (b2.mono (by omega))
  have z3 : w2.heap.size = w.heap.size + 2 := by omega
  clear r1 b1 b2 z1 z2
  go_wp2
  go_quiet (fail)
  have r3 : RowW .u32 113 (w2.drewN nq) w.heap.size 512 (fun _ => 0) := r1'.out
  have r4 : RowW .u32 113 (w2.drewN nq) (w.heap.size + 1) 512 (fun _ => 0) := r2.out
  have b4 := below_drewN b3 nq
  have z4 : (w2.drewN nq).heap.size = w2.heap.size := rfl
  clear r1' r2 b3 hsl
  generalize w2.drewN nq = W2 at *
  go_wp2_with fail
  refine (fill_uint32 113 w.heap.size n 512 b off cap (fun _ => 0) (lf l) W2 r3 hpos.2 (by omega) (by omega) (by omega) (fun j => by have := HVO.out.lt j; omega) (fun j hj => (b4.cell (p := ⟨b, off + j, none⟩) hlt).trans (HC.out j hj))).mono ?_
  rintro e W3 ⟨rfl, r5, gb5⟩
  have r6 := r4.other gb5 (show w.heap.size + 1 ≠ w.heap.size by omega)
  have b6 : Below w.heap.size w W3 := b4.grown gb5 (by omega) (fun r hr => by injection hr with hr; omega)
  have z6 := gb5.size
  clear r3 r4 b4 gb5
  go_wp2_with fail
  refine (iLogOf n W3).mono ?_
  rintro e w' ⟨rfl, rfl⟩
  rw [HLOG.out]
  go_wp2_with fail
  refine (iRoots_on f k n W3 (ht.below b6) HH.out k9 HK.out).mono ?_
  rintro e W4 ⟨rfl, o4, b7⟩
  have r7 := r5.keep b7
  have r8 := r6.keep b7
  have b8 := below_up b6 b7 b6.size
  have z8 := b7.size
  clear r5 r6 b6 b7
  go_wp2_with fail
  refine (fill_uint32 113 (w.heap.size + 1) n 512 W3.heap.size 0 n (fun _ => 0) (rootsF f k) W4 r8 hpos.2 (by omega) (by omega) o4.lt (fun j => by have := rootsF_bd HH.out j; omega) (fun j hj => by rw [Nat.zero_add]; exact World.rowIs.cell o4 hj)).mono ?_
  rintro e W5 ⟨rfl, r9, gb9⟩
  have r10 := r7.other gb9 (show w.heap.size ≠ w.heap.size + 1 by omega)
  have b10 : Below w.heap.size w W5 := b8.grown gb9 (by omega) (fun r hr => by injection hr with hr; omega)
  have r11 : Hid (RowW .u32 113 W5 w.heap.size 512 (lf (lvL f l s 0))) := Lib.hid (r10.congr fun j _ => by
    show (if j < n then lf l j else 0) = lf l j
    by_cases hj : j < n
    · rw [if_pos hj]
    · rw [if_neg hj, lf_out l (by rw [HN.out]; omega)])
  have r9' := Lib.hid r9
  clear r7 r8 b8 r9 r10 gb9 o4
  go_wp2_with fail
  go_loopw [14] (fun i wr => ∃ t : Nat, i = .int .i64 ((s + t : Nat) : Int) ∧ t ≤ m ∧ RowW .u32 113 wr w.heap.size 512 (lf (lvL f l s t)) ∧ RowW .u32 113 wr (w.heap.size + 1) 512 (fun j => if j < n then rootsF f k j else 0) ∧ Below w.heap.size w wr) (fun i _ => E - (intOf i).toNat)
  case atStart => exact ⟨0, rfl, Nat.zero_le _, r11.out, r9'.out, b10⟩
  case round =>
    clear r11 r9' b10
    obtain ⟨t, rfl, htm, ho, hr, hb⟩ := hrel
    by_cases h1 : t < m
    · obtain ⟨q, hq⟩ : ∃ q, s + t = q := ⟨_, rfl⟩
      have HNX : Hid (((q + 1 : Nat) : Int) = ((s + (t + 1) : Nat) : Int)) := Lib.hid (by omega)
      have hqk : q < k := by have := HE.out; omega
      have HST : Hid (∀ j, stp f (mRoot f k) (2 ^ q) (2 ^ (k - q - 1)) (lf (lvL f l s t)) (2 ^ (k - q - 1)) 0 j = lf (lvL f l s (t + 1)) j) := Lib.hid fun j => by
        have := stp_list (f := f) (l := lvL f l s t) (k := k) (q := q) (by rw [HLEN.out, HK.out]) hqk j
        rw [HX.out t] at this
        rw [this, ← hq]
        rfl
      rw [hq]
      have hqE : q < E := by have := HE.out; omega
      clear hq
      have hd1 : decide ((q : Int) < E) = true := decide_eq_true (by omega)
      have HEH : Hid (wrap64 (2 ^ q) = ((2 ^ q : Nat) : Int)) := Lib.hid (by rw [shl_nat (by omega)]; unfold two; rw [Int.toNat_natCast, Int.natCast_pow]; rfl)
      have kP : IntKind.u32.wrap (P f) = P f := IntWalk.u32_in _ (by omega)
      have HBT := Lib.hid (fun (W : World) (ho : RowW .u32 113 W w.heap.size 512 (lf (lvL f l s t))) (hr : RowW .u32 113 W (w.heap.size + 1) 512 (fun j => if j < n then rootsF f k j else 0)) => butter_uint32 f (mRoot f k) 113 w.heap.size (w.heap.size + 1) n 512 (2 ^ q) (2 ^ (k - q - 1)) (lf (lvL f l s t)) (fun j => if j < n then rootsF f k j else 0) W h0 h8 hP ho hr (by omega) hpos.2 (by omega) (Nat.pow_pos (by omega)) (by rw [HK.out, pow_half hqk]) hpos.1 (fun j _ => (HVO.out.lv s t).lt j) (fun j hj => by show (if j < n then rootsF f k j else 0) = _; rw [if_pos hj, rootsF_pow HH.out]))
      have ho2 : Hid (RowW .u32 113 wr.drew w.heap.size 512 (lf (lvL f l s t))) := Lib.hid ho
      have hr2 : Hid (RowW .u32 113 wr.drew (w.heap.size + 1) 512 (fun j => if j < n then rootsF f k j else 0)) := Lib.hid hr
      have hb2 : Below w.heap.size w wr.drew := ⟨hb.os, hb.tape, hb.output, hb.size, hb.block⟩
      have htd := ht.below hb2
      clear ho hr hb
      go_wp2
      refine wp_region_still_tail 7 (by kernel_rfl) (by kernel_rfl) ?_
      simp only [List.take_succ_cons, List.take_zero, List.drop_succ_cons, List.drop_zero]
      still_step
      still_step
      still_step
      still_call ((prime_c f wr.drew htd h0 h8).mono fun _ _ h => ⟨h.1, h.2.symm⟩)
      still_step
      still_step
      still_step
      refine wpStill_nil ?_
      change wpList _ _ _ _ _ wr.drew
      generalize wr.drew = W at *
      go_wp2_with fail
      rw [HEH.out]
      refine (HBT.out W ho2.out hr2.out).mono ?_
      rintro e W' ⟨rfl, ro, rg⟩
      have ro2 : Hid (RowW .u32 113 W' w.heap.size 512 (lf (lvL f l s (t + 1)))) := Lib.hid (ro.congr fun j _ => HST.out j)
      have rr2 := Lib.hid (hr2.out.other rg (show w.heap.size + 1 ≠ w.heap.size by omega))
      have rb : Below w.heap.size w W' := hb2.grown rg (by have := hb2.size; omega) (fun r hr => by injection hr with hr; omega)
      clear ro rg HBT HST ho2 hr2 hb2 htd HEH
      go_wp2
      go_roundw
      case rel => exact ⟨t + 1, vint (by rw [← HNX.out]; omega), by omega, ro2.out, rr2.out, rb⟩
      case measure => simp [intOf]; omega
    · obtain rfl : t = m := by omega
      have hd1 : decide ((E : Int) < E) = false := decide_eq_false (by omega)
      rw [← HE.out]
      obtain ⟨wo, hwo⟩ : ∃ wo, wo = wr := ⟨_, rfl⟩
      subst hwo
      have hmk := made_n n (by omega)
      have zw := hb.size
      go_wp2_with fail
      clear hmk hr
      go_loopw [16, 17, 53] (fun _ _ i W => ∃ j : Nat, i = .int .i64 j ∧ j ≤ n ∧ Own W wo.heap.size n (fun x => if x < j then lf (lvL f l s t) x else 0) ∧ Below wo.heap.size wo W) (fun _ _ i _ => n - (intOf i).toNat)
      case atStart =>
        refine ⟨0, rfl, Nat.zero_le _, ?_, (Below.refl _ _).alloc (Nat.le_refl _) _⟩
        exact (World.rowIs_made wo (.int .i64 0) n 3).congr fun j _ => by simp
      case round =>
        obtain ⟨j, rfl, hj, ho2, hb2⟩ := hrel
        by_cases h2 : j < n
        · have c1 : wr.cell? ⟨w.heap.size, j, none⟩ = some (.int .u32 (lf (lvL f l s t) j)) := (ho.keep hb2).cell (by omega)
          have hd2 : decide ((j : Int) < n) = true := decide_eq_true (by omega)
          have HS := Lib.hid (copy_set (w := wo) (F := lf (lvL f l s t)) ho2)
          have c3 := World.rowIs.cell ho2 h2
          have c4 := World.rowIs.frozen ho2 j
          have bv := (HVO.out.lv s t).lt j
          have q1 : IntKind.i64.wrap (lf (lvL f l s t) j) = lf (lvL f l s t) j := IntWalk.i64_in _ (by omega)
          clear ho2
          go_wp2
          go_roundw
          case rel => exact ⟨j + 1, by go_num, by omega, HS.out, hb2.setCell (Nat.le_refl _) _⟩
          case measure => simp [intOf]; omega
        · have hd2 : decide ((j : Int) < n) = false := decide_eq_false (by omega)
          obtain rfl : j = n := by omega
          have HF : Hid (OwnG w (lvL f l s t) (.returned (.slice (some ⟨wo.heap.size, 0, none⟩) j j)) wr) := Lib.hid (OwnG.of_own ho2 (HLEN.out t).symm zw (fun x hx => by simp [hx]) (below_up hb hb2 zw))
          clear ho2
          go_wp2
          go_ret
          exact HF.out
end Go.Proofs.YtoonpnfhcmghmaaDoor
namespace Go.Proofs.YtoonpnfhcmghmaaDoor
open Go.RowKit
theorem zero_uint64 : ((Tryd.prog.info? 117).bind (fun i => i.zero)).map (fun z => z.cells) = some (madeCells #[.int .u64 0] 512) := by kernel_rfl
theorem alloc_uint64 (w : World) : (Instr.alloc 117 true (.tuple #[])).run Tryd.prog w = .ok (.pointer (some ⟨w.heap.size, 0, none⟩)) (w.alloc (.cells (madeCells #[.int .u64 0] 512) 117)) := by
  obtain ⟨z, hz, hcz⟩ := Option.map_eq_some_iff.1 zero_uint64
  obtain ⟨i, hi, hiz⟩ := Option.bind_eq_some_iff.1 hz
  generalize madeCells #[.int .u64 0] 512 = M at *
  simp [Instr.alloc, zeroValue, typeInfo, hi, hiz, newVar, newRow, hcz]
theorem wpList_arr_uint64 {w : World} {ops : Array Oper} {rest : List Oper} {o : Oper} {a : Act} {Q : Exit → Act → World → Prop} (hgd : o.guard = none) (ho : o.op = .alloc 117)
    (h : ∀ w', w'.heap.size = w.heap.size + 1 → Hid (RowW .u64 117 w' w.heap.size 512 (fun _ => 0)) → Below w.heap.size w w' → wpList Tryd.prog ops Q rest (a.put o.dst (.pointer (some ⟨w.heap.size, 0, none⟩))) w') : wpList Tryd.prog ops Q (o :: rest) a w := by
  refine wpList_plain hgd fun K hK' => ?_
  have hrun := alloc_uint64 w
  have hK := h _ (World.size_alloc _ _) (Lib.hid (World.rowIs_made w (.int .u64 0) 512 117)) ((Below.refl _ _).alloc (Nat.le_refl _) _)
  clear h
  generalize w.alloc (.cells (madeCells #[.int .u64 0] 512) 117) = W at *
  unfold Oper.wp
  simp [execOp, ho, hrun, Result.andThen]
  exact hK' _ _ hK
theorem arr_uint64 : Tryd.prog.underlying 117 = some (.array 512 111) := by kernel_rfl
set_option maxRecDepth 100000 in
set_option maxHeartbeats 2000000 in
theorem levelsIn_uint64 (f : Int) (l : List Int) (b off n cap s m k E : Nat) (w : World) (ht : Tab w) (h : VecOk f l) (hn : l.length = n) (hk : n = 2 ^ k) (k9 : k ≤ 9) (hh : hasK f k) (hlog : mLog n = k) (hE : E = s + m) (hEk : E ≤ k) (hlt : b < w.heap.size)
    (hc : ∀ j, j < n → w.cell? ⟨b, off + j, none⟩ = some (.int .i64 (lf l j))) :
    Calls Tryd.prog 140 #[.int .i64 f, .slice (some ⟨b, off, none⟩) n cap, .int .i64 s, .int .i64 E] w (OwnG w (lvL f l s m)) := by
  have HVO := Lib.hid h
  have hpos := h.pos
  rw [hn] at hpos
  have hp := P_bd h.f08.1 h.f08.2
  obtain ⟨h0, h8⟩ := h.f08
  have HN := Lib.hid hn
  have HK := Lib.hid hk
  have HH := Lib.hid hh
  have HC := Lib.hid hc
  have HLOG := Lib.hid hlog
  have HLEN : Hid (∀ t, (lvL f l s t).length = n) := Lib.hid fun t => by rw [lvL_len, HN.out]
  have HX : Hid (∀ t, rootL f (lvL f l s t) = mRoot f k) := Lib.hid fun t => by unfold rootL; rw [HLEN.out t, HLOG.out]
  have HE := Lib.hid hE
  have hsmE : s + m = E := hE.symm
  clear h hn hk hh hc hlog hE hsmE
  have hsl : ∀ (g : Nat) (w : World), (Instr.sliceAt 117 (.pointer (some ⟨g, 0, none⟩)) none (some (.int .i64 n)) (some (.int .i64 n))).run Tryd.prog w = .ok (.slice (some ⟨g, 0, none⟩) n n) w := fun g w => slice_arr arr_uint64 info_uint64 g n hpos.2 w
  go_enter Tryd.func140, Tryd.ntmps140
  go_wp2_with (with_reducible refine wpList_arr_uint64 rfl rfl ?_)
  intro w1 z1 r1 b1
  go_wp2_with (with_reducible refine wpList_arr_uint64 rfl rfl ?_)
  intro w2 z2 r2 b2
  have r1' : Hid (RowW .u64 117 w2 w.heap.size 512 (fun _ => 0)) := Lib.hid (r1.out.keep (by rw [z1]; exact b2))
  have b3 : Below w.heap.size w w2 := b1.trans (b2.mono (by omega))
  have z3 : w2.heap.size = w.heap.size + 2 := by omega
  clear r1 b1 b2 z1 z2
  go_wp2
  go_quiet (fail)
  have r3 : RowW .u64 117 (w2.drewN nq) w.heap.size 512 (fun _ => 0) := r1'.out
  have r4 : RowW .u64 117 (w2.drewN nq) (w.heap.size + 1) 512 (fun _ => 0) := r2.out
  have b4 := below_drewN b3 nq
  have z4 : (w2.drewN nq).heap.size = w2.heap.size := rfl
  clear r1' r2 b3 hsl
  generalize w2.drewN nq = W2 at *
  go_wp2_with fail
  refine (fill_uint64 117 w.heap.size n 512 b off cap (fun _ => 0) (lf l) W2 r3 hpos.2 (by omega) (by omega) (by omega) (fun j => by have := HVO.out.lt j; omega) (fun j hj => (b4.cell (p := ⟨b, off + j, none⟩) hlt).trans (HC.out j hj))).mono ?_
  rintro e W3 ⟨rfl, r5, gb5⟩
  have r6 := r4.other gb5 (show w.heap.size + 1 ≠ w.heap.size by omega)
  have b6 : Below w.heap.size w W3 := b4.grown gb5 (by omega) (fun r hr => by injection hr with hr; omega)
  have z6 := gb5.size
  clear r3 r4 b4 gb5
  go_wp2_with fail
  refine (iLogOf n W3).mono ?_
  rintro e w' ⟨rfl, rfl⟩
  rw [HLOG.out]
  go_wp2_with fail
  refine (iRoots_on f k n W3 (ht.below b6) HH.out k9 HK.out).mono ?_
  rintro e W4 ⟨rfl, o4, b7⟩
  have r7 := r5.keep b7
  have r8 := r6.keep b7
  have b8 := below_up b6 b7 b6.size
  have z8 := b7.size
  clear r5 r6 b6 b7
  go_wp2_with fail
  refine (fill_uint64 117 (w.heap.size + 1) n 512 W3.heap.size 0 n (fun _ => 0) (rootsF f k) W4 r8 hpos.2 (by omega) (by omega) o4.lt (fun j => by have := rootsF_bd HH.out j; omega) (fun j hj => by rw [Nat.zero_add]; exact World.rowIs.cell o4 hj)).mono ?_
  rintro e W5 ⟨rfl, r9, gb9⟩
  have r10 := r7.other gb9 (show w.heap.size ≠ w.heap.size + 1 by omega)
  have b10 : Below w.heap.size w W5 := b8.grown gb9 (by omega) (fun r hr => by injection hr with hr; omega)
  have r11 : Hid (RowW .u64 117 W5 w.heap.size 512 (lf (lvL f l s 0))) := Lib.hid (r10.congr fun j _ => by
    show (if j < n then lf l j else 0) = lf l j
    by_cases hj : j < n
    · rw [if_pos hj]
    · rw [if_neg hj, lf_out l (by rw [HN.out]; omega)])
  have r9' := Lib.hid r9
  clear r7 r8 b8 r9 r10 gb9 o4
  go_wp2_with fail
  go_loopw [14] (fun i wr => ∃ t : Nat, i = .int .i64 ((s + t : Nat) : Int) ∧ t ≤ m ∧ RowW .u64 117 wr w.heap.size 512 (lf (lvL f l s t)) ∧ RowW .u64 117 wr (w.heap.size + 1) 512 (fun j => if j < n then rootsF f k j else 0) ∧ Below w.heap.size w wr) (fun i _ => E - (intOf i).toNat)
  case atStart => exact ⟨0, rfl, Nat.zero_le _, r11.out, r9'.out, b10⟩
  case round =>
    clear r11 r9' b10
    obtain ⟨t, rfl, htm, ho, hr, hb⟩ := hrel
    by_cases h1 : t < m
    · obtain ⟨q, hq⟩ : ∃ q, s + t = q := ⟨_, rfl⟩
      have HNX : Hid (((q + 1 : Nat) : Int) = ((s + (t + 1) : Nat) : Int)) := Lib.hid (by omega)
      have hqk : q < k := by have := HE.out; omega
      have HST : Hid (∀ j, stp f (mRoot f k) (2 ^ q) (2 ^ (k - q - 1)) (lf (lvL f l s t)) (2 ^ (k - q - 1)) 0 j = lf (lvL f l s (t + 1)) j) := Lib.hid fun j => by
        have := stp_list (f := f) (l := lvL f l s t) (k := k) (q := q) (by rw [HLEN.out, HK.out]) hqk j
        rw [HX.out t] at this
        rw [this, ← hq]
        rfl
      rw [hq]
      have hqE : q < E := by have := HE.out; omega
      clear hq
      have hd1 : decide ((q : Int) < E) = true := decide_eq_true (by omega)
      have HEH : Hid (wrap64 (2 ^ q) = ((2 ^ q : Nat) : Int)) := Lib.hid (by rw [shl_nat (by omega)]; unfold two; rw [Int.toNat_natCast, Int.natCast_pow]; rfl)
      have kP : IntKind.u64.wrap (P f) = P f := IntWalk.u64_in _ (by omega)
      have HBT := Lib.hid (fun (W : World) (ho : RowW .u64 117 W w.heap.size 512 (lf (lvL f l s t))) (hr : RowW .u64 117 W (w.heap.size + 1) 512 (fun j => if j < n then rootsF f k j else 0)) => butter_uint64 f (mRoot f k) 117 w.heap.size (w.heap.size + 1) n 512 (2 ^ q) (2 ^ (k - q - 1)) (lf (lvL f l s t)) (fun j => if j < n then rootsF f k j else 0) W h0 h8 ho hr (by omega) hpos.2 (by omega) (Nat.pow_pos (by omega)) (by rw [HK.out, pow_half hqk]) hpos.1 (fun j _ => (HVO.out.lv s t).lt j) (fun j hj => by show (if j < n then rootsF f k j else 0) = _; rw [if_pos hj, rootsF_pow HH.out]))
      have ho2 : Hid (RowW .u64 117 wr.drew w.heap.size 512 (lf (lvL f l s t))) := Lib.hid ho
      have hr2 : Hid (RowW .u64 117 wr.drew (w.heap.size + 1) 512 (fun j => if j < n then rootsF f k j else 0)) := Lib.hid hr
      have hb2 : Below w.heap.size w wr.drew := ⟨hb.os, hb.tape, hb.output, hb.size, hb.block⟩
      have htd := ht.below hb2
      clear ho hr hb
      go_wp2
      refine wp_region_still_tail 7 (by kernel_rfl) (by kernel_rfl) ?_
      simp only [List.take_succ_cons, List.take_zero, List.drop_succ_cons, List.drop_zero]
      still_step
      still_step
      still_step
      still_call ((prime_c f wr.drew htd h0 h8).mono fun _ _ h => ⟨h.1, h.2.symm⟩)
      still_step
      still_step
      still_step
      refine wpStill_nil ?_
      change wpList _ _ _ _ _ wr.drew
      generalize wr.drew = W at *
      go_wp2_with fail
      rw [HEH.out]
      refine (HBT.out W ho2.out hr2.out).mono ?_
      rintro e W' ⟨rfl, ro, rg⟩
      have ro2 : Hid (RowW .u64 117 W' w.heap.size 512 (lf (lvL f l s (t + 1)))) := Lib.hid (ro.congr fun j _ => HST.out j)
      have rr2 := Lib.hid (hr2.out.other rg (show w.heap.size + 1 ≠ w.heap.size by omega))
      have rb : Below w.heap.size w W' := hb2.grown rg (by have := hb2.size; omega) (fun r hr => by injection hr with hr; omega)
      clear ro rg HBT HST ho2 hr2 hb2 htd HEH
      go_wp2
      go_roundw
      case rel => exact ⟨t + 1, vint (by rw [← HNX.out]; omega), by omega, ro2.out, rr2.out, rb⟩
      case measure => simp [intOf]; omega
    · obtain rfl : t = m := by omega
      have hd1 : decide ((E : Int) < E) = false := decide_eq_false (by omega)
      rw [← HE.out]
      obtain ⟨wo, hwo⟩ : ∃ wo, wo = wr := ⟨_, rfl⟩
      subst hwo
      have hmk := made_n n (by omega)
      have zw := hb.size
      go_wp2_with fail
      clear hmk hr
      go_loopw [16, 17, 53] (fun _ _ i W => ∃ j : Nat, i = .int .i64 j ∧ j ≤ n ∧ Own W wo.heap.size n (fun x => if x < j then lf (lvL f l s t) x else 0) ∧ Below wo.heap.size wo W) (fun _ _ i _ => n - (intOf i).toNat)
      case atStart =>
        refine ⟨0, rfl, Nat.zero_le _, ?_, (Below.refl _ _).alloc (Nat.le_refl _) _⟩
        exact (World.rowIs_made wo (.int .i64 0) n 3).congr fun j _ => by simp
      case round =>
        obtain ⟨j, rfl, hj, ho2, hb2⟩ := hrel
        by_cases h2 : j < n
        · have c1 : wr.cell? ⟨w.heap.size, j, none⟩ = some (.int .u64 (lf (lvL f l s t) j)) := (ho.keep hb2).cell (by omega)
          have hd2 : decide ((j : Int) < n) = true := decide_eq_true (by omega)
          have HS := Lib.hid (copy_set (w := wo) (F := lf (lvL f l s t)) ho2)
          have c3 := World.rowIs.cell ho2 h2
          have c4 := World.rowIs.frozen ho2 j
          have bv := (HVO.out.lv s t).lt j
          have q1 : IntKind.i64.wrap (lf (lvL f l s t) j) = lf (lvL f l s t) j := IntWalk.i64_in _ (by omega)
          clear ho2
          go_wp2
          go_roundw
          case rel => exact ⟨j + 1, by go_num, by omega, HS.out, hb2.setCell (Nat.le_refl _) _⟩
          case measure => simp [intOf]; omega
        · have hd2 : decide ((j : Int) < n) = false := decide_eq_false (by omega)
          obtain rfl : j = n := by omega
          have HF : Hid (OwnG w (lvL f l s t) (.returned (.slice (some ⟨wo.heap.size, 0, none⟩) j j)) wr) := Lib.hid (OwnG.of_own ho2 (HLEN.out t).symm zw (fun x hx => by simp [hx]) (below_up hb hb2 zw))
          clear ho2
          go_wp2
          go_ret
          exact HF.out
end Go.Proofs.YtoonpnfhcmghmaaDoor
namespace Go.Proofs.YtoonpnfhcmghmaaDoor
open Go.RowKit
theorem levels_c (f : Int) (a : Option Addr) (l : List Int) (cap s m E : Nat) (w : World) (ht : Tab w) (h : VecOk f l) (hs : Src w a l.length (lf l)) (hE : E = s + m) (hEk : (E : Int) ≤ mLog l.length) :
    Calls Tryd.prog 130 #[.int .i64 f, .slice a l.length cap, .int .i64 s, .int .i64 E] w (OwnG w (lvL f l s m)) := by
  obtain ⟨k, k9, hn, hl, hh⟩ := h.log
  obtain ⟨b, off, rfl, hlt, hc⟩ := vec_some hs h.pos.1
  obtain ⟨h0, h8⟩ := h.f08
  by_cases hP : P f < 65536
  · have H := Lib.hid (levelsIn_uint32 f l b off l.length cap s m k E w ht h hP rfl hn k9 hh hl hE (by omega) hlt hc)
    have hd : decide (P f < 65536) = true := decide_eq_true hP
    clear hs hc hE hEk hn hl hh h
    go_enter Tryd.func130, Tryd.ntmps130
    go_wp2_with fail
    refine (prime_c f w ht h0 h8).mono ?_
    rintro e w' ⟨rfl, rfl⟩
    go_wp2_with fail
    refine H.out.mono ?_
    rintro e w' ⟨g, rfl, hr⟩
    have HR := Lib.hid hr
    clear hr
    go_wp2
    go_ret
    exact ⟨g, rfl, HR.out⟩
  · have H := Lib.hid (levelsIn_uint64 f l b off l.length cap s m k E w ht h rfl hn k9 hh hl hE (by omega) hlt hc)
    have hd : decide (P f < 65536) = false := decide_eq_false hP
    clear hs hc hE hEk hn hl hh h
    go_enter Tryd.func130, Tryd.ntmps130
    go_wp2_with fail
    refine (prime_c f w ht h0 h8).mono ?_
    rintro e w' ⟨rfl, rfl⟩
    go_wp2_with fail
    refine H.out.mono ?_
    rintro e w' ⟨g, rfl, hr⟩
    have HR := Lib.hid hr
    clear hr
    go_wp2
    go_ret
    exact ⟨g, rfl, HR.out⟩
end Go.Proofs.YtoonpnfhcmghmaaDoor
