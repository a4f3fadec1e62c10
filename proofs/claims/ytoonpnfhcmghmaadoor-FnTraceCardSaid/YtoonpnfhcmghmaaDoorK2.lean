/-
  Texts of the proofs of this seat, joined (part 2).
-/
import Derived.BigQuiet
import Derived.StillTailTactics
import Derived.Deep.RegionHeld3
import Derived.Deep.AppendLies
import Derived.Deep.CutBlock
import Derived.Deep.CutRange
import Derived.Outline
import Derived.Test.YtoonpnfhcmghmaaDoorK1
namespace Go.Proofs.YtoonpnfhcmghmaaDoor
open Mth
theorem sumN_mod {p : Int} {f g : Nat → Int} {n : Nat} (h : ∀ i, i < n → f i % p = g i % p) : sumN f n % p = sumN g n % p := by
  induction n with
  | zero => rfl
  | succ n ih => rw [sumN, sumN]; exact emod_add_congr (ih fun i hi => h i (by omega)) (h n (by omega))
theorem sumN_zero {f : Nat → Int} {n : Nat} (h : ∀ i, i < n → f i = 0) : sumN f n = 0 := by
  induction n with
  | zero => rfl
  | succ n ih => rw [sumN, ih fun i hi => h i (by omega), h n (by omega)]; rfl
theorem sumN_split (f : Nat → Int) (a b : Nat) : sumN f (a + b) = sumN f a + sumN (fun i => f (a + i)) b := by
  induction b with
  | zero => simp [sumN]
  | succ b ih => rw [← Nat.add_assoc, sumN, ih, sumN]; omega
theorem sumN_swap (F : Nat → Nat → Int) (n m : Nat) : sumN (fun i => sumN (fun j => F i j) m) n = sumN (fun j => sumN (fun i => F i j) n) m := by
  induction n with
  | zero => rw [sumN]; exact (sumN_zero fun _ _ => rfl).symm
  | succ n ih => rw [sumN, ih, ← sumN_add]; rfl
theorem sumN_mul_r (c : Int) (g : Nat → Int) (n : Nat) : sumN (fun i => g i * c) n = sumN g n * c := by
  rw [Int.mul_comm (sumN g n), ← sumN_mul]
  exact sumN_congr fun i _ => Int.mul_comm _ _
theorem sumN_const (c : Int) (n : Nat) : sumN (fun _ => c) n = n * c := by
  induction n with
  | zero => simp [sumN]
  | succ n ih => rw [sumN, ih, show ((n + 1 : Nat) : Int) = (n : Int) + 1 by omega, Int.add_mul, Int.one_mul]
/-- A sum over all residues, begun elsewhere. -/
theorem sumN_turn (F : Nat → Int) {n c : Nat} (hc : c ≤ n) : sumN (fun i => F ((i + c) % n)) n = sumN F n := by
  have e1 : sumN (fun i => F ((i + c) % n)) n = sumN (fun i => F ((i + c) % n)) (n - c) + sumN (fun u => F ((n - c + u + c) % n)) c := by
    have := sumN_split (fun i => F ((i + c) % n)) (n - c) c
    rwa [Nat.sub_add_cancel hc] at this
  have e2 : sumN F n = sumN F c + sumN (fun i => F (c + i)) (n - c) := by
    have := sumN_split F c (n - c)
    rwa [Nat.add_sub_cancel' hc] at this
  rw [e1, e2, Int.add_comm]
  congr 1
  · exact sumN_congr fun u hu => by rw [show n - c + u + c = u + n by omega, Nat.add_mod_right, Nat.mod_eq_of_lt (by omega)]
  · exact sumN_congr fun i hi => by rw [Nat.mod_eq_of_lt (by omega), Nat.add_comm]
/-- Even and odd places. -/
theorem sumN_even (F : Nat → Int) (h : Nat) : sumN F (2 * h) = sumN (fun u => F (2 * u)) h + sumN (fun u => F (2 * u + 1)) h := by
  induction h with
  | zero => rfl
  | succ h ih => rw [show 2 * (h + 1) = 2 * h + 1 + 1 by omega, sumN, sumN, ih, sumN, sumN]; omega
theorem geo (z : Int) (n : Nat) : (z - 1) * sumN (fun j => z ^ j) n = z ^ n - 1 := by
  induction n with
  | zero => simp [sumN]
  | succ n ih => rw [sumN, Int.mul_add, ih, Int.pow_succ, Int.sub_mul, Int.one_mul, Int.mul_comm z]; omega
theorem pow_mod_congr {p a b : Int} (k : Nat) (h : a % p = b % p) : a ^ k % p = b ^ k % p := by
  induction k with
  | zero => rw [Int.pow_zero, Int.pow_zero]
  | succ k ih => rw [Int.pow_succ, Int.pow_succ]; exact emod_mul_congr ih h
theorem one_pow_mod {p a : Int} (k : Nat) (h : a % p = 1 % p) : a ^ k % p = 1 % p := by
  have := pow_mod_congr k h
  rwa [Int.one_pow] at this
theorem one_p {f : Int} (h0 : 0 ≤ f) (h8 : f ≤ 8) : (1 : Int) % P f = 1 := by
  have := P_bd h0 h8
  exact Int.emod_eq_of_lt (by omega) (by omega)
/-- w is a root of order n in field f, v its inverse. -/
structure Rt (f : Int) (w v : Int) (n : Nat) : Prop where
  h0 : 0 ≤ f
  h8 : f ≤ 8
  n0 : 0 < n
  ord : ∀ m, w ^ m % P f = 1 % P f ↔ n ∣ m
  inv : (w * v) % P f = 1 % P f
theorem Rt.wv {f w v : Int} {n : Nat} (h : Rt f w v n) (m : Nat) : (w ^ m * v ^ m) % P f = 1 % P f := by
  rw [← Int.mul_pow]
  exact one_pow_mod m h.inv
theorem Rt.swap {f w v : Int} {n : Nat} (h : Rt f w v n) : Rt f v w n := by
  refine ⟨h.h0, h.h8, h.n0, fun m => ?_, by rw [Int.mul_comm]; exact h.inv⟩
  rw [← h.ord m]
  have e := h.wv m
  constructor
  · intro hv
    have : (w ^ m * v ^ m) % P f = (w ^ m * 1) % P f := emod_mul_congr rfl hv
    rw [Int.mul_one] at this
    rw [← this, e]
  · intro hw
    have : (w ^ m * v ^ m) % P f = (1 * v ^ m) % P f := emod_mul_congr hw rfl
    rw [Int.one_mul] at this
    rw [← this, e]
theorem Rt.full {f w v : Int} {n : Nat} (h : Rt f w v n) : w ^ n % P f = 1 % P f := (h.ord n).2 (Nat.dvd_refl n)
/-- Exponents count modulo n. -/
theorem Rt.exp {f w v : Int} {n : Nat} (h : Rt f w v n) {a b : Nat} (e : a % n = b % n) : w ^ a % P f = w ^ b % P f := by
  have step : ∀ c, w ^ c % P f = w ^ (c % n) % P f := fun c => by
    have : w ^ c = (w ^ n) ^ (c / n) * w ^ (c % n) := by rw [← Int.pow_mul, ← Int.pow_add, Nat.div_add_mod]
    rw [this]
    have := emod_mul_congr (one_pow_mod (c / n) h.full) (show w ^ (c % n) % P f = w ^ (c % n) % P f from rfl)
    rwa [Int.one_mul] at this
  rw [step a, step b, e]
theorem Rt.geo0 {f w v : Int} {n : Nat} (h : Rt f w v n) {z : Int} (hz : z % P f ≠ 1 % P f) (hn : z ^ n % P f = 1 % P f) : sumN (fun j => z ^ j) n % P f = 0 := by
  refine Classical.byContradiction fun hs => ?_
  have hz1 : (z - 1) % P f ≠ 0 := fun e => hz (Int.emod_emod_of_dvd z (Int.dvd_refl _) ▸ by
    have := emod_add_congr (p := P f) (a := z - 1) (b := 0) (c := 1) (d := 1) (by rw [e]; simp) rfl
    rw [Int.sub_add_cancel, Int.zero_add] at this
    rw [Int.emod_emod_of_dvd z (Int.dvd_refl _)]
    exact this)
  have := mul_nz h.h0 h.h8 hz1 hs
  rw [geo] at this
  exact this (emod_zero_of_sub hn)
/-- The sum of (w^u v^l)^j over j is n where u = l, else 0. -/
theorem Rt.delta {f w v : Int} {n : Nat} (h : Rt f w v n) {u l : Nat} (hu : u < n) (hl : l < n) : sumN (fun j => w ^ (j * u) * v ^ (l * j)) n % P f = (if u = l then (n : Int) else 0) % P f := by
  have e : ∀ j, w ^ (j * u) * v ^ (l * j) = (w ^ u * v ^ l) ^ j := fun j => by rw [Int.mul_pow, ← Int.pow_mul, ← Int.pow_mul, Nat.mul_comm u j]
  rw [sumN_congr fun j _ => e j]
  by_cases hul : u = l
  · subst hul
    rw [if_pos rfl]
    have : sumN (fun j => (w ^ u * v ^ u) ^ j) n % P f = sumN (fun _ => 1) n % P f := sumN_mod fun j _ => one_pow_mod j (h.wv u)
    rw [this, sumN_const, Int.mul_one]
  · rw [if_neg hul]
    have hn : (w ^ u * v ^ l) ^ n % P f = 1 % P f := by
      rw [Int.mul_pow, ← Int.pow_mul, ← Int.pow_mul]
      have := emod_mul_congr ((h.ord (u * n)).2 (Nat.dvd_mul_left n u)) ((h.swap.ord (l * n)).2 (Nat.dvd_mul_left n l))
      rwa [Int.mul_one] at this
    rw [h.geo0 _ hn]
    · simp
    · intro hz
      -- times w^l
      have e2 : (w ^ u * v ^ l * w ^ l) % P f = (1 * w ^ l) % P f := emod_mul_congr hz rfl
      have e3 : (w ^ u * (w ^ l * v ^ l)) % P f = (w ^ u * 1) % P f := emod_mul_congr rfl (h.wv l)
      have e4 : w ^ u % P f = w ^ l % P f := by
        rw [Int.mul_one] at e3
        rw [Int.one_mul] at e2
        rw [← e3, ← e2]
        congr 1
        rw [Int.mul_assoc, Int.mul_comm (v ^ l)]
      -- exponents apart by less than n
      have key : ∀ a b : Nat, a < b → b < n → w ^ a % P f ≠ w ^ b % P f := fun a b hab hb e => by
        have : w ^ (b - a) % P f = 1 % P f := by
          have e5 : (w ^ b * v ^ a) % P f = (w ^ a * v ^ a) % P f := emod_mul_congr e.symm rfl
          rw [h.wv a] at e5
          have e6 : w ^ b * v ^ a = w ^ (b - a) * (w ^ a * v ^ a) := by rw [← Int.mul_assoc, ← Int.pow_add, Nat.sub_add_cancel (Nat.le_of_lt hab)]
          rw [e6] at e5
          have e7 := emod_mul_congr (p := P f) (show w ^ (b - a) % P f = w ^ (b - a) % P f from rfl) (h.wv a)
          rw [Int.mul_one] at e7
          rw [← e7, e5]
        have := Nat.le_of_dvd (by omega) ((h.ord _).1 this)
        omega
      rcases Nat.lt_or_gt_of_ne hul with hlt | hgt
      · exact key u l hlt hl e4
      · exact key l u hgt hu e4.symm
/-- The transform, unreduced. -/
def ftF (w : Int) (n : Nat) (A : Nat → Int) (i : Nat) : Int := sumN (fun j => A j * w ^ (i * j)) n
theorem ft_mod {p w : Int} {n : Nat} {A B : Nat → Int} (h : ∀ j, j < n → A j % p = B j % p) (i : Nat) : ftF w n A i % p = ftF w n B i % p := sumN_mod fun j hj => emod_mul_congr (h j hj) rfl
theorem ft_smul (w c : Int) (n : Nat) (A : Nat → Int) (i : Nat) : ftF w n (fun j => A j * c) i = ftF w n A i * c := by
  unfold ftF
  rw [← sumN_mul_r]
  exact sumN_congr fun j _ => by rw [Int.mul_assoc, Int.mul_comm c, ← Int.mul_assoc]
/-- There and back: n times the vector. -/
theorem ft_back {f w v : Int} {n : Nat} (h : Rt f w v n) (A : Nat → Int) {l : Nat} (hl : l < n) : ftF v n (ftF w n A) l % P f = (A l * n) % P f := by
  unfold ftF
  have e1 : sumN (fun j => sumN (fun u => A u * w ^ (j * u)) n * v ^ (l * j)) n = sumN (fun u => A u * sumN (fun j => w ^ (j * u) * v ^ (l * j)) n) n := by
    rw [sumN_congr fun j _ => (sumN_mul_r (v ^ (l * j)) (fun u => A u * w ^ (j * u)) n).symm, sumN_swap]
    exact sumN_congr fun u _ => by
      rw [← sumN_mul]
      exact sumN_congr fun j _ => Int.mul_assoc _ _ _
  rw [e1]
  have e2 : sumN (fun u => A u * sumN (fun j => w ^ (j * u) * v ^ (l * j)) n) n % P f = sumN (fun u => if u = l then A u * n else 0) n % P f := sumN_mod fun u hu => by
    rw [emod_mul_congr (p := P f) (show A u % P f = A u % P f from rfl) (h.delta hu hl)]
    by_cases hul : u = l
    · rw [if_pos hul, if_pos hul]
    · rw [if_neg hul, if_neg hul, Int.mul_zero]
  rw [e2, sumN_single (fun u => A u * n) l n, if_pos hl]
/-- Cyclic convolution. -/
def cycF (n : Nat) (A B : Nat → Int) (i : Nat) : Int := sumN (fun j => A j * B ((i + n - j) % n)) n
theorem ft_cyc {f w v : Int} {n : Nat} (h : Rt f w v n) (A B : Nat → Int) (i : Nat) : ftF w n (cycF n A B) i % P f = (ftF w n A i * ftF w n B i) % P f := by
  have e1 : ftF w n (cycF n A B) i = sumN (fun j => A j * sumN (fun t => B ((t + n - j) % n) * w ^ (i * t)) n) n := by
    unfold ftF cycF
    rw [sumN_congr fun t _ => (sumN_mul_r (w ^ (i * t)) (fun j => A j * B ((t + n - j) % n)) n).symm, sumN_swap]
    exact sumN_congr fun j _ => by
      rw [← sumN_mul]
      exact sumN_congr fun t _ => Int.mul_assoc _ _ _
  have e2 : ∀ j, j < n → sumN (fun t => B ((t + n - j) % n) * w ^ (i * t)) n % P f = (ftF w n B i * w ^ (i * j)) % P f := fun j hj => by
    have e3 : sumN (fun t => B ((t + n - j) % n) * w ^ (i * t)) n % P f = sumN (fun t => (fun s => B s * w ^ (i * (s + j))) ((t + (n - j)) % n)) n % P f := sumN_mod fun t _ => by
      show _ = (B ((t + (n - j)) % n) * w ^ (i * ((t + (n - j)) % n + j))) % P f
      rw [show t + n - j = t + (n - j) by omega]
      refine emod_mul_congr rfl (h.exp ?_)
      rw [Nat.mul_mod, Nat.mul_mod i ((t + (n - j)) % n + j), Nat.mod_add_mod, show t + (n - j) + j = t + n by omega, Nat.add_mod_right]
    rw [e3, sumN_turn (fun s => B s * w ^ (i * (s + j))) (by omega)]
    unfold ftF
    rw [← sumN_mul_r]
    congr 1
    exact sumN_congr fun s _ => by rw [Nat.mul_add, Int.pow_add, Int.mul_assoc]
  rw [e1]
  have e4 : sumN (fun j => A j * sumN (fun t => B ((t + n - j) % n) * w ^ (i * t)) n) n % P f = sumN (fun j => A j * w ^ (i * j) * ftF w n B i) n % P f := sumN_mod fun j hj => by
    rw [emod_mul_congr (p := P f) (show A j % P f = A j % P f from rfl) (e2 j hj), Int.mul_comm (ftF w n B i), ← Int.mul_assoc]
  rw [e4, sumN_mul_r]
  rfl
/-- Twisted convolution. -/
def twiF (n : Nat) (A B : Nat → Int) (i : Nat) : Int := sumN (fun j => if j ≤ i then A j * B (i - j) else - (A j * B (i + n - j))) n
theorem twi_fold {n i : Nat} (hi : i < n) {A B : Nat → Int} (hA : ∀ j, n ≤ j → A j = 0) (hB : ∀ j, n ≤ j → B j = 0) : twiF n A B i = cv i A B - cv (i + n) A B := by
  have e1 : cv i A B = sumN (fun j => if j ≤ i then A j * B (i - j) else 0) n := by
    rw [cv_sum]
    have : sumN (fun j => if j ≤ i then A j * B (i - j) else 0) n = sumN (fun j => if j ≤ i then A j * B (i - j) else 0) (i + 1) := sumN_more (by omega) fun j hj _ => by rw [if_neg (by omega)]
    rw [this]
    exact sumN_congr fun j hj => by rw [if_pos (by omega)]
  have e2 : cv (i + n) A B = sumN (fun j => if j ≤ i then 0 else A j * B (i + n - j)) n := by
    rw [cv_sum]
    have : sumN (fun j => A j * B (i + n - j)) (i + n + 1) = sumN (fun j => A j * B (i + n - j)) n := sumN_more (by omega) fun j hj _ => by rw [hA j hj, Int.zero_mul]
    rw [this]
    exact sumN_congr fun j hj => by
      by_cases hji : j ≤ i
      · rw [if_pos hji, hB _ (by omega), Int.mul_zero]
      · rw [if_neg hji]
  rw [e1, e2]
  unfold twiF
  have e3 : sumN (fun j => if j ≤ i then A j * B (i - j) else - (A j * B (i + n - j))) n = sumN (fun j => (if j ≤ i then A j * B (i - j) else 0) + (-1) * (if j ≤ i then 0 else A j * B (i + n - j))) n := sumN_congr fun j _ => by
    by_cases hji : j ≤ i
    · rw [if_pos hji, if_pos hji, if_pos hji]; omega
    · rw [if_neg hji, if_neg hji, if_neg hji]; omega
  rw [e3, sumN_add, sumN_mul]
  omega
end Go.Proofs.YtoonpnfhcmghmaaDoor
namespace Go.Proofs.YtoonpnfhcmghmaaDoor
open Mth
theorem pow_cast {f : Int} (h0 : 0 ≤ f) (h8 : f ≤ 8) {x : Int} (hx : 0 ≤ x) (m : Nat) : x ^ m % P f = ((x.toNat ^ m % (P f).toNat : Nat) : Int) := by
  have hp := P_bd h0 h8
  rw [Int.natCast_emod, Int.natCast_pow, Int.toNat_of_nonneg hx, Int.toNat_of_nonneg (by omega)]
theorem PW_pow {f x : Int} (h0 : 0 ≤ f) (h8 : f ≤ 8) (hx : 0 ≤ x) (m : Nat) : PW (P f) x m = x ^ m % P f := by
  rw [pow_cast h0 h8 hx]
  unfold PW
  rw [Int.toNat_natCast]
theorem rootsF_pow {f k : Int} (h : hasK f k) (j : Nat) : rootsF f k j = mRoot f k ^ j % P f := by
  have b := root_bd h
  exact PW_pow h.1.1 h.1.2 (by omega) j
/-- The inverse of the root. -/
def mInvR (f k : Int) : Int := mPower f (mRoot f k) (-1)
theorem invR_bd {f k : Int} (h : hasK f k) : 0 < mInvR f k ∧ mInvR f k < P f := by
  have b := root_bd h
  have hz : RS (mRoot f k) (P f) ≠ 0 := by rw [RS_self (by omega) b.2]; omega
  exact (inv_one h.1.1 h.1.2 hz).2
theorem rt_of {f k : Int} (h : hasK f k) : Rt f (mRoot f k) (mInvR f k) (2 ^ k.toNat) := by
  have b := root_bd h
  have h0 := h.1.1
  have h8 := h.1.2
  have hp := P_bd h0 h8
  have hz : RS (mRoot f k) (P f) ≠ 0 := by rw [RS_self (by omega) b.2]; omega
  refine ⟨h0, h8, Nat.pow_pos (by omega), fun m => ?_, ?_⟩
  · rw [one_p h0 h8, pow_cast h0 h8 (by omega), ← root_ord h m]
    omega
  · have := (inv_one h0 h8 hz).1
    rw [RS_self (x := mRoot f k) (by omega) b.2, Int.mul_comm] at this
    rw [one_p h0 h8]
    exact this
/-- Half way round is -1. -/
theorem Rt.half {f w v : Int} {m : Nat} (h : Rt f w v (m + m)) : (w ^ m + 1) % P f = 0 := by
  have m0 : 0 < m := by have := h.n0; omega
  refine Classical.byContradiction fun hs => ?_
  have h1 : (w ^ m - 1) % P f ≠ 0 := fun e => by
    have : w ^ m % P f = 1 % P f := by
      have := emod_add_congr (p := P f) (a := w ^ m - 1) (b := 0) (c := 1) (d := 1) (by rw [e]; simp) rfl
      rwa [Int.sub_add_cancel, Int.zero_add] at this
    have := Nat.le_of_dvd m0 ((h.ord m).1 this)
    omega
  have := mul_nz h.h0 h.h8 h1 hs
  refine this ?_
  have e : (w ^ m - 1) * (w ^ m + 1) = w ^ (m + m) - 1 := by
    rw [Int.pow_add, Int.mul_add, Int.sub_mul, Int.sub_mul]
    omega
  rw [e]
  exact emod_zero_of_sub h.full
theorem rv_bit (b c : Nat) (hc : c < 2) : ∀ j, rv (2 * b + c) (j + 1) = c * 2 ^ j + rv b j
  | 0 => by simp [rv]; omega
  | j + 1 => by
    rw [rv, rv_bit b c hc j]
    show 2 * (c * 2 ^ j + rv b j) + (2 * b + c) / 2 ^ (j + 1) % 2 = c * 2 ^ (j + 1) + rv b (j + 1)
    rw [rv, Nat.pow_succ, Nat.mul_comm (2 ^ j) 2, ← Nat.div_div_eq_div_mul, show (2 * b + c) / 2 = b by omega, Nat.mul_add, ← Nat.mul_assoc c, Nat.mul_comm c 2, Nat.mul_assoc 2 c, Nat.add_assoc]
/-- After s levels: each block of 2^s is the transform of every 2^(k-s)-th number of X. -/
def Lev (f w : Int) (k s : Nat) (X V : Nat → Int) : Prop :=
  ∀ b t, b < 2 ^ (k - s) → t < 2 ^ s → V (b * 2 ^ s + t) % P f = sumN (fun u => X (rv b (k - s) + u * 2 ^ (k - s)) * w ^ (t * (u * 2 ^ (k - s)))) (2 ^ s) % P f
theorem Lev.start {f w : Int} {k : Nat} {X V : Nat → Int} (h : ∀ j, j < 2 ^ k → V j % P f = X (rv j k) % P f) : Lev f w k 0 X V := by
  intro b t hb ht
  have : t = 0 := by have : t < 1 := ht; omega
  subst this
  rw [Nat.sub_zero] at hb ⊢
  rw [show b * 2 ^ 0 + 0 = b by simp, h b hb]
  show _ = (sumN _ 0 + X (rv b k + 0 * 2 ^ k) * w ^ (0 * (0 * 2 ^ k))) % P f
  simp [sumN]
/-- One level. -/
theorem Lev.step {f w v : Int} {k s : Nat} {X V V' : Nat → Int} (hr : Rt f w v (2 ^ k)) (hs : s < k) (h : Lev f w k s X V)
    (hlo : ∀ b t, b < 2 ^ (k - s - 1) → t < 2 ^ s → V' (b * 2 ^ (s + 1) + t) % P f = (V (b * 2 ^ (s + 1) + t) + V (b * 2 ^ (s + 1) + t + 2 ^ s) * w ^ (t * 2 ^ (k - s - 1))) % P f)
    (hhi : ∀ b t, b < 2 ^ (k - s - 1) → t < 2 ^ s → V' (b * 2 ^ (s + 1) + t + 2 ^ s) % P f = (V (b * 2 ^ (s + 1) + t) - V (b * 2 ^ (s + 1) + t + 2 ^ s) * w ^ (t * 2 ^ (k - s - 1))) % P f) : Lev f w k (s + 1) X V' := by
  intro b t hb ht
  obtain ⟨m, hm⟩ : ∃ m, m = 2 ^ (k - s - 1) := ⟨_, rfl⟩
  obtain ⟨g, hg⟩ : ∃ g, g = 2 ^ s := ⟨_, rfl⟩
  have e1 : k - (s + 1) = k - s - 1 := by omega
  have e2 : k - s = k - s - 1 + 1 := by omega
  have p1 : (2 : Nat) ^ (k - s) = 2 * m := by rw [e2, Nat.pow_succ, hm, Nat.mul_comm]
  have p2 : (2 : Nat) ^ (s + 1) = 2 * g := by rw [Nat.pow_succ, hg, Nat.mul_comm]
  have p3 : (2 : Nat) ^ k = g * m + g * m := by
    have : k = s + (k - s - 1) + 1 := by omega
    rw [this, Nat.pow_succ, Nat.pow_add, ← hg, ← hm]
    omega
  have hr2 : Rt f w v (g * m + g * m) := by rw [← p3]; exact hr
  have hhalf := hr2.half
  rw [e1, ← hm] at hb
  rw [← hm] at hlo hhi
  rw [← hg] at hlo hhi
  rw [p2] at hlo hhi ht
  rw [e1, ← hm, p2]
  -- the two blocks below
  have r0 : rv (2 * b) (k - s) = rv b (k - s - 1) := by rw [e2]; have := rv_bit b 0 (by omega) (k - s - 1); simpa using this
  have r1 : rv (2 * b + 1) (k - s) = rv b (k - s - 1) + m := by rw [e2]; have := rv_bit b 1 (by omega) (k - s - 1); rw [Nat.one_mul, ← hm] at this; rw [show k - s - 1 + 1 - 1 = k - s - 1 by omega]; omega
  have LE : ∀ t, t < g → V (b * (2 * g) + t) % P f = sumN (fun u => X (rv b (k - s - 1) + u * (2 * m)) * w ^ (t * (u * (2 * m)))) g % P f := fun t ht => by
    have := h (2 * b) t (by rw [p1]; omega) (by rw [← hg]; exact ht)
    rw [r0, p1, ← hg, show 2 * b * g = b * (2 * g) by rw [Nat.mul_comm 2 b, Nat.mul_assoc]] at this
    exact this
  have LO : ∀ t, t < g → V (b * (2 * g) + t + g) % P f = sumN (fun u => X (rv b (k - s - 1) + m + u * (2 * m)) * w ^ (t * (u * (2 * m)))) g % P f := fun t ht => by
    have := h (2 * b + 1) t (by rw [p1]; omega) (by rw [← hg]; exact ht)
    rw [r1, p1, ← hg, show (2 * b + 1) * g + t = b * (2 * g) + t + g by rw [Nat.add_mul, Nat.mul_comm 2 b, Nat.mul_assoc]; omega] at this
    exact this
  -- the whole sum, split
  have split : ∀ t, sumN (fun u => X (rv b (k - s - 1) + u * m) * w ^ (t * (u * m))) (2 * g) = sumN (fun u => X (rv b (k - s - 1) + u * (2 * m)) * w ^ (t * (u * (2 * m)))) g + sumN (fun u => X (rv b (k - s - 1) + m + u * (2 * m)) * w ^ (t * (u * (2 * m)))) g * w ^ (t * m) := fun t => by
    rw [sumN_even, ← sumN_mul_r]
    congr 1
    · exact sumN_congr fun u _ => by rw [show 2 * u * m = u * (2 * m) by rw [Nat.mul_comm 2 u, Nat.mul_assoc]]
    · exact sumN_congr fun u _ => by
        rw [show (2 * u + 1) * m = m + u * (2 * m) by rw [Nat.add_mul, Nat.mul_comm 2 u, Nat.mul_assoc]; omega, ← Nat.add_assoc, Int.mul_assoc, ← Int.pow_add, ← Nat.mul_add, Nat.add_comm m]
  by_cases htg : t < g
  · rw [hlo b t hb htg, split t]
    exact emod_add_congr (LE t htg) (emod_mul_congr (LO t htg) rfl)
  · obtain ⟨r, rfl⟩ : ∃ r, t = r + g := ⟨t - g, by omega⟩
    have hrg : r < g := by omega
    rw [← Nat.add_assoc, hhi b r hb hrg, split (r + g)]
    -- w^((r+g) u 2m) = w^(r u 2m), w^((r+g) m) = - w^(r m)
    have x1 : ∀ u, w ^ ((r + g) * (u * (2 * m))) % P f = w ^ (r * (u * (2 * m))) % P f := fun u => hr2.exp (by
      rw [Nat.add_mul, show g * (u * (2 * m)) = (g * m + g * m) * u by rw [← Nat.mul_assoc, Nat.mul_comm g u, Nat.mul_assoc, Nat.mul_comm _ u, ← Nat.mul_add g, Nat.two_mul], Nat.add_mul_mod_self_left])
    have x2 : w ^ ((r + g) * m) % P f = (- w ^ (r * m)) % P f := by
      rw [Nat.add_mul, Int.pow_add]
      have : (w ^ (r * m) * w ^ (g * m)) % P f = (w ^ (r * m) * (-1)) % P f := emod_mul_congr rfl (by
        have := emod_add_congr (p := P f) (a := w ^ (g * m) + 1) (b := 0) (c := -1) (d := -1) (by rw [hhalf]; simp) rfl
        rw [Int.zero_add] at this
        rw [← this]
        congr 1
        omega)
      rw [this]
      congr 1
      omega
    have y1 : (sumN (fun u => X (rv b (k - s - 1) + u * (2 * m)) * w ^ ((r + g) * (u * (2 * m)))) g) % P f = V (b * (2 * g) + r) % P f := by
      rw [LE r hrg]
      exact sumN_mod fun u _ => emod_mul_congr rfl (x1 u)
    have y2 : (sumN (fun u => X (rv b (k - s - 1) + m + u * (2 * m)) * w ^ ((r + g) * (u * (2 * m)))) g) % P f = V (b * (2 * g) + r + g) % P f := by
      rw [LO r hrg]
      exact sumN_mod fun u _ => emod_mul_congr rfl (x1 u)
    have y3 := emod_add_congr y1 (emod_mul_congr y2 x2)
    rw [y3]
    congr 1
    rw [Int.mul_neg]
    omega
/-- All levels: the transform. -/
theorem Lev.last {f w : Int} {k : Nat} {X V : Nat → Int} (h : Lev f w k k X V) {t : Nat} (ht : t < 2 ^ k) : V t % P f = ftF w (2 ^ k) X t % P f := by
  have := h 0 t (by simp) ht
  rw [Nat.sub_self, Nat.zero_mul, Nat.zero_add] at this
  rw [this]
  unfold ftF
  congr 1
  exact sumN_congr fun u _ => by simp [rv]
end Go.Proofs.YtoonpnfhcmghmaaDoor
namespace Go.Proofs.YtoonpnfhcmghmaaDoor
open Mth
def VecOk (f : Int) (l : List Int) : Prop := (0 ≤ mLog l.length ∧ mLog l.length ≤ T f) ∧ ∀ j, j < l.length → 0 ≤ lf l j ∧ lf l j < P f
def TwoOk (f : Int) (a b : List Int) : Prop := a.length = b.length ∧ VecOk f a ∧ VecOk f b
open Classical in
noncomputable def mVectorOk (f : Int) (l : List Int) : Bool := decide (VecOk f l)
/-- The log of a vector. -/
theorem VecOk.log {f : Int} {l : List Int} (h : VecOk f l) : ∃ k : Nat, k ≤ 9 ∧ l.length = 2 ^ k ∧ mLog l.length = k ∧ hasK f k := by
  rcases log_cases (l.length : Int) with ⟨k, hk, hn, hl⟩ | ⟨_, hl⟩
  · refine ⟨k, hk, ?_, hl, (hasK_iff f k).2 ⟨by omega, by have := h.1.2; omega⟩⟩
    have e : ((2 ^ k : Nat) : Int) = 2 ^ k := by rw [Int.natCast_pow]; rfl
    omega
  · have := h.1.1
    omega
theorem VecOk.f08 {f : Int} {l : List Int} (h : VecOk f l) : 0 ≤ f ∧ f ≤ 8 := by
  obtain ⟨k, _, _, _, hk⟩ := h.log
  exact hk.1
theorem VecOk.pos {f : Int} {l : List Int} (h : VecOk f l) : 0 < l.length ∧ l.length ≤ 512 := by
  obtain ⟨k, hk, hn, _, _⟩ := h.log
  have : 2 ^ k ≤ 2 ^ 9 := Nat.pow_le_pow_right (by omega) hk
  have h0 : 0 < 2 ^ k := Nat.pow_pos (by omega)
  omega
theorem VecOk.lt {f : Int} {l : List Int} (h : VecOk f l) (j : Nat) : 0 ≤ lf l j ∧ lf l j < P f := by
  have h08 := h.f08
  have hp := P_bd h08.1 h08.2
  by_cases hj : j < l.length
  · exact h.2 j hj
  · rw [lf_out l (by omega)]; omega
def rootL (f : Int) (l : List Int) : Int := mRoot f (mLog l.length)
def invRL (f : Int) (l : List Int) : Int := mInvR f (mLog l.length)
theorem VecOk.rt {f : Int} {l : List Int} (h : VecOk f l) : Rt f (rootL f l) (invRL f l) l.length := by
  obtain ⟨k, hk, hn, hl, hh⟩ := h.log
  have := rt_of hh
  unfold rootL invRL
  rw [hl, hn]
  rwa [Int.toNat_natCast] at this
def fwdL (f : Int) (l : List Int) : List Int := tab l.length fun i => RS (ftF (rootL f l) l.length (lf l) i) (P f)
def bwdL (f : Int) (l : List Int) : List Int := tab l.length fun i => RS (ftF (invRL f l) l.length (lf l) i * mPower f l.length (-1)) (P f)
def ptwL (f : Int) (a b : List Int) : List Int := tab a.length fun i => RS (lf a i * lf b i) (P f)
def twiL (f : Int) (a b : List Int) : List Int := tab a.length fun i => RS (twiF a.length (lf a) (lf b) i) (P f)
/-- By how much a rotation by r turns a vector of n numbers. -/
def turnN (n : Nat) (r : Int) : Nat := (r % n).toNat
/-- One level, at place t; d is n / (2 h). -/
def stgF (f w : Int) (h d : Nat) (V : Nat → Int) (t : Nat) : Int :=
  if t % (2 * h) < h then RS (V t + RS (V (t + h) * w ^ (t % (2 * h) * d)) (P f)) (P f) else RS (V (t - h) - RS (V t * w ^ ((t % (2 * h) - h) * d)) (P f)) (P f)
def stgL (f : Int) (l : List Int) (s : Nat) : List Int := tab l.length (stgF f (rootL f l) (2 ^ s) (l.length / (2 * 2 ^ s)) (lf l))
open Classical in
noncomputable def mTwisted (f : Int) (a b : List Int) : List Int := if TwoOk f a b then twiL f a b else []
theorem len_mTwisted (f : Int) (a b : List Int) (n : a.length ≤ 1048576) (_m : b.length ≤ 1048576) : (mTwisted f a b).length ≤ 1048576 := by
  unfold mTwisted; split
  · unfold twiL; rw [tab_len]; exact n
  · exact Nat.zero_le _
/-- A list of the same length whose numbers are reduced is a vector. -/
theorem VecOk.tab {f : Int} {l : List Int} (h : VecOk f l) {n : Nat} (hn : n = l.length) (F : Nat → Int) (hF : ∀ j, j < n → 0 ≤ F j ∧ F j < P f) : VecOk f (tab n F) := by
  subst hn
  refine ⟨by rw [tab_len]; exact h.1, fun j hj => ?_⟩
  rw [tab_len] at hj
  rw [lf_tab, if_pos hj]
  exact hF j hj
theorem VecOk.fwd {f : Int} {l : List Int} (h : VecOk f l) : VecOk f (fwdL f l) := h.tab rfl _ fun _ _ => RS_bd (P_pos h.f08.1 h.f08.2)
theorem VecOk.bwd {f : Int} {l : List Int} (h : VecOk f l) : VecOk f (bwdL f l) := h.tab rfl _ fun _ _ => RS_bd (P_pos h.f08.1 h.f08.2)
theorem fwdL_len (f : Int) (l : List Int) : (fwdL f l).length = l.length := tab_len _ _
theorem bwdL_len (f : Int) (l : List Int) : (bwdL f l).length = l.length := tab_len _ _
theorem rootL_len {f : Int} {a b : List Int} (h : a.length = b.length) : rootL f a = rootL f b := by unfold rootL; rw [h]
theorem lf_fwdL {f : Int} {l : List Int} {i : Nat} (h : i < l.length) : lf (fwdL f l) i = ftF (rootL f l) l.length (lf l) i % P f := by
  unfold fwdL; rw [lf_tab, if_pos h]; rfl
theorem lf_bwdL {f : Int} {l : List Int} {i : Nat} (h : i < l.length) : lf (bwdL f l) i = (ftF (invRL f l) l.length (lf l) i * mPower f l.length (-1)) % P f := by
  unfold bwdL; rw [lf_tab, if_pos h]; rfl
/-- n has an inverse. -/
theorem VecOk.inv_n {f : Int} {l : List Int} (h : VecOk f l) : ((l.length : Int) * mPower f l.length (-1)) % P f = 1 % P f := by
  have h08 := h.f08
  have hp := P_bd h08.1 h08.2
  obtain ⟨k, hk, hn, hl, hh⟩ := h.log
  have hle := two_le hh
  have hpos := h.pos
  have e : two (k : Int) = (l.length : Int) := by unfold two; rw [hn, Int.toNat_natCast, Int.natCast_pow]; rfl
  have hs : RS (l.length : Int) (P f) = l.length := RS_self (by omega) (by omega)
  have := (inv_one h08.1 h08.2 (z := (l.length : Int)) (by rw [hs]; omega)).1
  rw [hs, Int.mul_comm] at this
  rw [one_p h08.1 h08.2]
  exact this
end Go.Proofs.YtoonpnfhcmghmaaDoor
namespace Go.Proofs.YtoonpnfhcmghmaaDoor
open Go.RowKit
def NilP (w : World) (e : Ending) (w' : World) : Prop := e = .returned (.slice none 0 0) ∧ Below w.heap.size w w'
theorem NilP.list {w w' : World} {l : List Int} {e : Ending} (hl : l = []) (h : NilP w e w') : ListL w l e w' := by
  subst hl
  obtain ⟨rfl, hb⟩ := h
  exact ⟨none, 0, rfl, .inl rfl, hb⟩
theorem NilP.own {w w' : World} {l : List Int} {e : Ending} (hl : l = []) (h : NilP w e w') : OwnL w l e w' := by
  subst hl
  obtain ⟨rfl, hb⟩ := h
  exact ⟨none, 0, rfl, OwnA.nil rfl, hb⟩
end Go.Proofs.YtoonpnfhcmghmaaDoor
namespace Go.Proofs.YtoonpnfhcmghmaaDoor
open Go.RowKit
theorem inverse_c (n a : Int) (w : World) (ht : Tab w) (h0 : 0 ≤ n) (h8 : n ≤ 8) (ha : 0 ≤ a) (ha2 : a < P n) : Calls Tryd.prog 112 #[.int .i64 n, .int .i64 a] w fun e w' => e = .returned (.int .i64 (PW (P n) a (P n - 2))) ∧ w = w' := by
  have hp := P_bd h0 h8
  go_enter Tryd.func112, Tryd.ntmps112
  go_wp2_with fail
  refine (prime_c n w ht h0 h8).mono ?_
  rintro e w' ⟨rfl, rfl⟩
  go_wp2_with fail
  refine (power_c n a (P n - 2) w ht h0 h8 ha ha2 (by omega) (by omega)).mono ?_
  rintro e w' ⟨rfl, rfl⟩
  go_wp2
  go_ret
  exact ⟨rfl, rfl⟩
theorem inverse_inv {f x : Int} (h0 : 0 ≤ f) (h8 : f ≤ 8) (x0 : 0 < x) (x1 : x < P f) : PW (P f) x (P f - 2) = invF f x := by
  have hp := P_bd h0 h8
  have b := PW_bd (m := P f) (x := x) (e := P f - 2) (by omega)
  refine inv_unique h0 h8 b.1 b.2 ?_ ?_
  · rw [RS_self (by omega) x1]; omega
  · rw [RS_self (by omega) x1]; exact back_first h0 h8 x0 x1
def upd (Q : Nat → Int) (s : Nat) (m : Int) : Nat → Int := fun j => if j = s then m else Q j
end Go.Proofs.YtoonpnfhcmghmaaDoor
namespace Go.Proofs.YtoonpnfhcmghmaaDoor
open Go.RowKit
/-- The row within a round: the first j of row i done. -/
def prw (f : Int) (A B : Nat → Int) (i j : Nat) : Nat → Int := fun k => if i ≤ k ∧ k < i + j then RS (cpar A B k (i + 1)) (P f) else RS (cpar A B k i) (P f)
theorem prw_zero (f : Int) (A B : Nat → Int) (i k : Nat) : RS (cpar A B k i) (P f) = prw f A B i 0 k := by unfold prw; rw [if_neg (by omega)]
theorem prw_at (f : Int) (A B : Nat → Int) (i j : Nat) : prw f A B i j (i + j) = RS (cpar A B (i + j) i) (P f) := by unfold prw; rw [if_neg (by omega)]
theorem prw_new (f : Int) (A B : Nat → Int) (i j : Nat) : RS (RS (cpar A B (i + j) i) (P f) + A i * B j) (P f) = RS (cpar A B (i + j) (i + 1)) (P f) := by
  rw [cpar_succ, if_pos (by omega), Nat.add_sub_cancel_left]
  unfold RS
  exact emod_add_congr (by simp) rfl
theorem prw_succ (f : Int) (A B : Nat → Int) (i j k : Nat) : (if k = i + j then RS (cpar A B (i + j) (i + 1)) (P f) else prw f A B i j k) = prw f A B i (j + 1) k := by
  unfold prw
  by_cases h : k = i + j
  · subst h
    rw [if_pos rfl, if_pos (by omega)]
  · rw [if_neg h]
    by_cases h1 : i ≤ k ∧ k < i + j
    · rw [if_pos h1, if_pos (by omega)]
    · rw [if_neg h1, if_neg (by omega)]
theorem prw_end {f : Int} {A B : Nat → Int} {m : Nat} (hB : ∀ j, m ≤ j → B j = 0) (i k : Nat) : prw f A B i m k = RS (cpar A B k (i + 1)) (P f) := by
  unfold prw
  split
  · rfl
  · rename_i h
    rw [cpar_succ]
    by_cases h1 : i ≤ k
    · rw [if_pos h1, hB (k - i) (by omega), Int.mul_zero, Int.add_zero]
    · rw [if_neg h1, Int.add_zero]
theorem prw_set {f : Int} {wr : World} {g N i j : Nat} {A B : Nat → Int} (h : Own wr g N (prw f A B i j)) : Own (wr.setCell ⟨g, i + j, none⟩ (.int .i64 (RS (cpar A B (i + j) (i + 1)) (P f)))) g N (prw f A B i (j + 1)) := by
  refine (World.rowIs.set h (i + j) (.int .i64 (RS (cpar A B (i + j) (i + 1)) (P f)))).congr fun k _ => ?_
  rw [← prw_succ]
  split <;> rfl
set_option maxRecDepth 100000 in
set_option maxHeartbeats 3200000 in
theorem product_some (f : Int) (b off b2 off2 n m cap cap2 N : Nat) (A B : Nat → Int) (w : World) (ht : Tab w) (h0 : 0 ≤ f) (h8 : f ≤ 8) (hn : n ≤ 4096) (hm : m ≤ 4096) (n0 : 0 < n) (m0 : 0 < m) (hN : n + m = N + 1)
    (hA : ∀ j, 0 ≤ A j ∧ A j < P f) (hB : ∀ j, 0 ≤ B j ∧ B j < P f) (hB2 : ∀ j, m ≤ j → B j = 0) (hlt : b < w.heap.size) (hlt2 : b2 < w.heap.size)
    (hc : ∀ j, j < n → w.cell? ⟨b, off + j, none⟩ = some (.int .i64 (A j))) (hc2 : ∀ j, j < m → w.cell? ⟨b2, off2 + j, none⟩ = some (.int .i64 (B j))) :
    Calls Tryd.prog 104 #[.int .i64 f, .slice (some ⟨b, off, none⟩) n cap, .slice (some ⟨b2, off2, none⟩) m cap2] w fun e w' => e = .returned (.slice (some ⟨w.heap.size, 0, none⟩) N N) ∧ Own w' w.heap.size N (fun k => RS (cpar A B k n) (P f)) ∧ Below w.heap.size w w' := by
  have HC := Lib.hid hc
  have HC2 := Lib.hid hc2
  have HA := Lib.hid hA
  have HB := Lib.hid hB
  have HB2 := Lib.hid hB2
  clear hc hc2 hA hB hB2
  have hp := P_bd h0 h8
  have z1 : ((n : Int) == 0) = false := by simp; omega
  have z2 : ((m : Int) == 0) = false := by simp; omega
  have hmk : ∀ w, (Instr.makeSlice 24 (.int .i64 ((n : Int) + m - 1)) (.int .i64 ((n : Int) + m - 1))).run Tryd.prog w = .ok (.slice (some ⟨w.heap.size, 0, none⟩) N N) (w.alloc (.cells (madeCells #[.int .i64 0] N) 3)) := fun w => by
    rw [show ((n : Int) + m - 1) = (N : Int) by omega]; exact made_n N (by omega) w
  go_enter Tryd.func104, Tryd.ntmps104
  go_wp2_with fail
  clear hmk
  go_loopw [8, 9, 10, 11, 30] (fun _ _ _ _ i wr => ∃ k : Nat, i = .int .i64 k ∧ k ≤ n ∧ Own wr w.heap.size N (fun j => RS (cpar A B j k) (P f)) ∧ Below w.heap.size w wr) (fun _ _ _ _ i _ => n - (intOf i).toNat)
  case atStart =>
    refine ⟨0, rfl, Nat.zero_le _, ?_, (Below.refl _ _).alloc (Nat.le_refl _) _⟩
    exact (World.rowIs_made w (.int .i64 0) N 3).congr fun j _ => by simp [cpar, sumN, RS]
  case round =>
    obtain ⟨i, rfl, hi, ho, hb⟩ := hrel
    by_cases h1 : i < n
    · have d1 : wr.cell? ⟨b, off + i, none⟩ = some (.int .i64 (A i)) := (hb.cell (p := ⟨b, off + i, none⟩) hlt).trans (HC.out i h1)
      have bA := HA.out i
      have HO := Lib.hid (own_congr ho rfl (fun k _ => prw_zero f A B i k))
      clear ho
      go_wp2_with fail
      go_loopw [10, 11, 37] (fun _ _ i2 wr => ∃ j : Nat, i2 = .int .i64 j ∧ j ≤ m ∧ Own wr w.heap.size N (prw f A B i j) ∧ Below w.heap.size w wr) (fun _ _ i2 _ => m - (intOf i2).toNat)
      case atStart => exact ⟨0, rfl, Nat.zero_le _, HO.out, hb⟩
      case round =>
        clear HO d1 hb
        obtain ⟨j, rfl, hj, ho, hb⟩ := hrel
        by_cases h2 : j < m
        · have d2 : wr.cell? ⟨b2, off2 + j, none⟩ = some (.int .i64 (B j)) := (hb.cell (p := ⟨b2, off2 + j, none⟩) hlt2).trans (HC2.out j h2)
          have hij : i + j < N := by omega
          have c2 := World.rowIs.cell ho hij
          rw [prw_at] at c2
          have c3 := World.rowIs.frozen ho (i + j)
          have HT := Lib.hid (ht.below hb)
          have bB := HB.out j
          have pb := prod_bd h0 h8 bA.1 bA.2 bB.1 bB.2
          have pr := RS_bd (x := cpar A B (i + j) i) (m := P f) (by omega)
          have HS := Lib.hid (prw_set ho)
          have HE := Lib.hid (prw_new f A B i j)
          clear ho
          generalize RS (cpar A B (i + j) i) (P f) = X at *
          go_wp2_with fail
          refine (reduce_c f (X + A i * B j) wr HT.out h0 h8).mono ?_
          rintro e w' ⟨rfl, rfl⟩
          rw [HE.out]
          go_wp2
          go_roundw
          case rel => exact ⟨j + 1, by go_num, by omega, HS.out, hb.setCell (Nat.le_refl _) _⟩
          case measure => simp [intOf]; omega
        · have hd2 : decide (j < m) = false := by simpa using h2
          obtain rfl : j = m := by omega
          have HO := Lib.hid (own_congr ho rfl (fun k _ => prw_end HB2.out i k))
          clear ho
          go_wp2
          go_roundw
          case rel => exact ⟨i + 1, by go_num, by omega, HO.out, hb⟩
          case measure => simp [intOf]; omega
    · have hd : decide (i < n) = false := by simpa using h1
      obtain rfl : i = n := by omega
      have HO := Lib.hid ho
      clear ho
      go_wp2
      go_ret
      exact ⟨rfl, HO.out, hb⟩
end Go.Proofs.YtoonpnfhcmghmaaDoor
namespace Go.Proofs.YtoonpnfhcmghmaaDoor
open Go.RowKit
/-- A row with room: the first n cells are known. -/
def OwnV (w : World) (g n cap : Nat) (F : Nat → Int) : Prop := ∃ V, w.rowIs g 3 cap V ∧ n ≤ cap ∧ ∀ j, j < n → V j = .int .i64 (F j)
theorem OwnV.cell {w : World} {g n cap : Nat} {F : Nat → Int} (h : OwnV w g n cap F) {j : Nat} (hj : j < n) : w.cell? ⟨g, j, none⟩ = some (.int .i64 (F j)) := by
  obtain ⟨V, h1, h2, h3⟩ := h
  rw [← h3 j hj]
  exact World.rowIs.cell h1 (by omega)
theorem OwnV.frozen {w : World} {g n cap : Nat} {F : Nat → Int} (h : OwnV w g n cap F) (j : Nat) : w.frozen? ⟨g, j, none⟩ = false := by
  obtain ⟨V, h1, h2, h3⟩ := h
  exact World.rowIs.frozen h1 j
theorem OwnV.lt {w : World} {g n cap : Nat} {F : Nat → Int} (h : OwnV w g n cap F) : g < w.heap.size := by
  obtain ⟨V, h1, _⟩ := h
  exact World.rowIs.lt h1
theorem OwnV.set {w : World} {g n cap s : Nat} {F : Nat → Int} {x : Int} (h : OwnV w g n cap F) : OwnV (w.setCell ⟨g, s, none⟩ (.int .i64 x)) g n cap (upd F s x) := by
  obtain ⟨V, h1, h2, h3⟩ := h
  refine ⟨_, World.rowIs.set h1 s (.int .i64 x), h2, fun j hj => ?_⟩
  unfold upd
  by_cases e : j = s
  · simp [e]
  · simp [e, h3 j hj]
theorem OwnV.other {w : World} {g g2 n cap s : Nat} {F : Nat → Int} {v : Value} (h : OwnV w g n cap F) (hne : g ≠ g2) : OwnV (w.setCell ⟨g2, s, none⟩ v) g n cap F := by
  obtain ⟨V, h1, h2, h3⟩ := h
  exact ⟨V, World.rowIs.setOther h1 (a := ⟨g2, s, none⟩) hne v, h2, h3⟩
theorem OwnV.keep {w w' : World} {g n cap : Nat} {F : Nat → Int} (h : OwnV w g n cap F) (hb : Below w.heap.size w w') : OwnV w' g n cap F := by
  obtain ⟨V, h1, h2, h3⟩ := h
  exact ⟨V, World.rowIs.of_block h1 (hb.block g (World.rowIs.lt h1)), h2, h3⟩
theorem OwnV.congr {w : World} {g n cap : Nat} {F G : Nat → Int} (h : OwnV w g n cap F) (e : ∀ j, j < n → F j = G j) : OwnV w g n cap G := by
  obtain ⟨V, h1, h2, h3⟩ := h
  exact ⟨V, h1, h2, fun j hj => by rw [h3 j hj, e j hj]⟩
theorem OwnV.src {w : World} {g n cap : Nat} {F : Nat → Int} (h : OwnV w g n cap F) : Src w (some ⟨g, 0, none⟩) n F :=
  .inr ⟨g, 0, rfl, h.lt, fun j hj => by rw [Nat.zero_add]; exact h.cell hj⟩
theorem OwnV.of_owns {w : World} {base n : Nat} {v : Value} {F : Nat → Int} (h : w.ownsRow base 3 1 v n (xsF F n)) (hn : n ≠ 0) : ∃ g cap, v = .slice (some ⟨g, 0, none⟩) n cap ∧ base ≤ g ∧ OwnV w g n cap F := by
  obtain ⟨hl, h⟩ := h
  rcases h with ⟨h1, h2⟩ | ⟨g, cap, cur, h1, hg, hh, hc, hm, hs, ht⟩
  · exact absurd h2 hn
  · refine ⟨g, cap, h1, hg, fun j => (cur[j]?).getD .nilIface, ⟨cur, hh, by omega, fun j hj => ?_⟩, hc, fun j hj => ?_⟩
    · have : j < cur.size := by omega
      simp [this]
    · have hx : (xsF F n)[j]? = some (.int .i64 (F j)) := by simp [xsF, hj]
      rw [← ht, List.getElem?_take_of_lt (by omega)] at hx
      have : cur[j]? = some (.int .i64 (F j)) := by simpa using hx
      show (cur[j]?).getD .nilIface = _
      rw [this]; rfl
end Go.Proofs.YtoonpnfhcmghmaaDoor
namespace Go.Proofs.YtoonpnfhcmghmaaDoor
open Go.RowKit
def NilB (w : World) (e : Ending) (w' : World) : Prop := e = .returned (.tuple #[.slice none 0 0, .bool false]) ∧ Below w.heap.size w w'
theorem NilB.list {w w' : World} {l : List Int} {b : Bool} {e : Ending} (hl : l = []) (hb : b = false) (h : NilB w e w') : ListLB w l b e w' := by
  subst hl; subst hb
  obtain ⟨rfl, hb⟩ := h
  exact ⟨none, 0, rfl, .inl rfl, hb⟩
theorem NilB.own {w w' : World} {l : List Int} {b : Bool} {e : Ending} (hl : l = []) (hb : b = false) (h : NilB w e w') : OwnLB w l b e w' := by
  subst hl; subst hb
  obtain ⟨rfl, hb⟩ := h
  exact ⟨none, 0, rfl, OwnA.nil rfl, hb⟩
theorem pow_congr {p x y : Int} (h : x % p = y % p) (k : Nat) : x ^ k % p = y ^ k % p := by
  induction k with
  | zero => rw [Int.pow_zero, Int.pow_zero]
  | succ k ih => rw [Int.pow_succ, Int.pow_succ]; exact emod_mul_congr ih h
theorem power_nat {f : Int} (h0 : 0 ≤ f) (h8 : f ≤ 8) (x : Int) (k : Nat) : mPower f x k = RS (x ^ k) (P f) := by
  have hp := P_bd h0 h8
  unfold mPower
  rw [if_pos ⟨h0, h8⟩]
  by_cases hz : RS x (P f) = 0
  · rw [if_pos hz]
    unfold pow0
    have e0 : x % P f = 0 % P f := by rw [show x % P f = 0 from hz]; simp
    cases k with
    | zero => simp [RS]; exact (Int.emod_eq_of_lt (by omega) (by omega)).symm
    | succ k =>
      rw [if_neg (by omega), if_neg (by omega)]
      unfold RS
      rw [pow_congr e0 (k + 1), Int.pow_succ, Int.mul_zero]; simp
  · rw [if_neg hz]
    have bd := RS_bd (x := x) (m := P f) (by omega)
    have e1 : ((RS x (P f)).toNat : Int) = RS x (P f) := Int.toNat_of_nonneg bd.1
    have e2 : ((P f).toNat : Int) = P f := Int.toNat_of_nonneg (by omega)
    have hx : (RS x (P f)).toNat % (P f).toNat ≠ 0 := by rw [Nat.mod_eq_of_lt (by omega)]; omega
    have hm := (fldf h0 h8).pow_mod k hx
    unfold PW
    have e3 : (RS (k : Int) (P f - 1)).toNat = k % ((P f).toNat - 1) := by
      unfold RS
      rw [show P f - 1 = (((P f).toNat - 1 : Nat) : Int) by omega, ← Int.natCast_emod, Int.toNat_natCast]
    rw [e3, hm, Int.natCast_emod, Int.natCast_pow, e1, e2]
    unfold RS
    exact pow_congr (by simp) k
/-- Horner's sums. -/
def hz (f x : Int) (A : Nat → Int) (n : Nat) : Nat → Int
  | 0 => 0
  | t + 1 => RS (RS (hz f x A n t * x) (P f) + A (n - (t + 1))) (P f)
end Go.Proofs.YtoonpnfhcmghmaaDoor
namespace Go.Proofs.YtoonpnfhcmghmaaDoor
open Go.RowKit
set_option maxHeartbeats 800000 in
theorem sameZ_some (b off b2 off2 n cap cap2 : Nat) (F : Nat → Int) (w : World) (hn : n ≤ 1048576) (hlt : b < w.heap.size) (hlt2 : b2 < w.heap.size) (hc : ∀ j, j < n → w.cell? ⟨b, off + j, none⟩ = some (.int .i64 (F j))) (hc2 : ∀ j, j < n → w.cell? ⟨b2, off2 + j, none⟩ = some (.int .i64 (F j))) :
    Calls Tryd.prog 19 #[.slice (some ⟨b, off, none⟩) n cap, .slice (some ⟨b2, off2, none⟩) n cap2] w (TrueP w) := by
  have HC := Lib.hid hc
  have HC2 := Lib.hid hc2
  clear hc hc2
  go_enter Tryd.func19, Tryd.ntmps19
  go_wp2_with fail
  go_loopw [5] (fun i wr => ∃ k : Nat, i = .int .i64 k ∧ k ≤ n ∧ Below w.heap.size w wr) (fun i _ => n - (intOf i).toNat)
  case atStart => exact ⟨0, rfl, Nat.zero_le _, Below.refl _ _⟩
  case round =>
    obtain ⟨k, rfl, hk, hb⟩ := hrel
    by_cases h1 : k < n
    · have c1 : wr.cell? ⟨b, off + k, none⟩ = some (.int .i64 (F k)) := (hb.cell (p := ⟨b, off + k, none⟩) hlt).trans (HC.out k h1)
      have c2 : wr.cell? ⟨b2, off2 + k, none⟩ = some (.int .i64 (F k)) := (hb.cell (p := ⟨b2, off2 + k, none⟩) hlt2).trans (HC2.out k h1)
      go_wp2
      go_quiet (fail)
      go_wp2
      go_roundw
      case rel => exact ⟨k + 1, by go_num, by omega, below_drewN hb _⟩
      case measure => simp [intOf]; omega
    · have hd : decide (k < n) = false := by simpa using h1
      go_wp2
      go_ret
      exact ⟨rfl, hb⟩
theorem sameZ_none (a a2 : Option Addr) (cap cap2 : Nat) (w : World) : Calls Tryd.prog 19 #[.slice a 0 cap, .slice a2 0 cap2] w (TrueP w) := by
  go_enter Tryd.func19, Tryd.ntmps19
  go_wp2
  refine wp_loop_rounds 1 ?_
  rw [rounds_succ]
  go_wp2
  go_ret
  exact ⟨rfl, Below.refl _ _⟩
theorem sameZ (a a2 : Option Addr) (l : List Int) (cap cap2 : Nat) (w : World) (hn : l.length ≤ 1048576) (hs : Src w a l.length (lf l)) (hs2 : Src w a2 l.length (lf l)) : Calls Tryd.prog 19 #[.slice a l.length cap, .slice a2 l.length cap2] w (TrueP w) := by
  rcases hs with h | ⟨b, off, rfl, hlt, hc⟩
  · rw [h]; exact sameZ_none a a2 cap cap2 w
  · rcases hs2 with h | ⟨b2, off2, rfl, hlt2, hc2⟩
    · rw [h]; exact sameZ_none _ a2 cap cap2 w
    · exact sameZ_some b off b2 off2 l.length cap cap2 (lf l) w hn hlt hlt2 hc hc2
/-- The state of the loop that draws a list: the cursor's block is g. -/
def ZAt (g : Nat) (w wr : World) (v : Value) (k : Nat) : Prop := (∃ F, wr.ownsRow w.heap.size 3 1 v k (xsF F k)) ∧ Cur g wr ∧ w.grownBy wr (some g) ∧ w.heap.size ≤ wr.heap.size
theorem zxs_more (F : Nat → Int) (k : Nat) (x : Int) : xsF F k ++ [.int .i64 x] = xsF (fun j => if j < k then F j else x) (k + 1) := by
  rw [← xsF_succ, xsF_congr (F := F) (G := fun j => if j < k then F j else x) (fun j hj => by simp [hj])]
  simp
theorem zown_ne {wr : World} {B g : Nat} {v : Value} {k : Nat} {xs : List Value} (hB : g < B) (h : wr.ownsRow B 3 1 v k xs) : v.ownBlock = none ∨ v.ownBlock ≠ some g := by
  refine .inr fun e => ?_
  have := own_ge h g e
  omega
/-- Growth that writes only into a block made since is growth that writes only into g. -/
theorem grown_new {w w1 w2 : World} {g : Nat} {row : Option Nat} (h1 : w.grownBy w1 (some g)) (h2 : w1.grownBy w2 row) (hr : ∀ k, row = some k → w.heap.size ≤ k) : w.grownBy w2 (some g) :=
  ⟨h2.os.trans h1.os, h2.tape.trans h1.tape, h2.output.trans h1.output, Nat.le_trans h1.size h2.size, fun i hi hne => (h2.block i (Nat.lt_of_lt_of_le hi h1.size) (fun e => by have := hr i e.symm; omega)).trans (h1.block i hi hne)⟩
theorem zdraw_step {g : Nat} {w w1 w2 : World} {v v' : Value} {k : Nat} {x : Int} {F : Nat → Int} {o : Obj} (hB : g < w.heap.size) (g1 : w.grownBy w1 (some g)) (c1 : Cur g w1) (hown1 : w1.ownsRow w.heap.size 3 1 v k (xsF F k))
    (hown' : w2.ownsRow w.heap.size 3 1 v' (k + 1) (xsF F k ++ [.int .i64 x])) (hgrow : (w1.alloc o).grownBy w2 v.ownBlock) : ZAt g w w2 v' (k + 1) := by
  have hge := own_ge hown1
  have hg := grown_new (g1.trans (World.grownBy_alloc w1 o (some g))) hgrow hge
  exact ⟨⟨_, by rw [zxs_more] at hown'; exact hown'⟩, (c1.alloc o).other hgrow (fun r hr => by have := hge r hr; omega), hg, hg.size⟩
def ZRow (g : Nat) (w : World) (n : Nat) (e : Ending) (w' : World) : Prop := ∃ v, e = .returned v ∧ ZAt g w w' v n
set_option maxRecDepth 100000 in
set_option maxHeartbeats 1600000 in
theorem drawList_c (g : Nat) (f : Int) (n : Nat) (w : World) (hc : Cur g w) (hn : n ≤ 4096) : Calls Tryd.prog 99 #[.pointer (some ⟨g, 0, none⟩), .int .i64 f, .int .i64 n] w (ZRow g w n) := by
  obtain ⟨i0, hi, hz0, hz1, hz2⟩ := info_parts info3
  have HI := Lib.hid hi
  have HZ0 := Lib.hid hz0
  have HZ1 := Lib.hid hz1
  have HZ2 := Lib.hid hz2
  clear hi hz0 hz1 hz2
  have hB : g < w.heap.size := hc.lt
  go_enter Tryd.func99, Tryd.ntmps99
  go_wp2_with fail
  go_loopw [7, 8] (fun v i wr => ∃ k : Nat, i = .int .i64 k ∧ k ≤ n ∧ ZAt g w wr v k) (fun _ i _ => n - (intOf i).toNat)
  case atStart => exact ⟨0, rfl, by omega, ⟨fun _ => 0, own_empty w (fun _ => 0)⟩, hc.alloc _, World.grownBy_alloc _ _ _, by simp⟩
  case round =>
    obtain ⟨k, rfl, hk, ⟨F, hown⟩, hcur, hbel, hsz⟩ := hrel
    by_cases hlt : k < n
    · have hd : decide ((k : Int) < n) = true := decide_eq_true (by omega)
      go_wp2_with fail
      refine (element_c g f wr hcur).mono ?_
      rintro e w9 ⟨x9, _, rfl, g9, c9⟩
      have hown9 := hown.kept g9 (zown_ne hB hown)
      have hb9 := hbel.trans g9
      have hs9 : w.heap.size ≤ w9.heap.size := Nat.le_trans hsz g9.size
      clear hown hcur hbel g9
      go_wp2_with (at_builtin; refine wpList_append_own _ rfl _ _ 24 rfl w.heap.size 3 i0 (.int .i64 0) 1 8 Tryd.underlying24 HI.out HZ0.out HZ1.out HZ2.out rfl (by decide) _ _ _ rfl (hown9.alloc _) ⟨w9.heap.size, 0, none⟩ 1 1 [.int .i64 x9] rfl rfl ?c1 ?c2 ?c3 ?c4 ?c5 ?_)
      case c1 => exact cell_one_new _ _ _
      case c2 => intro u hu; simp at hu; subst hu; rfl
      case c3 => unfold maxLen; omega
      case c4 => omega
      case c5 => simp; omega
      intro v' w10 hown' hgrow _
      have hst := zdraw_step hB hb9 c9 hown9 hown' hgrow
      clear hgrow hown' hown9 c9 hb9
      go_wp2
      go_roundw
      case rel => exact ⟨k + 1, by go_num, by omega, hst⟩
      case measure => simp [intOf]; omega
    · have hd : decide ((k : Int) < n) = false := decide_eq_false (by omega)
      obtain rfl : k = n := by omega
      go_wp2
      go_ret
      exact ⟨_, rfl, ⟨F, hown⟩, hcur, hbel, hsz⟩
/-- A list apart from the cursor. -/
def SrcO (g : Nat) (w : World) (a : Option Addr) (n : Nat) (F : Nat → Int) : Prop :=
  n = 0 ∨ ∃ b off, a = some ⟨b, off, none⟩ ∧ b ≠ g ∧ b < w.heap.size ∧ ∀ j, j < n → w.cell? ⟨b, off + j, none⟩ = some (.int .i64 (F j))
theorem SrcO.src {g : Nat} {w : World} {a : Option Addr} {n : Nat} {F : Nat → Int} (h : SrcO g w a n F) : Src w a n F := by
  refine h.imp id ?_
  rintro ⟨b, off, e, _, hlt, hc⟩
  exact ⟨b, off, e, hlt, hc⟩
theorem SrcO.grown {g : Nat} {w w' : World} {a : Option Addr} {n : Nat} {F : Nat → Int} (h : SrcO g w a n F) (hg : w.grownBy w' (some g)) : SrcO g w' a n F := by
  refine h.imp id ?_
  rintro ⟨b, off, e, hne, hlt, hc⟩
  exact ⟨b, off, e, hne, Nat.lt_of_lt_of_le hlt hg.size, fun j hj => hg.cell (hc j hj) (fun e => by injection e with e; exact hne e)⟩
theorem SrcO.of {B g : Nat} {w : World} {v : Value} {n : Nat} {F : Nat → Int} (h : w.ownsRow B 3 1 v n (xsF F n)) (hB : g < B) : ∃ a cap, v = .slice a n cap ∧ n ≤ cap ∧ SrcO g w a n F := by
  by_cases hn : n = 0
  · obtain ⟨a, cap, hv, hc, _⟩ := src_of_owns2 h
    exact ⟨a, cap, hv, hc, .inl hn⟩
  · obtain ⟨g2, cap, hv, hg, ho⟩ := OwnV.of_owns h hn
    have hcap : n ≤ cap := by obtain ⟨_, _, h, _⟩ := ho; exact h
    exact ⟨_, cap, hv, hcap, .inr ⟨g2, 0, rfl, by omega, ho.lt, fun j hj => by rw [Nat.zero_add]; exact ho.cell hj⟩⟩
theorem Cur.below {g : Nat} {w w' : World} (h : Cur g w) (hb : Below w.heap.size w w') : Cur g w' :=
  h.other (row := none) ⟨hb.os, hb.tape, hb.output, hb.size, fun i hi _ => hb.block i hi⟩ (fun _ h => by cases h)
/-- The drawn list, in a row of the draw's own. -/
def ZPol (g : Nat) (w : World) (n : Nat) (e : Ending) (w' : World) : Prop := ∃ (l : List Int) (a : Option Addr) (cap : Nat), e = .returned (.slice a l.length cap) ∧ l.length ≤ n ∧ l.length ≤ cap ∧ SrcO g w' a l.length (lf l) ∧ Cur g w' ∧ w.grownBy w' (some g)
theorem ZPol.of {g : Nat} {w w' : World} {v : Value} {n : Nat} {l : List Int} (h : w'.ownsRow w.heap.size 3 1 v l.length (xsF (lf l) l.length)) (hB : g < w.heap.size) (hl : l.length ≤ n) (hc : Cur g w') (hg : w.grownBy w' (some g)) : ZPol g w n (.returned v) w' := by
  obtain ⟨a, cap, rfl, hcap, hs⟩ := SrcO.of h hB
  exact ⟨l, a, cap, rfl, hl, hcap, hs, hc, hg⟩
theorem lf_tabF (n : Nat) (F : Nat → Int) : xsF (lf (tab n F)) n = xsF F n := xsF_congr fun j hj => by rw [lf_tab, if_pos hj]
/-- The row, its last number written anew. -/
theorem owns_to_tab {w : World} {B n : Nat} {v : Value} {F : Nat → Int} (h : w.ownsRow B 3 1 v n (xsF F n)) : w.ownsRow B 3 1 v (tab n F).length (xsF (lf (tab n F)) (tab n F).length) := by
  rw [tab_len, lf_tabF]
  exact h
end Go.Proofs.YtoonpnfhcmghmaaDoor
namespace Go.Proofs.YtoonpnfhcmghmaaDoor
open Go.RowKit
theorem vok_iff {f : Int} {l : List Int} : mVectorOk f l = true ↔ VecOk f l := by unfold mVectorOk; simp
theorem vok_not {f : Int} {l : List Int} : mVectorOk f l = false ↔ ¬ VecOk f l := by unfold mVectorOk; simp
theorem grown_none {w w' : World} (hb : Below w.heap.size w w') : w.grownBy w' none := ⟨hb.os, hb.tape, hb.output, hb.size, fun i hi _ => hb.block i hi⟩
set_option maxHeartbeats 800000 in
theorem sVectorOk (f : Int) (a : Option Addr) (l : List Int) (cap : Nat) (w : World) (hn : l.length ≤ 1048576) (hs : Src w a l.length (lf l)) : Calls Tryd.prog 14 #[.int .i64 f, .slice a l.length cap] w (SameB w (mVectorOk f l)) := by
  have HL := Lib.hid (show mVectorOk f l = decide ((0 ≤ mLog l.length ∧ mLog l.length ≤ T f) ∧ ∀ j, j < l.length → 0 ≤ lf l j ∧ lf l j < P f) by unfold mVectorOk VecOk; congr)
  by_cases h0 : 0 ≤ mLog l.length
  · by_cases h1 : mLog l.length ≤ T f
    · have h08 : 0 ≤ f ∧ f ≤ 8 := by
        have := (hasK_iff f (mLog l.length)).2 ⟨h0, h1⟩
        exact this.1
      have HE := Lib.hid (elements_c f a l.length cap (lf l) w h08.1 h08.2 hn hs)
      have d0 : decide (0 ≤ mLog l.length) = true := decide_eq_true h0
      have d1 : decide (mLog l.length ≤ T f) = true := decide_eq_true h1
      have HB : Hid (∀ B, elemsB f l.length (lf l) B → mVectorOk f l = B) := Lib.hid fun B hB => by
        cases B
        · obtain ⟨k, hk, hbad⟩ := hB.2 rfl
          exact vok_not.2 fun h => by have := h.2 k hk; omega
        · exact vok_iff.2 ⟨⟨h0, h1⟩, hB.1 rfl⟩
      clear hs HL
      go_enter Tryd.func14, Tryd.ntmps14
      go_wp2_with fail
      refine (sLogOf l.length w).mono ?_
      rintro e w' ⟨rfl, rfl⟩
      go_wp2_with fail
      refine (sTwoPower f w).mono ?_
      rintro e w' ⟨rfl, rfl⟩
      go_wp2_with fail
      refine HE.out.mono ?_
      rintro e w' ⟨B, hB, rfl, rfl⟩
      have HB2 := Lib.hid (HB.out B hB)
      clear hB HE HB
      go_wp2
      go_ret
      exact ⟨by rw [HB2.out]; rfl, rfl⟩
    · have d0 : decide (0 ≤ mLog l.length) = true := decide_eq_true h0
      have d1 : decide (mLog l.length ≤ T f) = false := decide_eq_false h1
      have HB := Lib.hid (vok_not.2 fun h : VecOk f l => h1 h.1.2)
      clear hs HL
      go_enter Tryd.func14, Tryd.ntmps14
      go_wp2_with fail
      refine (sLogOf l.length w).mono ?_
      rintro e w' ⟨rfl, rfl⟩
      go_wp2_with fail
      refine (sTwoPower f w).mono ?_
      rintro e w' ⟨rfl, rfl⟩
      go_wp2
      go_ret
      exact ⟨by rw [HB.out]; rfl, rfl⟩
  · have d0 : decide (0 ≤ mLog l.length) = false := decide_eq_false h0
    have HB := Lib.hid (vok_not.2 fun h : VecOk f l => h0 h.1.1)
    clear hs HL
    go_enter Tryd.func14, Tryd.ntmps14
    go_wp2_with fail
    refine (sLogOf l.length w).mono ?_
    rintro e w' ⟨rfl, rfl⟩
    go_wp2
    go_ret
    exact ⟨by rw [HB.out]; rfl, rfl⟩
open Classical in
noncomputable def mTwo (f : Int) (a b : List Int) : Bool := decide (TwoOk f a b)
theorem two_iff {f : Int} {a b : List Int} : mTwo f a b = true ↔ TwoOk f a b := by unfold mTwo; simp
theorem two_not {f : Int} {a b : List Int} : mTwo f a b = false ↔ ¬ TwoOk f a b := by unfold mTwo; simp
set_option maxHeartbeats 800000 in
theorem sTwo (f : Int) (a a2 : Option Addr) (l m : List Int) (cap cap2 : Nat) (w : World) (hn : l.length ≤ 1048576) (hn2 : m.length ≤ 1048576) (hs : Src w a l.length (lf l)) (hs2 : Src w a2 m.length (lf m)) : Calls Tryd.prog 74 #[.int .i64 f, .slice a l.length cap, .slice a2 m.length cap2] w (SameB w (mTwo f l m)) := by
  by_cases he : l.length = m.length
  · have hd : ((l.length : Int) == m.length) = true := by rw [beq_iff_eq]; omega
    have R1 := sVectorOk f a l cap w hn hs
    have R2 := sVectorOk f a2 m cap2 w hn2 hs2
    by_cases h1 : VecOk f l
    · rw [vok_iff.2 h1] at R1
      have HM : Hid (mTwo f l m = mVectorOk f m) := Lib.hid (by
        by_cases h2 : VecOk f m
        · rw [vok_iff.2 h2, two_iff.2 ⟨he, h1, h2⟩]
        · rw [vok_not.2 h2, two_not.2 fun h => h2 h.2.2])
      have HR1 := Lib.hid R1
      have HR2 := Lib.hid R2
      clear R1 R2 hs hs2 h1 he
      go_enter Tryd.func74, Tryd.ntmps74
      go_wp2_with fail
      refine HR1.out.mono ?_
      rintro e w' ⟨rfl, rfl⟩
      go_wp2_with fail
      refine HR2.out.mono ?_
      rintro e w' ⟨rfl, rfl⟩
      go_wp2
      go_ret
      exact ⟨by rw [HM.out]; rfl, rfl⟩
    · rw [vok_not.2 h1] at R1
      have HM := Lib.hid (two_not.2 fun h : TwoOk f l m => h1 h.2.1)
      have HR1 := Lib.hid R1
      clear R1 R2 hs hs2 h1 he
      go_enter Tryd.func74, Tryd.ntmps74
      go_wp2_with fail
      refine HR1.out.mono ?_
      rintro e w' ⟨rfl, rfl⟩
      go_wp2
      go_ret
      exact ⟨by rw [HM.out]; rfl, rfl⟩
  · have hd : ((l.length : Int) == m.length) = false := by rw [beq_eq_false_iff_ne]; omega
    have HM := Lib.hid (two_not.2 fun h : TwoOk f l m => he h.1)
    clear hs hs2 he
    go_enter Tryd.func74, Tryd.ntmps74
    go_wp2
    go_ret
    exact ⟨by rw [HM.out]; rfl, rfl⟩
theorem sum_step (S x p : Int) : RS (RS S p + x) p = RS (S + x) p := by
  unfold RS
  exact emod_add_congr (Int.emod_emod_of_dvd _ (Int.dvd_refl _)) rfl
theorem vec_some {w : World} {a : Option Addr} {n : Nat} {F : Nat → Int} (h : Src w a n F) (hn : 0 < n) : ∃ b off, a = some ⟨b, off, none⟩ ∧ b < w.heap.size ∧ ∀ j, j < n → w.cell? ⟨b, off + j, none⟩ = some (.int .i64 (F j)) := by
  rcases h with hz | h
  · omega
  · exact h
theorem twi_step {f : Int} {n i k : Nat} (hi : i < n) (hk : k < n) (A B : Nat → Int) :
    (k ≤ i → RS (RS (sumN (fun j => if j ≤ i then A j * B (i - j) else -(A j * B (i + n - j))) k) (P f) + RS (A k * B ((i + n - k) % n)) (P f)) (P f) = RS (sumN (fun j => if j ≤ i then A j * B (i - j) else -(A j * B (i + n - j))) (k + 1)) (P f)) ∧
    (i < k → RS (RS (sumN (fun j => if j ≤ i then A j * B (i - j) else -(A j * B (i + n - j))) k) (P f) + (P f - RS (A k * B ((i + n - k) % n)) (P f))) (P f) = RS (sumN (fun j => if j ≤ i then A j * B (i - j) else -(A j * B (i + n - j))) (k + 1)) (P f)) := by
  constructor
  · intro h
    rw [RS_add, show (i + n - k) % n = i - k by rw [show i + n - k = i - k + n by omega, Nat.add_mod_right, Nat.mod_eq_of_lt (by omega)]]
    show _ = RS (_ + if k ≤ i then A k * B (i - k) else -(A k * B (i + n - k))) (P f)
    rw [if_pos h]
  · intro h
    rw [sum_step, Nat.mod_eq_of_lt (show i + n - k < n by omega)]
    show _ = RS (_ + if k ≤ i then A k * B (i - k) else -(A k * B (i + n - k))) (P f)
    rw [if_neg (by omega)]
    unfold RS
    refine emod_add_congr rfl ?_
    have := emod_sub_congr (p := P f) (a := P f) (b := 0) (c := A k * B (i + n - k) % P f) (d := A k * B (i + n - k)) (by rw [Int.emod_self]; rfl) (Int.emod_emod_of_dvd _ (Int.dvd_refl _))
    rw [this, Int.zero_sub]
set_option maxRecDepth 100000 in
set_option maxHeartbeats 3200000 in
theorem sTwisted_on (f : Int) (a : Option Addr) (l : List Int) (cap : Nat) (a2 : Option Addr) (m : List Int) (cap2 : Nat) (w : World) (hn : l.length ≤ 1048576) (hn2 : m.length ≤ 1048576) (hs : Src w a l.length (lf l)) (hs2 : Src w a2 m.length (lf m)) (h : TwoOk f l m) : Calls Tryd.prog 35 #[.int .i64 f, .slice a l.length cap, .slice a2 m.length cap2] w (ListL w (twiL f l m)) := by
  obtain ⟨i0, hi, hz0, hz1, hz2⟩ := info_parts info3
  have HI := Lib.hid hi
  have HZ0 := Lib.hid hz0
  have HZ1 := Lib.hid hz1
  have HZ2 := Lib.hid hz2
  clear hi hz0 hz1 hz2
  have e0 : twiL f l m = tab l.length fun i => RS (sumN (fun j => if j ≤ i then lf l j * lf m (i - j) else -(lf l j * lf m (i + l.length - j))) l.length) (P f) := rfl
  rw [e0]
  have BA : Hid (∀ o, Below w.heap.size w (w.alloc o)) := Lib.hid fun o => (Below.refl _ _).alloc (Nat.le_refl _) o
  have HV : Hid (∀ w2, Below w.heap.size w w2 → Calls Tryd.prog 74 #[.int .i64 f, .slice a l.length cap, .slice a2 m.length cap2] w2 (SameB w2 true)) := Lib.hid fun w2 hb => by
    have R1 := sTwo f a a2 l m cap cap2 w2 hn hn2 (hs.keep hb) (hs2.keep hb)
    rwa [two_iff.2 h] at R1
  obtain ⟨hlm, hl, hm⟩ := h
  have hn0 := hl.pos.1
  have hn5 := hl.pos.2
  obtain ⟨h0, h8⟩ := hl.f08
  have hp := P_bd h0 h8
  have q7 : ¬ P f = 0 := by omega
  have HA := Lib.hid hl.lt
  have HB := Lib.hid hm.lt
  rw [← hlm] at hs2 HV ⊢
  obtain ⟨b, off, rfl, hlt, hc⟩ := vec_some hs hn0
  obtain ⟨b2, off2, rfl, hlt2, hc2⟩ := vec_some hs2 hn0
  have HC := Lib.hid hc
  have HC2 := Lib.hid hc2
  clear hs hs2 hc hc2 hl hm hlm hn2
  generalize lf l = A at *
  generalize lf m = B at *
  generalize l.length = n at *
  go_enter Tryd.func35, Tryd.ntmps35
  go_wp2_with fail
  refine (HV.out _ (BA.out _)).mono ?_
  rintro e w' ⟨rfl, rfl⟩
  go_wp2_with fail
  refine (sModulus f _).mono ?_
  rintro e w' ⟨rfl, rfl⟩
  go_wp2_with fail
  go_loopw [7, 10, 11, 12, 13] (fun v i _ _ _ wr => ∃ k : Nat, i = .int .i64 k ∧ k ≤ n ∧ wr.ownsRow w.heap.size 3 1 v k (xsF (fun i => RS (sumN (fun j => if j ≤ i then A j * B (i - j) else -(A j * B (i + n - j))) n) (P f)) k) ∧ Below w.heap.size w wr) (fun _ i _ _ _ _ => n - (intOf i).toNat)
  case atStart => exact ⟨0, rfl, Nat.zero_le _, own_empty w _, BA.out _⟩
  case round =>
    obtain ⟨i, rfl, hin, hown, hnx⟩ := hrel
    have hs := hnx.size
    by_cases h1 : i < n
    · have hd1 : decide ((i : Int) < n) = true := decide_eq_true (by omega)
      have HOWN := Lib.hid hown
      clear hown
      go_wp2_with fail
      go_loopw [11, 12, 13] (fun s j _ W2 => ∃ k : Nat, j = .int .i64 k ∧ k ≤ n ∧ s = .int .i64 (RS (sumN (fun j => if j ≤ i then A j * B (i - j) else -(A j * B (i + n - j))) k) (P f)) ∧ ∃ q, W2 = wr.drewN q) (fun _ j _ _ => n - (intOf j).toNat)
      case atStart => exact ⟨0, rfl, Nat.zero_le _, by simp [sumN, RS], 0, rfl⟩
      case round =>
        obtain ⟨k, rfl, hk, rfl, q, rfl⟩ := hrel
        by_cases h3 : k < n
        · have hd3 : decide ((k : Int) < n) = true := decide_eq_true (by omega)
          have d1 : wr.cell? ⟨b, off + k, none⟩ = some (.int .i64 (A k)) := (hnx.cell (p := ⟨b, off + k, none⟩) hlt).trans (HC.out k h3)
          have hlk : (i + n - k) % n < n := Nat.mod_lt _ (by omega)
          have d2 : wr.cell? ⟨b2, off2 + (i + n - k) % n, none⟩ = some (.int .i64 (B ((i + n - k) % n))) := (hnx.cell (p := ⟨b2, off2 + (i + n - k) % n, none⟩) hlt2).trans (HC2.out _ hlk)
          have bA := HA.out k
          have bB := HB.out ((i + n - k) % n)
          have pb := prod_bd h0 h8 bA.1 bA.2 bB.1 bB.2
          have pr := RS_bd (x := sumN (fun j => if j ≤ i then A j * B (i - j) else -(A j * B (i + n - j))) k) (m := P f) (by omega)
          have HS := Lib.hid (twi_step (f := f) h1 h3 A B)
          have qa : IntKind.i64.wrap ((i : Int) - k) = (i : Int) - k := IntWalk.i64_in _ (by omega)
          have qb : IntKind.i64.wrap ((i : Int) - k + n) = (i : Int) - k + n := IntWalk.i64_in _ (by omega)
          have tm : ((i : Int) - k + n).tmod n = (((i + n - k) % n : Nat) : Int) := by
            rw [show (i : Int) - k + n = (((i + n - k) : Nat) : Int) by omega, Int.tmod_eq_emod_of_nonneg (by omega), Int.natCast_emod]
          have q2 : ((((i + n - k) % n : Nat) : Int)).toNat = (i + n - k) % n := by omega
          have q3 : (0 : Int) ≤ (((i + n - k) % n : Nat) : Int) := by omega
          have q4 : (((i + n - k) % n : Nat) : Int) < n := by omega
          have kz : ((n : Int) == 0) = false := by rw [beq_eq_false_iff_ne]; omega
          have kz2 : ¬ (n : Int) = 0 := by omega
          generalize B ((i + n - k) % n) = Y at *
          generalize (i + n - k) % n = U at *
          have q5 : IntKind.i64.wrap (A k * Y) = A k * Y := IntWalk.i64_in _ (by omega)
          generalize RS (sumN (fun j => if j ≤ i then A j * B (i - j) else -(A j * B (i + n - j))) k) (P f) = X at *
          have XB : 0 ≤ (A k * Y) % P f ∧ (A k * Y) % P f < P f := ⟨Int.emod_nonneg _ (by omega), Int.emod_lt_of_pos _ (by omega)⟩
          by_cases hki : k ≤ i
          · have hdk : decide ((i : Int) < k) = false := decide_eq_false (by omega)
            have HS2 := Lib.hid (HS.out.1 hki)
            clear HS
            go_wp2
            go_quiet (fail)
            go_wp2
            go_roundw
            case rel => exact ⟨k + 1, by go_num, by omega, vint HS2.out, _, rfl⟩
            case measure => simp [intOf]; omega
          · have hdk : decide ((i : Int) < k) = true := decide_eq_true (by omega)
            have HS2 := Lib.hid (HS.out.2 (by omega))
            clear HS
            go_wp2
            go_quiet (fail)
            go_wp2
            go_roundw
            case rel => exact ⟨k + 1, by go_num, by omega, vint HS2.out, _, rfl⟩
            case measure => simp [intOf]; omega
        · have hd3 : decide ((k : Int) < n) = false := decide_eq_false (by omega)
          obtain rfl : k = n := by omega
          have hown : (wr.drewN q).ownsRow w.heap.size 3 1 _ i (xsF (fun i => RS (sumN (fun j => if j ≤ i then A j * B (i - j) else -(A j * B (i + k - j))) k) (P f)) i) := HOWN.out
          have hbq := below_drewN hnx q
          have hqs : (wr.drewN q).heap.size = wr.heap.size := rfl
          go_wp2_with (at_builtin; refine wpList_append_own _ rfl _ _ 24 rfl w.heap.size 3 i0 (.int .i64 0) 1 8 Tryd.underlying24 HI.out HZ0.out HZ1.out HZ2.out rfl (by decide) _ _ _ rfl (hown.alloc _) ⟨(wr.drewN q).heap.size, 0, none⟩ 1 1 [.int .i64 (RS (sumN (fun j => if j ≤ i then A j * B (i - j) else -(A j * B (i + k - j))) k) (P f))] rfl rfl ?d1 ?d2 ?d3 ?d4 ?d5 ?_)
          case d1 => exact cell_one_new _ _ _
          case d2 => intro u hu; simp at hu; subst hu; rfl
          case d3 => unfold maxLen; omega
          case d4 => omega
          case d5 => simp; omega
          intro v' w1 hown' hgrow _
          have hbel : Below w.heap.size w w1 := (hbq.alloc (by omega) _).grown hgrow (by simp; omega) (own_ge hown)
          rw [xsF_succ (fun i => RS (sumN (fun j => if j ≤ i then A j * B (i - j) else -(A j * B (i + k - j))) k) (P f))] at hown'
          clear hgrow hown HOWN
          go_wp2
          go_roundw
          case rel => exact ⟨i + 1, by go_num, by omega, hown', hbel⟩
          case measure => simp [intOf]; omega
    · have hd1 : decide ((i : Int) < n) = false := decide_eq_false (by omega)
      obtain rfl : i = n := by omega
      have HO := Lib.hid (owns_to (w := w) (l := tab i fun t => RS (sumN (fun j => if j ≤ t then A j * B (t - j) else -(A j * B (t + i - j))) i) (P f)) hown (by rw [tab_len]) (fun j hj => by rw [lf_tab, if_pos hj]) hnx)
      clear hown
      go_wp2
      go_ret
      exact HO.out.list
theorem sTwisted (f : Int) (a : Option Addr) (l : List Int) (cap : Nat) (a2 : Option Addr) (m : List Int) (cap2 : Nat) (w : World) (hn : l.length ≤ 1048576) (hn2 : m.length ≤ 1048576) (hs : Src w a l.length (lf l)) (hs2 : Src w a2 m.length (lf m)) : Calls Tryd.prog 35 #[.int .i64 f, .slice a l.length cap, .slice a2 m.length cap2] w (ListL w (mTwisted f l m)) := by
  by_cases h : TwoOk f l m
  · rw [show mTwisted f l m = twiL f l m by unfold mTwisted; rw [if_pos h]]
    exact sTwisted_on f a l cap a2 m cap2 w hn hn2 hs hs2 h
  · rw [show mTwisted f l m = [] by unfold mTwisted; rw [if_neg h]]
    have BA : Hid (∀ o, Below w.heap.size w (w.alloc o)) := Lib.hid fun o => (Below.refl _ _).alloc (Nat.le_refl _) o
    have HV : Hid (∀ w2, Below w.heap.size w w2 → Calls Tryd.prog 74 #[.int .i64 f, .slice a l.length cap, .slice a2 m.length cap2] w2 (SameB w2 false)) := Lib.hid fun w2 hb => by
      have R1 := sTwo f a a2 l m cap cap2 w2 hn hn2 (hs.keep hb) (hs2.keep hb)
      rwa [two_not.2 h] at R1
    clear hs hs2 h
    go_enter Tryd.func35, Tryd.ntmps35
    go_wp2_with fail
    refine (HV.out _ (BA.out _)).mono ?_
    rintro e w' ⟨rfl, rfl⟩
    go_wp2
    go_ret
    exact ⟨none, 0, rfl, .inl rfl, BA.out _⟩
end Go.Proofs.YtoonpnfhcmghmaaDoor
namespace Go.Proofs.YtoonpnfhcmghmaaDoor
open Mth
theorem mod_2 {n x : Nat} (h : n ≤ x) (h2 : x < n + n) : x % n = x - n := by
  rw [Nat.mod_eq_sub_mod h, Nat.mod_eq_of_lt (by omega)]
/-- Within one level: the blocks below B done, and of block B the first j pairs. -/
def stDone (h B j t : Nat) : Prop := t < B * (2 * h) ∨ (t < B * (2 * h) + 2 * h ∧ t % (2 * h) % h < j)
instance (h B j t : Nat) : Decidable (stDone h B j t) := inferInstanceAs (Decidable (_ ∨ _))
def stp (f w : Int) (h d : Nat) (V : Nat → Int) (B j t : Nat) : Int := if stDone h B j t then stgF f w h d V t else V t
theorem stp_start (f w : Int) (h d : Nat) (V : Nat → Int) (t : Nat) : stp f w h d V 0 0 t = V t := if_neg (by unfold stDone; omega)
theorem stp_next (f w : Int) {h : Nat} (d : Nat) (V : Nat → Int) (B t : Nat) (h0 : 0 < h) : stp f w h d V B h t = stp f w h d V (B + 1) 0 t := by
  unfold stp
  have e : stDone h B h t ↔ stDone h (B + 1) 0 t := by
    unfold stDone
    have := Nat.mod_lt (t % (2 * h)) h0
    rw [Nat.add_mul, Nat.one_mul]
    omega
  by_cases h1 : stDone h B h t
  · rw [if_pos h1, if_pos (e.1 h1)]
  · rw [if_neg h1, if_neg fun h2 => h1 (e.2 h2)]
theorem blk_mod {h B r : Nat} (hr : r < 2 * h) : (B * (2 * h) + r) % (2 * h) = r := by
  rw [Nat.add_comm, Nat.add_mul_mod_self_right, Nat.mod_eq_of_lt hr]
theorem stp_low {f w : Int} {h d : Nat} {V : Nat → Int} {B j : Nat} (hj : j < h) : stgF f w h d V (B * (2 * h) + j) = RS (V (B * (2 * h) + j) + RS (V (B * (2 * h) + j + h) * w ^ (j * d)) (P f)) (P f) := by
  unfold stgF
  rw [blk_mod (show j < 2 * h by omega), if_pos hj]
theorem stp_high {f w : Int} {h d : Nat} {V : Nat → Int} {B j : Nat} (hj : j < h) : stgF f w h d V (B * (2 * h) + j + h) = RS (V (B * (2 * h) + j) - RS (V (B * (2 * h) + j + h) * w ^ (j * d)) (P f)) (P f) := by
  unfold stgF
  rw [Nat.add_assoc, blk_mod (show j + h < 2 * h by omega), if_neg (by omega), Nat.add_sub_cancel, ← Nat.add_assoc, Nat.add_sub_cancel]
theorem stDone_step {h B j t : Nat} (hj : j < h) : stDone h B (j + 1) t ↔ stDone h B j t ∨ t = B * (2 * h) + j ∨ t = B * (2 * h) + j + h := by
  unfold stDone
  constructor
  · rintro (h1 | ⟨h1, h2⟩)
    · exact .inl (.inl h1)
    · by_cases h3 : t < B * (2 * h)
      · exact .inl (.inl h3)
      · obtain ⟨r, rfl⟩ : ∃ r, t = B * (2 * h) + r := ⟨t - B * (2 * h), by omega⟩
        have hr : r < 2 * h := by omega
        rw [blk_mod hr] at h2 ⊢
        by_cases h4 : r < h
        · rw [Nat.mod_eq_of_lt h4] at h2 ⊢; omega
        · rw [mod_2 (n := h) (x := r) (by omega) (by omega)] at h2 ⊢; omega
  · rintro ((h1 | ⟨h1, h2⟩) | rfl | rfl)
    · exact .inl h1
    · exact .inr ⟨h1, by omega⟩
    · refine .inr ⟨by omega, ?_⟩
      rw [blk_mod (show j < 2 * h by omega), Nat.mod_eq_of_lt hj]; omega
    · refine .inr ⟨by omega, ?_⟩
      rw [Nat.add_assoc, blk_mod (show j + h < 2 * h by omega), Nat.add_mod_right, Nat.mod_eq_of_lt hj]; omega
theorem stp_step {f w : Int} {h d : Nat} {V : Nat → Int} {B j : Nat} (hj : j < h) (t : Nat) :
    (if t = B * (2 * h) + j + h then stgF f w h d V (B * (2 * h) + j + h) else if t = B * (2 * h) + j then stgF f w h d V (B * (2 * h) + j) else stp f w h d V B j t) = stp f w h d V B (j + 1) t := by
  have e := stDone_step (B := B) (t := t) hj
  unfold stp
  by_cases h1 : t = B * (2 * h) + j + h
  · rw [if_pos h1, if_pos (e.2 (.inr (.inr h1))), h1]
  · rw [if_neg h1]
    by_cases h2 : t = B * (2 * h) + j
    · rw [if_pos h2, if_pos (e.2 (.inr (.inl h2))), h2]
    · rw [if_neg h2]
      by_cases h3 : stDone h B j t
      · rw [if_pos h3, if_pos (e.2 (.inl h3))]
      · rw [if_neg h3, if_neg fun h4 => by rcases e.1 h4 with h5 | h5 | h5 <;> contradiction]
/-- What is read within a level has not been written yet. -/
theorem stp_read {f w : Int} {h d : Nat} {V : Nat → Int} {B j : Nat} (hj : j < h) : stp f w h d V B j (B * (2 * h) + j) = V (B * (2 * h) + j) ∧ stp f w h d V B j (B * (2 * h) + j + h) = V (B * (2 * h) + j + h) := by
  constructor
  · refine if_neg fun hd => ?_
    rcases hd with h1 | ⟨_, h1⟩
    · omega
    · rw [blk_mod (show j < 2 * h by omega), Nat.mod_eq_of_lt hj] at h1; omega
  · refine if_neg fun hd => ?_
    rcases hd with h1 | ⟨_, h1⟩
    · omega
    · rw [Nat.add_assoc, blk_mod (show j + h < 2 * h by omega), Nat.add_mod_right, Nat.mod_eq_of_lt hj] at h1; omega
theorem stp_end {f w : Int} {h d n B : Nat} (hn : n = B * (2 * h)) (V : Nat → Int) {t : Nat} (ht : t < n) : stp f w h d V B 0 t = stgF f w h d V t := if_pos (.inl (by omega))
/-- The list of a level is a vector. -/
theorem stgF_bd {f w : Int} {h d : Nat} {V : Nat → Int} (hp : 0 < P f) (t : Nat) : 0 ≤ stgF f w h d V t ∧ stgF f w h d V t < P f := by
  unfold stgF
  split <;> exact RS_bd hp
theorem VecOk.stg {f : Int} {l : List Int} (h : VecOk f l) (s : Nat) : VecOk f (stgL f l s) := h.tab rfl _ fun _ _ => stgF_bd (P_pos h.f08.1 h.f08.2) _
theorem stgL_len (f : Int) (l : List Int) (s : Nat) : (stgL f l s).length = l.length := tab_len _ _
theorem pow_half {k s : Nat} (h : s < k) : 2 ^ k = 2 ^ (k - s - 1) * (2 * 2 ^ s) := by
  have : k = k - s - 1 + (s + 1) := by omega
  conv => lhs; rw [this]
  rw [Nat.pow_add, Nat.pow_succ, Nat.mul_comm (2 ^ s) 2]
/-- One level of the list. -/
theorem stage_lev {f : Int} {l : List Int} {k s : Nat} {X : Nat → Int} (h : VecOk f l) (hk : l.length = 2 ^ k) (hs : s < k) (hl : Lev f (rootL f l) k s X (lf l)) : Lev f (rootL f l) k (s + 1) X (lf (stgL f l s)) := by
  have hr := h.rt
  rw [hk] at hr
  have g0 : 0 < 2 ^ s := Nat.pow_pos (by omega)
  have ed : l.length / (2 * 2 ^ s) = 2 ^ (k - s - 1) := by rw [hk, pow_half hs, Nat.mul_div_cancel _ (by omega)]
  have e2 : (2 : Nat) ^ (s + 1) = 2 * 2 ^ s := by rw [Nat.pow_succ, Nat.mul_comm]
  have hin : ∀ b t, b < 2 ^ (k - s - 1) → t < 2 ^ s → b * (2 * 2 ^ s) + t + 2 ^ s < l.length := fun b t hb ht => by
    rw [hk, pow_half hs]
    have := Nat.mul_le_mul_right (2 * 2 ^ s) (show b + 1 ≤ 2 ^ (k - s - 1) by omega)
    rw [Nat.add_mul, Nat.one_mul] at this
    omega
  have key : ∀ t, t < l.length → lf (stgL f l s) t = stgF f (rootL f l) (2 ^ s) (2 ^ (k - s - 1)) (lf l) t := fun t ht => by
    unfold stgL
    rw [lf_tab, if_pos ht, ed]
  refine hl.step hr hs (fun b t hb ht => ?_) (fun b t hb ht => ?_)
  · rw [e2, key _ (by have := hin b t hb ht; omega), stp_low ht]
    unfold RS
    rw [Int.emod_emod_of_dvd _ (Int.dvd_refl _)]
    exact emod_add_congr rfl (Int.emod_emod_of_dvd _ (Int.dvd_refl _))
  · rw [e2, key _ (hin b t hb ht), stp_high ht]
    unfold RS
    rw [Int.emod_emod_of_dvd _ (Int.dvd_refl _)]
    exact emod_sub_congr rfl (Int.emod_emod_of_dvd _ (Int.dvd_refl _))
/-- A vector that has gone through all levels is the transform. -/
theorem lev_fwd {f : Int} {l v : List Int} {k : Nat} (_h : VecOk f l) (hv : VecOk f v) (hk : l.length = 2 ^ k) (hl : v.length = l.length) (hlev : Lev f (rootL f l) k k (lf l) (lf v)) : v = fwdL f l := by
  refine list_ext (by rw [fwdL_len, hl]) fun i hi => ?_
  rw [hl] at hi
  have := hlev.last (t := i) (by omega)
  rw [lf_fwdL hi, hk, ← this]
  have b := hv.lt i
  rw [Int.emod_eq_of_lt b.1 b.2]
end Go.Proofs.YtoonpnfhcmghmaaDoor
namespace Go.Proofs.YtoonpnfhcmghmaaDoor
open Go.RowKit
theorem OwnV.grown {g : Nat} {w w' : World} {g2 n cap : Nat} {F : Nat → Int} (h : OwnV w g2 n cap F) (hg : w.grownBy w' (some g)) (hne : g2 ≠ g) : OwnV w' g2 n cap F := by
  obtain ⟨V, h1, h2, h3⟩ := h
  have hlt := OwnV.lt ⟨V, h1, h2, h3⟩
  exact ⟨V, World.rowIs.of_block h1 (hg.block g2 hlt (fun e => by injection e with e; exact hne e)), h2, h3⟩
/-- A drawn list, whose row may still be written. -/
def ZVal (g : Nat) (w : World) (n : Nat) (v : Value) (w' : World) : Prop := ∃ l : List Int, l.length ≤ n ∧ (∃ B, g < B ∧ w.heap.size ≤ B ∧ w'.ownsRow B 3 1 v l.length (xsF (lf l) l.length)) ∧ Cur g w' ∧ w.grownBy w' (some g)
theorem ZVal.of {g : Nat} {w w' : World} {n : Nat} {v : Value} (hB : g < w.heap.size) (h : ZAt g w w' v n) : ZVal g w n v w' := by
  obtain ⟨⟨F, ho⟩, hc, hg, hs⟩ := h
  exact ⟨tab n F, by rw [tab_len]; exact Nat.le_refl _, ⟨w.heap.size, hB, Nat.le_refl _, owns_to_tab ho⟩, hc, hg⟩
theorem ZVal.grown {g : Nat} {w w1 w2 : World} {n : Nat} {v : Value} (h : ZVal g w n v w1) (hg : w1.grownBy w2 (some g)) (hc : Cur g w2) : ZVal g w n v w2 := by
  obtain ⟨l, hl, ⟨B, hB, hB2, ho⟩, _, hg1⟩ := h
  exact ⟨l, hl, ⟨B, hB, hB2, ho.kept hg (zown_ne hB ho)⟩, hc, hg1.trans hg⟩
theorem ZVal.pol {g : Nat} {w w1 : World} {n : Nat} {v : Value} (h : ZVal g w n v w1) : ZPol g w n (.returned v) w1 := by
  obtain ⟨l, hl, ⟨B, hB, hB2, ho⟩, hc, hg⟩ := h
  obtain ⟨a, cap, rfl, hcap, hs⟩ := SrcO.of ho hB
  exact ⟨l, a, cap, rfl, hl, hcap, hs, hc, hg⟩
/-- The value is a slice: empty, or a row that can be written. -/
theorem ZVal.cases {g : Nat} {w w1 : World} {n : Nat} {v : Value} (h : ZVal g w n v w1) : ∃ (l : List Int) (a : Option Addr) (cap : Nat), v = .slice a l.length cap ∧ l.length ≤ n ∧ (l.length = 0 ∨ ∃ g2, a = some ⟨g2, 0, none⟩ ∧ g2 ≠ g ∧ w.heap.size ≤ g2 ∧ OwnV w1 g2 l.length cap (lf l)) := by
  obtain ⟨l, hl, ⟨B, hB, hB2, ho⟩, hc, hg⟩ := h
  by_cases hz : l.length = 0
  · obtain ⟨a, cap, rfl, hcap, hs⟩ := SrcO.of ho hB
    exact ⟨l, a, cap, rfl, hl, .inl hz⟩
  · obtain ⟨g2, cap, rfl, hg2, ho2⟩ := OwnV.of_owns ho hz
    exact ⟨l, _, cap, rfl, hl, .inr ⟨g2, rfl, by omega, by omega, ho2⟩⟩
end Go.Proofs.YtoonpnfhcmghmaaDoor
namespace Go.Proofs.YtoonpnfhcmghmaaDoor
open Go.RowKit
theorem shl_cast {k : Nat} (h : k ≤ 9) : wrap64 (2 ^ k) = ((2 ^ k : Nat) : Int) ∧ 0 < 2 ^ k ∧ 2 ^ k ≤ 512 := by
  have : 2 ^ k ≤ 2 ^ 9 := Nat.pow_le_pow_right (by omega) h
  refine ⟨?_, Nat.pow_pos (by omega), by omega⟩
  rw [shl_nat (by omega)]
  unfold two
  rw [Int.toNat_natCast, Int.natCast_pow]
  rfl
/-- After one number of the row has been written anew. -/
theorem zpol_put {g : Nat} {w w1 w2 : World} {N n k g2 cap : Nat} {F : Nat → Int} {y : Int} (hn : n ≤ N) (hne : g2 ≠ g) (h2 : w.heap.size ≤ g2) (ho : OwnV w1 g2 n cap F) (hg : w.grownBy w1 (some g)) (g3 : w1.grownBy w2 (some g)) (hc : Cur g w2) (hgl : g < w.heap.size) :
    ZPol g w N (.returned (.slice (some ⟨g2, 0, none⟩) n cap)) (w2.setCell ⟨g2, k, none⟩ (.int .i64 y)) := by
  have ho2 := ho.grown g3 hne
  have ho3 := OwnV.set (s := k) (x := y) ho2
  have hcap : n ≤ cap := by obtain ⟨_, _, h, _⟩ := ho; exact h
  have hg3 : w.grownBy w2 (some g) := hg.trans g3
  have hset : w2.grownBy (w2.setCell ⟨g2, k, none⟩ (.int .i64 y)) (some g2) := grown_set (World.grownBy.refl _ _) _ _
  refine ⟨tab n (upd F k y), some ⟨g2, 0, none⟩, cap, by rw [tab_len], by rw [tab_len]; exact hn, by rw [tab_len]; exact hcap, ?_, ?_, ?_⟩
  · rw [tab_len]
    refine .inr ⟨g2, 0, rfl, hne, ho3.lt, fun j hj => ?_⟩
    rw [Nat.zero_add, ho3.cell hj, lf_tab, if_pos hj]
  · exact hc.other hset (fun r hr => by injection hr with hr; omega)
  · exact grown_new hg3 hset (fun r hr => by injection hr with hr; omega)
/-- The row that was drawn, in a world whose cursor has gone on. -/
def ZKeep (g : Nat) (w w1 : World) (g2 n cap : Nat) (F : Nat → Int) : Prop := w1.ownsRow w.heap.size 3 1 (.slice (some ⟨g2, 0, none⟩) n cap) n (xsF F n) ∧ OwnV w1 g2 n cap F ∧ g2 ≠ g ∧ w.heap.size ≤ g2 ∧ Cur g w1 ∧ w.grownBy w1 (some g)
theorem ZKeep.of {g : Nat} {w w1 : World} {n : Nat} {v : Value} (hB : g < w.heap.size) (hn : n ≠ 0) (h : ZAt g w w1 v n) : ∃ g2 cap F, v = .slice (some ⟨g2, 0, none⟩) n cap ∧ ZKeep g w w1 g2 n cap F := by
  obtain ⟨⟨F, ho⟩, hc, hg, hs⟩ := h
  obtain ⟨g2, cap, rfl, hg2, hov⟩ := OwnV.of_owns ho hn
  exact ⟨g2, cap, F, rfl, ho, hov, by omega, hg2, hc, hg⟩
theorem ZKeep.grown {g : Nat} {w w1 w2 : World} {g2 n cap : Nat} {F : Nat → Int} (h : ZKeep g w w1 g2 n cap F) (hg : w1.grownBy w2 (some g)) (hc : Cur g w2) : ZKeep g w w2 g2 n cap F := by
  obtain ⟨ho, hov, hne, h2, _, hgw⟩ := h
  exact ⟨ho.kept hg (.inr (fun e => by injection e with e; exact hne e)), hov.grown hg hne, hne, h2, hc, hgw.trans hg⟩
theorem ZKeep.pol {g : Nat} {w w1 : World} {g2 n cap N : Nat} {F : Nat → Int} (h : ZKeep g w w1 g2 n cap F) (hn : n ≤ N) : ZPol g w N (.returned (.slice (some ⟨g2, 0, none⟩) n cap)) w1 := by
  obtain ⟨ho, hov, hne, h2, hc, hgw⟩ := h
  have hcap : n ≤ cap := by obtain ⟨_, _, h, _⟩ := hov; exact h
  refine ⟨tab n F, some ⟨g2, 0, none⟩, cap, by rw [tab_len], by rw [tab_len]; exact hn, by rw [tab_len]; exact hcap, ?_, hc, hgw⟩
  rw [tab_len]
  refine .inr ⟨g2, 0, rfl, hne, hov.lt, fun j hj => ?_⟩
  rw [Nat.zero_add, hov.cell hj, lf_tab, if_pos hj]
theorem zpol_more {g : Nat} {w w1 w2 : World} {g2 n cap N : Nat} {F : Nat → Int} {v' : Value} {x : Int} {o : Obj} (hB : g < w.heap.size) (h : ZKeep g w w1 g2 n cap F) (hn : n + 1 ≤ N) (hown' : w2.ownsRow w.heap.size 3 1 v' (n + 1) (xsF F n ++ [.int .i64 x])) (hgrow : (w1.alloc o).grownBy w2 (Value.slice (some ⟨g2, 0, none⟩) n cap).ownBlock) : ZPol g w N (.returned v') w2 := by
  have hz := zdraw_step hB h.2.2.2.2.2 h.2.2.2.2.1 h.1 hown' hgrow
  obtain ⟨l, a, cap2, e, h1, h2, h3, h4, h5⟩ := (ZVal.of hB hz).pol
  exact ⟨l, a, cap2, e, by omega, h2, h3, h4, h5⟩
theorem lower_own {w : World} {B B' : Nat} {v : Value} {n : Nat} {xs : List Value} (h : w.ownsRow B 3 1 v n xs) (hB : B' ≤ B) : w.ownsRow B' 3 1 v n xs := by
  obtain ⟨h1, h2⟩ := h
  refine ⟨h1, h2.imp id ?_⟩
  rintro ⟨g, cap, cur, e, hg, hr⟩
  exact ⟨g, cap, cur, e, Nat.le_trans hB hg, hr⟩
set_option maxRecDepth 100000 in
set_option maxHeartbeats 6400000 in
theorem drawVector_c (g : Nat) (f : Int) (a : Option Addr) (len cap : Nat) (w : World) (hc : Cur g w) (_hl : len ≤ 1048576) : Calls Tryd.prog 98 #[.pointer (some ⟨g, 0, none⟩), .int .i64 f, .slice a len cap] w (ZPol g w 513) := by
  have hB : g < w.heap.size := hc.lt
  obtain ⟨i0, hi, hz0, hz1, hz2⟩ := info_parts info3
  have HI := Lib.hid hi
  have HZ0 := Lib.hid hz0
  have HZ1 := Lib.hid hz1
  have HZ2 := Lib.hid hz2
  clear hi hz0 hz1 hz2
  have hT := T_le f
  go_enter Tryd.func98, Tryd.ntmps98
  go_upto_block 0 with fail
  go_cut [7] from 10 (fun i wc => ∃ k : Nat, i = .int .i64 k ∧ k ≤ 8 ∧ w = wc)
  case first =>
    go_wp2_with fail
    go_loopw [7] (fun i wr => ∃ k : Nat, i = .int .i64 k ∧ k ≤ 8 ∧ w = wr) (fun i _ => 8 - (intOf i).toNat)
    case atStart => exact ⟨0, rfl, by omega, rfl⟩
    case round =>
      obtain ⟨k, rfl, hk, rfl⟩ := hrel
      by_cases h8 : k < 8
      · have hkk : (k : Int) < 8 := by omega
        have hd8 : decide ((k : Int) < 8) = true := decide_eq_true (by omega)
        by_cases hq : wrap64 (4 * 2 ^ k) < (len : Int)
        · have hdq : decide (wrap64 (4 * 2 ^ k) < (len : Int)) = true := decide_eq_true hq
          go_wp2
          go_roundw
          case rel => exact ⟨k + 1, by go_num, by omega, by trivial⟩
          case measure => simp [intOf]; omega
        · have hdq : decide (wrap64 (4 * 2 ^ k) < (len : Int)) = false := decide_eq_false hq
          go_wp2
          go_meet
          case rel => exact ⟨k, rfl, by omega, rfl⟩
      · obtain rfl : k = 8 := by omega
        go_wp2
        go_meet
        case rel => exact ⟨8, rfl, by omega, rfl⟩
  case rest =>
    obtain ⟨k0, rfl, hk0, rfl⟩ := hcut
    go_wp2_with fail
    refine (below_c g ((k0 : Int) + 2) w hc (by omega) (by omega)).mono ?_
    rintro e w2 ⟨x, ⟨x0, x1⟩, rfl, g2, c2⟩
    obtain ⟨x, rfl⟩ := Int.eq_ofNat_of_zero_le x0
    have hx9 : x ≤ 9 := by omega
    clear x0 x1 hk0
    go_wp2_with fail
    refine (sTwoPower f w2).mono ?_
    rintro e w' ⟨rfl, rfl⟩
    go_upto_region 6 with fail
    go_cut [34] from 28 (fun s wd => ∃ b6 : Bool, s = .bool b6 ∧ (b6 = true → 0 ≤ T f ∧ T f < x) ∧ w2 = wd)
    case first =>
      by_cases h1 : 0 ≤ T f
      · have d1 : decide (0 ≤ T f) = true := decide_eq_true h1
        by_cases h2 : T f < x
        · have d2 : decide (T f < (x : Int)) = true := decide_eq_true h2
          go_wp2
          go_meet
          case rel => exact ⟨true, rfl, fun _ => ⟨h1, h2⟩, rfl⟩
        · have d2 : decide (T f < (x : Int)) = false := decide_eq_false h2
          go_wp2
          go_meet
          case rel => exact ⟨false, rfl, (fun h => by cases h), rfl⟩
      · have d1 : decide (0 ≤ T f) = false := decide_eq_false h1
        go_wp2
        go_meet
        case rel => exact ⟨false, rfl, (fun h => by cases h), rfl⟩
    case rest =>
      obtain ⟨b6, rfl, hb6, rfl⟩ := hcut
      go_upto_if 34 with fail
      go_cut [7] from 28 (fun s wd => ∃ k : Nat, s = .int .i64 k ∧ k ≤ 9 ∧ w2 = wd)
      case first =>
        cases b6
        · go_wp2
          go_meet
          case rel => exact ⟨x, rfl, hx9, rfl⟩
        · obtain ⟨h1, h2⟩ := hb6 rfl
          go_wp2
          go_meet
          case rel => exact ⟨(T f).toNat, vint (by omega), by omega, rfl⟩
      case rest =>
        obtain ⟨k1, rfl, hk1, rfl⟩ := hcut
        clear hb6 hx9
        go_wp2_with fail
        refine (once_c g 25 w2 c2 (by omega) (by omega)).mono ?_
        rintro e w3 ⟨b3, rfl, g3, c3⟩
        have g3w := g2.trans g3
        clear g2 g3 c2
        go_upto_if 37 with fail
        go_cut [7] from 28 (fun s w5 => ∃ k : Nat, s = .int .i64 k ∧ k ≤ 9 ∧ Cur g w5 ∧ w.grownBy w5 (some g))
        case first =>
          cases b3
          · go_wp2
            go_meet
            case rel => exact ⟨k1, rfl, hk1, c3, g3w⟩
          · go_wp2_with fail
            refine (pick_c (fun n => 0 ≤ n ∧ n ≤ 9) g w3.heap.size 3 3 _ (c3.alloc _) (by omega) (by omega) (ints_alloc _ c3.lt #[.int .i64 0, .int .i64 5, .int .i64 9] 3 (fun j hj => by
              have h3 : j = 0 ∨ j = 1 ∨ j = 2 := by have : j < 3 := hj; omega
              rcases h3 with rfl | rfl | rfl <;> exact ⟨_, rfl, by omega⟩))).mono ?_
            rintro e w4 ⟨z, ⟨z0, z9⟩, rfl, g4, c4⟩
            obtain ⟨z, rfl⟩ := Int.eq_ofNat_of_zero_le z0
            have g4w := g3w.trans ((World.grownBy_alloc w3 _ (some g)).trans g4)
            go_wp2
            go_meet
            case rel => exact ⟨z, rfl, by omega, c4, g4w⟩
        case rest =>
          obtain ⟨k, rfl, hk, c5, g5⟩ := hcut
          obtain ⟨w5, rfl⟩ : ∃ w5, w5 = wc := ⟨wc, rfl⟩
          obtain ⟨e2, p0, p5⟩ := shl_cast (k := k) (by omega)
          have HE2 := Lib.hid e2
          clear e2
          go_wp2_with fail
          rw [HE2.out]
          generalize 2 ^ k = n at *
          refine (drawList_c g f n w5 c5 (by omega)).mono ?_
          rintro e w6 ⟨v6, rfl, hz6⟩
          obtain ⟨g2, cap2, F, rfl, hk6⟩ := ZKeep.of c5.lt (by omega) hz6
          have HK6 : Hid (ZKeep g w w6 g2 n cap2 F) := Lib.hid ⟨by exact lower_own hk6.1 g5.size, hk6.2.1, hk6.2.2.1, Nat.le_trans g5.size hk6.2.2.2.1, hk6.2.2.2.2.1, g5.trans hk6.2.2.2.2.2⟩
          have c6 := hk6.2.2.2.2.1
          clear hz6 hk6 c5 g5 HE2
          go_wp2_with fail
          refine (once_c g 12 w6 c6 (by omega) (by omega)).mono ?_
          rintro e w7 ⟨b7, rfl, g7, c7⟩
          have HK7 := Lib.hid (HK6.out.grown g7 c7)
          clear HK6 g7 c6
          cases b7
          · go_wp2
            go_ret
            exact HK7.out.pol (by omega)
          · go_wp2_with fail
            refine (below_c g 3 w7 c7 (by omega) (by omega)).mono ?_
            rintro e w8 ⟨u, ⟨u0, u1⟩, rfl, g8, c8⟩
            have HK8 := Lib.hid (HK7.out.grown g8 c8)
            clear HK7 g8 c7
            by_cases hu0 : u = 0
            · subst hu0
              have hown8 := HK8.out.1
              have hs8 : w.heap.size ≤ w8.heap.size := HK8.out.2.2.2.2.2.size
              go_wp2_with (at_builtin; refine wpList_append_own _ rfl _ _ 24 rfl w.heap.size 3 i0 (.int .i64 0) 1 8 Tryd.underlying24 HI.out HZ0.out HZ1.out HZ2.out rfl (by decide) _ _ _ rfl (hown8.alloc _) ⟨w8.heap.size, 0, none⟩ 1 1 [.int .i64 (0)] rfl rfl ?c1 ?c2 ?c3 ?c4 ?c5 ?_)
              case c1 => exact cell_one_new _ _ _
              case c2 => intro u hu; simp at hu; subst hu; rfl
              case c3 => unfold maxLen; omega
              case c4 => omega
              case c5 => simp; omega
              intro v' w9 hown' hgrow _
              have HF := Lib.hid (zpol_more (N := 513) hB HK8.out (by omega) hown' hgrow)
              clear hown' hgrow hown8 HK8
              go_wp2
              go_ret
              exact HF.out
            · have hb0 : (u == 0) = false := by simpa using hu0
              by_cases hu1 : u = 1
              · subst hu1
                go_wp2_with fail
                refine (below_c g n w8 c8 (by omega) (by omega)).mono ?_
                rintro e w9 ⟨t, ⟨t0, t1⟩, rfl, g9, c9⟩
                obtain ⟨t, rfl⟩ := Int.eq_ofNat_of_zero_le t0
                have HK9 := Lib.hid (HK8.out.grown g9 c9)
                clear HK8 g9 c8
                go_wp2_with fail
                refine (sModulus f w9).mono ?_
                rintro e w' ⟨rfl, rfl⟩
                go_wp2_with fail
                refine (pick_c (fun _ => True) g w9.heap.size 2 2 _ (c9.alloc _) (by omega) (by omega) (ints_alloc (fun _ => True) c9.lt #[.int .i64 (-1), .int .i64 (P f)] 3 (fun j hj => by
                  have h3 : j = 0 ∨ j = 1 := by have : j < 2 := hj; omega
                  rcases h3 with rfl | rfl <;> exact ⟨_, rfl, trivial⟩))).mono ?_
                rintro e w10 ⟨y, _, rfl, g10, c10⟩
                have g10' := (World.grownBy_alloc w9 _ (some g)).trans g10
                have HO10 := Lib.hid (HK9.out.2.1.grown g10' HK9.out.2.2.1)
                have cc := HO10.out.cell (show t < n by omega)
                have fr := HO10.out.frozen t
                have tn : (t : Int) < (n : Int) := t1
                have HF : Hid (ZPol g w 513 (.returned (.slice (some ⟨g2, 0, none⟩) n cap2)) (w10.setCell ⟨g2, t, none⟩ (.int .i64 y))) := Lib.hid (zpol_put (by omega) HK9.out.2.2.1 HK9.out.2.2.2.1 HK9.out.2.1 HK9.out.2.2.2.2.2 g10' c10 hB)
                clear HK9 g10' g10
                go_wp2
                go_ret
                exact HF.out
              · have hb1 : (u == 1) = false := by simpa using hu1
                obtain rfl : u = 2 := by omega
                have HF : Hid (ZPol g w 513 (.returned (.slice none 0 0)) w8) := Lib.hid ⟨[], none, 0, rfl, by simp, by simp, .inl rfl, c8, HK8.out.2.2.2.2.2⟩
                clear HK8
                go_wp2
                go_ret
                exact HF.out
def Draw1L (N : Nat) (w : World) (e : Ending) (w' : World) : Prop := ∃ (f : Int) (a : Option Addr) (l : List Int) (cap : Nat),
  e = .returned (.tuple #[.int .i64 f, .slice a l.length cap]) ∧ l.length ≤ N ∧ Src w' a l.length (lf l) ∧ Below w.heap.size w w'
def DrawLI (N : Nat) (w : World) (e : Ending) (w' : World) : Prop := ∃ (f : Int) (a : Option Addr) (l : List Int) (cap : Nat) (r : Int),
  e = .returned (.tuple #[.int .i64 f, .slice a l.length cap, .int .i64 r]) ∧ l.length ≤ N ∧ Src w' a l.length (lf l) ∧ Below w.heap.size w w'
end Go.Proofs.YtoonpnfhcmghmaaDoor
namespace Go.Proofs.YtoonpnfhcmghmaaDoor
/-- An odd number to the 2^k is 1 modulo 2^(k+1). -/
theorem odd_pow {b : Nat} (hb : b % 2 = 1) : ∀ k : Nat, ∃ q, b ^ (2 ^ k) = 1 + 2 ^ (k + 1) * q
  | 0 => ⟨b / 2, by rw [Nat.pow_zero, Nat.pow_one, Nat.zero_add, Nat.pow_one]; omega⟩
  | k + 1 => by
    obtain ⟨q, hq⟩ := odd_pow hb k
    refine ⟨q + 2 ^ k * (q * q), ?_⟩
    rw [Nat.pow_succ 2 k, Nat.pow_mul, hq]
    have e2 : 2 ^ (k + 1 + 1) = 4 * 2 ^ k := by rw [Nat.pow_succ, Nat.pow_succ]; omega
    have e1 : 2 ^ (k + 1) = 2 * 2 ^ k := by rw [Nat.pow_succ]; omega
    rw [e1, e2]
    generalize 2 ^ k = h
    rw [Nat.pow_two]
    simp only [Nat.add_mul, Nat.mul_add, Nat.one_mul, Nat.mul_one]
    have e3 : 2 * h * q * (2 * h * q) = 4 * h * (h * (q * q)) := by
      simp only [Nat.mul_assoc, Nat.mul_left_comm, Nat.mul_comm]
    rw [e3]
    have e4 : 4 * h * q = 2 * h * q + 2 * h * q := by rw [← Nat.add_mul]; congr 1; omega
    rw [e4]
    omega
theorem mul_self_inv {b k : Nat} (hb : b % 2 = 1) : b * b ^ (2 ^ k - 1) % (2 * 2 ^ k) = 1 := by
  obtain ⟨q, hq⟩ := odd_pow hb k
  have h0 : 0 < 2 ^ k := Nat.pow_pos (by omega)
  have e : b * b ^ (2 ^ k - 1) = b ^ (2 ^ k) := by
    rw [Nat.mul_comm, ← Nat.pow_succ]
    congr 1
    omega
  rw [e, hq, Nat.pow_succ, Nat.mul_comm (2 ^ k) 2, Nat.add_mul_mod_self_left]
  exact Nat.mod_eq_of_lt (by omega)
/-- The sequence that goes on behind n with its sign turned. -/
def sgF (n : Nat) (A : Nat → Int) (e : Nat) : Int := if e % (2 * n) < n then A (e % (2 * n)) else - A (e % (2 * n) - n)
theorem sg_low {n e : Nat} (A : Nat → Int) (h : e < n) : sgF n A e = A e := by
  unfold sgF
  rw [Nat.mod_eq_of_lt (by omega), if_pos h]
theorem sg_mod (n : Nat) (A : Nat → Int) (e : Nat) : sgF n A (e % (2 * n)) = sgF n A e := by
  unfold sgF
  rw [Nat.mod_mod]
theorem sg_congr {n : Nat} {A : Nat → Int} {e d : Nat} (h : e % (2 * n) = d % (2 * n)) : sgF n A e = sgF n A d := by
  rw [← sg_mod n A e, ← sg_mod n A d, h]
theorem sg_turn {n : Nat} (hn : 0 < n) (A : Nat → Int) (e : Nat) : sgF n A (e + n) = - sgF n A e := by
  have h : (e + n) % (2 * n) = if e % (2 * n) < n then e % (2 * n) + n else e % (2 * n) - n := by
    have hr : e % (2 * n) < 2 * n := Nat.mod_lt _ (by omega)
    have hd := Nat.div_add_mod e (2 * n)
    generalize e % (2 * n) = r at *
    generalize e / (2 * n) = q at *
    subst hd
    by_cases h : r < n
    · rw [if_pos h, Nat.add_assoc, Nat.mul_add_mod, Nat.mod_eq_of_lt (by omega)]
    · rw [if_neg h, show 2 * n * q + r + n = 2 * n * (q + 1) + (r - n) by rw [Nat.mul_add]; omega, Nat.mul_add_mod, Nat.mod_eq_of_lt (by omega)]
  have hr : e % (2 * n) < 2 * n := Nat.mod_lt _ (by omega)
  unfold sgF
  rw [h]
  by_cases h1 : e % (2 * n) < n
  · rw [if_pos h1, if_pos h1, if_neg (by omega), Nat.add_sub_cancel]
  · rw [if_neg h1, if_neg h1, if_pos (by omega), Int.neg_neg]
/-- The exponent's inverse carries an index's image back: what lies at t comes from t times the inverse. -/
theorem sg_image {n b c : Nat} (_hn : 0 < n) (hbc : b * c % (2 * n) = 1) (A : Nat → Int) {i : Nat} (hi : i < n) : sgF n A (i * b % (2 * n) * c) = A i := by
  rw [sg_congr (d := i), sg_low A hi]
  have h1 : i * b % (2 * n) * c % (2 * n) = i * (b * c) % (2 * n) := by
    rw [Nat.mod_mul_mod, Nat.mul_assoc]
  rw [h1, Nat.mul_mod, hbc, Nat.mul_one, Nat.mod_mod]
/-- A sum over the images of a permutation. -/
theorem sumN_perm (F : Nat → Int) {n : Nat} (p q : Nat → Nat) (hp : ∀ j, j < n → p j < n) (hq : ∀ t, t < n → q t < n) (h1 : ∀ j, j < n → q (p j) = j) (h2 : ∀ t, t < n → p (q t) = t) : sumN (fun j => F (p j)) n = sumN F n := by
  have e1 : sumN (fun j => F (p j)) n = sumN (fun j => sumN (fun t => if t = p j then F t else 0) n) n := sumN_congr fun j hj => by rw [sumN_single, if_pos (hp j hj)]
  rw [e1, sumN_swap]
  refine sumN_congr fun t ht => ?_
  have e2 : sumN (fun j => if t = p j then F t else 0) n = sumN (fun j => if j = q t then F t else 0) n := sumN_congr fun j hj => by
    by_cases h : t = p j
    · rw [if_pos h, if_pos (by rw [h, h1 j hj])]
    · rw [if_neg h, if_neg (fun e => h (by rw [e, h2 t ht]))]
  rw [e2, sumN_single (fun _ => F t), if_pos (hq t ht)]
theorem sg_more {n : Nat} (A : Nat → Int) (e k : Nat) : sgF n A (e + 2 * n * k) = sgF n A e := sg_congr (by rw [Nat.add_mul_mod_self_left])
end Go.Proofs.YtoonpnfhcmghmaaDoor
namespace Go.Proofs.YtoonpnfhcmghmaaDoor
open Mth
theorem sq_pow (z : Int) (m : Nat) : (z * z) ^ m = z ^ (2 * m) := by rw [Int.pow_mul, show z ^ 2 = z * z by rw [Int.pow_succ, Int.pow_succ, Int.pow_zero, Int.one_mul]]
/-- The square of a root of order 2 n is one of order n. -/
theorem Rt.sq {f z v : Int} {n : Nat} (h : Rt f z v (2 * n)) (hn : 0 < n) : Rt f (z * z) (v * v) n := by
  refine ⟨h.h0, h.h8, hn, fun m => ?_, ?_⟩
  · have e : (z * z) ^ m = z ^ (2 * m) := by rw [Int.pow_mul, show z ^ 2 = z * z by rw [Int.pow_succ, Int.pow_succ, Int.pow_zero, Int.one_mul]]
    rw [e, h.ord]
    constructor
    · rintro ⟨q, hq⟩
      rw [Nat.mul_assoc] at hq
      exact ⟨q, by omega⟩
    · rintro ⟨q, hq⟩
      exact ⟨q, by rw [hq, Nat.mul_assoc]⟩
  · have e : z * z * (v * v) = (z * v) * (z * v) := by
      simp only [Int.mul_left_comm, Int.mul_comm]
    rw [e, emod_mul_congr h.inv h.inv, Int.mul_one]
/-- To the n it is -1. -/
theorem Rt.half2 {f z v : Int} {n : Nat} (h : Rt f z v (2 * n)) (hn : 0 < n) : z ^ n % P f = (-1) % P f := by
  refine Classical.byContradiction fun hs => ?_
  have h1 : (z ^ n - 1) % P f ≠ 0 := fun e => by
    have e2 : z ^ n % P f = 1 % P f := by
      have := emod_add_congr (p := P f) (a := z ^ n - 1) (b := 0) (c := 1) (d := 1) (by rw [e]; simp) rfl
      rwa [Int.sub_add_cancel, Int.zero_add] at this
    have := Nat.le_of_dvd hn ((h.ord n).1 e2)
    omega
  have h2 : (z ^ n + 1) % P f ≠ 0 := fun e => hs (by
    have := emod_add_congr (p := P f) (a := z ^ n + 1) (b := 0) (c := -1) (d := -1) (by rw [e]; simp) rfl
    rwa [Int.add_neg_cancel_right, Int.zero_add] at this)
  have h3 := mul_nz h.h0 h.h8 h1 h2
  have e3 : (z ^ n - 1) * (z ^ n + 1) = z ^ (2 * n) - 1 := by
    rw [Nat.mul_comm, Int.pow_mul, show (z ^ n) ^ 2 = z ^ n * z ^ n by rw [Int.pow_succ, Int.pow_succ, Int.pow_zero, Int.one_mul]]
    rw [Int.sub_mul, Int.mul_add, Int.mul_add]
    omega
  rw [e3] at h3
  exact h3 (emod_zero_of_sub h.full)
/-- The value at z^(2 i + 1). -/
def ovF (z : Int) (n : Nat) (A : Nat → Int) (i : Nat) : Int := sumN (fun j => A j * z ^ (j * (2 * i + 1))) n
theorem ov_ft (z : Int) (n : Nat) (A : Nat → Int) (i : Nat) : ovF z n A i = ftF (z * z) n (fun j => A j * z ^ j) i := by
  unfold ovF ftF
  refine sumN_congr fun j _ => ?_
  have e : (z * z) ^ (i * j) = z ^ (2 * (i * j)) := sq_pow z _
  have e2 : j * (2 * i + 1) = j + 2 * (i * j) := by
    rw [Nat.mul_succ, Nat.mul_comm i j, Nat.mul_left_comm, Nat.add_comm]
  rw [e, e2, Int.pow_add, Int.mul_assoc]
/-- The coefficient, n times, that the values give back. -/
def obF (v : Int) (n : Nat) (V : Nat → Int) (j : Nat) : Int := sumN (fun i => V i * v ^ (j * (2 * i + 1))) n
theorem ob_ft (v : Int) (n : Nat) (V : Nat → Int) (j : Nat) : obF v n V j = ftF (v * v) n V j * v ^ j := by
  unfold obF ftF
  rw [← sumN_mul_r]
  refine sumN_congr fun i _ => ?_
  have e : (v * v) ^ (j * i) = v ^ (2 * (j * i)) := sq_pow v _
  have e2 : j * (2 * i + 1) = 2 * (j * i) + j := by rw [Nat.mul_succ, Nat.mul_left_comm]
  rw [e, e2, Int.pow_add, Int.mul_assoc]
theorem ob_ov {f z v : Int} {n : Nat} (h : Rt f z v (2 * n)) (A : Nat → Int) {j : Nat} (hj : j < n) : obF v n (ovF z n A) j % P f = (A j * n) % P f := by
  have hs := h.sq (by omega)
  have e : ftF (v * v) n (ovF z n A) j % P f = (A j * z ^ j * n) % P f := by
    rw [show ovF z n A = ftF (z * z) n (fun j => A j * z ^ j) from funext fun i => ov_ft z n A i]
    exact ft_back hs (fun j => A j * z ^ j) hj
  rw [ob_ft, emod_mul_congr e rfl, show A j * z ^ j * n * v ^ j = (A j * n) * (z ^ j * v ^ j) by simp only [Int.mul_assoc, Int.mul_left_comm, Int.mul_comm],
    emod_mul_congr (c := z ^ j * v ^ j) (d := 1) rfl (h.wv j), Int.mul_one]
theorem ov_ob {f z v c : Int} {n : Nat} (h : Rt f z v (2 * n)) (hc : (n * c) % P f = 1 % P f) (V : Nat → Int) {i : Nat} (hi : i < n) : ovF z n (fun j => obF v n V j * c) i % P f = V i % P f := by
  have hs := (h.sq (by omega)).swap
  rw [ov_ft]
  have e : ftF (z * z) n (fun j => obF v n V j * c * z ^ j) i % P f = ftF (z * z) n (fun j => ftF (v * v) n V j * c) i % P f := ft_mod (fun j _ => by
    rw [ob_ft, show ftF (v * v) n V j * v ^ j * c * z ^ j = (ftF (v * v) n V j * c) * (z ^ j * v ^ j) by simp only [Int.mul_assoc, Int.mul_left_comm, Int.mul_comm],
      emod_mul_congr (c := z ^ j * v ^ j) (d := 1) rfl (h.wv j), Int.mul_one]) i
  rw [e, ft_smul, emod_mul_congr (ft_back hs V hi) rfl, Int.mul_assoc, emod_mul_congr rfl hc, Int.mul_one]
/-- The values of a negacyclic product are the products of the values. -/
theorem ov_twi {f z v : Int} {n : Nat} (h : Rt f z v (2 * n)) (A B : Nat → Int) (i : Nat) (hn : 0 < n) : ovF z n (twiF n A B) i % P f = (ovF z n A i * ovF z n B i) % P f := by
  have hs := h.sq hn
  have hh := h.half2 hn
  rw [ov_ft, ov_ft, ov_ft, ← ft_cyc hs]
  refine ft_mod (fun t ht => ?_) i
  unfold twiF cycF
  rw [← sumN_mul_r]
  refine sumN_mod fun j hj => ?_
  by_cases hjt : j ≤ t
  · rw [if_pos hjt, show (t + n - j) % n = t - j by rw [show t + n - j = (t - j) + n by omega, Nat.add_mod_right, Nat.mod_eq_of_lt (by omega)]]
    congr 1
    rw [show z ^ t = z ^ j * z ^ (t - j) by rw [← Int.pow_add]; congr 1; omega]
    simp only [Int.mul_assoc, Int.mul_left_comm]
  · rw [if_neg hjt, Nat.mod_eq_of_lt (show t + n - j < n by omega)]
    have e : A j * z ^ j * (B (t + n - j) * z ^ (t + n - j)) = (A j * B (t + n - j) * z ^ t) * z ^ n := by
      rw [show A j * B (t + n - j) * z ^ t * z ^ n = A j * B (t + n - j) * (z ^ j * z ^ (t + n - j)) by
        rw [← Int.pow_add, show j + (t + n - j) = t + n by omega, Int.pow_add, Int.mul_assoc, Int.mul_assoc]]
      simp only [Int.mul_assoc, Int.mul_left_comm]
    rw [e, emod_mul_congr (c := z ^ n) (d := -1) rfl hh, Int.mul_neg, Int.mul_one, Int.neg_mul]
end Go.Proofs.YtoonpnfhcmghmaaDoor
namespace Go.Proofs.YtoonpnfhcmghmaaDoor
theorem two_part : ∀ N t : Nat, t ≤ N → 0 < t → ∃ s o, t = 2 ^ s * o ∧ o % 2 = 1
  | 0, t, h, h0 => by omega
  | N + 1, t, h, h0 => by
    by_cases e : t % 2 = 1
    · exact ⟨0, t, by rw [Nat.pow_zero, Nat.one_mul], e⟩
    · obtain ⟨s, o, hs, ho⟩ := two_part N (t / 2) (by omega) (by omega)
      refine ⟨s + 1, o, ?_, ho⟩
      rw [Nat.pow_succ, Nat.mul_comm (2 ^ s) 2, Nat.mul_assoc, ← hs]
      omega
theorem tr_zero {k t : Nat} (h0 : 0 < t) (ht : t < 2 ^ k) (A : Nat → Int) : sumN (fun i => sgF (2 ^ k) A (t * (2 * i + 1))) (2 ^ k) = 0 := by
  obtain ⟨s, o, hs, ho⟩ := two_part t t (Nat.le_refl _) h0
  have hn0 : 0 < 2 ^ k := Nat.pow_pos (by omega)
  have hsk : s < k := by
    refine Nat.lt_of_not_le fun h => ?_
    have h1 : 2 ^ k ≤ 2 ^ s := Nat.pow_le_pow_right (by omega) h
    have h2 : 2 ^ s * 1 ≤ 2 ^ s * o := Nat.mul_le_mul_left _ (by omega)
    omega
  obtain ⟨d, rfl⟩ : ∃ d, k = d + 1 + s := ⟨k - s - 1, by omega⟩
  have en : 2 ^ (d + 1 + s) = 2 ^ s * (2 * 2 ^ d) := by
    rw [Nat.pow_add, Nat.pow_succ, Nat.mul_comm, Nat.mul_comm (2 ^ d) 2]
  have hm : 2 ^ d ≤ 2 ^ (d + 1 + s) := Nat.pow_le_pow_right (by omega) (by omega)
  let F : Nat → Int := fun i => sgF (2 ^ (d + 1 + s)) A (t * (2 * i + 1))
  have hF : ∀ i, F (i + 2 ^ d) = - F i := fun i => by
    show sgF (2 ^ (d + 1 + s)) A (t * (2 * (i + 2 ^ d) + 1)) = - sgF (2 ^ (d + 1 + s)) A (t * (2 * i + 1))
    have e1 : t * (2 * (i + 2 ^ d) + 1) = t * (2 * i + 1) + 2 ^ (d + 1 + s) + 2 * 2 ^ (d + 1 + s) * (o / 2) := by
      have e2 : t * (2 * (i + 2 ^ d) + 1) = t * (2 * i + 1) + t * (2 * 2 ^ d) := by
        rw [← Nat.mul_add]
        congr 1
        omega
      have e3 : t * (2 * 2 ^ d) = 2 ^ (d + 1 + s) * o := by
        rw [hs, en]
        simp only [Nat.mul_assoc, Nat.mul_left_comm, Nat.mul_comm]
      have e4 : 2 ^ (d + 1 + s) * o = 2 ^ (d + 1 + s) + 2 * 2 ^ (d + 1 + s) * (o / 2) := by
        conv => lhs; rw [show o = 2 * (o / 2) + 1 by omega, Nat.mul_succ, ← Nat.mul_assoc, Nat.mul_comm (2 ^ (d + 1 + s)) 2]
        omega
      rw [e2, e3, e4]
      omega
    rw [e1, sg_more, sg_turn hn0]
  have hP : ∀ i, F (i % 2 ^ (d + 1 + s)) = F i := fun i => by
    show sgF (2 ^ (d + 1 + s)) A _ = sgF (2 ^ (d + 1 + s)) A _
    refine sg_congr ?_
    have hd := Nat.div_add_mod i (2 ^ (d + 1 + s))
    generalize 2 ^ (d + 1 + s) = n at *
    generalize i % n = r at *
    generalize i / n = q at *
    subst hd
    have e1 : t * (2 * (n * q + r) + 1) = t * (2 * r + 1) + 2 * n * (t * q) := by
      have e2 : t * (2 * (n * q + r) + 1) = t * (2 * r + 1) + t * (2 * (n * q)) := by
        rw [← Nat.mul_add]
        congr 1
        omega
      rw [e2]
      congr 1
      simp only [Nat.mul_assoc, Nat.mul_left_comm, Nat.mul_comm]
    rw [e1, Nat.add_mul_mod_self_left]
  have h1 : sumN F (2 ^ (d + 1 + s)) = sumN (fun i => F ((i + 2 ^ d) % 2 ^ (d + 1 + s))) (2 ^ (d + 1 + s)) := (sumN_turn F hm).symm
  have h2 : sumN (fun i => F ((i + 2 ^ d) % 2 ^ (d + 1 + s))) (2 ^ (d + 1 + s)) = sumN (fun i => (-1) * F i) (2 ^ (d + 1 + s)) := sumN_congr fun i _ => by rw [hP, hF]; omega
  rw [sumN_mul] at h2
  have h3 : sumN F (2 ^ (d + 1 + s)) = 0 := by omega
  exact h3
/-- The inverses of the odd exponents are the odd exponents. -/
theorem tr_perm {k : Nat} (A : Nat → Int) (t : Nat) : sumN (fun i => sgF (2 ^ k) A (t * (2 * i + 1) ^ (2 ^ k - 1))) (2 ^ k) = sumN (fun i => sgF (2 ^ k) A (t * (2 * i + 1))) (2 ^ k) := by
  have hn0 : 0 < 2 ^ k := Nat.pow_pos (by omega)
  let p : Nat → Nat := fun i => (2 * i + 1) ^ (2 ^ k - 1) % (2 * 2 ^ k) / 2
  have hodd : ∀ i, 2 * p i + 1 = (2 * i + 1) ^ (2 ^ k - 1) % (2 * 2 ^ k) := fun i => by
    show 2 * ((2 * i + 1) ^ (2 ^ k - 1) % (2 * 2 ^ k) / 2) + 1 = (2 * i + 1) ^ (2 ^ k - 1) % (2 * 2 ^ k)
    have e1 : (2 * i + 1) ^ (2 ^ k - 1) % (2 * 2 ^ k) % 2 = 1 := by
      rw [Nat.mod_mul_right_mod, Nat.pow_mod, show (2 * i + 1) % 2 = 1 by omega, Nat.one_pow]
    omega
  have hlt : ∀ i, p i < 2 ^ k := fun i => by
    have h1 : (2 * i + 1) ^ (2 ^ k - 1) % (2 * 2 ^ k) < 2 * 2 ^ k := Nat.mod_lt _ (by omega)
    have := hodd i
    omega
  have hpp : ∀ i, i < 2 ^ k → p (p i) = i := fun i hi => by
    have h1 : (2 * i + 1) * (2 * p i + 1) % (2 * 2 ^ k) = 1 := by
      rw [hodd, Nat.mul_mod_mod]
      exact mul_self_inv (by omega)
    have h2 : (2 * p i + 1) * (2 * p (p i) + 1) % (2 * 2 ^ k) = 1 := by
      rw [hodd (p i), Nat.mul_mod_mod]
      exact mul_self_inv (by omega)
    have h3 : (2 * i + 1) * ((2 * p i + 1) * (2 * p (p i) + 1)) % (2 * 2 ^ k) = (2 * i + 1) % (2 * 2 ^ k) := by
      rw [Nat.mul_mod, h2, Nat.mul_one, Nat.mod_mod]
    have h4 : (2 * i + 1) * ((2 * p i + 1) * (2 * p (p i) + 1)) % (2 * 2 ^ k) = (2 * p (p i) + 1) % (2 * 2 ^ k) := by
      rw [← Nat.mul_assoc, Nat.mul_mod, h1, Nat.one_mul, Nat.mod_mod]
    have h5 := h3.symm.trans h4
    rw [Nat.mod_eq_of_lt (by omega), Nat.mod_eq_of_lt (by have := hlt (p i); omega)] at h5
    omega
  have h1 := sumN_perm (fun i => sgF (2 ^ k) A (t * (2 * i + 1))) p p (fun j _ => hlt j) (fun j _ => hlt j) hpp hpp
  rw [← h1]
  refine sumN_congr fun i _ => sg_congr ?_
  rw [hodd, Nat.mul_mod_mod]
/-- The trace: n times the first element, and zeros. -/
theorem tr_all {k t : Nat} (ht : t < 2 ^ k) (A : Nat → Int) : sumN (fun i => sgF (2 ^ k) A (t * (2 * i + 1) ^ (2 ^ k - 1))) (2 ^ k) = if t = 0 then ((2 ^ k : Nat) : Int) * A 0 else 0 := by
  have hn0 : 0 < 2 ^ k := Nat.pow_pos (by omega)
  by_cases h : t = 0
  · rw [if_pos h, ← sumN_const (A 0)]
    refine sumN_congr fun i _ => ?_
    rw [h, Nat.zero_mul, sg_low A hn0]
  · rw [if_neg h, tr_perm, tr_zero (by omega) ht]
end Go.Proofs.YtoonpnfhcmghmaaDoor
namespace Go.Proofs.YtoonpnfhcmghmaaDoor
open Mth
/-- 1, 0, 0, .. -/
def oneL (n : Nat) : List Int := tab n fun j => if j = 0 then 1 else 0
theorem oneL_len (n : Nat) : (oneL n).length = n := tab_len _ _
def OpenOk (f : Int) (l : List Int) : Prop := VecOk f l ∧ mLog l.length + 1 ≤ T f
def zL (f : Int) (l : List Int) : Int := mRoot f (mLog l.length + 1)
def zvL (f : Int) (l : List Int) : Int := mInvR f (mLog l.length + 1)
theorem OpenOk.has {f : Int} {l : List Int} (h : OpenOk f l) : hasK f (mLog l.length + 1) ∧ hasK f (mLog l.length) := by
  have h1 := h.1.1
  have h2 := h.2
  exact ⟨(hasK_iff _ _).2 ⟨by omega, h2⟩, (hasK_iff _ _).2 ⟨h1.1, h1.2⟩⟩
theorem OpenOk.rt {f : Int} {l : List Int} (h : OpenOk f l) : Rt f (zL f l) (zvL f l) (2 * l.length) := by
  obtain ⟨k, hk, hn, hl, hh⟩ := h.1.log
  have hs := rt_of h.has.1
  unfold zL zvL
  rw [hl] at hs ⊢
  have e : ((k : Int) + 1).toNat = k + 1 := by omega
  rw [e, Nat.pow_succ, Nat.mul_comm, ← hn] at hs
  exact hs
theorem root_sq {f k : Int} (h : hasK f (k + 1)) (hk : hasK f k) : mRoot f k % P f = (mRoot f (k + 1) * mRoot f (k + 1)) % P f := by
  have k0 : 0 ≤ k := hk.2.1
  obtain ⟨c, hc, c0, hc2⟩ := cut_root h
  obtain ⟨d, hd, d0, hd2⟩ := cut_root hk
  have e1 : (k + 1).toNat = k.toNat + 1 := by omega
  rw [e1, Nat.pow_succ] at hc
  have hdc : d = c * 2 := by
    have h0 : 0 < 2 ^ k.toNat := Nat.pow_pos (by omega)
    have : 2 ^ k.toNat * d = 2 ^ k.toNat * (2 * c) := by rw [← hd, hc, Nat.mul_assoc]
    have := Nat.eq_of_mul_eq_mul_left h0 this
    omega
  rw [mRoot_on hk, mRoot_on h]
  unfold PW
  rw [hc2, hd2, hdc, Nat.pow_mul, Nat.pow_two, Nat.mul_mod]
  have hp : ((P f).toNat : Int) = P f := by
    have := P_bd h.1.1 h.1.2
    omega
  rw [← hp]
  rw [← Int.natCast_mul, ← Int.natCast_emod, ← Int.natCast_emod, Int.toNat_natCast, Nat.mod_mod]
theorem OpenOk.sq {f : Int} {l : List Int} (h : OpenOk f l) : rootL f l % P f = (zL f l * zL f l) % P f := root_sq h.has.1 h.has.2
theorem OpenOk.vsq {f : Int} {l : List Int} (h : OpenOk f l) : invRL f l % P f = (zvL f l * zvL f l) % P f := by
  have hr := h.1.rt.inv
  have hs := (h.rt.sq h.1.pos.1).inv
  have e1 : (invRL f l * (rootL f l * (zvL f l * zvL f l))) % P f = (invRL f l * 1) % P f := emod_mul_congr rfl ((emod_mul_congr h.sq rfl).trans hs)
  have e2 : (invRL f l * (rootL f l * (zvL f l * zvL f l))) % P f = (1 * (zvL f l * zvL f l)) % P f := by
    rw [← Int.mul_assoc]
    exact emod_mul_congr (by rw [Int.mul_comm]; exact hr) rfl
  rw [Int.mul_one] at e1
  rw [Int.one_mul] at e2
  exact e1.symm.trans e2
def ovL (f : Int) (l : List Int) : List Int := tab l.length fun i => RS (ovF (zL f l) l.length (lf l) i) (P f)
def obL (f : Int) (l : List Int) : List Int := tab l.length fun j => RS (obF (zvL f l) l.length (lf l) j * mPower f l.length (-1)) (P f)
theorem ovL_len (f : Int) (l : List Int) : (ovL f l).length = l.length := tab_len _ _
theorem obL_len (f : Int) (l : List Int) : (obL f l).length = l.length := tab_len _ _
def prF (f : Int) (A : Nat → Int) : Nat → Int
  | 0 => 1
  | n + 1 => RS (prF f A n * A n) (P f)
theorem prF_bd {f : Int} (h0 : 0 ≤ f) (h8 : f ≤ 8) (A : Nat → Int) (n : Nat) : 0 ≤ prF f A n ∧ prF f A n < P f := by
  have hp := P_bd h0 h8
  cases n with
  | zero => exact ⟨by show (0 : Int) ≤ 1; omega, by show (1 : Int) < P f; omega⟩
  | succ n => exact RS_bd (by omega)
def nmL (f : Int) (l : List Int) : Int := prF f (lf (ovL f l)) l.length
/-- An automorphism by an odd exponent b below 2 n. -/
def autL (f : Int) (l : List Int) (b : Nat) : List Int := tab l.length fun t => RS (sgF l.length (lf l) (t * b ^ (l.length - 1))) (P f)
theorem autL_len (f : Int) (l : List Int) (b : Nat) : (autL f l b).length = l.length := tab_len _ _
def trL (f : Int) (l : List Int) : List Int := tab l.length fun t => if t = 0 then RS (l.length * lf l 0) (P f) else 0
/-- Squaring and multiplying. -/
def sqS (f : Int) (o x : List Int) (n : Nat) : List Int :=
  if n = 0 then o else sqS f (if n % 2 = 1 then twiL f o x else o) (twiL f x x) (n / 2)
  termination_by n
  decreasing_by omega
theorem sqS_zero (f : Int) (o x : List Int) : sqS f o x 0 = o := by rw [sqS, if_pos rfl]
theorem sqS_odd (f : Int) (o x : List Int) {n : Nat} (h : n % 2 = 1) : sqS f o x n = sqS f (twiL f o x) (twiL f x x) (n / 2) := by rw [sqS, if_neg (by omega), if_pos h]
theorem sqS_even (f : Int) (o x : List Int) {n : Nat} (h0 : 0 < n) (h : n % 2 ≠ 1) : sqS f o x n = sqS f o (twiL f x x) (n / 2) := by rw [sqS, if_neg (by omega), if_neg h]
theorem twiL_len (f : Int) (a b : List Int) : (twiL f a b).length = a.length := tab_len _ _
/-- The smallest number by absolute value. -/
def cenF (f x : Int) : Int := if P f - x < x then x - P f else x
def rsF (f by_ x : Int) : Int := RS ((2 * cenF f x + by_) / (2 * by_)) (P f)
def rscL (f : Int) (l : List Int) (by_ : Int) : List Int := tab l.length fun i => rsF f by_ (lf l i)
open Classical in
noncomputable def mRingOne (f n : Int) : List Int := if 0 ≤ mLog n ∧ mLog n ≤ T f then oneL n.toNat else []
open Classical in
noncomputable def mRingPower0 (f : Int) (l : List Int) (e : Int) : List Int := if VecOk f l ∧ 0 ≤ e ∧ e ≤ 1000000 then sqS f (oneL l.length) l e.toNat else []
open Classical in
noncomputable def mRingPower1 (f : Int) (l : List Int) (e : Int) : Bool := decide (VecOk f l ∧ 0 ≤ e ∧ e ≤ 1000000)
/-- An exponent, reduced. -/
def expN (n : Nat) (g : Int) : Nat := turnN (2 * n) g
open Classical in
noncomputable def mAutomorph (f : Int) (l : List Int) (g : Int) : List Int := if VecOk f l ∧ g % 2 ≠ 0 then autL f l (expN l.length g) else []
open Classical in
noncomputable def mOddBack (f : Int) (l : List Int) : List Int := if OpenOk f l then obL f l else []
open Classical in
noncomputable def mNorm (f : Int) (l : List Int) : Int := if OpenOk f l then nmL f l else -1
def bivL (f : Int) (l : List Int) : List Int := tab l.length fun j => invF f (lf l j)
open Classical in
noncomputable def mRingInverse0 (f : Int) (l : List Int) : List Int := if OpenOk f l ∧ nmL f l ≠ 0 then obL f (bivL f (ovL f l)) else []
open Classical in
noncomputable def mRingInverse1 (f : Int) (l : List Int) : Bool := decide (OpenOk f l ∧ nmL f l ≠ 0)
open Classical in
noncomputable def mTrace (f : Int) (l : List Int) : List Int := if VecOk f l then trL f l else []
open Classical in
noncomputable def mRescale0 (f : Int) (l : List Int) (b : Int) : List Int := if VecOk f l ∧ 1 ≤ b ∧ b ≤ P f then rscL f l b else []
open Classical in
noncomputable def mRescale1 (f : Int) (l : List Int) (b : Int) : Bool := decide (VecOk f l ∧ 1 ≤ b ∧ b ≤ P f)
/-- Powers of a number, reduced. -/
def pwL (f a : Int) (n : Nat) : List Int := tab n fun j => a ^ j % P f
theorem ft_root {p w w2 : Int} (h : w % p = w2 % p) {n : Nat} {A B : Nat → Int} (hA : ∀ j, j < n → A j % p = B j % p) (i : Nat) : ftF w n A i % p = ftF w2 n B i % p :=
  sumN_mod fun j hj => emod_mul_congr (hA j hj) (pow_mod_congr _ h)
theorem VecOk.ptw {f : Int} {l m : List Int} (h : VecOk f l) : VecOk f (ptwL f l m) := h.tab rfl _ fun _ _ => RS_bd (P_pos h.f08.1 h.f08.2)
theorem ptwL_len (f : Int) (a b : List Int) : (ptwL f a b).length = a.length := tab_len _ _
/-- The values at the odd powers are the transform of the weighted vector. -/
theorem ov_by_fwd {f : Int} {l : List Int} (h : OpenOk f l) : fwdL f (ptwL f l (pwL f (zL f l) l.length)) = ovL f l := by
  refine list_ext (by rw [fwdL_len, ptwL_len, ovL_len]) fun i hi => ?_
  rw [fwdL_len, ptwL_len] at hi
  rw [lf_fwdL (by rw [ptwL_len]; exact hi), rootL_len (ptwL_len _ _ _), ptwL_len]
  unfold ovL
  rw [lf_tab, if_pos hi, ov_ft]
  refine ft_root h.sq (fun j hj => ?_) i
  unfold ptwL
  rw [lf_tab, if_pos hj]
  show RS _ _ % _ = _
  unfold RS pwL
  rw [Int.emod_emod_of_dvd _ (Int.dvd_refl _), lf_tab, if_pos hj]
  exact emod_mul_congr rfl (Int.emod_emod_of_dvd _ (Int.dvd_refl _))
/-- The way back is a transform back that is weighted by the root's inverse. -/
theorem ob_by_bwd {f : Int} {l : List Int} (h : OpenOk f l) : ptwL f (bwdL f l) (pwL f (zvL f l) l.length) = obL f l := by
  refine list_ext (by rw [ptwL_len, bwdL_len, obL_len]) fun j hj => ?_
  rw [ptwL_len, bwdL_len] at hj
  unfold ptwL obL
  rw [lf_tab, if_pos (by rw [bwdL_len]; exact hj), lf_tab, if_pos hj, lf_bwdL hj, ob_ft]
  unfold RS pwL
  rw [lf_tab, if_pos hj]
  have e1 : ftF (invRL f l) l.length (lf l) j % P f = ftF (zvL f l * zvL f l) l.length (lf l) j % P f := ft_root h.vsq (fun _ _ => rfl) j
  have e2 : ftF (zvL f l * zvL f l) l.length (lf l) j * zvL f l ^ j * mPower f l.length (-1) = ftF (zvL f l * zvL f l) l.length (lf l) j * mPower f l.length (-1) * zvL f l ^ j := by
    simp only [Int.mul_comm, Int.mul_left_comm]
  rw [e2]
  exact emod_mul_congr ((Int.emod_emod_of_dvd _ (Int.dvd_refl _)).trans (emod_mul_congr e1 rfl)) (Int.emod_emod_of_dvd _ (Int.dvd_refl _))
end Go.Proofs.YtoonpnfhcmghmaaDoor
namespace Go.Proofs.YtoonpnfhcmghmaaDoor
open Go.RowKit
set_option maxRecDepth 100000 in
set_option maxHeartbeats 1600000 in
theorem sRingOne_on (f : Int) (n k : Nat) (w : World) (hn0 : 0 < n) (hn5 : n ≤ 512) (hl : mLog n = k) (hk : (k : Int) ≤ T f) : Calls Tryd.prog 33 #[.int .i64 f, .int .i64 n] w (ListL w (oneL n)) := by
  obtain ⟨i0, hi, hz0, hz1, hz2⟩ := info_parts info3
  have HI := Lib.hid hi
  have HZ0 := Lib.hid hz0
  have HZ1 := Lib.hid hz1
  have HZ2 := Lib.hid hz2
  clear hi hz0 hz1 hz2
  have d0 : decide ((k : Int) < 0) = false := decide_eq_false (by omega)
  have d1 : decide (T f < (k : Int)) = false := decide_eq_false (by omega)
  have HL := Lib.hid hl
  have HO1 : Hid ((w.alloc (.cells #[.int .i64 1] 3)).ownsRow w.heap.size 3 1 (.slice (some ⟨w.heap.size, 0, none⟩) 1 1) 1 (xsF (fun j => if j = 0 then (1 : Int) else 0) 1)) := Lib.hid (own_new w (.int .i64 1) 3)
  clear hl
  go_enter Tryd.func33, Tryd.ntmps33
  go_wp2_with fail
  refine (sLogOf n w).mono ?_
  rintro e w' ⟨rfl, rfl⟩
  rw [HL.out]
  go_wp2_with fail
  refine (sTwoPower f w).mono ?_
  rintro e w' ⟨rfl, rfl⟩
  go_wp2_with fail
  go_loopw [6, 7] (fun v i wr => ∃ k : Nat, i = .int .i64 k ∧ 1 ≤ k ∧ k ≤ n ∧ wr.ownsRow w.heap.size 3 1 v k (xsF (fun j => if j = 0 then (1 : Int) else 0) k) ∧ Below w.heap.size w wr) (fun _ i _ => n - (intOf i).toNat)
  case atStart => exact ⟨1, rfl, by omega, by omega, HO1.out, (Below.refl _ _).alloc (Nat.le_refl _) _⟩
  case round =>
    clear HO1
    obtain ⟨k, rfl, hk1, hk, hown, hnx⟩ := hrel
    have hs := hnx.size
    by_cases h1 : k < n
    · have hd1 : decide ((k : Int) < n) = true := decide_eq_true (by omega)
      have HZ : Hid ((if k = 0 then (1 : Int) else 0) = 0) := Lib.hid (if_neg (by omega))
      go_wp2_with (at_builtin; refine wpList_append_own _ rfl _ _ 24 rfl w.heap.size 3 i0 (.int .i64 0) 1 8 Tryd.underlying24 HI.out HZ0.out HZ1.out HZ2.out rfl (by decide) _ _ _ rfl (hown.alloc _) ⟨wr.heap.size, 0, none⟩ 1 1 [.int .i64 0] rfl rfl ?c1 ?c2 ?c3 ?c4 ?c5 ?_)
      case c1 => exact cell_one_new _ _ _
      case c2 => intro u hu; simp at hu; subst hu; rfl
      case c3 => unfold maxLen; omega
      case c4 => omega
      case c5 => simp; omega
      intro v' w1 hown' hgrow _
      have hbel : Below w.heap.size w w1 := (hnx.alloc hs _).grown hgrow (by simp; omega) (own_ge hown)
      have hown2 : w1.ownsRow w.heap.size 3 1 v' (k + 1) (xsF (fun j => if j = 0 then (1 : Int) else 0) (k + 1)) := by
        rw [← xsF_succ, HZ.out]; exact hown'
      clear hgrow hown hown'
      go_wp2
      go_roundw
      case rel => exact ⟨k + 1, by go_num, by omega, by omega, hown2, hbel⟩
      case measure => simp [intOf]; omega
    · have hd1 : decide ((k : Int) < n) = false := decide_eq_false (by omega)
      obtain rfl : k = n := by omega
      have HO := Lib.hid (owns_to (w := w) (l := oneL k) hown (by unfold oneL; rw [tab_len]) (fun j hj => by unfold oneL; rw [lf_tab, if_pos hj]) hnx)
      clear hown
      go_wp2
      go_ret
      exact HO.out.list
theorem sRingOne (f n : Int) (w : World) : Calls Tryd.prog 33 #[.int .i64 f, .int .i64 n] w (ListL w (mRingOne f n)) := by
  rcases log_cases n with ⟨k, hk, rfl, hl⟩ | ⟨_, hl⟩
  · have e : (2 : Int) ^ k = ((2 ^ k : Nat) : Int) := by rw [Int.natCast_pow]; rfl
    by_cases hT : (k : Int) ≤ T f
    · have hm : mRingOne f (2 ^ k) = oneL (2 ^ k) := by
        unfold mRingOne
        rw [if_pos ⟨by omega, by omega⟩, e, Int.toNat_natCast]
      rw [hm, e]
      have : 2 ^ k ≤ 2 ^ 9 := Nat.pow_le_pow_right (by omega) hk
      exact sRingOne_on f (2 ^ k) k w (Nat.pow_pos (by omega)) (by omega) (by rw [← e]; exact hl) hT
    · have hm : mRingOne f (2 ^ k) = [] := by
        unfold mRingOne
        rw [if_neg (fun h => hT (by have := h.2; omega))]
      rw [hm, e]
      have HL : Hid (mLog ((2 ^ k : Nat) : Int) = k) := Lib.hid (by rw [← e]; exact hl)
      have d0 : decide ((k : Int) < 0) = false := decide_eq_false (by omega)
      have d1 : decide (T f < (k : Int)) = true := decide_eq_true (by omega)
      clear hl hm
      generalize ((2 ^ k : Nat) : Int) = n at *
      go_enter Tryd.func33, Tryd.ntmps33
      go_wp2_with fail
      refine (sLogOf n w).mono ?_
      rintro e w' ⟨rfl, rfl⟩
      rw [HL.out]
      go_wp2_with fail
      refine (sTwoPower f w).mono ?_
      rintro e w' ⟨rfl, rfl⟩
      go_wp2
      go_ret
      exact ⟨none, 0, rfl, .inl rfl, Below.refl _ _⟩
  · have hm : mRingOne f n = [] := by
      unfold mRingOne
      rw [if_neg (fun h => by have := h.1; omega)]
    rw [hm]
    have HL := Lib.hid hl
    clear hl hm
    go_enter Tryd.func33, Tryd.ntmps33
    go_wp2_with fail
    refine (sLogOf n w).mono ?_
    rintro e w' ⟨rfl, rfl⟩
    rw [HL.out]
    go_wp2
    go_ret
    exact ⟨none, 0, rfl, .inl rfl, Below.refl _ _⟩
theorem VecOk.one8 {f : Int} {l : List Int} (h : VecOk f l) : VecOk f (oneL l.length) := h.tab rfl _ fun _ _ => by
  have := P_bd h.f08.1 h.f08.2
  split <;> omega
theorem VecOk.twi8 {f : Int} {l m : List Int} (h : VecOk f l) : VecOk f (twiL f l m) := h.tab rfl _ fun _ _ => RS_bd (P_pos h.f08.1 h.f08.2)
/-- What a round of squaring keeps. -/
def RPow (f : Int) (N : Nat) (R O X : List Int) (k : Int) : Prop := (VecOk f O ∧ VecOk f X ∧ O.length = N ∧ X.length = N) ∧ sqS f O X k.toNat = R
end Go.Proofs.YtoonpnfhcmghmaaDoor
namespace Go.Proofs.YtoonpnfhcmghmaaDoor
open Mth
theorem expN_lt {n : Nat} (hn : 0 < n) (g : Int) : expN n g < 2 * n := by
  unfold expN turnN
  have h1 := Int.emod_nonneg g (b := ((2 * n : Nat) : Int)) (by omega)
  have h2 := Int.emod_lt_of_pos g (b := ((2 * n : Nat) : Int)) (by omega)
  omega
theorem expN_odd {n : Nat} (hn : 0 < n) {g : Int} (hg : g % 2 ≠ 0) : expN n g % 2 = 1 := by
  unfold expN turnN
  have h1 := Int.emod_nonneg g (b := ((2 * n : Nat) : Int)) (by omega)
  have h2 : g % ((2 * n : Nat) : Int) % 2 = g % 2 := Int.emod_emod_of_dvd g ⟨(n : Int), by rw [Int.natCast_mul]; rfl⟩
  omega
theorem expN_small {n b : Nat} (h : b < 2 * n) : expN n (b : Int) = b := by
  unfold expN turnN
  rw [Int.emod_eq_of_lt (by omega) (by omega), Int.toNat_natCast]
theorem VecOk.pow2 {f : Int} {l : List Int} (h : VecOk f l) : ∃ k : Nat, l.length = 2 ^ k := by
  obtain ⟨k, _, hn, _, _⟩ := h.log
  exact ⟨k, hn⟩
/-- Where the k-th number lands. -/
def auQ (n b k : Nat) : Nat := if k * b % (2 * n) < n then k * b % (2 * n) else k * b % (2 * n) - n
def auV (f : Int) (n b k : Nat) (A : Nat → Int) : Int := if k * b % (2 * n) < n then A k else RS (0 - A k) (P f)
/-- After k numbers have landed. -/
def auP (f : Int) (n b k : Nat) (A X : Nat → Int) (t : Nat) : Int := if t * b ^ (n - 1) % n < k then RS (sgF n A (t * b ^ (n - 1))) (P f) else X t
theorem auQ_mod {n b k : Nat} (hn : 0 < n) : auQ n b k = k * b % n := by
  have h1 := Nat.mod_lt (k * b) (y := 2 * n) (by omega)
  have h2 : k * b % (2 * n) % n = k * b % n := Nat.mod_mul_left_mod (k * b) 2 n
  unfold auQ
  rw [← h2]
  generalize k * b % (2 * n) = r at *
  split
  · rw [Nat.mod_eq_of_lt (by assumption)]
  · rw [Nat.mod_eq_sub_mod (by omega), Nat.mod_eq_of_lt (by omega)]
theorem au_inv {n b : Nat} (hn : ∃ k, n = 2 ^ k) (hb : b % 2 = 1) : b * b ^ (n - 1) % (2 * n) = 1 ∧ b ^ (n - 1) % 2 = 1 := by
  obtain ⟨k, rfl⟩ := hn
  have h := mul_self_inv (b := b) (k := k) hb
  refine ⟨h, ?_⟩
  have h2 : b * b ^ (2 ^ k - 1) % 2 = 1 := by
    have := Nat.mod_mul_right_mod (b * b ^ (2 ^ k - 1)) 2 (2 ^ k)
    rw [h] at this
    omega
  generalize b ^ (2 ^ k - 1) = c at *
  rcases Nat.mod_two_eq_zero_or_one c with h0 | h0
  · rw [Nat.mul_mod, h0, Nat.mul_zero] at h2
    omega
  · exact h0
theorem au_at {n b k t : Nat} (hn : 0 < n) (h2 : ∃ k, n = 2 ^ k) (hb : b % 2 = 1) (hk : k < n) (ht : t < n) : t * b ^ (n - 1) % n = k ↔ t = auQ n b k := by
  have hc := (au_inv h2 hb).1
  have hcn : b * b ^ (n - 1) % n = 1 % n := by
    rw [← Nat.mod_mul_left_mod (b * b ^ (n - 1)) 2 n, hc]
  generalize b ^ (n - 1) = c at *
  rw [auQ_mod hn]
  constructor
  · rintro rfl
    rw [Nat.mod_mul_mod, Nat.mul_assoc, Nat.mul_comm c b, Nat.mul_mod, hcn, ← Nat.mul_mod, Nat.mul_one, Nat.mod_eq_of_lt ht]
  · rintro rfl
    rw [Nat.mod_mul_mod, Nat.mul_assoc, Nat.mul_mod, hcn, ← Nat.mul_mod, Nat.mul_one, Nat.mod_eq_of_lt hk]
theorem au_val {f : Int} {n b k : Nat} {A : Nat → Int} (hn : 0 < n) (h2 : ∃ k, n = 2 ^ k) (hb : b % 2 = 1) (hk : k < n) (hA : 0 ≤ A k ∧ A k < P f) : RS (sgF n A (auQ n b k * b ^ (n - 1))) (P f) = auV f n b k A := by
  obtain ⟨hc, hc2⟩ := au_inv h2 hb
  generalize b ^ (n - 1) = c at *
  have hi := sg_image hn hc A hk
  unfold auQ auV
  have hlt := Nat.mod_lt (k * b) (y := 2 * n) (by omega)
  generalize k * b % (2 * n) = r at *
  by_cases h : r < n
  · rw [if_pos h, if_pos h, hi]
    exact RS_self hA.1 hA.2
  · rw [if_neg h, if_neg h]
    obtain ⟨s, rfl⟩ : ∃ s, r = s + n := ⟨r - n, by omega⟩
    have e1 : (s + n) * c = s * c + n + 2 * n * (c / 2) := by
      have h1 : c = 2 * (c / 2) + 1 := by omega
      have h2 : n * c = 2 * n * (c / 2) + n := by
        conv => lhs; rw [h1, Nat.mul_succ, ← Nat.mul_assoc, Nat.mul_comm n 2]
      rw [Nat.add_mul, h2]
      omega
    rw [e1, sg_more, sg_turn hn] at hi
    rw [Nat.add_sub_cancel, show sgF n A (s * c) = 0 - A k by omega]
theorem au_start (f : Int) (n b : Nat) (A X : Nat → Int) (t : Nat) : auP f n b 0 A X t = X t := if_neg (by omega)
theorem au_end (f : Int) {n : Nat} (hn : 0 < n) (b : Nat) (A X : Nat → Int) (t : Nat) : auP f n b n A X t = RS (sgF n A (t * b ^ (n - 1))) (P f) := if_pos (Nat.mod_lt _ hn)
theorem au_step {f : Int} {n b k : Nat} {A : Nat → Int} (X : Nat → Int) (hn : 0 < n) (h2 : ∃ k, n = 2 ^ k) (hb : b % 2 = 1) (hk : k < n) (hA : 0 ≤ A k ∧ A k < P f) {t : Nat} (ht : t < n) :
    (if t = auQ n b k then auV f n b k A else auP f n b k A X t) = auP f n b (k + 1) A X t := by
  have hat := au_at hn h2 hb hk ht
  by_cases h : t = auQ n b k
  · rw [if_pos h]
    unfold auP
    rw [if_pos (by have := hat.2 h; omega), h, au_val hn h2 hb hk hA]
  · rw [if_neg h]
    have h3 : t * b ^ (n - 1) % n ≠ k := fun e => h (hat.1 e)
    unfold auP
    by_cases h4 : t * b ^ (n - 1) % n < k
    · rw [if_pos h4, if_pos (by omega)]
    · rw [if_neg h4, if_neg (by omega)]
theorem VecOk.aut {f : Int} {l : List Int} (h : VecOk f l) (b : Nat) : VecOk f (autL f l b) := h.tab rfl _ fun _ _ => RS_bd (P_pos h.f08.1 h.f08.2)
theorem VecOk.twi {f : Int} {l m : List Int} (h : VecOk f l) : VecOk f (twiL f l m) := h.tab rfl _ fun _ _ => RS_bd (P_pos h.f08.1 h.f08.2)
theorem VecOk.ov {f : Int} {l : List Int} (h : VecOk f l) : VecOk f (ovL f l) := h.tab rfl _ fun _ _ => RS_bd (P_pos h.f08.1 h.f08.2)
theorem VecOk.ob {f : Int} {l : List Int} (h : VecOk f l) : VecOk f (obL f l) := h.tab rfl _ fun _ _ => RS_bd (P_pos h.f08.1 h.f08.2)
theorem VecOk.one {f : Int} {l : List Int} (h : VecOk f l) : VecOk f (oneL l.length) := h.tab rfl _ fun _ _ => by
  have := P_bd h.f08.1 h.f08.2
  split <;> omega
/-- The sum of the first k automorphisms. -/
def tsF (f : Int) (l : List Int) (k t : Nat) : Int := sumN (fun i => sgF l.length (lf l) (t * (2 * i + 1) ^ (l.length - 1))) k % P f
theorem ts_zero (f : Int) (l : List Int) (t : Nat) : tsF f l 0 t = 0 := by unfold tsF; exact Int.zero_emod _
theorem ts_step {f : Int} {l : List Int} {k t : Nat} (ht : t < l.length) : RS (tsF f l k t + lf (autL f l (2 * k + 1)) t) (P f) = tsF f l (k + 1) t := by
  unfold autL
  rw [lf_tab, if_pos ht]
  unfold tsF RS
  rw [← Int.add_emod]
  rfl
theorem ts_bd {f : Int} {l : List Int} (h : VecOk f l) (k t : Nat) : 0 ≤ tsF f l k t ∧ tsF f l k t < P f := RS_bd (P_pos h.f08.1 h.f08.2)
theorem ts_end {f : Int} {l : List Int} (h : VecOk f l) {t : Nat} (ht : t < l.length) : tsF f l l.length t = lf (trL f l) t := by
  obtain ⟨k, hk⟩ := h.pow2
  have hp := P_bd h.f08.1 h.f08.2
  unfold trL
  rw [lf_tab, if_pos ht]
  unfold tsF
  have := tr_all (k := k) (t := t) (by omega) (lf l)
  rw [← hk] at this
  rw [this]
  split
  · rfl
  · exact Int.zero_emod _
theorem trL_len (f : Int) (l : List Int) : (trL f l).length = l.length := tab_len _ _
/-- Values and back. -/
theorem lf_ovL {f : Int} {l : List Int} {i : Nat} (h : i < l.length) : lf (ovL f l) i = ovF (zL f l) l.length (lf l) i % P f := by
  unfold ovL; rw [lf_tab, if_pos h]; rfl
theorem zL_len {f : Int} {a b : List Int} (h : a.length = b.length) : zL f a = zL f b := by unfold zL; rw [h]
theorem zvL_len {f : Int} {a b : List Int} (h : a.length = b.length) : zvL f a = zvL f b := by unfold zvL; rw [h]
theorem ovF_mod {p z : Int} {n : Nat} {A B : Nat → Int} (h : ∀ j, j < n → A j % p = B j % p) (i : Nat) : ovF z n A i % p = ovF z n B i % p := sumN_mod fun j hj => emod_mul_congr (h j hj) rfl
theorem obF_mod {p v : Int} {n : Nat} {A B : Nat → Int} (h : ∀ j, j < n → A j % p = B j % p) (i : Nat) : obF v n A i % p = obF v n B i % p := sumN_mod fun j hj => emod_mul_congr (h j hj) rfl
theorem mod2 (a p : Int) : a % p % p = a % p := Int.emod_emod_of_dvd a (Int.dvd_refl p)
theorem OpenOk.to {f : Int} {l m : List Int} (h : OpenOk f l) (hm : VecOk f m) (hl : m.length = l.length) : OpenOk f m := ⟨hm, by rw [hl]; exact h.2⟩
theorem back_ov {f : Int} {l : List Int} (h : OpenOk f l) : obL f (ovL f l) = l := by
  refine list_ext (by rw [obL_len, ovL_len]) fun j hj => ?_
  rw [obL_len, ovL_len] at hj
  unfold obL
  rw [ovL_len, lf_tab, if_pos hj, zvL_len (ovL_len f l)]
  show (_ * _) % P f = _
  have e1 : obF (zvL f l) l.length (lf (ovL f l)) j % P f = (lf l j * l.length) % P f :=
    (obF_mod (fun i hi => by rw [lf_ovL hi, mod2]) j).trans (ob_ov h.rt (lf l) hj)
  rw [emod_mul_congr e1 rfl, Int.mul_assoc, emod_mul_congr rfl h.1.inv_n, Int.mul_one]
  have := h.1.lt j
  exact Int.emod_eq_of_lt this.1 this.2
theorem ov_inj {f : Int} {a b : List Int} (ha : OpenOk f a) (hb : OpenOk f b) (h : ovL f a = ovL f b) : a = b := by
  rw [← back_ov ha, ← back_ov hb, h]
theorem ov_back {f : Int} {l : List Int} (h : OpenOk f l) : ovL f (obL f l) = l := by
  refine list_ext (by rw [ovL_len, obL_len]) fun i hi => ?_
  rw [ovL_len, obL_len] at hi
  rw [lf_ovL (by rw [obL_len]; exact hi), obL_len, zL_len (obL_len f l)]
  have e1 : ovF (zL f l) l.length (lf (obL f l)) i % P f = ovF (zL f l) l.length (fun j => obF (zvL f l) l.length (lf l) j * mPower f l.length (-1)) i % P f :=
    ovF_mod (fun j hj => by unfold obL; rw [lf_tab, if_pos hj]; exact mod2 _ _) i
  rw [e1, ov_ob h.rt h.1.inv_n (lf l) hi]
  have := h.1.lt i
  exact Int.emod_eq_of_lt this.1 this.2
theorem ov_prod {f : Int} {a b : List Int} (ha : OpenOk f a) (hab : a.length = b.length) : ovL f (twiL f a b) = ptwL f (ovL f a) (ovL f b) := by
  refine list_ext (by rw [ovL_len, twiL_len, ptwL_len, ovL_len]) fun i hi => ?_
  rw [ovL_len, twiL_len] at hi
  rw [lf_ovL (by rw [twiL_len]; exact hi), twiL_len, zL_len (twiL_len f a b)]
  unfold ptwL
  rw [ovL_len, lf_tab, if_pos hi, lf_ovL hi, lf_ovL (by omega), ← hab, zL_len hab.symm]
  have e1 : ovF (zL f a) a.length (lf (twiL f a b)) i % P f = ovF (zL f a) a.length (twiF a.length (lf a) (lf b)) i % P f :=
    ovF_mod (fun j hj => by unfold twiL; rw [lf_tab, if_pos hj]; exact mod2 _ _) i
  rw [e1, ov_twi ha.rt (lf a) (lf b) i (by omega)]
  exact (emod_mul_congr (mod2 _ _) (mod2 _ _)).symm
theorem pr_nz {f : Int} {X : Nat → Int} : ∀ n, prF f X n ≠ 0 → ∀ j, j < n → X j ≠ 0
  | 0, _, j, hj => by omega
  | n + 1, h, j, hj => fun e => by
    rcases Nat.lt_or_ge j n with h1 | h1
    · refine pr_nz (f := f) n (fun e2 => h ?_) j h1 e
      show RS (prF f X n * X n) (P f) = 0
      rw [e2, Int.zero_mul]; exact Int.zero_emod _
    · obtain rfl : j = n := by omega
      refine h ?_
      show RS (prF f X j * X j) (P f) = 0
      rw [e, Int.mul_zero]; exact Int.zero_emod _
theorem ov_one {f : Int} {l : List Int} (h : OpenOk f l) {i : Nat} (hi : i < l.length) : lf (ovL f (oneL l.length)) i = 1 := by
  have h08 := h.1.f08
  rw [lf_ovL (by rw [oneL_len]; exact hi), oneL_len]
  unfold ovF
  have e : sumN (fun j => lf (oneL l.length) j * zL f (oneL l.length) ^ (j * (2 * i + 1))) l.length = sumN (fun j => if j = 0 then (1 : Int) else 0) l.length := sumN_congr fun j hj => by
    unfold oneL
    rw [lf_tab, if_pos hj]
    split
    · subst j; rw [Nat.zero_mul, Int.pow_zero, Int.one_mul]
    · rw [Int.zero_mul]
  rw [e, sumN_single (fun _ => 1), if_pos (by omega)]
  exact one_p h08.1 h08.2
theorem bivL_len (f : Int) (l : List Int) : (bivL f l).length = l.length := tab_len _ _
theorem VecOk.biv {f : Int} {l : List Int} (h : VecOk f l) : VecOk f (bivL f l) := h.tab rfl _ fun _ _ => invF_bd h.f08.1 h.f08.2 _
theorem ringInv_one {f : Int} {l : List Int} (h : OpenOk f l) (hz : nmL f l ≠ 0) : twiL f l (obL f (bivL f (ovL f l))) = oneL l.length := by
  have h08 := h.1.f08
  have hb := h.to h.1.ov.biv (by rw [bivL_len, ovL_len])
  refine ov_inj (h.to h.1.twi (twiL_len _ _ _)) (h.to h.1.one (oneL_len _)) ?_
  rw [ov_prod h (by rw [obL_len, bivL_len, ovL_len]), ov_back hb]
  refine list_ext (by rw [ptwL_len, ovL_len, ovL_len, oneL_len]) fun i hi => ?_
  rw [ptwL_len, ovL_len] at hi
  rw [ov_one h hi]
  unfold ptwL bivL
  rw [ovL_len, lf_tab, if_pos hi, lf_tab, if_pos hi]
  have hnz := pr_nz _ hz i hi
  have hbd := h.1.ov.lt i
  have hs : RS (lf (ovL f l) i) (P f) = lf (ovL f l) i := RS_self hbd.1 hbd.2
  have := (inv_one h08.1 h08.2 (z := lf (ovL f l) i) (by rw [hs]; exact hnz)).1
  rw [hs, Int.mul_comm] at this
  unfold invF
  rw [if_neg (by rw [hs]; exact hnz)]
  exact this
theorem ringCube {f : Int} {l : List Int} (h : OpenOk f l) : sqS f (oneL l.length) l 3 = twiL f (twiL f l l) l := by
  rw [sqS_odd _ _ _ (by omega), sqS_odd _ _ _ (by omega), sqS_zero]
  have h1 := h.to h.1.one (oneL_len _)
  have o1 : (twiL f (oneL l.length) l).length = l.length := by rw [twiL_len, oneL_len]
  have h2 := h.to h1.1.twi o1
  refine ov_inj (h.to h2.1.twi (by rw [twiL_len, o1])) (h.to (h.1.twi (m := l)).twi (by rw [twiL_len, twiL_len])) ?_
  rw [ov_prod h2 (by rw [o1, twiL_len]), ov_prod h1 (oneL_len _), ov_prod (h.to h.1.twi (twiL_len _ _ _)) (twiL_len _ _ _), ov_prod h rfl]
  refine list_ext (by rw [ptwL_len, ptwL_len, ovL_len, oneL_len, ptwL_len, ptwL_len, ovL_len]) fun i hi => ?_
  rw [ptwL_len, ptwL_len, ovL_len, oneL_len] at hi
  unfold ptwL
  rw [tab_len, lf_tab, if_pos (by rw [ovL_len, oneL_len]; exact hi), lf_tab, if_pos (by rw [ovL_len, oneL_len]; exact hi), lf_tab, if_pos (by rw [ovL_len]; exact hi), tab_len, lf_tab, if_pos (by rw [ovL_len]; exact hi), lf_tab, if_pos (by rw [ovL_len]; exact hi), ov_one h hi, Int.one_mul, Int.mul_comm]
  unfold RS
  rw [emod_mul_congr rfl (mod2 _ _)]
end Go.Proofs.YtoonpnfhcmghmaaDoor
namespace Go.Proofs.YtoonpnfhcmghmaaDoor
open Go.RowKit
open Classical in
noncomputable def mOpen (f : Int) (l : List Int) : Bool := decide (OpenOk f l)
theorem open_iff {f : Int} {l : List Int} : mOpen f l = true ↔ OpenOk f l := by unfold mOpen; simp
theorem open_not {f : Int} {l : List Int} : mOpen f l = false ↔ ¬ OpenOk f l := by unfold mOpen; simp
theorem sOpen (f : Int) (a : Option Addr) (l : List Int) (cap : Nat) (w : World) (hn : l.length ≤ 1048576) (hs : Src w a l.length (lf l)) : Calls Tryd.prog 68 #[.int .i64 f, .slice a l.length cap] w (SameB w (mOpen f l)) := by
  by_cases h : VecOk f l
  · have HV : Hid (Calls Tryd.prog 14 #[.int .i64 f, .slice a l.length cap] w (SameB w true)) := Lib.hid (by have := sVectorOk f a l cap w hn hs; rwa [vok_iff.2 h] at this)
    have h1 := h.1
    have h9 : mLog l.length ≤ 9 := by
      obtain ⟨k, hk, _, hl, _⟩ := h.log
      omega
    by_cases hT : mLog l.length + 1 ≤ T f
    · rw [open_iff.2 ⟨h, hT⟩]
      have hd : decide (mLog l.length + 1 ≤ T f) = true := decide_eq_true hT
      clear hs h
      go_enter Tryd.func68, Tryd.ntmps68
      go_wp2_with fail
      refine HV.out.mono ?_
      rintro e w' ⟨rfl, rfl⟩
      go_wp2_with fail
      refine (sLogOf l.length w).mono ?_
      rintro e w' ⟨rfl, rfl⟩
      generalize mLog l.length = L at *
      go_wp2_with fail
      refine (sTwoPower f w).mono ?_
      rintro e w' ⟨rfl, rfl⟩
      go_wp2
      go_ret
      exact ⟨by simp, rfl⟩
    · rw [open_not.2 fun x => hT x.2]
      have hd : decide (mLog l.length + 1 ≤ T f) = false := decide_eq_false hT
      clear hs h
      go_enter Tryd.func68, Tryd.ntmps68
      go_wp2_with fail
      refine HV.out.mono ?_
      rintro e w' ⟨rfl, rfl⟩
      go_wp2_with fail
      refine (sLogOf l.length w).mono ?_
      rintro e w' ⟨rfl, rfl⟩
      generalize mLog l.length = L at *
      go_wp2_with fail
      refine (sTwoPower f w).mono ?_
      rintro e w' ⟨rfl, rfl⟩
      go_wp2
      go_ret
      exact ⟨by simp, rfl⟩
  · have HV : Hid (Calls Tryd.prog 14 #[.int .i64 f, .slice a l.length cap] w (SameB w false)) := Lib.hid (by have := sVectorOk f a l cap w hn hs; rwa [vok_not.2 h] at this)
    rw [open_not.2 fun x => h x.1]
    clear hs h
    go_enter Tryd.func68, Tryd.ntmps68
    go_wp2_with fail
    refine HV.out.mono ?_
    rintro e w' ⟨rfl, rfl⟩
    go_wp2
    go_ret
    exact ⟨rfl, rfl⟩
/-- Horner's sum of the last k coefficients. -/
def hnF (p y : Int) (A : Nat → Int) (n k : Nat) : Int := sumN (fun t => A (n - k + t) * y ^ t) k % p
theorem hn_zero (p y : Int) (A : Nat → Int) (n : Nat) : hnF p y A n 0 = 0 := Int.zero_emod _
theorem hn_step (p y : Int) (A : Nat → Int) {n k : Nat} (hk : k < n) : (hnF p y A n k * y + A (n - 1 - k)) % p = hnF p y A n (k + 1) := by
  unfold hnF
  rw [sumN_first]
  have e1 : n - (k + 1) + 0 = n - 1 - k := by omega
  have e2 : sumN (fun i => A (n - (k + 1) + (i + 1)) * y ^ (i + 1)) k = sumN (fun t => A (n - k + t) * y ^ t) k * y := by
    rw [← sumN_mul_r]
    refine sumN_congr fun i _ => ?_
    rw [show n - (k + 1) + (i + 1) = n - k + i by omega, Int.pow_succ, Int.mul_assoc]
  rw [e1, e2, Int.pow_zero, Int.mul_one, Int.add_comm (A _)]
  exact emod_add_congr (emod_mul_congr (mod2 _ _) rfl) rfl
theorem hn_bd {p : Int} (hp : 0 < p) (y : Int) (A : Nat → Int) (n k : Nat) : 0 ≤ hnF p y A n k ∧ hnF p y A n k < p := ⟨Int.emod_nonneg _ (by omega), Int.emod_lt_of_pos _ hp⟩
theorem hn_end (p z : Int) (A : Nat → Int) (n i : Nat) : hnF p (z ^ (2 * i + 1) % p) A n n = ovF z n A i % p := by
  unfold hnF ovF
  refine sumN_mod fun t _ => ?_
  rw [Nat.sub_self, Nat.zero_add]
  refine emod_mul_congr rfl ?_
  rw [pow_mod_congr t (mod2 _ _), ← Int.pow_mul, Nat.mul_comm]
set_option maxRecDepth 100000 in
set_option maxHeartbeats 1600000 in
theorem sOddValues_on (f : Int) (a : Option Addr) (l : List Int) (cap : Nat) (w : World) (hn : l.length ≤ 1048576) (hs : Src w a l.length (lf l)) (h : OpenOk f l) : Calls Tryd.prog 69 #[.int .i64 f, .slice a l.length cap] w (ListL w (ovL f l)) := by
  obtain ⟨i0, hi, hz0, hz1, hz2⟩ := info_parts info3
  have HI := Lib.hid hi
  have HZ0 := Lib.hid hz0
  have HZ1 := Lib.hid hz1
  have HZ2 := Lib.hid hz2
  clear hi hz0 hz1 hz2
  have BA : Hid (∀ o, Below w.heap.size w (w.alloc o)) := Lib.hid fun o => (Below.refl _ _).alloc (Nat.le_refl _) o
  have HV : Hid (∀ w2, Below w.heap.size w w2 → Calls Tryd.prog 68 #[.int .i64 f, .slice a l.length cap] w2 (SameB w2 true)) := Lib.hid fun w2 hb => by
    have R1 := sOpen f a l cap w2 hn (hs.keep hb)
    rwa [open_iff.2 h] at R1
  have hn0 := h.1.pos.1
  have hn5 := h.1.pos.2
  obtain ⟨h0, h8⟩ := h.1.f08
  have hp := P_bd h0 h8
  have q7 : ¬ P f = 0 := by omega
  have kz : (P f == 0) = false := by rw [beq_eq_false_iff_ne]; omega
  have HA := Lib.hid h.1.lt
  have HPW := Lib.hid (fun (i : Nat) => power_nat h0 h8 (zL f l) i)
  obtain ⟨k9, hk9, hkn, hlk, hkh⟩ := h.1.log
  clear hkn hkh
  have HLK := Lib.hid hlk
  have HZ : Hid (mRoot f (mLog l.length + 1) = zL f l) := Lib.hid rfl
  rw [hlk] at HZ
  obtain ⟨b, off, rfl, hlt, hc⟩ := vec_some hs hn0
  have HC := Lib.hid hc
  have HF : Hid (∀ v W, W.ownsRow w.heap.size 3 1 v l.length (xsF (fun i => ovF (zL f l) l.length (lf l) i % P f) l.length) → Below w.heap.size w W → ListL w (ovL f l) (.returned v) W) := Lib.hid fun v W ho hb => (owns_to (w := w) (l := ovL f l) ho (ovL_len _ _).symm (fun j hj => (lf_ovL hj).symm) hb).list
  clear hs hc h hlk
  generalize ovL f l = OL at *
  generalize zL f l = z at *
  generalize lf l = A at *
  have HLL : Hid (mLog (l.length : Int) = k9) := HLK
  clear HLK
  generalize l.length = n at *
  go_enter Tryd.func69, Tryd.ntmps69
  go_wp2_with fail
  refine (HV.out _ (BA.out _)).mono ?_
  rintro e w' ⟨rfl, rfl⟩
  go_wp2_with fail
  refine (sModulus f _).mono ?_
  rintro e w' ⟨rfl, rfl⟩
  go_wp2_with fail
  refine (sLogOf n _).mono ?_
  rintro e w' ⟨rfl, rfl⟩
  rw [HLL.out]
  go_wp2_with fail
  refine (sRootOf f ((k9 : Int) + 1) _).mono ?_
  rintro e w' ⟨rfl, rfl⟩
  rw [HZ.out]
  go_wp2_with fail
  go_loopw [5, 8, 9, 10, 11] (fun v i _ _ _ wr => ∃ k : Nat, i = .int .i64 k ∧ k ≤ n ∧ wr.ownsRow w.heap.size 3 1 v k (xsF (fun i => ovF z n A i % P f) k) ∧ Below w.heap.size w wr) (fun _ i _ _ _ _ => n - (intOf i).toNat)
  case atStart => exact ⟨0, rfl, Nat.zero_le _, own_empty w _, BA.out _⟩
  case round =>
    obtain ⟨i, rfl, hin, hown, hnx⟩ := hrel
    have hs := hnx.size
    by_cases h1 : i < n
    · have hd1 : decide ((i : Int) < n) = true := decide_eq_true (by omega)
      have HOWN := Lib.hid hown
      clear hown
      have HP2 : Hid (mPower f z (2 * (i : Int) + 1) = z ^ (2 * i + 1) % P f) := Lib.hid (by
        have := HPW.out (2 * i + 1)
        rw [show ((2 * i + 1 : Nat) : Int) = 2 * (i : Int) + 1 by omega] at this
        exact this)
      have HEND := Lib.hid (hn_end (P f) z A n i)
      have YB : 0 ≤ z ^ (2 * i + 1) % P f ∧ z ^ (2 * i + 1) % P f < P f := ⟨Int.emod_nonneg _ (by omega), Int.emod_lt_of_pos _ (by omega)⟩
      go_wp2_with fail
      refine (sPower f z (2 * (i : Int) + 1) _).mono ?_
      rintro e w' ⟨rfl, rfl⟩
      rw [HP2.out]
      generalize z ^ (2 * i + 1) % P f = y at *
      go_wp2_with fail
      go_loop [10, 11] (fun s j => ∃ k : Nat, j = .int .i64 ((n : Int) - 1 - k) ∧ k ≤ n ∧ s = .int .i64 (hnF (P f) y A n k)) (fun _ j => (intOf j + 1).toNat)
      case atStart => exact ⟨0, by go_num, Nat.zero_le _, by rw [hn_zero]⟩
      case round =>
        obtain ⟨k, rfl, hk, rfl⟩ := hrel
        by_cases h3 : k < n
        · have hd3 : decide ((0 : Int) ≤ (n : Int) - 1 - k) = true := decide_eq_true (by omega)
          have d1 : wr.cell? ⟨b, off + (n - 1 - k), none⟩ = some (.int .i64 (A (n - 1 - k))) := (hnx.cell (p := ⟨b, off + (n - 1 - k), none⟩) hlt).trans (HC.out _ (by omega))
          have bA := HA.out (n - 1 - k)
          have bX := hn_bd (show 0 < P f by omega) y A n k
          have pb := prod_bd h0 h8 bX.1 bX.2 YB.1 YB.2
          have HS := Lib.hid (hn_step (P f) y A h3)
          have q2 : ((n : Int) - 1 - k).toNat = n - 1 - k := by omega
          have q3 : (0 : Int) ≤ (n : Int) - 1 - k := by omega
          have q4 : (n : Int) - 1 - k < n := by omega
          have tm : (hnF (P f) y A n k * y + A (n - 1 - k)).tmod (P f) = hnF (P f) y A n (k + 1) := by
            rw [Int.tmod_eq_emod_of_nonneg (by omega), HS.out]
          generalize hx2 : hnF (P f) y A n (k + 1) = X2 at *
          have HX := Lib.hid hx2
          clear hx2
          generalize hnF (P f) y A n k = X at *
          generalize A (n - 1 - k) = Y at *
          have q5 : IntKind.i64.wrap (X * y) = X * y := IntWalk.i64_in _ (by omega)
          have q6 : IntKind.i64.wrap (X * y + Y) = X * y + Y := IntWalk.i64_in _ (by omega)
          go_wp2
          go_round
          case rel => exact ⟨k + 1, by go_num, by omega, vint HX.out.symm⟩
          case measure => simp [intOf]; omega
        · have hd3 : decide ((0 : Int) ≤ (n : Int) - 1 - k) = false := decide_eq_false (by omega)
          obtain rfl : k = n := by omega
          rw [HEND.out]
          have hown := HOWN.out
          go_wp2_with (at_builtin; refine wpList_append_own _ rfl _ _ 24 rfl w.heap.size 3 i0 (.int .i64 0) 1 8 Tryd.underlying24 HI.out HZ0.out HZ1.out HZ2.out rfl (by decide) _ _ _ rfl (hown.alloc _) ⟨wr.heap.size, 0, none⟩ 1 1 [.int .i64 (ovF z k A i % P f)] rfl rfl ?d1 ?d2 ?d3 ?d4 ?d5 ?_)
          case d2 => first | rfl | (intro u hu; simp at hu; subst hu; rfl)
          case d3 => unfold maxLen; omega
          case d4 => omega
          case d5 => first | omega | (simp; omega)
          intro v' w1 hown' hgrow _
          have hbel : Below w.heap.size w w1 := (hnx.alloc (by omega) _).grown hgrow (by simp; omega) (own_ge hown)
          rw [xsF_succ (fun i => ovF z k A i % P f)] at hown'
          clear hgrow hown HOWN
          go_wp2
          go_roundw
          case rel => exact ⟨i + 1, by go_num, by omega, hown', hbel⟩
          case measure => simp [intOf]; omega
    · have hd1 : decide ((i : Int) < n) = false := decide_eq_false (by omega)
      obtain rfl : i = n := by omega
      have HO := Lib.hid (HF.out _ wr hown hnx)
      clear hown
      go_wp2
      go_ret
      exact HO.out
set_option maxRecDepth 100000 in
set_option maxHeartbeats 1600000 in
theorem sNorm (f : Int) (a : Option Addr) (l : List Int) (cap : Nat) (w : World) (hn : l.length ≤ 1048576) (hs : Src w a l.length (lf l)) : Calls Tryd.prog 31 #[.int .i64 f, .slice a l.length cap] w (IntP w (mNorm f l)) := by
  by_cases h : OpenOk f l
  · rw [show mNorm f l = prF f (lf (ovL f l)) (ovL f l).length by unfold mNorm; rw [if_pos h]; unfold nmL; rw [ovL_len]]
    have HV : Hid (Calls Tryd.prog 68 #[.int .i64 f, .slice a l.length cap] w (SameB w true)) := Lib.hid (by
      have R1 := sOpen f a l cap w hn hs
      rwa [open_iff.2 h] at R1)
    have HO := Lib.hid (sOddValues_on f a l cap w hn hs h)
    have h08 := h.1.f08
    have hov : (ovL f l).length ≤ 512 := by rw [ovL_len]; exact h.1.pos.2
    clear hs h
    generalize ovL f l = X at *
    go_enter Tryd.func31, Tryd.ntmps31
    go_wp2_with fail
    refine HV.out.mono ?_
    rintro e w' ⟨rfl, rfl⟩
    go_wp2_with fail
    refine HO.out.mono ?_
    rintro e w1 ⟨ao, co, rfl, so, b1⟩
    have HSO := Lib.hid so
    clear so HO HV
    generalize lf X = G at *
    generalize X.length = m at *
    go_wp2_with fail
    go_loop [6, 7] (fun o i => ∃ k : Nat, i = .int .i64 k ∧ k ≤ m ∧ o = .int .i64 (prF f G k)) (fun _ i => m - (intOf i).toNat)
    case atStart => exact ⟨0, rfl, Nat.zero_le _, rfl⟩
    case round =>
      obtain ⟨k, rfl, hk, rfl⟩ := hrel
      by_cases h1 : k < m
      · have hd1 : decide ((k : Int) < m) = true := decide_eq_true (by omega)
        obtain ⟨b, off, rfl, hlt, hc⟩ := vec_some HSO.out (by omega)
        have c1 : w1.cell? ⟨b, off + k, none⟩ = some (.int .i64 (G k)) := hc k h1
        have HM : Hid (mMul f (prF f G k) (G k) = prF f G (k + 1)) := Lib.hid (by unfold mMul; rw [if_pos h08]; rfl)
        clear hc
        go_wp2_with fail
        refine (sMul f (prF f G k) (G k) _).mono ?_
        rintro e w' ⟨rfl, rfl⟩
        rw [HM.out]
        go_wp2
        go_round
        case rel => exact ⟨k + 1, by go_num, by omega, rfl⟩
        case measure => simp [intOf]; omega
      · have hd1 : decide ((k : Int) < m) = false := decide_eq_false (by omega)
        obtain rfl : k = m := by omega
        go_wp2
        go_ret
        exact ⟨rfl, b1⟩
  · rw [show mNorm f l = -1 by unfold mNorm; rw [if_neg h]]
    have HV : Hid (Calls Tryd.prog 68 #[.int .i64 f, .slice a l.length cap] w (SameB w false)) := Lib.hid (by
      have R1 := sOpen f a l cap w hn hs
      rwa [open_not.2 h] at R1)
    clear hs h
    go_enter Tryd.func31, Tryd.ntmps31
    go_wp2_with fail
    refine HV.out.mono ?_
    rintro e w' ⟨rfl, rfl⟩
    go_wp2
    go_ret
    exact ⟨rfl, Below.refl _ _⟩
end Go.Proofs.YtoonpnfhcmghmaaDoor
namespace Go.Proofs.YtoonpnfhcmghmaaDoor
open Go.RowKit
/-- The sum so far, at place j. -/
def osF (p v : Int) (V : Nat → Int) (j k : Nat) : Int := sumN (fun i => V i * v ^ (j * (2 * i + 1))) k % p
theorem os_zero (p v : Int) (V : Nat → Int) (j : Nat) : osF p v V j 0 = 0 := Int.zero_emod _
theorem os_step {f z v : Int} {n : Nat} (h : Rt f z v (2 * n)) (V : Nat → Int) (j k : Nat) : (osF (P f) v V j k + V k * (v ^ (j * (2 * k + 1) % (2 * n)) % P f)) % P f = osF (P f) v V j (k + 1) := by
  unfold osF
  show _ = (sumN (fun i => V i * v ^ (j * (2 * i + 1))) k + V k * v ^ (j * (2 * k + 1))) % P f
  refine emod_add_congr (mod2 _ _) (emod_mul_congr rfl ?_)
  rw [mod2]
  exact h.swap.exp (Nat.mod_mod _ _)
theorem os_bd {p : Int} (hp : 0 < p) (v : Int) (V : Nat → Int) (j k : Nat) : 0 ≤ osF p v V j k ∧ osF p v V j k < p := ⟨Int.emod_nonneg _ (by omega), Int.emod_lt_of_pos _ hp⟩
theorem pow_next8 (p z : Int) (k : Nat) : (z ^ k % p * z) % p = z ^ (k + 1) % p := by
  rw [Int.pow_succ]
  exact emod_mul_congr (mod2 _ _) rfl
theorem zv_bd {f : Int} {l : List Int} (h : OpenOk f l) : 0 < zvL f l ∧ zvL f l < P f := invR_bd h.has.1
set_option maxRecDepth 100000 in
set_option maxHeartbeats 3200000 in
theorem sOddBack_on (f : Int) (a : Option Addr) (l : List Int) (cap : Nat) (w : World) (hn : l.length ≤ 1048576) (hs : Src w a l.length (lf l)) (h : OpenOk f l) : Calls Tryd.prog 71 #[.int .i64 f, .slice a l.length cap] w (ListL w (obL f l)) := by
  obtain ⟨i0, hi, hz0, hz1, hz2⟩ := info_parts info3
  have HI := Lib.hid hi
  have HZ0 := Lib.hid hz0
  have HZ1 := Lib.hid hz1
  have HZ2 := Lib.hid hz2
  clear hi hz0 hz1 hz2
  have BA : Hid (∀ o, Below w.heap.size w (w.alloc o)) := Lib.hid fun o => (Below.refl _ _).alloc (Nat.le_refl _) o
  have HV : Hid (∀ w2, Below w.heap.size w w2 → Calls Tryd.prog 68 #[.int .i64 f, .slice a l.length cap] w2 (SameB w2 true)) := Lib.hid fun w2 hb => by
    have R1 := sOpen f a l cap w2 hn (hs.keep hb)
    rwa [open_iff.2 h] at R1
  have hn0 := h.1.pos.1
  have hn5 := h.1.pos.2
  obtain ⟨h0, h8⟩ := h.1.f08
  have hp := P_bd h0 h8
  have q7 : ¬ P f = 0 := by omega
  have kz : (P f == 0) = false := by rw [beq_eq_false_iff_ne]; omega
  have HA := Lib.hid h.1.lt
  have ZB := zv_bd h
  have HST := Lib.hid (os_step h.rt (lf l))
  obtain ⟨k9, hk9, hkn, hlk, hkh⟩ := h.1.log
  clear hkn hkh
  have HLK := Lib.hid hlk
  have HZ : Hid (mPower f (mRoot f (mLog l.length + 1)) (-1) = zvL f l) := Lib.hid rfl
  rw [hlk] at HZ
  obtain ⟨b, off, rfl, hlt, hc⟩ := vec_some hs hn0
  have HC := Lib.hid hc
  have HF : Hid (∀ v W, W.ownsRow w.heap.size 3 1 v l.length (xsF (fun j => RS (obF (zvL f l) l.length (lf l) j * mPower f l.length (-1)) (P f)) l.length) → Below w.heap.size w W → ListL w (obL f l) (.returned v) W) := Lib.hid fun v W ho hb => (owns_to (w := w) (l := obL f l) ho (obL_len _ _).symm (fun j hj => by unfold obL; rw [lf_tab, if_pos hj]) hb).list
  have HEND : Hid (∀ j, mMul f (osF (P f) (zvL f l) (lf l) j l.length) (mPower f l.length (-1)) = RS (obF (zvL f l) l.length (lf l) j * mPower f l.length (-1)) (P f)) := Lib.hid fun j => by
    unfold mMul
    rw [if_pos ⟨h0, h8⟩]
    exact emod_mul_congr (mod2 _ _) rfl
  clear hs hc h hlk
  have HLL : Hid (mLog (l.length : Int) = k9) := HLK
  clear HLK
  generalize obL f l = OL at *
  generalize zvL f l = z at *
  generalize lf l = A at *
  generalize l.length = n at *
  generalize hG : (fun j => RS (obF z n A j * mPower f n (-1)) (P f)) = G at HF
  have HG : Hid (∀ j, mMul f (osF (P f) z A j n) (mPower f n (-1)) = G j) := Lib.hid fun j => by rw [HEND.out, ← hG]
  clear HEND hG
  have OE := Lib.hid (own_empty w G)
  go_enter Tryd.func71, Tryd.ntmps71
  go_wp2_with fail
  refine (HV.out _ (BA.out _)).mono ?_
  rintro e w' ⟨rfl, rfl⟩
  go_wp2_with fail
  refine (sModulus f _).mono ?_
  rintro e w' ⟨rfl, rfl⟩
  go_wp2_with fail
  refine (sLogOf n _).mono ?_
  rintro e w' ⟨rfl, rfl⟩
  rw [HLL.out]
  go_wp2_with fail
  refine (sRootOf f ((k9 : Int) + 1) _).mono ?_
  rintro e w' ⟨rfl, rfl⟩
  go_wp2_with fail
  refine (sInverse f (mRoot f ((k9 : Int) + 1)) _).mono ?_
  rintro e w' ⟨rfl, rfl⟩
  rw [HZ.out]
  obtain ⟨W1, hW1⟩ : ∃ W1, w.alloc (.cells #[] 3) = W1 := ⟨_, rfl⟩
  have hz1 : W1.heap.size = w.heap.size + 1 := by rw [← hW1]; simp
  have hb1 : Below w.heap.size w W1 := by rw [← hW1]; exact BA.out _
  rw [hW1] at OE ⊢
  have HZS := Lib.hid hz1
  clear hW1 HV hz1
  go_wp2_with fail
  go_loopw [9, 10, 11] (fun v x i wr => ∃ k : Nat, i = .int .i64 k ∧ k ≤ 2 * n ∧ x = .int .i64 (z ^ k % P f) ∧ wr.ownsRow W1.heap.size 3 1 v k (xsF (fun i => z ^ i % P f) k) ∧ Below W1.heap.size W1 wr) (fun _ _ i _ => 2 * n - (intOf i).toNat)
  case atStart => exact ⟨0, rfl, Nat.zero_le _, vint (by rw [Int.pow_zero]; exact (Int.emod_eq_of_lt (by omega) (by omega)).symm), own_empty W1 _, (Below.refl _ _).alloc (Nat.le_refl _) _⟩
  case round =>
    obtain ⟨k, rfl, hk, rfl, hown, hnx⟩ := hrel
    have hs := hnx.size
    by_cases h1 : k < 2 * n
    · have hd1 : decide ((k : Int) < 2 * (n : Int)) = true := decide_eq_true (by omega)
      have YB : 0 ≤ z ^ k % P f ∧ z ^ k % P f < P f := ⟨Int.emod_nonneg _ (by omega), Int.emod_lt_of_pos _ (by omega)⟩
      have pb := prod_bd h0 h8 YB.1 YB.2 (show 0 ≤ z by omega) ZB.2
      have HN := Lib.hid (pow_next8 (P f) z k)
      have HX := Lib.hid (xsF_succ (fun i => z ^ i % P f) k)
      have tm : (z ^ k % P f * z).tmod (P f) = z ^ (k + 1) % P f := by
        rw [Int.tmod_eq_emod_of_nonneg (by omega), HN.out]
      generalize hy2 : z ^ (k + 1) % P f = y2 at *
      have HY2 := Lib.hid hy2
      clear hy2
      have HXX : Hid (∀ (w' : World) (v' : Value), w'.ownsRow W1.heap.size 3 1 v' (k + 1) (xsF (fun i => z ^ i % P f) k ++ [.int .i64 (z ^ k % P f)]) → w'.ownsRow W1.heap.size 3 1 v' (k + 1) (xsF (fun i => z ^ i % P f) (k + 1))) := Lib.hid fun (w' : World) (v' : Value) h => by rw [← HX.out]; exact h
      generalize xsF (fun i => z ^ i % P f) k = XS at *
      generalize z ^ k % P f = y at *
      go_wp2_with (at_builtin; refine wpList_append_own _ rfl _ _ 24 rfl W1.heap.size 3 i0 (.int .i64 0) 1 8 Tryd.underlying24 HI.out HZ0.out HZ1.out HZ2.out rfl (by decide) _ _ _ rfl (hown.alloc _) ⟨wr.heap.size, 0, none⟩ 1 1 [.int .i64 y] rfl rfl ?c1 ?c2 ?c3 ?c4 ?c5 ?_)
      case c1 => exact cell_one_new _ _ _
      case c2 => first | rfl | (intro u hu; simp at hu; subst hu; rfl)
      case c3 => unfold maxLen; omega
      case c4 => omega
      case c5 => first | omega | (simp; omega)
      intro v' w2 hown' hgrow _
      have hbel : Below W1.heap.size W1 w2 := (hnx.alloc hs _).grown hgrow (by simp; omega) (own_ge hown)
      have hown2 := HXX.out w2 v' hown'
      have q5 : IntKind.i64.wrap (y * z) = y * z := IntWalk.i64_in _ (by omega)
      clear hgrow hown hown' HXX
      go_wp2
      go_roundw
      case rel => exact ⟨k + 1, by go_num, by omega, vint HY2.out.symm, hown2, hbel⟩
      case measure => simp [intOf]; omega
    · have hd1 : decide ((k : Int) < 2 * (n : Int)) = false := decide_eq_false (by omega)
      obtain rfl : k = 2 * n := by omega
      obtain ⟨bs, cap1, rfl, hbs, hov⟩ := OwnV.of_owns hown (by omega)
      have HCS0 : Hid (∀ j, j < 2 * n → wr.cell? ⟨bs, j, none⟩ = some (.int .i64 (z ^ j % P f))) := Lib.hid fun j hj => hov.cell hj
      have hlts0 := hov.lt
      have hbs2 : w.heap.size < bs := by have := HZS.out; omega
      have HE1 := Lib.hid (OE.out.kept (grown_none hnx) (by cases Value.ownBlock _ <;> simp))
      have hb2 : Below w.heap.size w wr := below_up hb1 hnx (by have := HZS.out; omega)
      clear hown hov hnx OE
      go_wp2_with fail
      refine (sInverse f n _).mono ?_
      rintro e w' ⟨rfl, rfl⟩
      go_wp2_with fail
      go_loopw [5, 13, 14, 15] (fun v i _ _ wr => ∃ k : Nat, i = .int .i64 k ∧ k ≤ n ∧ wr.ownsRow w.heap.size 3 1 v k (xsF G k) ∧ v.ownBlock ≠ some bs ∧ bs < wr.heap.size ∧ Hid (∀ j, j < 2 * n → wr.cell? ⟨bs, j, none⟩ = some (.int .i64 (z ^ j % P f))) ∧ Below w.heap.size w wr) (fun _ i _ _ _ => n - (intOf i).toNat)
      case atStart => exact ⟨0, rfl, Nat.zero_le _, HE1.out, (fun e => by injection e with e; have e : w.heap.size = bs := e; omega), hlts0, HCS0, hb2⟩
      case round =>
        clear HE1 HCS0 hlts0 hb2
        obtain ⟨k, rfl, hk2, hown, hne, hlts, HCS, hnx⟩ := hrel
        have hs2 := hnx.size
        by_cases h3 : k < n
        · have hd3 : decide ((k : Int) < n) = true := decide_eq_true (by omega)
          have HOWN := Lib.hid hown
          clear hown
          go_wp2_with fail
          go_loopw [14, 15] (fun s j W2 => ∃ m : Nat, j = .int .i64 m ∧ m ≤ n ∧ s = .int .i64 (osF (P f) z A k m) ∧ ∃ q, W2 = wr.drewN q) (fun _ j _ => n - (intOf j).toNat)
          case atStart => exact ⟨0, rfl, Nat.zero_le _, by rw [os_zero], 0, rfl⟩
          case round =>
            obtain ⟨m, rfl, hm, rfl, q, rfl⟩ := hrel
            by_cases h4 : m < n
            · have hd4 : decide ((m : Int) < n) = true := decide_eq_true (by omega)
              have d1 : wr.cell? ⟨b, off + m, none⟩ = some (.int .i64 (A m)) := (hnx.cell (p := ⟨b, off + m, none⟩) hlt).trans (HC.out m h4)
              obtain ⟨KM, hKM⟩ : ∃ KM : Nat, KM = k * (2 * m + 1) := ⟨_, rfl⟩
              have kb : KM ≤ 512 * 1025 := by rw [hKM]; exact Nat.mul_le_mul (by omega) (by omega)
              have km : (k : Int) * (2 * (m : Int) + 1) = (KM : Int) := by rw [hKM, Int.natCast_mul]; rfl
              have hS := HST.out k m
              rw [← hKM] at hS
              clear hKM
              have hU : KM % (2 * n) < 2 * n := Nat.mod_lt _ (by omega)
              have d2 : wr.cell? ⟨bs, KM % (2 * n), none⟩ = some (.int .i64 (z ^ (KM % (2 * n)) % P f)) := HCS.out _ hU
              have bA := HA.out m
              have YB : 0 ≤ z ^ (KM % (2 * n)) % P f ∧ z ^ (KM % (2 * n)) % P f < P f := ⟨Int.emod_nonneg _ (by omega), Int.emod_lt_of_pos _ (by omega)⟩
              have pb := prod_bd h0 h8 bA.1 bA.2 YB.1 YB.2
              have pr := os_bd (show 0 < P f by omega) z A k m
              have HS := Lib.hid hS
              clear hS
              have qa : IntKind.i64.wrap ((k : Int) * (2 * (m : Int) + 1)) = (KM : Int) := by rw [km]; exact IntWalk.i64_in _ (by omega)
              have tm : (KM : Int).tmod (2 * (n : Int)) = ((KM % (2 * n) : Nat) : Int) := by
                rw [Int.tmod_eq_emod_of_nonneg (by omega), Int.natCast_emod]; rfl
              have qn : IntKind.i64.wrap (2 * (n : Int)) = 2 * (n : Int) := IntWalk.i64_in _ (by omega)
              have kz2 : ((2 * (n : Int)) == 0) = false := by rw [beq_eq_false_iff_ne]; omega
              have kz3 : ¬ (2 * (n : Int)) = 0 := by omega
              have tS : (osF (P f) z A k m + A m * (z ^ (KM % (2 * n)) % P f)).tmod (P f) = osF (P f) z A k (m + 1) := by
                rw [Int.tmod_eq_emod_of_nonneg (by omega), HS.out]
              generalize hS2 : osF (P f) z A k (m + 1) = S2 at *
              have HS2 := Lib.hid hS2
              clear hS2 HS km
              generalize osF (P f) z A k m = S at *
              generalize z ^ (KM % (2 * n)) % P f = Y at *
              generalize KM % (2 * n) = U at *
              have q2 : ((U : Nat) : Int).toNat = U := by omega
              have q3 : (0 : Int) ≤ ((U : Nat) : Int) := by omega
              have q4 : ((U : Nat) : Int) < 2 * (n : Int) := by omega
              have q4b : ((U : Nat) : Int) < ((2 * n : Nat) : Int) := by omega
              have q5 : IntKind.i64.wrap (A m * Y) = A m * Y := IntWalk.i64_in _ (by omega)
              have q6 : IntKind.i64.wrap (S + A m * Y) = S + A m * Y := IntWalk.i64_in _ (by omega)
              go_wp2
              go_quiet (fail)
              go_wp2
              go_roundw
              case rel => exact ⟨m + 1, by go_num, by omega, vint HS2.out.symm, _, rfl⟩
              case measure => simp [intOf]; omega
            · have hd4 : decide ((m : Int) < n) = false := decide_eq_false (by omega)
              obtain rfl : m = n := by omega
              have hown : (wr.drewN q).ownsRow w.heap.size 3 1 _ k (xsF G k) := HOWN.out
              have hbq := below_drewN hnx q
              have hqs : w.heap.size ≤ (wr.drewN q).heap.size := hs2
              have HCQ : Hid (∀ j, j < 2 * m → (wr.drewN q).cell? ⟨bs, j, none⟩ = some (.int .i64 (z ^ j % P f))) := Lib.hid fun j hj => HCS.out j hj
              have hltq : bs < (wr.drewN q).heap.size := hlts
              have HGK := Lib.hid (HG.out k)
              have HXS := Lib.hid (xsF_succ G k)
              clear HCS hlts
              go_wp2_with fail
              refine (sMul f (osF (P f) z A k m) (mPower f m (-1)) _).mono ?_
              rintro e w' ⟨rfl, rfl⟩
              rw [HGK.out]
              generalize G k = GK at *
              generalize wr.drewN q = W3 at *
              go_wp2_with (at_builtin; refine wpList_append_own_at _ rfl _ _ 24 rfl w.heap.size 3 i0 (.int .i64 0) 1 8 Tryd.underlying24 HI.out HZ0.out HZ1.out HZ2.out rfl (by decide) _ _ _ rfl (hown.alloc _) ⟨W3.heap.size, 0, none⟩ 1 1 [.int .i64 GK] rfl rfl ?d1 ?d2 ?d3 ?d4 ?d5 ?_)
              case d1 => exact cell_one_new _ _ _
              case d2 => first | rfl | (intro u hu; simp at hu; subst hu; rfl)
              case d3 => unfold maxLen; omega
              case d4 => omega
              case d5 => first | omega | (simp; omega)
              intro v' w2 hown' hgrow _ hat
              have hbel : Below w.heap.size w w2 := (hbq.alloc (by omega) _).grown hgrow (by simp; omega) (own_ge hown)
              have HCS2 : Hid (∀ j, j < 2 * m → w2.cell? ⟨bs, j, none⟩ = some (.int .i64 (z ^ j % P f))) := Lib.hid fun j hj => hgrow.cell ((World.grownBy_alloc W3 _ none).cell (HCQ.out j hj) (by simp)) (fun e => hne e.symm)
              have hlt2 : bs < w2.heap.size := by have := hgrow.size; simp at this; omega
              have hne2 : v'.ownBlock ≠ some bs := fun e => by
                rcases hat with h | h
                · exact hne (h.symm.trans e)
                · rw [e] at h; injection h with h; first | omega | (simp at h; omega)
              have hown2 : w2.ownsRow w.heap.size 3 1 v' (k + 1) (xsF G (k + 1)) := by rw [← HXS.out]; exact hown'
              clear hgrow hown hown' HCQ HOWN
              go_wp2
              go_roundw
              case rel => exact ⟨k + 1, by go_num, by omega, hown2, hne2, hlt2, HCS2, hbel⟩
              case measure => simp [intOf]; omega
        · have hd3 : decide ((k : Int) < n) = false := decide_eq_false (by omega)
          obtain rfl : k = n := by omega
          have HO := Lib.hid (HF.out _ wr hown hnx)
          clear hown
          go_wp2
          go_ret
          exact HO.out
theorem sOddBack (f : Int) (a : Option Addr) (l : List Int) (cap : Nat) (w : World) (hn : l.length ≤ 1048576) (hs : Src w a l.length (lf l)) : Calls Tryd.prog 71 #[.int .i64 f, .slice a l.length cap] w (ListL w (mOddBack f l)) := by
  by_cases h : OpenOk f l
  · rw [show mOddBack f l = obL f l by unfold mOddBack; rw [if_pos h]]
    exact sOddBack_on f a l cap w hn hs h
  · rw [show mOddBack f l = [] by unfold mOddBack; rw [if_neg h]]
    have BA : Hid (∀ o, Below w.heap.size w (w.alloc o)) := Lib.hid fun o => (Below.refl _ _).alloc (Nat.le_refl _) o
    have HV : Hid (∀ w2, Below w.heap.size w w2 → Calls Tryd.prog 68 #[.int .i64 f, .slice a l.length cap] w2 (SameB w2 false)) := Lib.hid fun w2 hb => by
      have R1 := sOpen f a l cap w2 hn (hs.keep hb)
      rwa [open_not.2 h] at R1
    clear hs h
    go_enter Tryd.func71, Tryd.ntmps71
    go_wp2_with fail
    refine (HV.out _ (BA.out _)).mono ?_
    rintro e w' ⟨rfl, rfl⟩
    go_wp2
    go_ret
    exact ⟨none, 0, rfl, .inl rfl, BA.out _⟩
end Go.Proofs.YtoonpnfhcmghmaaDoor
namespace Go.Proofs.YtoonpnfhcmghmaaDoor
open Go.RowKit
/-- A cursor, a field and a vector that is read apart from the cursor. -/
def DrawO (w : World) (e : Ending) (w' : World) : Prop := ∃ (f : Int) (a : Option Addr) (l : List Int) (cap : Nat),
  e = .returned (.tuple #[.pointer (some ⟨w.heap.size, 0, none⟩), .int .i64 f, .slice a l.length cap]) ∧ l.length ≤ 513 ∧ SrcO w.heap.size w' a l.length (lf l) ∧ Cur w.heap.size w' ∧ Below w.heap.size w w'
theorem SrcO.cut {g : Nat} {w : World} {a : Option Addr} {l : List Int} {m : Nat} (h : SrcO g w a l.length (lf l)) (hm : m ≤ l.length) : (l.take m).length = m ∧ SrcO g w a (l.take m).length (lf (l.take m)) := by
  have hl : (l.take m).length = m := by rw [List.length_take]; omega
  refine ⟨hl, ?_⟩
  rw [hl]
  have hF : ∀ j, j < m → lf (l.take m) j = lf l j := fun j hj => by
    unfold lf
    rw [List.getD_eq_getElem?_getD, List.getD_eq_getElem?_getD, List.getElem?_take_of_lt hj]
  rcases h with h | ⟨b, off, rfl, hne, hlt, hc⟩
  · exact .inl (by omega)
  · exact .inr ⟨b, off, rfl, hne, hlt, fun j hj => by rw [hc j (by omega), hF j hj]⟩
set_option maxRecDepth 100000 in
set_option maxHeartbeats 3200000 in
theorem drawOpen_c (a : Option Addr) (len cap : Nat) (w : World) (hl : len ≤ 1048576) (hc : Code w a len) : Calls Tryd.prog 66 #[.slice a len cap] w (DrawO w) := by
  go_enter Tryd.func66, Tryd.ntmps66
  go_wp2_with fail
  refine (new_c a len cap w hc).mono ?_
  rintro e w1 ⟨rfl, b1, c1⟩
  go_wp2_with fail
  refine (field_c w.heap.size w1 c1).mono ?_
  rintro e w2 ⟨f, hf8, rfl, g2, c2⟩
  go_wp2_with fail
  refine (drawVector_c w.heap.size f a len cap w2 c2 hl).mono ?_
  rintro e w3 ⟨l, a3, cap3, rfl, hl3, hcap, s3, c3, g3⟩
  have b3 := below_of_grown b1 (g2.trans g3)
  have HS3 := Lib.hid s3
  clear b1 g2 g3 c1 c2 s3 hc
  have hT := T_le f
  have HTP := Lib.hid (sTwoPower f w3)
  by_cases h0 : 0 < T f
  · have hd : decide (0 < T f) = true := decide_eq_true h0
    have hsh : wrap64 (2 ^ (T f).toNat) = two (T f) := shl_at (by omega) hT
    have hQ0 : 0 < two (T f) := by unfold two; exact Int.pow_pos (by omega)
    generalize two (T f) = Q at *
    generalize T f = t at *
    go_wp2_with fail
    refine HTP.out.mono ?_
    rintro e w' ⟨rfl, rfl⟩
    by_cases hq : ((l.length : Int) == Q) = true
    · go_wp2_with fail
      refine (once_c w.heap.size 4 w3 c3 (by omega) (by omega)).mono ?_
      rintro e w4 ⟨b, rfl, g4, c4⟩
      have HS4 := Lib.hid (HS3.out.grown g4)
      have b4 := below_of_grown b3 g4
      clear HS3 HTP b3 g4 c3
      cases b with
      | true =>
        go_wp2
        go_ret3
        exact ⟨f, a3, l, cap3, rfl, hl3, HS4.out, c4, b4⟩
      | false =>
        have hn1 : 1 ≤ l.length := by
          have : (l.length : Int) = Q := by simpa using hq
          omega
        obtain ⟨b3, o3, rfl⟩ : ∃ b3 o3, a3 = some ⟨b3, o3, none⟩ := by
          rcases HS4.out with h | ⟨b3, o3, h, _⟩
          · omega
          · exact ⟨b3, o3, h⟩
        obtain ⟨n, hn⟩ : ∃ n, n = l.length := ⟨_, rfl⟩
        obtain ⟨m, hm⟩ : ∃ m, m = n / 2 := ⟨_, rfl⟩
        have HC : Hid ((l.take m).length = m ∧ SrcO w.heap.size w4 (some ⟨b3, o3, none⟩) (l.take m).length (lf (l.take m))) := Lib.hid (HS4.out.cut (by omega))
        have HF : Hid (DrawO w (.returned (.tuple #[.pointer (some ⟨w.heap.size, 0, none⟩), .int .i64 f, .slice (some ⟨b3, o3, none⟩) m cap3])) w4) := Lib.hid ⟨f, _, l.take m, cap3, by rw [HC.out.1], by rw [HC.out.1]; omega, HC.out.2, c4, b4⟩
        have td : wrap64 ((n : Int) / 2) = (m : Int) := by rw [IntWalk.wrap64_in _ (by omega)]; omega
        have hc0 : ¬ cap3 = 0 := by omega
        have hmc : (m : Int) ≤ cap3 := by omega
        have hmc2 : m ≤ cap3 := by omega
        rw [← hn] at *
        clear HS4 HC b4 c4 hm
        go_wp2
        go_ret3
        exact HF.out
    · have hq3 : ((l.length : Int) == Q) = false := by simpa using hq
      go_wp2_with fail
      go_wp2
      go_ret3
      exact ⟨f, a3, l, cap3, rfl, hl3, HS3.out, c3, b3⟩
  · have hd : decide (0 < T f) = false := decide_eq_false h0
    generalize T f = t at *
    go_wp2_with fail
    refine HTP.out.mono ?_
    rintro e w' ⟨rfl, rfl⟩
    go_wp2
    go_ret3
    exact ⟨f, a3, l, cap3, rfl, hl3, HS3.out, c3, b3⟩
end Go.Proofs.YtoonpnfhcmghmaaDoor
namespace Go.Proofs.YtoonpnfhcmghmaaDoor
open Mth
/-- Rounded quotients. -/
theorem cen_bd {f x : Int} (h0 : 0 ≤ f) (h8 : f ≤ 8) (hx : 0 ≤ x ∧ x < P f) : 2 * cenF f x < P f ∧ - P f < 2 * cenF f x ∧ RS (cenF f x) (P f) = x := by
  have ho := P_odd h0 h8
  have hp := P_bd h0 h8
  unfold cenF RS
  split
  · refine ⟨by omega, by omega, ?_⟩
    rw [Int.sub_emod_right]
    exact Int.emod_eq_of_lt hx.1 hx.2
  · exact ⟨by omega, by omega, Int.emod_eq_of_lt hx.1 hx.2⟩
theorem cen_rs {f q : Int} (h1 : 2 * q < P f) (h2 : - P f < 2 * q) : cenF f (RS q (P f)) = q := by
  unfold cenF RS
  by_cases h : 0 ≤ q
  · rw [Int.emod_eq_of_lt h (by omega), if_neg (by omega)]
  · have e : q % P f = q + P f := by
      rw [← Int.add_emod_right]
      exact Int.emod_eq_of_lt (by omega) (by omega)
    rw [e, if_pos (by omega)]
    omega
/-- Rounding down, as each side does it. -/
theorem floor_spec {a m : Int} (hm : 0 < m) : (if a.tdiv m * m > a then a.tdiv m - 1 else a.tdiv m) = a / m := by
  have h1 := Int.mul_tdiv_add_tmod a m
  have h2 := Int.emod_add_mul_ediv a m
  have b1 := Int.emod_nonneg a (b := m) (by omega)
  have b2 := Int.emod_lt_of_pos a hm
  have b3 := Int.lt_tmod_of_pos a hm
  have b4 := Int.tmod_lt_of_pos a hm
  rw [Int.mul_comm] at h1 h2
  generalize a.tdiv m = q at *
  generalize a / m = r at *
  generalize a.tmod m = s at *
  have hd : (q - r) * m = a % m - s := by rw [Int.sub_mul]; omega
  split
  · rename_i h
    have hs : s < 0 := by omega
    have e : q - r = 1 := by
      rcases Int.lt_trichotomy (q - r) 1 with h3 | h3 | h3
      · have := Int.mul_le_mul_of_nonneg_right (show q - r ≤ 0 by omega) (show 0 ≤ m by omega); omega
      · exact h3
      · have := Int.mul_le_mul_of_nonneg_right (show 2 ≤ q - r by omega) (show 0 ≤ m by omega); omega
    omega
  · rename_i h
    have e : q - r = 0 := by
      rcases Int.lt_trichotomy (q - r) 0 with h3 | h3 | h3
      · have := Int.mul_le_mul_of_nonneg_right (show q - r ≤ -1 by omega) (show 0 ≤ m by omega); omega
      · exact h3
      · have := Int.mul_le_mul_of_nonneg_right (show 1 ≤ q - r by omega) (show 0 ≤ m by omega); omega
    omega
theorem floor_prog {a m : Int} (hm : 0 < m) : (a - RS a m).tdiv m = a / m := by
  have h2 := Int.emod_add_mul_ediv a m
  have e : a - RS a m = m * (a / m) := by unfold RS; omega
  rw [e, Int.mul_tdiv_cancel_left _ (by omega)]
theorem rs_bd {f b x : Int} (h0 : 0 ≤ f) (h8 : f ≤ 8) (hb : 1 ≤ b) (hx : 0 ≤ x ∧ x < P f) :
    2 * ((2 * cenF f x + b) / (2 * b)) < P f ∧ - P f < 2 * ((2 * cenF f x + b) / (2 * b)) ∧ 2 * b * ((2 * cenF f x + b) / (2 * b)) ≤ 2 * cenF f x + b ∧ 2 * cenF f x + b < 2 * b * ((2 * cenF f x + b) / (2 * b)) + 2 * b := by
  obtain ⟨c1, c2, _⟩ := cen_bd h0 h8 hx
  generalize cenF f x = e at *
  have h2 := Int.emod_add_mul_ediv (2 * e + b) (2 * b)
  have b1 := Int.emod_nonneg (2 * e + b) (b := 2 * b) (by omega)
  have b2 := Int.emod_lt_of_pos (2 * e + b) (b := 2 * b) (by omega)
  generalize (2 * e + b) / (2 * b) = q at *
  refine ⟨?_, ?_, by omega, by omega⟩
  · by_cases he : 0 ≤ e
    · have hq : q ≤ e := by
        rcases Int.lt_or_le e q with h | h
        · have h3 := Int.mul_le_mul_of_nonneg_left (show e + 1 ≤ q by omega) (show 0 ≤ 2 * b by omega)
          have h4 := Int.mul_le_mul_of_nonneg_right (show (2 : Int) ≤ 2 * b by omega) he
          rw [Int.mul_add] at h3
          omega
        · exact h
      omega
    · have hq : q ≤ 0 := by
        rcases Int.lt_or_le 0 q with h | h
        · have h3 := Int.mul_le_mul_of_nonneg_left (show 1 ≤ q by omega) (show 0 ≤ 2 * b by omega)
          omega
        · exact h
      have := P_bd h0 h8
      omega
  · by_cases he : 0 ≤ e
    · have hq : 0 ≤ q := by
        rcases Int.lt_or_le q 0 with h | h
        · have h3 := Int.mul_le_mul_of_nonneg_left (show q ≤ -1 by omega) (show 0 ≤ 2 * b by omega)
          omega
        · exact h
      have := P_bd h0 h8
      omega
    · have hq : e ≤ q := by
        rcases Int.lt_or_le q e with h | h
        · have h3 := Int.mul_le_mul_of_nonneg_left (show q ≤ e - 1 by omega) (show 0 ≤ 2 * b by omega)
          have h4 := Int.mul_le_mul_of_nonpos_right (show (2 : Int) ≤ 2 * b by omega) (show e ≤ 0 by omega)
          rw [Int.mul_sub] at h3
          omega
        · exact h
      omega
theorem rscL_len (f : Int) (l : List Int) (b : Int) : (rscL f l b).length = l.length := tab_len _ _
theorem rsc_one {f : Int} {l : List Int} (h : VecOk f l) : rscL f l 1 = l := by
  refine list_ext (rscL_len _ _ _) fun i hi => ?_
  rw [rscL_len] at hi
  unfold rscL
  rw [lf_tab, if_pos hi]
  unfold rsF
  have e : (2 * cenF f (lf l i) + 1) / (2 * 1) = cenF f (lf l i) := by omega
  rw [e]
  exact (cen_bd h.f08.1 h.f08.2 (h.lt i)).2.2
/-- What FnRescaled asks. -/
theorem rsc_near {f : Int} {l : List Int} (h : VecOk f l) {b : Int} (hb : 1 ≤ b) {i : Nat} (hi : i < l.length) : 2 * (b * cenF f (lf (rscL f l b) i) - cenF f (lf l i)) ≤ b ∧ - b < 2 * (b * cenF f (lf (rscL f l b) i) - cenF f (lf l i)) := by
  have h0 := h.f08
  obtain ⟨r1, r2, r3, r4⟩ := rs_bd h0.1 h0.2 hb (h.lt i)
  unfold rscL
  rw [lf_tab, if_pos hi]
  unfold rsF
  rw [cen_rs r1 r2, Int.mul_sub]
  rw [Int.mul_assoc] at r3 r4
  omega
theorem VecOk.rsc {f : Int} {l : List Int} (h : VecOk f l) (b : Int) : VecOk f (rscL f l b) := h.tab rfl _ fun _ _ => RS_bd (P_pos h.f08.1 h.f08.2)
end Go.Proofs.YtoonpnfhcmghmaaDoor
namespace Go.Proofs.YtoonpnfhcmghmaaDoor
theorem sqS_len (f : Int) : ∀ (n : Nat) (o x : List Int), o.length = x.length → (sqS f o x n).length = o.length := by
  intro n
  induction n using Nat.strongRecOn with
  | _ n ih =>
    intro o x h
    by_cases h0 : n = 0
    · subst h0; rw [sqS_zero]
    · by_cases h1 : n % 2 = 1
      · rw [sqS_odd _ _ _ h1, ih (n / 2) (by omega) _ _ (by rw [twiL_len, twiL_len, h]), twiL_len]
      · rw [sqS_even _ _ _ (by omega) h1, ih (n / 2) (by omega) _ _ (by rw [twiL_len, h])]
theorem len_mRingPower0 (f : Int) (l : List Int) (e : Int) (n : l.length ≤ 1048576) : (mRingPower0 f l e).length ≤ 1048576 := by
  unfold mRingPower0; split
  · rw [sqS_len _ _ _ _ (oneL_len _), oneL_len]; exact n
  · exact Nat.zero_le _
theorem len_mOddBack (f : Int) (l : List Int) (n : l.length ≤ 1048576) : (mOddBack f l).length ≤ 1048576 := by
  unfold mOddBack; split
  · rw [obL_len]; exact n
  · exact Nat.zero_le _
theorem len_mRingInverse0 (f : Int) (l : List Int) (n : l.length ≤ 1048576) : (mRingInverse0 f l).length ≤ 1048576 := by
  unfold mRingInverse0; split
  · rw [obL_len, bivL_len, ovL_len]; exact n
  · exact Nat.zero_le _
end Go.Proofs.YtoonpnfhcmghmaaDoor
namespace Go.Proofs.YtoonpnfhcmghmaaDoor
open Go.RowKit
set_option maxRecDepth 100000 in
set_option maxHeartbeats 1600000 in
theorem sOddValues_own (f : Int) (a : Option Addr) (l : List Int) (cap : Nat) (w : World) (hn : l.length ≤ 1048576) (hs : Src w a l.length (lf l)) (h : OpenOk f l) : Calls Tryd.prog 69 #[.int .i64 f, .slice a l.length cap] w (OwnsL w (ovL f l)) := by
  obtain ⟨i0, hi, hz0, hz1, hz2⟩ := info_parts info3
  have HI := Lib.hid hi
  have HZ0 := Lib.hid hz0
  have HZ1 := Lib.hid hz1
  have HZ2 := Lib.hid hz2
  clear hi hz0 hz1 hz2
  have BA : Hid (∀ o, Below w.heap.size w (w.alloc o)) := Lib.hid fun o => (Below.refl _ _).alloc (Nat.le_refl _) o
  have HV : Hid (∀ w2, Below w.heap.size w w2 → Calls Tryd.prog 68 #[.int .i64 f, .slice a l.length cap] w2 (SameB w2 true)) := Lib.hid fun w2 hb => by
    have R1 := sOpen f a l cap w2 hn (hs.keep hb)
    rwa [open_iff.2 h] at R1
  have hn0 := h.1.pos.1
  have hn5 := h.1.pos.2
  obtain ⟨h0, h8⟩ := h.1.f08
  have hp := P_bd h0 h8
  have q7 : ¬ P f = 0 := by omega
  have kz : (P f == 0) = false := by rw [beq_eq_false_iff_ne]; omega
  have HA := Lib.hid h.1.lt
  have HPW := Lib.hid (fun (i : Nat) => power_nat h0 h8 (zL f l) i)
  obtain ⟨k9, hk9, hkn, hlk, hkh⟩ := h.1.log
  clear hkn hkh
  have HLK := Lib.hid hlk
  have HZ : Hid (mRoot f (mLog l.length + 1) = zL f l) := Lib.hid rfl
  rw [hlk] at HZ
  obtain ⟨b, off, rfl, hlt, hc⟩ := vec_some hs hn0
  have HC := Lib.hid hc
  have HF : Hid (∀ v W, W.ownsRow w.heap.size 3 1 v l.length (xsF (fun i => ovF (zL f l) l.length (lf l) i % P f) l.length) → Below w.heap.size w W → OwnsL w (ovL f l) (.returned v) W) := Lib.hid fun v W ho hb => (owns_to (w := w) (l := ovL f l) ho (ovL_len _ _).symm (fun j hj => (lf_ovL hj).symm) hb)
  clear hs hc h hlk
  generalize ovL f l = OL at *
  generalize zL f l = z at *
  generalize lf l = A at *
  have HLL : Hid (mLog (l.length : Int) = k9) := HLK
  clear HLK
  generalize l.length = n at *
  go_enter Tryd.func69, Tryd.ntmps69
  go_wp2_with fail
  refine (HV.out _ (BA.out _)).mono ?_
  rintro e w' ⟨rfl, rfl⟩
  go_wp2_with fail
  refine (sModulus f _).mono ?_
  rintro e w' ⟨rfl, rfl⟩
  go_wp2_with fail
  refine (sLogOf n _).mono ?_
  rintro e w' ⟨rfl, rfl⟩
  rw [HLL.out]
  go_wp2_with fail
  refine (sRootOf f ((k9 : Int) + 1) _).mono ?_
  rintro e w' ⟨rfl, rfl⟩
  rw [HZ.out]
  go_wp2_with fail
  go_loopw [5, 8, 9, 10, 11] (fun v i _ _ _ wr => ∃ k : Nat, i = .int .i64 k ∧ k ≤ n ∧ wr.ownsRow w.heap.size 3 1 v k (xsF (fun i => ovF z n A i % P f) k) ∧ Below w.heap.size w wr) (fun _ i _ _ _ _ => n - (intOf i).toNat)
  case atStart => exact ⟨0, rfl, Nat.zero_le _, own_empty w _, BA.out _⟩
  case round =>
    obtain ⟨i, rfl, hin, hown, hnx⟩ := hrel
    have hs := hnx.size
    by_cases h1 : i < n
    · have hd1 : decide ((i : Int) < n) = true := decide_eq_true (by omega)
      have HOWN := Lib.hid hown
      clear hown
      have HP2 : Hid (mPower f z (2 * (i : Int) + 1) = z ^ (2 * i + 1) % P f) := Lib.hid (by
        have := HPW.out (2 * i + 1)
        rw [show ((2 * i + 1 : Nat) : Int) = 2 * (i : Int) + 1 by omega] at this
        exact this)
      have HEND := Lib.hid (hn_end (P f) z A n i)
      have YB : 0 ≤ z ^ (2 * i + 1) % P f ∧ z ^ (2 * i + 1) % P f < P f := ⟨Int.emod_nonneg _ (by omega), Int.emod_lt_of_pos _ (by omega)⟩
      go_wp2_with fail
      refine (sPower f z (2 * (i : Int) + 1) _).mono ?_
      rintro e w' ⟨rfl, rfl⟩
      rw [HP2.out]
      generalize z ^ (2 * i + 1) % P f = y at *
      go_wp2_with fail
      go_loop [10, 11] (fun s j => ∃ k : Nat, j = .int .i64 ((n : Int) - 1 - k) ∧ k ≤ n ∧ s = .int .i64 (hnF (P f) y A n k)) (fun _ j => (intOf j + 1).toNat)
      case atStart => exact ⟨0, by go_num, Nat.zero_le _, by rw [hn_zero]⟩
      case round =>
        obtain ⟨k, rfl, hk, rfl⟩ := hrel
        by_cases h3 : k < n
        · have hd3 : decide ((0 : Int) ≤ (n : Int) - 1 - k) = true := decide_eq_true (by omega)
          have d1 : wr.cell? ⟨b, off + (n - 1 - k), none⟩ = some (.int .i64 (A (n - 1 - k))) := (hnx.cell (p := ⟨b, off + (n - 1 - k), none⟩) hlt).trans (HC.out _ (by omega))
          have bA := HA.out (n - 1 - k)
          have bX := hn_bd (show 0 < P f by omega) y A n k
          have pb := prod_bd h0 h8 bX.1 bX.2 YB.1 YB.2
          have HS := Lib.hid (hn_step (P f) y A h3)
          have q2 : ((n : Int) - 1 - k).toNat = n - 1 - k := by omega
          have q3 : (0 : Int) ≤ (n : Int) - 1 - k := by omega
          have q4 : (n : Int) - 1 - k < n := by omega
          have tm : (hnF (P f) y A n k * y + A (n - 1 - k)).tmod (P f) = hnF (P f) y A n (k + 1) := by
            rw [Int.tmod_eq_emod_of_nonneg (by omega), HS.out]
          generalize hx2 : hnF (P f) y A n (k + 1) = X2 at *
          have HX := Lib.hid hx2
          clear hx2
          generalize hnF (P f) y A n k = X at *
          generalize A (n - 1 - k) = Y at *
          have q5 : IntKind.i64.wrap (X * y) = X * y := IntWalk.i64_in _ (by omega)
          have q6 : IntKind.i64.wrap (X * y + Y) = X * y + Y := IntWalk.i64_in _ (by omega)
          go_wp2
          go_round
          case rel => exact ⟨k + 1, by go_num, by omega, vint HX.out.symm⟩
          case measure => simp [intOf]; omega
        · have hd3 : decide ((0 : Int) ≤ (n : Int) - 1 - k) = false := decide_eq_false (by omega)
          obtain rfl : k = n := by omega
          rw [HEND.out]
          have hown := HOWN.out
          go_wp2_with (at_builtin; refine wpList_append_own _ rfl _ _ 24 rfl w.heap.size 3 i0 (.int .i64 0) 1 8 Tryd.underlying24 HI.out HZ0.out HZ1.out HZ2.out rfl (by decide) _ _ _ rfl (hown.alloc _) ⟨wr.heap.size, 0, none⟩ 1 1 [.int .i64 (ovF z k A i % P f)] rfl rfl ?d1 ?d2 ?d3 ?d4 ?d5 ?_)
          case d2 => first | rfl | (intro u hu; simp at hu; subst hu; rfl)
          case d3 => unfold maxLen; omega
          case d4 => omega
          case d5 => first | omega | (simp; omega)
          intro v' w1 hown' hgrow _
          have hbel : Below w.heap.size w w1 := (hnx.alloc (by omega) _).grown hgrow (by simp; omega) (own_ge hown)
          rw [xsF_succ (fun i => ovF z k A i % P f)] at hown'
          clear hgrow hown HOWN
          go_wp2
          go_roundw
          case rel => exact ⟨i + 1, by go_num, by omega, hown', hbel⟩
          case measure => simp [intOf]; omega
    · have hd1 : decide ((i : Int) < n) = false := decide_eq_false (by omega)
      obtain rfl : i = n := by omega
      have HO := Lib.hid (HF.out _ wr hown hnx)
      clear hown
      go_wp2
      go_ret
      exact HO.out
theorem drawOdd_c (a : Option Addr) (len cap : Nat) (w : World) (hl : len ≤ 1048576) (hc : Code w a len) : Calls Tryd.prog 58 #[.slice a len cap] w (Draw1L 1048576 w) := by
  go_enter Tryd.func58, Tryd.ntmps58
  go_wp2_with fail
  refine (drawOpen_c a len cap w hl hc).mono ?_
  rintro e w1 ⟨f, a1, l, cap1, rfl, h1, s1, c1, b1⟩
  have HS1 := Lib.hid s1
  clear s1 hc
  go_wp2
  go_ret2
  exact ⟨f, a1, l, cap1, rfl, by omega, HS1.out.src, b1⟩
theorem drawTrace_c (a : Option Addr) (len cap : Nat) (w : World) (hl : len ≤ 1048576) (hc : Code w a len) : Calls Tryd.prog 20 #[.slice a len cap] w (Draw1L 1048576 w) := by
  go_enter Tryd.func20, Tryd.ntmps20
  go_wp2_with fail
  refine (drawOdd_c a len cap w hl hc).mono ?_
  rintro e w1 ⟨f, a1, l, cap1, rfl, h1, s1, b1⟩
  have HS1 := Lib.hid s1
  clear s1 hc
  go_wp2
  go_ret2
  exact ⟨f, a1, l, cap1, rfl, h1, HS1.out, b1⟩
theorem P_any (f : Int) : 0 ≤ P f ∧ P f ≤ 1004535809 := by
  by_cases h : 0 ≤ f ∧ f ≤ 8
  · have := P_bd h.1 h.2
    omega
  · have := P_off (f := f) (by omega)
    omega
theorem drawRescale_c (a : Option Addr) (len cap : Nat) (w : World) (hl : len ≤ 1048576) (hc : Code w a len) : Calls Tryd.prog 41 #[.slice a len cap] w (DrawLI 1048576 w) := by
  go_enter Tryd.func41, Tryd.ntmps41
  go_wp2_with fail
  refine (drawOpen_c a len cap w hl hc).mono ?_
  rintro e w1 ⟨f, a1, l, cap1, rfl, h1, s1, c1, b1⟩
  have HS1 := Lib.hid s1
  have hp := P_any f
  have HM := Lib.hid (sModulus f w1)
  clear s1 hc
  generalize P f = p at *
  go_wp2_with fail
  refine HM.out.mono ?_
  rintro e w' ⟨rfl, rfl⟩
  go_wp2_with fail
  refine HM.out.mono ?_
  rintro e w' ⟨rfl, rfl⟩
  go_wp2_with fail
  refine HM.out.mono ?_
  rintro e w' ⟨rfl, rfl⟩
  clear HM
  go_wp2_with fail
  refine (below_c w.heap.size 1000 w1 c1 (by omega) (by omega)).mono ?_
  rintro e w4 ⟨x, ⟨x0, x1⟩, rfl, g4, c4⟩
  go_wp2_with fail
  refine (pick_c (fun _ => True) w.heap.size w4.heap.size 11 11 _ (c4.alloc _) (by omega) (by omega) (ints_alloc (fun _ => True) c4.lt #[.int .i64 1, .int .i64 2, .int .i64 3, .int .i64 4, .int .i64 10, .int .i64 16, .int .i64 p, .int .i64 (p - 1), .int .i64 (p + 1), .int .i64 0, .int .i64 (1 + x)] 3 (fun j hj => by
    have h3 : j = 0 ∨ j = 1 ∨ j = 2 ∨ j = 3 ∨ j = 4 ∨ j = 5 ∨ j = 6 ∨ j = 7 ∨ j = 8 ∨ j = 9 ∨ j = 10 := by have : j < 11 := hj; omega
    rcases h3 with rfl | rfl | rfl | rfl | rfl | rfl | rfl | rfl | rfl | rfl | rfl <;> exact ⟨_, rfl, trivial⟩))).mono ?_
  rintro e w5 ⟨u, _, rfl, g5, c5⟩
  have g15 := g4.trans ((World.grownBy_alloc w4 _ (some w.heap.size)).trans g5)
  have b5 := below_of_grown b1 g15
  have HS5 := Lib.hid (HS1.out.grown g15)
  clear b1 g4 g5 g15 c1 c4 c5 HS1
  go_wp2
  go_ret3
  exact ⟨f, a1, l, cap1, u, rfl, by omega, HS5.out.src, b5⟩
set_option maxRecDepth 100000 in
set_option maxHeartbeats 1600000 in
theorem drawInverse_c (a : Option Addr) (len cap : Nat) (w : World) (hl : len ≤ 1048576) (hc : Code w a len) : Calls Tryd.prog 30 #[.slice a len cap] w (Draw1L 1048576 w) := by
  go_enter Tryd.func30, Tryd.ntmps30
  go_wp2_with fail
  refine (drawOpen_c a len cap w hl hc).mono ?_
  rintro e w1 ⟨f, a1, l, cap1, rfl, h1, s1, c1, b1⟩
  have HS1 := Lib.hid s1
  clear s1 hc
  go_wp2_with fail
  refine (once_c w.heap.size 6 w1 c1 (by omega) (by omega)).mono ?_
  rintro e w2 ⟨b, rfl, g2, c2⟩
  have HS2 := Lib.hid (HS1.out.grown g2)
  have b2 := below_of_grown b1 g2
  clear HS1 b1 g2 c1
  cases b with
  | false =>
    go_wp2
    go_ret2
    exact ⟨f, a1, l, cap1, rfl, by omega, HS2.out.src, b2⟩
  | true =>
    have HOP := sOpen f a1 l cap1 w2 (by omega) HS2.out.src
    by_cases h : OpenOk f l
    · rw [open_iff.2 h] at HOP
      have HO := Lib.hid HOP
      have HOV := Lib.hid (sOddValues_own f a1 l cap1 w2 (by omega) HS2.out.src h)
      have hov0 : 0 < (ovL f l).length := by rw [ovL_len]; exact h.1.pos.1
      have hov5 : (ovL f l).length ≤ 512 := by rw [ovL_len]; exact h.1.pos.2
      have hgl : w.heap.size < w2.heap.size := c2.lt
      clear HOP h HS2
      generalize ovL f l = V at *
      generalize hm : V.length = m at *
      have HM := Lib.hid hm
      clear hm
      go_wp2_with fail
      refine HO.out.mono ?_
      rintro e w' ⟨rfl, rfl⟩
      go_wp2_with fail
      refine HOV.out.mono ?_
      rintro e w3 ⟨v3, rfl, o3, b3⟩
      rw [HM.out] at o3
      obtain ⟨gv, cv, rfl, hgv, hov⟩ := OwnV.of_owns o3 (by omega)
      have b23 := below_step b2 b3
      have c3 : Cur w.heap.size w3 := c2.below b3
      clear o3 HOV HO b3
      go_wp2_with fail
      refine (below_c w.heap.size m w3 c3 (by omega) (by omega)).mono ?_
      rintro e w4 ⟨x, ⟨x0, x1⟩, rfl, g4, c4⟩
      have hov4 := hov.grown g4 (by omega)
      have b4 := below_of_grown b23 g4
      obtain ⟨X, hX⟩ : ∃ X : Nat, x = (X : Int) := ⟨x.toNat, by omega⟩
      subst hX
      have hXm : X < m := by omega
      have cU := hov4.cell hXm
      have fU := hov4.frozen X
      have hset := OwnV.set (s := X) (x := 0) hov4
      have b5 := b4.setCell (p := ⟨gv, X, none⟩) (show w.heap.size ≤ gv by have := b2.size; omega) (.int .i64 0)
      have HOB : Hid (Calls Tryd.prog 71 #[.int .i64 f, .slice (some ⟨gv, 0, none⟩) m cv] (w4.setCell ⟨gv, X, none⟩ (.int .i64 0)) (ListL (w4.setCell ⟨gv, X, none⟩ (.int .i64 0)) (mOddBack f (tab m (upd (lf V) X 0))))) := Lib.hid (by
        have := sOddBack f (some ⟨gv, 0, none⟩) (tab m (upd (lf V) X 0)) cv (w4.setCell ⟨gv, X, none⟩ (.int .i64 0)) (by rw [tab_len]; omega) (by
          rw [tab_len]
          exact (hset.congr fun j hj => by rw [lf_tab, if_pos hj]).src)
        rwa [tab_len] at this)
      have nB := len_mOddBack f (tab m (upd (lf V) X 0)) (by rw [tab_len]; omega)
      clear hov hov4 hset b23 b4 g4 c3 c4 c2 b2
      go_wp2_with fail
      generalize w4.setCell ⟨gv, X, none⟩ (.int .i64 0) = W5 at *
      refine HOB.out.mono ?_
      rintro e w6 ⟨a6, c6, rfl, s6, b6⟩
      have HS6 := Lib.hid s6
      have b56 := below_step b5 b6
      clear s6 b6 b5 HOB
      go_wp2
      go_ret2
      exact ⟨f, a6, _, c6, rfl, nB, HS6.out, b56⟩
    · rw [open_not.2 h] at HOP
      have HO := Lib.hid HOP
      clear HOP h
      go_wp2_with fail
      refine HO.out.mono ?_
      rintro e w' ⟨rfl, rfl⟩
      go_wp2
      go_ret2
      exact ⟨f, a1, l, cap1, rfl, by omega, HS2.out.src, b2⟩
end Go.Proofs.YtoonpnfhcmghmaaDoor
namespace Go.Proofs.YtoonpnfhcmghmaaDoor
open Go.RowKit
theorem mRev_on {x : Nat} {k : Nat} (hk : k ≤ 9) (hx : x < 2 ^ k) : mRev x k = (rv x k : Nat) := by
  unfold mRev
  rw [if_pos ⟨⟨by omega, by omega⟩, by omega, by rw [two_cast]; exact_mod_cast hx⟩]
  simp
theorem mRev_off {x k : Int} (h : ¬ ((0 ≤ k ∧ k ≤ 9) ∧ 0 ≤ x ∧ x < two k)) : mRev x k = -1 := if_neg h
theorem rv_bd {x j k : Nat} (hj : j ≤ k) (hk : k ≤ 9) : rv x j < 512 := by
  have := rv_lt x j
  have : 2 ^ j ≤ 2 ^ 9 := Nat.pow_le_pow_right (by omega) (by omega)
  omega
theorem two_512 {k : Nat} (hk : k ≤ 9) : two (k : Int) ≤ 512 := by
  rcases ten hk with rfl | rfl | rfl | rfl | rfl | rfl | rfl | rfl | rfl | rfl <;> decide
theorem ofInt_nat {x : Nat} (h : x < 1073741824) : (BitVec.ofInt 64 (x : Int)).toNat = x := by
  rw [BitVec.toNat_ofInt]
  have : ((x : Int) % ((2 ^ 64 : Nat) : Int)).toNat = x := by rw [Int.emod_eq_of_lt (by omega) (by omega)]; rfl
  exact this
theorem bits_and1 {x : Nat} (h : x < 1073741824) : bits .and .i64 (x : Int) 1 = ((x % 2 : Nat) : Int) := by
  unfold bits
  show IntKind.i64.wrap ((BitVec.ofInt 64 (x : Int) &&& BitVec.ofInt 64 ((1 : Nat) : Int)).toNat : Int) = _
  rw [BitVec.toNat_and, ofInt_nat h, ofInt_nat (by omega), Nat.and_one_is_mod, IntWalk.i64_in _ (by omega)]
theorem bits_or1 {r b : Nat} (hr : r < 1000000) (hb : b < 2) : bits .or .i64 ((r : Int) * 2) (b : Int) = ((2 * r + b : Nat) : Int) := by
  unfold bits
  show IntKind.i64.wrap ((BitVec.ofInt 64 ((r : Int) * 2) ||| BitVec.ofInt 64 (b : Int)).toNat : Int) = _
  have e : 2 * r + b = 2 * r ||| b := by
    have := Nat.two_pow_add_eq_or_of_lt (b := b) (i := 1) (by omega) r
    simpa using this
  rw [BitVec.toNat_or, show (r : Int) * 2 = ((2 * r : Nat) : Int) by omega, ofInt_nat (by omega), ofInt_nat (by omega), ← e, IntWalk.i64_in _ (by omega)]
theorem half_more (x j : Nat) : x / 2 ^ j / 2 = x / 2 ^ (j + 1) := by rw [Nat.div_div_eq_div_mul, Nat.pow_succ]
theorem rv_step {x j : Nat} (hx : x / 2 ^ j < 1073741824) (hr : rv x j < 1000000) : bits .or .i64 (((rv x j : Nat) : Int) * 2) (bits .and .i64 (((x / 2 ^ j : Nat)) : Int) 1) = ((rv x (j + 1) : Nat) : Int) := by
  rw [bits_and1 hx, bits_or1 hr (by omega), rv]
set_option maxHeartbeats 400000 in
theorem iReverse_on (x k : Nat) (w : World) (hk : k ≤ 9) (hx : x < 2 ^ k) : Calls Tryd.prog 141 #[.int .i64 x, .int .i64 k] w fun e w' => e = .returned (.int .i64 (rv x k : Nat)) ∧ w = w' := by
  have ek := shl_nat (k := k) (by omega)
  have hx2 : (x : Int) < two k := by rw [two_cast]; exact_mod_cast hx
  have hd : decide (two k ≤ (x : Int)) = false := by simpa using hx2
  have tb := two_bd (k := (k : Int)) (by omega) (by omega)
  have t9 := two_512 hk
  have x9 : x < 512 := by omega
  clear hx
  go_enter Tryd.func141, Tryd.ntmps141
  go_wp2_with fail
  clear ek hd tb
  go_loop [0, 5, 23] (fun u v i => ∃ j : Nat, i = .int .i64 j ∧ u = .int .i64 ((x / 2 ^ j : Nat) : Int) ∧ v = .int .i64 ((rv x j : Nat) : Int) ∧ j ≤ k) (fun _ _ i => k - (intOf i).toNat)
  case atStart => exact ⟨0, rfl, by simp, rfl, by omega⟩
  case round =>
    obtain ⟨j, rfl, rfl, rfl, hj⟩ := hrel
    have rb := rv_bd (x := x) hj hk
    have xb : x / 2 ^ j ≤ x := Nat.div_le_self _ _
    by_cases hlt : j < k
    · have H1 := Lib.hid (rv_step (x := x) (j := j) (by omega) (by omega))
      go_wp2
      go_round
      case rel => exact ⟨j + 1, by go_num, vint (by rw [← half_more]; simp), vint (by rw [← H1.out]; simp), by omega⟩
      case measure => simp [intOf]; omega
    · have hd : decide (j < k) = false := by simpa using hlt
      obtain rfl : j = k := by omega
      go_wp2
      go_ret
      exact ⟨rfl, rfl⟩
theorem iReverse_off (x k : Int) (w : World) (h : ¬ ((0 ≤ k ∧ k ≤ 9) ∧ 0 ≤ x ∧ x < two k)) : Calls Tryd.prog 141 #[.int .i64 x, .int .i64 k] w fun e w' => e = .returned (.int .i64 (-1)) ∧ w = w' := by
  by_cases k0 : k < 0
  · go_enter Tryd.func141, Tryd.ntmps141
    go_wp2
    go_ret
    exact ⟨rfl, rfl⟩
  · by_cases k9 : 9 < k
    · go_enter Tryd.func141, Tryd.ntmps141
      go_wp2
      go_ret
      exact ⟨rfl, rfl⟩
    · by_cases x0 : x < 0
      · clear h
        go_enter Tryd.func141, Tryd.ntmps141
        go_wp2
        go_ret
        exact ⟨rfl, rfl⟩
      · obtain ⟨k, rfl⟩ := Int.eq_ofNat_of_zero_le (show 0 ≤ k by omega)
        have ek := shl_nat (k := k) (by omega)
        have hx2 : two k ≤ x := by omega
        have hd : decide (two k ≤ x) = true := by simpa using hx2
        clear h
        go_enter Tryd.func141, Tryd.ntmps141
        go_wp2
        go_ret
        exact ⟨rfl, rfl⟩
theorem iReverse (x k : Int) (w : World) : Calls Tryd.prog 141 #[.int .i64 x, .int .i64 k] w fun e w' => e = .returned (.int .i64 (mRev x k)) ∧ w = w' := by
  by_cases h : (0 ≤ k ∧ k ≤ 9) ∧ 0 ≤ x ∧ x < two k
  · obtain ⟨⟨k0, k1⟩, x0, x1⟩ := h
    obtain ⟨k, rfl⟩ := Int.eq_ofNat_of_zero_le k0
    obtain ⟨x, rfl⟩ := Int.eq_ofNat_of_zero_le x0
    have hx : x < 2 ^ k := by rw [two_cast] at x1; exact_mod_cast x1
    rw [mRev_on (by omega) hx]
    exact iReverse_on x k w (by omega) hx
  · rw [mRev_off h]
    exact iReverse_off x k w h
end Go.Proofs.YtoonpnfhcmghmaaDoor
namespace Go.Proofs.YtoonpnfhcmghmaaDoor
open Go.RowKit
theorem perm_set {wr : World} {g n k i : Nat} {F : Nat → Int} (hk : k ≤ 9) (hn : n = 2 ^ k) (hi : i < n) (h : Own wr g n (fun j => if rv j k < i then F (rv j k) else 0)) :
    Own (wr.setCell ⟨g, rv i k, none⟩ (.int .i64 (F i))) g n (fun j => if rv j k < i + 1 then F (rv j k) else 0) := by
  subst hn
  refine (World.rowIs.set h (rv i k) (.int .i64 (F i))).congr fun j hj => ?_
  have e1 := rv_twice hk hi
  have e2 := rv_twice hk hj
  by_cases h1 : j = rv i k
  · subst h1; simp [e1]
  · have h2 : rv j k ≠ i := fun e => h1 (by rw [← e, e2])
    by_cases h3 : rv j k < i
    · simp [h1, h3, show rv j k < i + 1 by omega]
    · simp [h1, h3, show ¬ rv j k < i + 1 by omega]
theorem perm_log {n k : Nat} (hk : k ≤ 9) (hn : n = 2 ^ k) : mLog n = k := by
  rw [hn]
  have := log_two hk
  rw [two_cast] at this
  exact_mod_cast this
set_option maxRecDepth 100000 in
set_option maxHeartbeats 800000 in
theorem iPermute_on (b off n cap k : Nat) (F : Nat → Int) (w : World) (hk : k ≤ 9) (hn : n = 2 ^ k) (hlt : b < w.heap.size) (hc : ∀ j, j < n → w.cell? ⟨b, off + j, none⟩ = some (.int .i64 (F j))) :
    Calls Tryd.prog 131 #[.slice (some ⟨b, off, none⟩) n cap] w (CopyP w n (fun j => F (rv j k))) := by
  have HC := Lib.hid hc
  clear hc
  have HN := Lib.hid hn
  have n9 : n ≤ 512 := by
    have : 2 ^ k ≤ 2 ^ 9 := Nat.pow_le_pow_right (by omega) hk
    omega
  have HL := Lib.hid (perm_log hk hn)
  clear hn
  have hmk := run_make_row' (P := Tryd.prog) 24 3 (.int .i64 0) 8 Tryd.underlying24 info3 rfl .i64 .i64 n (by omega) (by omega)
  go_enter Tryd.func131, Tryd.ntmps131
  go_wp2_with fail
  refine (iLogOf n w).mono ?_
  rintro e w' ⟨rfl, rfl⟩
  rw [HL.out]
  go_wp2_with fail
  clear hmk
  go_loopw [5, 6, 17] (fun _ _ i wr => ∃ j : Nat, i = .int .i64 j ∧ j ≤ n ∧ Own wr w.heap.size n (fun x => if rv x k < j then F (rv x k) else 0) ∧ Below w.heap.size w wr) (fun _ _ i _ => n - (intOf i).toNat)
  case atStart =>
    refine ⟨0, rfl, Nat.zero_le _, ?_, (Below.refl _ _).alloc (Nat.le_refl _) _⟩
    exact (World.rowIs_made w (.int .i64 0) n 3).congr fun j _ => by simp
  case round =>
    obtain ⟨j, rfl, hj, ho, hb⟩ := hrel
    by_cases h1 : j < n
    · have c1 : wr.cell? ⟨b, off + j, none⟩ = some (.int .i64 (F j)) := (hb.cell (p := ⟨b, off + j, none⟩) hlt).trans (HC.out j h1)
      have hr : rv j k < n := by rw [HN.out]; exact rv_lt j k
      have c2 := World.rowIs.cell ho hr
      have c3 := World.rowIs.frozen ho (rv j k)
      have HS := Lib.hid (perm_set hk HN.out h1 ho)
      have HR := Lib.hid (mRev_on hk (show j < 2 ^ k by rw [← HN.out]; exact h1))
      go_wp2_with fail
      refine (iReverse j k wr).mono ?_
      rintro e w' ⟨rfl, rfl⟩
      rw [HR.out]
      go_wp2
      go_roundw
      case rel => exact ⟨j + 1, by go_num, by omega, HS.out, hb.setCell (Nat.le_refl _) _⟩
      case measure => simp [intOf]; omega
    · have hd : decide (j < n) = false := by simpa using h1
      obtain rfl : j = n := by omega
      go_wp2
      go_ret
      exact ⟨rfl, World.rowIs.congr ho (fun x _ => by simp [show rv x k < j by rw [HN.out]; exact rv_lt x k]), hb⟩
theorem src_on {w : World} {a : Option Addr} {n : Nat} {F : Nat → Int} (h : Src w a n F) (hn : n ≠ 0) : ∃ b off, a = some ⟨b, off, none⟩ ∧ b < w.heap.size ∧ ∀ j, j < n → w.cell? ⟨b, off + j, none⟩ = some (.int .i64 (F j)) := by
  rcases h with h | h
  · exact absurd h hn
  · exact h
theorem iPermute (a : Option Addr) (n cap k : Nat) (F : Nat → Int) (w : World) (hk : k ≤ 9) (hn : n = 2 ^ k) (hs : Src w a n F) : Calls Tryd.prog 131 #[.slice a n cap] w (CopyP w n (fun j => F (rv j k))) := by
  have h0 : n ≠ 0 := by have : 0 < 2 ^ k := Nat.pow_pos (by omega); omega
  obtain ⟨b, off, rfl, hlt, hc⟩ := src_on hs h0
  exact iPermute_on b off n cap k F w hk hn hlt hc
theorem Src.congr {w : World} {a : Option Addr} {n : Nat} {F G : Nat → Int} (h : Src w a n F) (e : ∀ j, j < n → F j = G j) : Src w a n G := by
  refine h.imp id ?_
  rintro ⟨b, off, e1, hlt, hc⟩
  exact ⟨b, off, e1, hlt, fun j hj => by rw [hc j hj, e j hj]⟩
end Go.Proofs.YtoonpnfhcmghmaaDoor
