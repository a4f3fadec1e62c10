/-
  Texts of the proofs of this seat, joined (part 2).
-/
import Derived.BigQuiet
import Derived.StillTailTactics
import Derived.BigRegion
import Derived.Outline
import Derived.Deep.CutBlock
import Derived.Deep.CutRange
import Derived.Deep.RegionHeld3
import Derived.Laws.IdiomStrings
import Derived.Test.YtaapmpjkcddababDoorJ1
namespace Go.Proofs.YtaapmpjkcddababDoor
/-- The number of the first n digits, the least first. -/
def dv (D : Nat → Int) (n : Nat) : Int := sumN (fun i => D i * 10 ^ i) n
def Dig (D : Nat → Int) (n : Nat) : Prop := ∀ i, i < n → 0 ≤ D i ∧ D i < 10
theorem pow10_pos (n : Nat) : (0 : Int) < 10 ^ n := by
  induction n with
  | zero => decide
  | succ n ih => rw [Int.pow_succ]; omega
theorem dv_bd {D : Nat → Int} {n : Nat} (h : Dig D n) : 0 ≤ dv D n ∧ dv D n < 10 ^ n := by
  induction n with
  | zero => exact ⟨Int.le_refl _, by show (0 : Int) < 10 ^ 0; decide⟩
  | succ n ih =>
    have i1 := ih fun i hi => h i (by omega)
    have i2 := h n (by omega)
    have hp := pow10_pos n
    have e : dv D (n + 1) = dv D n + D n * 10 ^ n := rfl
    have h1 : D n * 10 ^ n ≤ 9 * 10 ^ n := Int.mul_le_mul_of_nonneg_right (by omega) (by omega)
    have h0 : 0 ≤ D n * 10 ^ n := Int.mul_nonneg i2.1 (by omega)
    rw [e, Int.pow_succ]
    omega
theorem dv_first (D : Nat → Int) (n : Nat) : dv D (n + 1) = D 0 + 10 * dv (tl D) n := evN_succ 10 D n
/-- Digits of equal numbers are equal, place by place. -/
theorem dig_eq : ∀ (n : Nat) {D E : Nat → Int}, Dig D n → Dig E n → dv D n = dv E n → ∀ i, i < n → D i = E i
  | 0, _, _, _, _, _, _, hi => by omega
  | n + 1, D, E, hD, hE, h, i, hi => by
    rw [dv_first, dv_first] at h
    have d0 := hD 0 (by omega)
    have e0 := hE 0 (by omega)
    have h0 : D 0 = E 0 := by omega
    have ht : dv (tl D) n = dv (tl E) n := by omega
    match i with
    | 0 => exact h0
    | j + 1 => exact dig_eq n (fun i hi => hD (i + 1) (by omega)) (fun i hi => hE (i + 1) (by omega)) ht j (by omega)
/-- A numeral: at least one digit, and none ahead of it that is 0. -/
def Can (D : Nat → Int) (n : Nat) : Prop := Dig D n ∧ 1 ≤ n ∧ (n = 1 ∨ D (n - 1) ≠ 0)
theorem can_low {D : Nat → Int} {n : Nat} (h : Can D (n + 1)) (hn : n ≠ 0) : 10 ^ n ≤ dv D (n + 1) := by
  have b := dv_bd (D := D) (n := n) fun i hi => h.1 i (by omega)
  have hd := h.1 n (by omega)
  have hz : D n ≠ 0 := by
    rcases h.2.2 with h1 | h1
    · omega
    · exact h1
  have e : dv D (n + 1) = dv D n + D n * 10 ^ n := rfl
  have h1 : 1 * 10 ^ n ≤ D n * 10 ^ n := Int.mul_le_mul_of_nonneg_right (by omega) (by have := pow10_pos n; omega)
  omega
theorem pow10_mono {a b : Nat} (h : a ≤ b) : (10 : Int) ^ a ≤ 10 ^ b := by
  induction b with
  | zero => rw [show a = 0 by omega]; exact Int.le_refl _
  | succ b ih =>
    by_cases hb : a ≤ b
    · have := ih hb
      have := pow10_pos b
      rw [Int.pow_succ]
      omega
    · rw [show a = b + 1 by omega]; exact Int.le_refl _
/-- The shorter numeral is the lesser number. -/
theorem can_lt {D E : Nat → Int} {n m : Nat} (hD : Can D n) (hE : Can E m) (h : n < m) : dv D n < dv E m := by
  obtain ⟨k, rfl⟩ : ∃ k, m = k + 1 := ⟨m - 1, by omega⟩
  have b := dv_bd hD.1
  have l := can_low hE (by have := hD.2.1; omega)
  have := pow10_mono (show n ≤ k by omega)
  omega
/-- A numeral is known by its number. -/
theorem can_unique {D E : Nat → Int} {n m : Nat} (hD : Can D n) (hE : Can E m) (h : dv D n = dv E m) : n = m ∧ ∀ i, i < n → D i = E i := by
  have e : n = m := by
    rcases Nat.lt_trichotomy n m with h1 | h1 | h1
    · have := can_lt hD hE h1; omega
    · exact h1
    · have := can_lt hE hD h1; omega
  subst e
  exact ⟨rfl, dig_eq n hD.1 hE.1 h⟩
/-- Of two numerals of one length the first place from the top that differs decides. -/
theorem dig_lt {D E : Nat → Int} : ∀ {n k : Nat}, k < n → Dig D n → Dig E n → (∀ i, k < i → i < n → D i = E i) → D k < E k → dv D n < dv E n
  | n + 1, k, hk, hD, hE, he, hlt => by
    have eD : dv D (n + 1) = dv D n + D n * 10 ^ n := rfl
    have eE : dv E (n + 1) = dv E n + E n * 10 ^ n := rfl
    by_cases hkn : k = n
    · subst hkn
      have bD := dv_bd (D := D) (n := k) fun i hi => hD i (by omega)
      have bE := dv_bd (D := E) (n := k) fun i hi => hE i (by omega)
      have h1 : (D k + 1) * 10 ^ k ≤ E k * 10 ^ k := Int.mul_le_mul_of_nonneg_right (by omega) (by have := pow10_pos k; omega)
      rw [Int.add_mul, Int.one_mul] at h1
      omega
    · have ih := dig_lt (D := D) (E := E) (n := n) (k := k) (by omega) (fun i hi => hD i (by omega)) (fun i hi => hE i (by omega)) (fun i h1 h2 => he i h1 (by omega)) hlt
      rw [eD, eE, he n (by omega) (by omega)]
      omega
/-- Carrying: after i places, what has been written, and what is carried. -/
def Carry (S B : Nat → Int) (i : Nat) (up : Int) : Prop := Dig B i ∧ 0 ≤ up ∧ dv B i + up * 10 ^ i = dv S i
theorem Carry.start (S B : Nat → Int) : Carry S B 0 0 := ⟨fun i hi => by omega, Int.le_refl _, rfl⟩
theorem Carry.step {S B : Nat → Int} {i : Nat} {up : Int} (h : Carry S B i up) (hs : 0 ≤ S i) (hb : B i = (up + S i) % 10) : Carry S B (i + 1) ((up + S i) / 10) := by
  have hu := h.2.1
  refine ⟨fun j hj => ?_, by omega, ?_⟩
  · by_cases e : j = i
    · subst e; rw [hb]; omega
    · exact h.1 j (by omega)
  · have e1 : dv B (i + 1) = dv B i + B i * 10 ^ i := rfl
    have e2 : dv S (i + 1) = dv S i + S i * 10 ^ i := rfl
    have e3 : up + S i = (up + S i) % 10 + (up + S i) / 10 * 10 := by omega
    have e4 : (up + S i) * 10 ^ i = B i * 10 ^ i + (up + S i) / 10 * 10 ^ (i + 1) := by
      conv => lhs; rw [e3]
      rw [Int.add_mul, hb, Int.pow_succ, Int.mul_assoc, Int.mul_comm 10 (10 ^ i)]
    have e5 := h.2.2
    rw [Int.add_mul] at e4
    rw [e1, e2]
    omega
/-- Where nothing is carried any more, what was written has the number of all the sums. -/
theorem Carry.last {S B : Nat → Int} {i n : Nat} (h : Carry S B i 0) (hn : n ≤ i) (hz : ∀ j, n ≤ j → S j = 0) : dv B i = dv S n := by
  have := h.2.2
  rw [Int.zero_mul, Int.add_zero] at this
  rw [this]
  exact sumN_more hn fun j hj _ => by rw [hz j hj, Int.zero_mul]
/-- Zeros at the top do not count. -/
theorem dv_cut {B : Nat → Int} {n m : Nat} (h : m ≤ n) (hz : ∀ j, m ≤ j → j < n → B j = 0) : dv B n = dv B m := sumN_more h fun j h1 h2 => by rw [hz j h1 h2, Int.zero_mul]
theorem dv_mul {D E : Nat → Int} {n m : Nat} (hD : ∀ j, n ≤ j → D j = 0) (hE : ∀ j, m ≤ j → E j = 0) : dv (mulS D E) (n + m) = dv D n * dv E m := evN_mul 10 E m hE n D hD
def topV (D : Nat → Int) (n : Nat) : Nat → Int
  | 0 => 0
  | k + 1 => topV D n k * 10 + D (n - 1 - k)
theorem topV_eq (D : Nat → Int) (n : Nat) : ∀ k, k ≤ n → topV D n k = dv (fun i => D (n - k + i)) k
  | 0, _ => rfl
  | k + 1, hk => by
    rw [topV, topV_eq D n k (by omega), dv_first]
    have e : tl (fun i => D (n - (k + 1) + i)) = fun i => D (n - k + i) := by
      funext i
      show D (n - (k + 1) + (i + 1)) = D (n - k + i)
      rw [show n - (k + 1) + (i + 1) = n - k + i by omega]
    rw [e, Nat.add_zero, show n - 1 - k = n - (k + 1) by omega]
    omega
theorem topV_all (D : Nat → Int) (n : Nat) : topV D n n = dv D n := by
  rw [topV_eq D n n (Nat.le_refl _)]
  congr 1
  funext i
  rw [Nat.sub_self, Nat.zero_add]
end Go.Proofs.YtaapmpjkcddababDoor
namespace Go.Proofs.YtaapmpjkcddababDoor
theorem inv67 : mPower 7 (P 6) (-1) = PW (P 7) (RS (P 6) (P 7)) (P 7 - 2) := by
  unfold mPower
  rw [if_pos ⟨by omega, by omega⟩, if_neg (by rw [P6, P7]; decide), show RS (-1) (P 7 - 1) = P 7 - 2 by rw [P7]; decide]
/-- The program's way to the centred number. -/
theorem center_eq {a b : Int} (a0 : 0 ≤ a) (a1 : a < P 6) (b0 : 0 ≤ b) (b1 : b < P 7) : mJoined a b = joinS a b ∧ mCentered1 a b = true ∧ mCentered0 a b = if 234468656333979648 < joinS a b then joinS a b - 468937312667959297 else joinS a b := by
  have hj : mJoined a b = joinS a b := if_pos ⟨⟨a0, a1⟩, b0, b1⟩
  have is := joinS_is a0 a1 b0 b1
  have h0 := is.1
  refine ⟨hj, ?_, ?_⟩
  · unfold mCentered1
    rw [hj]
    exact decide_eq_true h0
  · unfold mCentered0 MM
    rw [hj, if_neg (by omega)]
    by_cases h : 234468656333979648 < joinS a b
    · rw [if_pos h, if_pos (by omega)]
    · rw [if_neg h, if_neg (by omega)]
theorem cpar_mod {p : Int} (A B : Nat → Int) (k i : Nat) : RS (cpar (fun j => RS (A j) p) (fun j => RS (B j) p) k i) p = RS (cpar A B k i) p := by
  unfold RS cpar
  exact sumN_mod fun j _ => by
    by_cases h : j ≤ k
    · rw [if_pos h, if_pos h]
      exact (Int.mul_emod (A j) (B (k - j)) p).symm
    · rw [if_neg h, if_neg h]
/-- The number of the residues of an exact sum is the sum. -/
theorem center_conv {A B : Nat → Int} {n : Nat} (hn : n ≤ 4096) (hA : ∀ j, -1000000 ≤ A j ∧ A j ≤ 1000000) (hB : ∀ j, -1000000 ≤ B j ∧ B j ≤ 1000000) (zA : ∀ j, n ≤ j → A j = 0) (k : Nat) :
    mCentered0 (RS (cpar (fun j => RS (A j) (P 6)) (fun j => RS (B j) (P 6)) k n) (P 6)) (RS (cpar (fun j => RS (A j) (P 7)) (fun j => RS (B j) (P 7)) k n) (P 7)) = cv k A B := by
  rw [cpar_mod, cpar_mod]
  have b := cpar_bd hA hB k n
  rw [cpar_end k zA] at b ⊢
  exact (centered_split (x := cv k A B) (by unfold MM; omega) (by unfold MM; omega)).1
/-- The digits from place lo on, to the end of the six of place p. -/
def tS (D : Nat → Int) (n k p : Nat) : Int := dv (fun j => D (max (6 * p) (n - k) + j)) (6 * p + 6 - max (6 * p) (n - k))
theorem dv_zero {D : Nat → Int} {n : Nat} (h : ∀ j, j < n → D j = 0) : dv D n = 0 := sumN_zero fun i hi => by rw [h i hi, Int.zero_mul]
theorem tS_start {D : Nat → Int} {n : Nat} (h : ∀ j, n ≤ j → D j = 0) (p : Nat) : tS D n 0 p = 0 := dv_zero fun j _ => h _ (by omega)
theorem tS_hit (D : Nat → Int) {n k p : Nat} (hk : k < n) (h : (n - 1 - k) / 6 = p) : tS D n (k + 1) p = tS D n k p * 10 + D (n - 1 - k) := by
  unfold tS
  rw [show max (6 * p) (n - (k + 1)) = n - 1 - k by omega, show max (6 * p) (n - k) = n - 1 - k + 1 by omega, show 6 * p + 6 - (n - 1 - k) = (6 * p + 6 - (n - 1 - k + 1)) + 1 by omega, dv_first]
  have e : tl (fun j => D (n - 1 - k + j)) = fun j => D (n - 1 - k + 1 + j) := by
    funext j
    show D (n - 1 - k + (j + 1)) = _
    rw [show n - 1 - k + (j + 1) = n - 1 - k + 1 + j by omega]
  rw [e, Nat.add_zero, Int.mul_comm]
  omega
theorem tS_miss (D : Nat → Int) {n k p : Nat} (hk : k < n) (h : (n - 1 - k) / 6 ≠ p) : tS D n (k + 1) p = tS D n k p := by
  unfold tS
  by_cases h1 : n - 1 - k < 6 * p
  · rw [show max (6 * p) (n - (k + 1)) = 6 * p by omega, show max (6 * p) (n - k) = 6 * p by omega]
  · rw [show 6 * p + 6 - max (6 * p) (n - (k + 1)) = 0 by omega, show 6 * p + 6 - max (6 * p) (n - k) = 0 by omega]
    rfl
/-- The term of six digits. -/
def tmF (D : Nat → Int) (p : Nat) : Int := dv (fun j => D (6 * p + j)) 6
theorem tS_end (D : Nat → Int) (n p : Nat) : tS D n n p = tmF D p := by
  unfold tS tmF
  rw [Nat.sub_self, show max (6 * p) 0 = 6 * p by omega, show 6 * p + 6 - 6 * p = 6 by omega]
theorem tS_bd {D : Nat → Int} (h : ∀ j, 0 ≤ D j ∧ D j ≤ 9) (n k p : Nat) : 0 ≤ tS D n k p ∧ tS D n k p < 1000000 := by
  have b := dv_bd (D := fun j => D (max (6 * p) (n - k) + j)) (n := 6 * p + 6 - max (6 * p) (n - k)) fun i _ => ⟨(h _).1, by have := (h (max (6 * p) (n - k) + i)).2; show D (max (6 * p) (n - k) + i) < 10; omega⟩
  have m := pow10_mono (show 6 * p + 6 - max (6 * p) (n - k) ≤ 6 by omega)
  have e : (10 : Int) ^ 6 = 1000000 := by decide
  unfold tS
  omega
theorem tmF_bd {D : Nat → Int} (h : ∀ j, 0 ≤ D j ∧ D j ≤ 9) (p : Nat) : 0 ≤ tmF D p ∧ tmF D p < 1000000 := by
  rw [← tS_end D 0 p]
  exact tS_bd h 0 0 p
theorem tmF_out {D : Nat → Int} {n p : Nat} (h : ∀ j, n ≤ j → D j = 0) (hp : n ≤ 6 * p) : tmF D p = 0 := dv_zero fun j _ => h _ (by omega)
theorem dv_split (D : Nat → Int) (a b : Nat) : dv D (a + b) = dv D a + dv (fun j => D (a + j)) b * 10 ^ a := by
  unfold dv
  rw [sumN_split, ← sumN_mul_r]
  congr 1
  exact sumN_congr fun i _ => by rw [Int.pow_add, Int.mul_comm (10 ^ a) (10 ^ i), Int.mul_assoc]
theorem pow6 : ∀ n : Nat, (10 : Int) ^ (6 * n) = 1000000 ^ n
  | 0 => rfl
  | n + 1 => by rw [show 6 * (n + 1) = 6 * n + 6 by omega, Int.pow_add, pow6 n, Int.pow_succ]; rfl
/-- A number in terms of six digits. -/
theorem terms_num (D : Nat → Int) : ∀ T : Nat, evN 1000000 (tmF D) T = dv D (6 * T)
  | 0 => rfl
  | T + 1 => by
    have e : evN 1000000 (tmF D) (T + 1) = evN 1000000 (tmF D) T + tmF D T * 1000000 ^ T := rfl
    rw [e, terms_num D T, show 6 * (T + 1) = 6 * T + 6 by omega, dv_split, pow6]
    rfl
/-- The terms laid at every sixth place. -/
def spS (T : Nat → Int) (j : Nat) : Int := if j % 6 = 0 then T (j / 6) else 0
theorem spS_at (T : Nat → Int) (i : Nat) : spS T (6 * i) = T i := by
  unfold spS
  rw [if_pos (by omega), show 6 * i / 6 = i by omega]
theorem spS_no (T : Nat → Int) {i j : Nat} (h0 : 0 < j) (h : j < 6) : spS T (6 * i + j) = 0 := if_neg (by omega)
theorem spS_out {T : Nat → Int} {n : Nat} (h : ∀ j, n ≤ j → T j = 0) {j : Nat} (hj : 6 * n ≤ j) : spS T j = 0 := by
  unfold spS
  split
  · exact h _ (by omega)
  · rfl
theorem spS_bd {T : Nat → Int} {M : Int} (hM : 0 ≤ M) (h : ∀ j, 0 ≤ T j ∧ T j ≤ M) (j : Nat) : 0 ≤ spS T j ∧ spS T j ≤ M := by
  unfold spS
  split
  · exact h _
  · omega
theorem spread_num (T : Nat → Int) : ∀ n : Nat, dv (spS T) (6 * n) = evN 1000000 T n
  | 0 => rfl
  | n + 1 => by
    have e : evN 1000000 T (n + 1) = evN 1000000 T n + T n * 1000000 ^ n := rfl
    rw [e, show 6 * (n + 1) = 6 * n + 6 by omega, dv_split, pow6, spread_num T n]
    have e6 : dv (fun j => spS T (6 * n + j)) 6 = T n := by
      rw [show (6 : Nat) = 1 + 5 by rfl, dv_split]
      have e1 : dv (fun j => spS T ((1 + 5) * n + j)) 1 = T n := by
        show 0 + spS T (6 * n + 0) * 10 ^ 0 = T n
        rw [Nat.add_zero, spS_at]
        omega
      rw [e1, dv_zero (fun j hj => spS_no T (by omega) (by omega))]
      omega
    rw [e6]
/-- The number of a product of two lists of terms. -/
theorem conv_num {A B : Nat → Int} {n m : Nat} (n0 : 0 < n) (_m0 : 0 < m) (hA : ∀ j, n ≤ j → A j = 0) (hB : ∀ j, m ≤ j → B j = 0) : evN 1000000 (fun i => cv i A B) (n + m - 1) = evN 1000000 A n * evN 1000000 B m := by
  rw [← evN_mul 1000000 B m hB n A hA]
  exact (evN_more (A := mulS A B) (by omega) fun j hj => cv_out hA hB (by omega)).symm
theorem cv_terms {A B : Nat → Int} (hA : ∀ j, 0 ≤ A j ∧ A j ≤ 1000000) (hB : ∀ j, 0 ≤ B j ∧ B j ≤ 1000000) (i : Nat) : ∀ k : Nat, 0 ≤ cpar A B i k ∧ cpar A B i k ≤ 1000000000000 * (k : Int)
  | 0 => by simp [cpar, sumN]
  | k + 1 => by
    have ih := cv_terms hA hB i k
    rw [cpar_succ]
    have h1 := Int.mul_nonneg (hA k).1 (hB (i - k)).1
    have h2 : A k * B (i - k) ≤ 1000000 * B (i - k) := Int.mul_le_mul_of_nonneg_right (hA k).2 (hB (i - k)).1
    have h3 := hB (i - k)
    split <;> omega
end Go.Proofs.YtaapmpjkcddababDoor
namespace Go.Proofs.YtaapmpjkcddababDoor
open Go.RowKit
theorem iBound (n m : Int) (w : World) : Calls Tryd.prog 25 #[.int .i64 n, .int .i64 m] w fun e w' => e = .returned (.int .i64 (mBound n m)) ∧ w = w' := by
  rcases Int.lt_trichotomy n m with h | h | h
  · have d0 : decide (n < m) = true := decide_eq_true h
    have d0' : decide (m < n) = false := decide_eq_false (by omega)
    have HB1 : Hid (1 ≤ n → m ≤ 200 → mBound n m = n * 1000000 * 1000000) := Lib.hid fun h1 h2 => by unfold mBound; rw [if_pos (by omega), Int.min_eq_left (by omega)]
    have HB2 : Hid (¬ (1 ≤ n ∧ m ≤ 200) → mBound n m = -1) := Lib.hid fun h1 => by unfold mBound; rw [if_neg (by omega)]
    by_cases h1 : n < 1
    · have d1 : decide (n < 1) = true := decide_eq_true h1
      have HB := Lib.hid (HB2.out (by omega))
      go_enter Tryd.func25, Tryd.ntmps25
      go_wp2
      go_ret
      exact ⟨by rw [HB.out]; rfl, rfl⟩
    · have d1 : decide (n < 1) = false := decide_eq_false h1
      by_cases h2 : 200 < m
      · have d2 : decide (200 < m) = true := decide_eq_true h2
        have HB := Lib.hid (HB2.out (by omega))
        go_enter Tryd.func25, Tryd.ntmps25
        go_wp2
        go_ret
        exact ⟨by rw [HB.out]; rfl, rfl⟩
      · have d2 : decide (200 < m) = false := decide_eq_false h2
        have HB := Lib.hid (HB1.out (by omega) (by omega))
        go_enter Tryd.func25, Tryd.ntmps25
        go_wp2
        go_ret
        exact ⟨by rw [HB.out]; rfl, rfl⟩
  · subst h
    have HB1 : Hid (1 ≤ n → n ≤ 200 → mBound n n = n * 1000000 * 1000000) := Lib.hid fun h1 h2 => by unfold mBound; rw [if_pos (by omega), Int.min_eq_left (by omega)]
    have HB2 : Hid (¬ (1 ≤ n ∧ n ≤ 200) → mBound n n = -1) := Lib.hid fun h1 => by unfold mBound; rw [if_neg (by omega)]
    by_cases h1 : n < 1
    · have d1 : decide (n < 1) = true := decide_eq_true h1
      have HB := Lib.hid (HB2.out (by omega))
      go_enter Tryd.func25, Tryd.ntmps25
      go_wp2
      go_ret
      exact ⟨by rw [HB.out]; rfl, rfl⟩
    · have d1 : decide (n < 1) = false := decide_eq_false h1
      by_cases h2 : 200 < n
      · have d2 : decide (200 < n) = true := decide_eq_true h2
        have HB := Lib.hid (HB2.out (by omega))
        go_enter Tryd.func25, Tryd.ntmps25
        go_wp2
        go_ret
        exact ⟨by rw [HB.out]; rfl, rfl⟩
      · have d2 : decide (200 < n) = false := decide_eq_false h2
        have HB := Lib.hid (HB1.out (by omega) (by omega))
        go_enter Tryd.func25, Tryd.ntmps25
        go_wp2
        go_ret
        exact ⟨by rw [HB.out]; rfl, rfl⟩
  · have d0 : decide (m < n) = true := decide_eq_true h
    have d0' : decide (n < m) = false := decide_eq_false (by omega)
    have HB1 : Hid (1 ≤ m → n ≤ 200 → mBound n m = m * 1000000 * 1000000) := Lib.hid fun h1 h2 => by unfold mBound; rw [if_pos (by omega), Int.min_eq_right (by omega)]
    have HB2 : Hid (¬ (1 ≤ m ∧ n ≤ 200) → mBound n m = -1) := Lib.hid fun h1 => by unfold mBound; rw [if_neg (by omega)]
    by_cases h1 : m < 1
    · have d1 : decide (m < 1) = true := decide_eq_true h1
      have HB := Lib.hid (HB2.out (by omega))
      go_enter Tryd.func25, Tryd.ntmps25
      go_wp2
      go_ret
      exact ⟨by rw [HB.out]; rfl, rfl⟩
    · have d1 : decide (m < 1) = false := decide_eq_false h1
      by_cases h2 : 200 < n
      · have d2 : decide (200 < n) = true := decide_eq_true h2
        have HB := Lib.hid (HB2.out (by omega))
        go_enter Tryd.func25, Tryd.ntmps25
        go_wp2
        go_ret
        exact ⟨by rw [HB.out]; rfl, rfl⟩
      · have d2 : decide (200 < n) = false := decide_eq_false h2
        have HB := Lib.hid (HB1.out (by omega) (by omega))
        go_enter Tryd.func25, Tryd.ntmps25
        go_wp2
        go_ret
        exact ⟨by rw [HB.out]; rfl, rfl⟩
def PairP (w : World) (x y : Int) (e : Ending) (w' : World) : Prop := e = .returned (.agg #[.int .i64 x, .int .i64 y]) ∧ Below w.heap.size w w'
theorem tab_alloc {w : World} (ht : Tab w) (o : Obj) (q : Nat) : Tab ((w.alloc o).drewN q) := Tab.keep (w' := (w.alloc o).drewN q) (ht.below ((Below.refl _ _).alloc (Nat.le_refl _) o)) (fun _ => rfl)
theorem below_alloc (w : World) (o : Obj) : Below w.heap.size w (w.alloc o) := (Below.refl _ _).alloc (Nat.le_refl _) o
theorem residues_c (x : Int) (w : World) (ht : Tab w) : Calls Tryd.prog 44 #[.int .i64 x] w (PairP w (RS x (P 6)) (RS x (P 7))) := by
  have HT : Hid (∀ o, Tab (w.alloc o)) := Lib.hid fun o => tab_alloc ht o 0
  have HB : Hid (∀ o, Below w.heap.size w (w.alloc o)) := Lib.hid (below_alloc w)
  go_enter Tryd.func44, Tryd.ntmps44
  go_wp2_with fail
  refine (reduce_c 6 x _ (HT.out _) (by omega) (by omega)).mono ?_
  rintro e w' ⟨rfl, rfl⟩
  go_wp2_with fail
  refine (reduce_c 7 x _ (HT.out _) (by omega) (by omega)).mono ?_
  rintro e w' ⟨rfl, rfl⟩
  go_wp2
  refine bodyPost_ret (v := .agg #[.int .i64 (RS x (P 6)), .int .i64 (RS x (P 7))]) (by simp [results, Tryd.results44, go_sem]) rfl ?_
  exact ⟨rfl, HB.out _⟩
def Pair2 (w : World) (x y : Int) (e : Ending) (w' : World) : Prop := e = .returned (.tuple #[.int .i64 x, .int .i64 y]) ∧ Below w.heap.size w w'
theorem iSplit (x : Int) (w : World) (ht : Tab w) : Calls Tryd.prog 16 #[.int .i64 x] w (Pair2 w (RS x (P 6)) (RS x (P 7))) := by
  go_enter Tryd.func16, Tryd.ntmps16
  go_wp2_with fail
  refine (residues_c x w ht).mono ?_
  rintro e w1 ⟨rfl, b1⟩
  have HB : Hid (∀ o q, Below w.heap.size w ((w1.alloc o).drewN q)) := Lib.hid fun o q => below_drewN (b1.alloc b1.size o) q
  clear b1
  go_wp2
  go_quiet (fail)
  go_wp2
  go_ret2
  exact ⟨rfl, HB.out _ _⟩
open Classical in
noncomputable def elB (a b : Int) : Bool := decide ((0 ≤ a ∧ a < P 6) ∧ 0 ≤ b ∧ b < P 7)
theorem el_yes {a b : Int} (h : (0 ≤ a ∧ a < P 6) ∧ 0 ≤ b ∧ b < P 7) : elB a b = true := by unfold elB; simp [h]
theorem el_no {a b : Int} (h : ¬ ((0 ≤ a ∧ a < P 6) ∧ 0 ≤ b ∧ b < P 7)) : elB a b = false := by unfold elB; exact decide_eq_false h
theorem RS_fix {x m : Int} (hm : 0 < m) : (x == RS x m) = true ↔ 0 ≤ x ∧ x < m := by
  rw [beq_iff_eq]
  constructor
  · intro h
    have := RS_bd (x := x) hm
    omega
  · intro h
    unfold RS
    rw [Int.emod_eq_of_lt h.1 h.2]
theorem el_and {a b : Int} {x y : Bool} (hx : (a == RS a (P 6)) = x) (hy : (b == RS b (P 7)) = y) : elB a b = (x && y) := by
  have f6 := RS_fix (x := a) (m := P 6) (by rw [P6]; omega)
  have f7 := RS_fix (x := b) (m := P 7) (by rw [P7]; omega)
  rw [hx] at f6
  rw [hy] at f7
  cases x <;> cases y
  · exact el_no fun h => by have := f6.2 h.1; cases this
  · exact el_no fun h => by have := f6.2 h.1; cases this
  · exact el_no fun h => by have := f7.2 h.2; cases this
  · exact el_yes ⟨f6.1 rfl, f7.1 rfl⟩
theorem areElements_c (a b : Int) (w : World) (ht : Tab w) : Calls Tryd.prog 45 #[.agg #[.int .i64 a, .int .i64 b]] w (BoolP w (elB a b)) := by
  have HT : Hid (∀ o q, Tab ((w.alloc o).drewN q)) := Lib.hid fun o q => tab_alloc ht o q
  have HB : Hid (∀ o q, Below w.heap.size w ((w.alloc o).drewN q)) := Lib.hid fun o q => below_drewN (below_alloc w o) q
  cases h6 : (a == RS a (P 6)) <;> cases h7 : (b == RS b (P 7))
  all_goals
    have HR := Lib.hid (el_and h6 h7)
    go_enter Tryd.func45, Tryd.ntmps45
    go_wp2
    go_quiet ((go_at_call 62; exact quiet_left (reduce_c _ _ _ (HT.out _ _) (by omega) (by omega))))
    go_wp2
    go_ret
    exact ⟨by rw [HR.out]; rfl, HB.out _ _⟩

theorem join_c (a b : Int) (w : World) (ht : Tab w) (a0 : 0 ≤ a) (a1 : a < P 6) (b0 : 0 ≤ b) (b1 : b < P 7) : Calls Tryd.prog 47 #[.agg #[.int .i64 a, .int .i64 b]] w (IntP w (joinS a b)) := by
  have p6 := P6
  have p7 := P7
  have q1 := RS_bd (x := b - a) (m := P 7) (by omega)
  have q2 := RS_bd (x := P 6) (m := P 7) (by omega)
  have q3 := PW_bd (m := P 7) (x := RS (P 6) (P 7)) (e := P 7 - 2) (by omega)
  have q4 := RS_bd (x := RS (b - a) (P 7) * PW (P 7) (RS (P 6) (P 7)) (P 7 - 2)) (m := P 7) (by omega)
  have HPR : Hid (∀ o q, Calls Tryd.prog 76 #[.int .i64 6] ((w.alloc o).drewN q) fun e w' => e = .returned (.int .i64 998244353) ∧ ((w.alloc o).drewN q) = w') := Lib.hid fun o q => by have := prime_c 6 _ (tab_alloc ht o q) (by omega) (by omega); rwa [P6] at this
  have HR1 : Hid (∀ o q, Calls Tryd.prog 62 #[.int .i64 7, .int .i64 (b - a)] ((w.alloc o).drewN q) fun e w' => e = .returned (.int .i64 (RS (b - a) (P 7))) ∧ ((w.alloc o).drewN q) = w') := Lib.hid fun o q => reduce_c 7 (b - a) _ (tab_alloc ht o q) (by omega) (by omega)
  have HR2 : Hid (∀ o q, Calls Tryd.prog 62 #[.int .i64 7, .int .i64 998244353] ((w.alloc o).drewN q) fun e w' => e = .returned (.int .i64 (RS 998244353 (P 7))) ∧ ((w.alloc o).drewN q) = w') := Lib.hid fun o q => reduce_c 7 998244353 _ (tab_alloc ht o q) (by omega) (by omega)
  rw [p6] at q2 q3 q4
  have HI : Hid (∀ o q, Calls Tryd.prog 78 #[.int .i64 7, .int .i64 (RS 998244353 (P 7))] ((w.alloc o).drewN q) fun e w' => e = .returned (.int .i64 (PW (P 7) (RS 998244353 (P 7)) (P 7 - 2))) ∧ ((w.alloc o).drewN q) = w') := Lib.hid fun o q => inverseL_c 7 _ _ (tab_alloc ht o q) (by omega) (by omega) q2.1 q2.2
  have HM : Hid (∀ o q, Calls Tryd.prog 77 #[.int .i64 7, .int .i64 (RS (b - a) (P 7)), .int .i64 (PW (P 7) (RS 998244353 (P 7)) (P 7 - 2))] ((w.alloc o).drewN q) fun e w' => e = .returned (.int .i64 (RS (RS (b - a) (P 7) * PW (P 7) (RS 998244353 (P 7)) (P 7 - 2)) (P 7))) ∧ ((w.alloc o).drewN q) = w') := Lib.hid fun o q => mul_c 7 _ _ _ (tab_alloc ht o q) (by omega) (by omega) q1.1 q1.2 q3.1 q3.2
  have HB : Hid (∀ o q, Below w.heap.size w ((w.alloc o).drewN q)) := Lib.hid fun o q => below_drewN (below_alloc w o) q
  have HJ : Hid (joinS a b = a + 998244353 * RS (RS (b - a) (P 7) * PW (P 7) (RS 998244353 (P 7)) (P 7 - 2)) (P 7)) := Lib.hid (by
    unfold joinS
    rw [inv67, P6])
  rw [p7] at b1
  rw [p6] at a1
  have q5 : 0 ≤ RS (RS (b - a) (P 7) * PW (P 7) (RS 998244353 (P 7)) (P 7 - 2)) (P 7) ∧ RS (RS (b - a) (P 7) * PW (P 7) (RS 998244353 (P 7)) (P 7 - 2)) (P 7) < 469762049 := by rw [p7] at q4 ⊢; exact q4
  clear q1 q2 q3 q4 p6 p7 ht
  generalize RS (RS (b - a) (P 7) * PW (P 7) (RS 998244353 (P 7)) (P 7 - 2)) (P 7) = q at *
  generalize PW (P 7) (RS 998244353 (P 7)) (P 7 - 2) = v at *
  generalize RS 998244353 (P 7) = u at *
  generalize RS (b - a) (P 7) = t at *
  have e1 : IntKind.i64.wrap (998244353 * q) = 998244353 * q := IntWalk.i64_in _ (by omega)
  have e2 : IntKind.i64.wrap (a + 998244353 * q) = a + 998244353 * q := IntWalk.i64_in _ (by omega)
  go_enter Tryd.func47, Tryd.ntmps47
  go_wp2_with fail
  refine (HPR.out _ 0).mono ?_
  rintro e w' ⟨rfl, rfl⟩
  go_wp2_with fail
  refine (HR1.out _ 0).mono ?_
  rintro e w' ⟨rfl, rfl⟩
  go_wp2
  go_quiet ((first | (go_at_call 62; exact quiet_left (HR2.out _ _)) | (go_at_call 78; exact quiet_left (HI.out _ _)) | (go_at_call 77; exact quiet_left (HM.out _ _))))
  go_wp2
  go_ret
  exact ⟨by rw [HJ.out]; rfl, HB.out _ _⟩
theorem center_c (a b : Int) (w : World) (ht : Tab w) (a0 : 0 ≤ a) (a1 : a < P 6) (b0 : 0 ≤ b) (b1 : b < P 7) : Calls Tryd.prog 46 #[.agg #[.int .i64 a, .int .i64 b]] w (IntP w (mCentered0 a b)) := by
  have HPR : Hid (∀ o, Calls Tryd.prog 76 #[.int .i64 6] (w.alloc o) fun e w' => e = .returned (.int .i64 998244353) ∧ (w.alloc o) = w') := Lib.hid fun o => by have := prime_c 6 _ (tab_alloc ht o 0) (by omega) (by omega); rwa [P6] at this
  have HPS : Hid (∀ o, Calls Tryd.prog 76 #[.int .i64 7] (w.alloc o) fun e w' => e = .returned (.int .i64 469762049) ∧ (w.alloc o) = w') := Lib.hid fun o => by have := prime_c 7 _ (tab_alloc ht o 0) (by omega) (by omega); rwa [P7] at this
  have HJ : Hid (∀ o, Calls Tryd.prog 47 #[.agg #[.int .i64 a, .int .i64 b]] (w.alloc o) fun e w' => e = .returned (.int .i64 (joinS a b)) ∧ Below w.heap.size w w') := Lib.hid fun o => (join_c a b _ (tab_alloc ht o 0) a0 a1 b0 b1).mono fun e w' h => ⟨h.1, below_up (below_alloc w o) h.2 (by simp)⟩
  have is := joinS_is a0 a1 b0 b1
  have i0 := is.1
  have i1 := is.2.1
  unfold MM at i1
  have HC := Lib.hid (center_eq a0 a1 b0 b1).2.2
  clear is a0 a1 b0 b1
  generalize joinS a b = x at *
  generalize mCentered0 a b = c at *
  by_cases h : 234468656333979648 < x
  · have d : decide (234468656333979648 < x) = true := decide_eq_true h
    have HR := Lib.hid (HC.out.trans (if_pos h))
    clear HC
    go_enter Tryd.func46, Tryd.ntmps46
    go_wp2_with fail
    refine (HPR.out _).mono ?_
    rintro e w' ⟨rfl, rfl⟩
    go_wp2_with fail
    refine (HPS.out _).mono ?_
    rintro e w' ⟨rfl, rfl⟩
    go_wp2_with fail
    refine (HJ.out _).mono ?_
    rintro e w1 ⟨rfl, b1⟩
    go_wp2
    go_ret
    exact ⟨by rw [HR.out]; rfl, b1⟩
  · have d : decide (234468656333979648 < x) = false := decide_eq_false h
    have HR := Lib.hid (HC.out.trans (if_neg h))
    clear HC
    go_enter Tryd.func46, Tryd.ntmps46
    go_wp2_with fail
    refine (HPR.out _).mono ?_
    rintro e w' ⟨rfl, rfl⟩
    go_wp2_with fail
    refine (HPS.out _).mono ?_
    rintro e w' ⟨rfl, rfl⟩
    go_wp2_with fail
    refine (HJ.out _).mono ?_
    rintro e w1 ⟨rfl, b1⟩
    go_wp2
    go_ret
    exact ⟨by rw [HR.out]; rfl, b1⟩
theorem keep_pair {w w' : World} {cs : Array Value} {t : TypeId} {v : Value} {j : Nat} (hb : Below (w.alloc (.cells cs t)).heap.size (w.alloc (.cells cs t)) w') (h : cs[j]? = some v) : w'.cell? ⟨w.heap.size, j, none⟩ = some v := (hb.cell (p := ⟨w.heap.size, j, none⟩) (by simp)).trans (by unfold World.cell? World.alloc; simp [h])
theorem iJoined (a b : Int) (w : World) (ht : Tab w) : Calls Tryd.prog 18 #[.int .i64 a, .int .i64 b] w (IntP w (mJoined a b)) := by
  have HE : Hid (∀ o, Calls Tryd.prog 45 #[.agg #[.int .i64 a, .int .i64 b]] (w.alloc o) (BoolP (w.alloc o) (elB a b))) := Lib.hid fun o => areElements_c a b _ (tab_alloc ht o 0)
  have HBA : Hid (∀ o, Below w.heap.size w (w.alloc o)) := Lib.hid (below_alloc w)
  by_cases h : (0 ≤ a ∧ a < P 6) ∧ 0 ≤ b ∧ b < P 7
  · have HJ : Hid (∀ w1, Below w.heap.size w w1 → Calls Tryd.prog 47 #[.agg #[.int .i64 a, .int .i64 b]] w1 (IntP w1 (joinS a b))) := Lib.hid fun w1 hb => join_c a b w1 (ht.below hb) h.1.1 h.1.2 h.2.1 h.2.2
    have HR := Lib.hid (center_eq h.1.1 h.1.2 h.2.1 h.2.2).1
    rw [el_yes h] at HE
    clear h
    go_enter Tryd.func18, Tryd.ntmps18
    go_wp2_with fail
    refine (HE.out _).mono ?_
    rintro e w1 ⟨rfl, b1⟩
    have b2 := below_up (HBA.out _) b1 (by simp)
    have k0 := keep_pair (j := 0) b1 rfl
    have k1 := keep_pair (j := 1) b1 rfl
    clear b1
    go_wp2_with fail
    refine (HJ.out _ b2).mono ?_
    rintro e w2 ⟨rfl, b3⟩
    have b4 := below_up b2 b3 b2.size
    clear b2 b3
    go_wp2
    go_ret
    exact ⟨by rw [HR.out]; rfl, b4⟩
  · have HR : Hid (mJoined a b = -1) := Lib.hid (if_neg h)
    rw [el_no h] at HE
    clear h
    go_enter Tryd.func18, Tryd.ntmps18
    go_wp2_with fail
    refine (HE.out _).mono ?_
    rintro e w1 ⟨rfl, b1⟩
    have b2 := below_up (HBA.out _) b1 (by simp)
    clear b1
    go_wp2
    go_ret
    exact ⟨by rw [HR.out]; rfl, b2⟩
def IntB (w : World) (x : Int) (b : Bool) (e : Ending) (w' : World) : Prop := e = .returned (.tuple #[.int .i64 x, .bool b]) ∧ Below w.heap.size w w'
theorem iCentered (a b : Int) (w : World) (ht : Tab w) : Calls Tryd.prog 17 #[.int .i64 a, .int .i64 b] w (IntB w (mCentered0 a b) (mCentered1 a b)) := by
  have HE : Hid (∀ o, Calls Tryd.prog 45 #[.agg #[.int .i64 a, .int .i64 b]] (w.alloc o) (BoolP (w.alloc o) (elB a b))) := Lib.hid fun o => areElements_c a b _ (tab_alloc ht o 0)
  have HBA : Hid (∀ o, Below w.heap.size w (w.alloc o)) := Lib.hid (below_alloc w)
  by_cases h : (0 ≤ a ∧ a < P 6) ∧ 0 ≤ b ∧ b < P 7
  · have HJ : Hid (∀ w1, Below w.heap.size w w1 → Calls Tryd.prog 46 #[.agg #[.int .i64 a, .int .i64 b]] w1 (IntP w1 (mCentered0 a b))) := Lib.hid fun w1 hb => center_c a b w1 (ht.below hb) h.1.1 h.1.2 h.2.1 h.2.2
    have HR := Lib.hid (center_eq h.1.1 h.1.2 h.2.1 h.2.2).2.1
    rw [el_yes h] at HE
    clear h
    go_enter Tryd.func17, Tryd.ntmps17
    go_wp2_with fail
    refine (HE.out _).mono ?_
    rintro e w1 ⟨rfl, b1⟩
    have b2 := below_up (HBA.out _) b1 (by simp)
    have k0 := keep_pair (j := 0) b1 rfl
    have k1 := keep_pair (j := 1) b1 rfl
    clear b1
    go_wp2_with fail
    refine (HJ.out _ b2).mono ?_
    rintro e w2 ⟨rfl, b3⟩
    have b4 := below_up b2 b3 b2.size
    clear b2 b3
    go_wp2
    go_ret2
    exact ⟨by rw [HR.out]; rfl, b4⟩
  · have hj : mJoined a b = -1 := if_neg h
    have HR : Hid (mCentered0 a b = 0 ∧ mCentered1 a b = false) := Lib.hid (by unfold mCentered0 mCentered1; rw [hj]; exact ⟨rfl, rfl⟩)
    rw [el_no h] at HE
    clear h hj
    go_enter Tryd.func17, Tryd.ntmps17
    go_wp2_with fail
    refine (HE.out _).mono ?_
    rintro e w1 ⟨rfl, b1⟩
    have b2 := below_up (HBA.out _) b1 (by simp)
    clear b1
    go_wp2
    go_ret2
    exact ⟨by rw [HR.out.1, HR.out.2]; rfl, b2⟩
end Go.Proofs.YtaapmpjkcddababDoor
namespace Go.Proofs.YtaapmpjkcddababDoor
open Go.RowKit
/-- The row within a round: the first j of row i done. -/
def prw (f : Int) (A B : Nat → Int) (i j : Nat) : Nat → Int := fun k => if i ≤ k ∧ k < i + j then RS (cpar A B k (i + 1)) (P f) else RS (cpar A B k i) (P f)
theorem prw_zero (f : Int) (A B : Nat → Int) (i k : Nat) : RS (cpar A B k i) (P f) = prw f A B i 0 k := by unfold prw; rw [if_neg (by omega)]
theorem prw_at (f : Int) (A B : Nat → Int) (i j : Nat) : prw f A B i j (i + j) = RS (cpar A B (i + j) i) (P f) := by unfold prw; rw [if_neg (by omega)]
theorem prw_new (f : Int) (A B : Nat → Int) (i j : Nat) : RS (RS (cpar A B (i + j) i) (P f) + A i * B j) (P f) = RS (cpar A B (i + j) (i + 1)) (P f) := by
  rw [cpar_succ, if_pos (by omega), Nat.add_sub_cancel_left]
  unfold RS
  exact emod_add_congr (by simp) rfl
theorem prw_succ (f : Int) (A B : Nat → Int) (i j k : Nat) : (if k = i + j then RS (cpar A B (i + j) (i + 1)) (P f) else prw f A B i j k) = prw f A B i (j + 1) k := by
  unfold prw
  by_cases h : k = i + j
  · subst h
    rw [if_pos rfl, if_pos (by omega)]
  · rw [if_neg h]
    by_cases h1 : i ≤ k ∧ k < i + j
    · rw [if_pos h1, if_pos (by omega)]
    · rw [if_neg h1, if_neg (by omega)]
theorem prw_end {f : Int} {A B : Nat → Int} {m : Nat} (hB : ∀ j, m ≤ j → B j = 0) (i k : Nat) : prw f A B i m k = RS (cpar A B k (i + 1)) (P f) := by
  unfold prw
  split
  · rfl
  · rename_i h
    rw [cpar_succ]
    by_cases h1 : i ≤ k
    · rw [if_pos h1, hB (k - i) (by omega), Int.mul_zero, Int.add_zero]
    · rw [if_neg h1, Int.add_zero]
theorem prw_set {f : Int} {wr : World} {g N i j : Nat} {A B : Nat → Int} (h : Own wr g N (prw f A B i j)) : Own (wr.setCell ⟨g, i + j, none⟩ (.int .i64 (RS (cpar A B (i + j) (i + 1)) (P f)))) g N (prw f A B i (j + 1)) := by
  refine (World.rowIs.set h (i + j) (.int .i64 (RS (cpar A B (i + j) (i + 1)) (P f)))).congr fun k _ => ?_
  rw [← prw_succ]
  split <;> rfl
set_option maxRecDepth 100000 in
set_option maxHeartbeats 3200000 in
theorem product_some (f : Int) (b off b2 off2 n m cap cap2 N : Nat) (A B : Nat → Int) (w : World) (ht : Tab w) (h0 : 0 ≤ f) (h8 : f ≤ 8) (hn : n ≤ 4096) (hm : m ≤ 4096) (n0 : 0 < n) (m0 : 0 < m) (hN : n + m = N + 1)
    (hA : ∀ j, 0 ≤ A j ∧ A j < P f) (hB : ∀ j, 0 ≤ B j ∧ B j < P f) (hB2 : ∀ j, m ≤ j → B j = 0) (hlt : b < w.heap.size) (hlt2 : b2 < w.heap.size)
    (hc : ∀ j, j < n → w.cell? ⟨b, off + j, none⟩ = some (.int .i64 (A j))) (hc2 : ∀ j, j < m → w.cell? ⟨b2, off2 + j, none⟩ = some (.int .i64 (B j))) :
    Calls Tryd.prog 56 #[.int .i64 f, .slice (some ⟨b, off, none⟩) n cap, .slice (some ⟨b2, off2, none⟩) m cap2] w fun e w' => e = .returned (.slice (some ⟨w.heap.size, 0, none⟩) N N) ∧ Own w' w.heap.size N (fun k => RS (cpar A B k n) (P f)) ∧ Below w.heap.size w w' := by
  have HC := Lib.hid hc
  have HC2 := Lib.hid hc2
  have HA := Lib.hid hA
  have HB := Lib.hid hB
  have HB2 := Lib.hid hB2
  clear hc hc2 hA hB hB2
  have hp := P_bd h0 h8
  have z1 : ((n : Int) == 0) = false := by simp; omega
  have z2 : ((m : Int) == 0) = false := by simp; omega
  have hmk : ∀ w, (Instr.makeSlice 36 (.int .i64 ((n : Int) + m - 1)) (.int .i64 ((n : Int) + m - 1))).run Tryd.prog w = .ok (.slice (some ⟨w.heap.size, 0, none⟩) N N) (w.alloc (.cells (madeCells #[.int .i64 0] N) 3)) := fun w => by
    rw [show ((n : Int) + m - 1) = (N : Int) by omega]; exact made_n N (by omega) w
  go_enter Tryd.func56, Tryd.ntmps56
  go_wp2_with fail
  clear hmk
  go_loopw [8, 9, 10, 11, 30] (fun _ _ _ _ i wr => ∃ k : Nat, i = .int .i64 k ∧ k ≤ n ∧ Own wr w.heap.size N (fun j => RS (cpar A B j k) (P f)) ∧ Below w.heap.size w wr) (fun _ _ _ _ i _ => n - (intOf i).toNat)
  case atStart =>
    refine ⟨0, rfl, Nat.zero_le _, ?_, (Below.refl _ _).alloc (Nat.le_refl _) _⟩
    exact (World.rowIs_made w (.int .i64 0) N 3).congr fun j _ => by simp [cpar, sumN, RS]
  case round =>
    obtain ⟨i, rfl, hi, ho, hb⟩ := hrel
    by_cases h1 : i < n
    · have d1 : wr.cell? ⟨b, off + i, none⟩ = some (.int .i64 (A i)) := (hb.cell (p := ⟨b, off + i, none⟩) hlt).trans (HC.out i h1)
      have bA := HA.out i
      have HO := Lib.hid (own_congr ho rfl (fun k _ => prw_zero f A B i k))
      clear ho
      go_wp2_with fail
      go_loopw [10, 11, 37] (fun _ _ i2 wr => ∃ j : Nat, i2 = .int .i64 j ∧ j ≤ m ∧ Own wr w.heap.size N (prw f A B i j) ∧ Below w.heap.size w wr) (fun _ _ i2 _ => m - (intOf i2).toNat)
      case atStart => exact ⟨0, rfl, Nat.zero_le _, HO.out, hb⟩
      case round =>
        clear HO d1 hb
        obtain ⟨j, rfl, hj, ho, hb⟩ := hrel
        by_cases h2 : j < m
        · have d2 : wr.cell? ⟨b2, off2 + j, none⟩ = some (.int .i64 (B j)) := (hb.cell (p := ⟨b2, off2 + j, none⟩) hlt2).trans (HC2.out j h2)
          have hij : i + j < N := by omega
          have c2 := World.rowIs.cell ho hij
          rw [prw_at] at c2
          have c3 := World.rowIs.frozen ho (i + j)
          have HT := Lib.hid (ht.below hb)
          have bB := HB.out j
          have pb := prod_bd h0 h8 bA.1 bA.2 bB.1 bB.2
          have pr := RS_bd (x := cpar A B (i + j) i) (m := P f) (by omega)
          have HS := Lib.hid (prw_set ho)
          have HE := Lib.hid (prw_new f A B i j)
          clear ho
          generalize RS (cpar A B (i + j) i) (P f) = X at *
          go_wp2_with fail
          refine (reduce_c f (X + A i * B j) wr HT.out h0 h8).mono ?_
          rintro e w' ⟨rfl, rfl⟩
          rw [HE.out]
          go_wp2
          go_roundw
          case rel => exact ⟨j + 1, by go_num, by omega, HS.out, hb.setCell (Nat.le_refl _) _⟩
          case measure => simp [intOf]; omega
        · have hd2 : decide (j < m) = false := by simpa using h2
          obtain rfl : j = m := by omega
          have HO := Lib.hid (own_congr ho rfl (fun k _ => prw_end HB2.out i k))
          clear ho
          go_wp2
          go_roundw
          case rel => exact ⟨i + 1, by go_num, by omega, HO.out, hb⟩
          case measure => simp [intOf]; omega
    · have hd : decide (i < n) = false := by simpa using h1
      obtain rfl : i = n := by omega
      have HO := Lib.hid ho
      clear ho
      go_wp2
      go_ret
      exact ⟨rfl, HO.out, hb⟩
theorem product_none (f : Int) (a a2 : Option Addr) (n m cap cap2 : Nat) (w : World) (hz : n = 0 ∨ m = 0) :
    Calls Tryd.prog 56 #[.int .i64 f, .slice a n cap, .slice a2 m cap2] w (OwnG w []) := by
  have HP := poly_none none 0 (fun _ => 0) w
  rw [show cutL 0 (fun _ => 0) = [] from rfl] at HP
  by_cases h1 : n = 0
  · subst h1
    go_enter Tryd.func56, Tryd.ntmps56
    go_wp2_with fail
    refine HP.mono ?_
    rintro e w2 ⟨g, rfl, hg, hO, hB⟩
    have HO := Lib.hid hO
    clear hO
    go_wp2
    go_ret
    exact ⟨g, rfl, hg, HO.out, hB⟩
  · obtain rfl : m = 0 := by omega
    have z1 : ((n : Int) == 0) = false := by simp; omega
    go_enter Tryd.func56, Tryd.ntmps56
    go_wp2_with fail
    refine HP.mono ?_
    rintro e w2 ⟨g, rfl, hg, hO, hB⟩
    have HO := Lib.hid hO
    clear hO
    go_wp2
    go_ret
    exact ⟨g, rfl, hg, HO.out, hB⟩
theorem product_c (f : Int) (a a2 : Option Addr) (l m : List Int) (cap cap2 : Nat) (w : World) (ht : Tab w) (h0 : 0 ≤ f) (h8 : f ≤ 8) (hn : l.length ≤ 4096) (hm : m.length ≤ 4096) (hl : Pol f l) (hm2 : Pol f m) (hs : Src w a l.length (lf l)) (hs2 : Src w a2 m.length (lf m)) :
    Calls Tryd.prog 56 #[.int .i64 f, .slice a l.length cap, .slice a2 m.length cap2] w (OwnG w (mulL f l m)) := by
  by_cases hz : l.length = 0 ∨ m.length = 0
  · have e : mulL f l m = [] := by
      rcases hz with h | h
      · rw [List.eq_nil_of_length_eq_zero h, mulL_nil_l]
      · rw [List.eq_nil_of_length_eq_zero h, mulL_nil_r]
    rw [e]
    exact product_none f a a2 l.length m.length cap cap2 w hz
  · rcases hs with h | ⟨b, off, rfl, hlt, hc⟩
    · exact absurd (.inl h) hz
    · rcases hs2 with h | ⟨b2, off2, rfl, hlt2, hc2⟩
      · exact absurd (.inr h) hz
      · refine (product_some f b off b2 off2 l.length m.length cap cap2 (l.length + m.length - 1) (lf l) (lf m) w ht h0 h8 hn hm (by omega) (by omega) (by omega) hl.1 hm2.1 (fun j hj => lf_out m hj) hlt hlt2 hc hc2).mono ?_
        rintro e w' ⟨rfl, ho, hb⟩
        refine OwnG.of_own ho (mulL_len h0 h8 hl hm2 (by omega) (by omega)).symm (Nat.le_refl _) (fun j hj => ?_) hb
        rw [lf_mulL, cpar_end j (fun i hi => lf_out l hi)]; rfl
end Go.Proofs.YtaapmpjkcddababDoor
namespace Go.Proofs.YtaapmpjkcddababDoor
open Go.RowKit
def slO (g n : Nat) : Value := .slice (some ⟨g, 0, none⟩) n n
theorem alloc_heap (w : World) (o : Obj) : (w.alloc o).heap[w.heap.size]? = some o := heap_alloc_new w o
theorem heap4 (w : World) (o0 o1 o2 o3 : Obj) : ((((w.alloc o0).alloc o1).alloc o2).alloc o3).drew.heap[w.heap.size]? = some o0 ∧ ((((w.alloc o0).alloc o1).alloc o2).alloc o3).drew.heap[w.heap.size + 1]? = some o1 ∧ ((((w.alloc o0).alloc o1).alloc o2).alloc o3).drew.heap[w.heap.size + 1 + 1]? = some o2 ∧ ((((w.alloc o0).alloc o1).alloc o2).alloc o3).drew.heap[w.heap.size + 1 + 1 + 1]? = some o3 ∧ Below w.heap.size w ((((w.alloc o0).alloc o1).alloc o2).alloc o3).drew := by
  have s1 : (w.alloc o0).heap.size = w.heap.size + 1 := by simp
  have s2 : ((w.alloc o0).alloc o1).heap.size = w.heap.size + 1 + 1 := by simp
  have s3 : (((w.alloc o0).alloc o1).alloc o2).heap.size = w.heap.size + 1 + 1 + 1 := by simp
  refine ⟨?_, ?_, ?_, ?_, ?_⟩
  · rw [heap_drew, heap_alloc_old _ _ (by omega), heap_alloc_old _ _ (by omega), heap_alloc_old _ _ (by omega), alloc_heap]
  · rw [heap_drew, heap_alloc_old _ _ (by omega), heap_alloc_old _ _ (by omega), ← s1, alloc_heap]
  · rw [heap_drew, heap_alloc_old _ _ (by omega), ← s2, alloc_heap]
  · rw [heap_drew, ← s3, alloc_heap]
  · exact ((((Below.refl w.heap.size w).alloc (Nat.le_refl _) o0).alloc (by omega) o1).alloc (by omega) o2).alloc (by omega) o3 |>.drew
/-- What stands when the two rows and their pair are laid, and k of each are written. -/
def RL (w wr : World) (gA gB gC n k : Nat) (F : Nat → Int) : Prop :=
  wr.heap[w.heap.size]? = some (.cells #[.slice none 0 0, .slice none 0 0] 89) ∧ Own wr gA n (fun j => if j < k then RS (F j) (P 6) else 0) ∧ Own wr gB n (fun j => if j < k then RS (F j) (P 7) else 0) ∧
  wr.heap[gC]? = some (.cells #[slO gA n, slO gB n] 89) ∧ (gA ≠ gB ∧ gA ≠ gC ∧ gB ≠ gC ∧ w.heap.size < gA ∧ w.heap.size < gB ∧ w.heap.size < gC) ∧ Below w.heap.size w wr
theorem own_made {w : World} {g n : Nat} {G : Nat → Int} (h : w.heap[g]? = some (.cells (madeCells #[.int .i64 0] n) 3)) : Own w g n (fun j => if j < 0 then G j else 0) := by
  have hm := World.rowIs_made w (.int .i64 0) n 3
  obtain ⟨c, h1, h2, h3⟩ := hm
  rw [alloc_heap] at h1
  injection h1 with h1
  injection h1 with h1
  subst h1
  exact ⟨_, h, h2, fun i hi => by rw [h3 i hi]; simp⟩
theorem RL.start {w wr : World} {gA gB gC n : Nat} (F : Nat → Int) (h0 : wr.heap[w.heap.size]? = some (.cells #[.slice none 0 0, .slice none 0 0] 89)) (hA : wr.heap[gA]? = some (.cells (madeCells #[.int .i64 0] n) 3)) (hB : wr.heap[gB]? = some (.cells (madeCells #[.int .i64 0] n) 3))
    (hC : wr.heap[gC]? = some (.cells #[.slice (some ⟨gA, 0, none⟩) n n, .slice (some ⟨gB, 0, none⟩) n n] 89)) (hne : gA ≠ gB ∧ gA ≠ gC ∧ gB ≠ gC ∧ w.heap.size < gA ∧ w.heap.size < gB ∧ w.heap.size < gC) (hb : Below w.heap.size w wr) : RL w wr gA gB gC n 0 F :=
  ⟨h0, own_made hA, own_made hB, hC, hne, hb⟩
theorem heap_set {w : World} {g g2 o : Nat} {v : Value} (h : g ≠ g2) : (w.setCell ⟨g2, o, none⟩ v).heap[g]? = w.heap[g]? := Below.heap_setCell w ⟨g2, o, none⟩ v g h
theorem heap_lt {w : World} {g : Nat} {o : Obj} (h : w.heap[g]? = some o) : g < w.heap.size := (Array.getElem?_eq_some_iff.1 h).1
theorem heap_cell {w : World} {g j : Nat} {cs : Array Value} {t : TypeId} {v : Value} (h : w.heap[g]? = some (.cells cs t)) (hj : cs[j]? = some v) : w.cell? ⟨g, j, none⟩ = some v := by
  unfold World.cell?
  simp [h, hj]
theorem heap_frozen {w : World} {g j : Nat} {cs : Array Value} {t : TypeId} (h : w.heap[g]? = some (.cells cs t)) : w.frozen? ⟨g, j, none⟩ = false := by
  unfold World.frozen?
  simp [h]
theorem RL.keep {w wr w1 : World} {gA gB gC n k : Nat} {F : Nat → Int} (h : RL w wr gA gB gC n k F) (hb : Below wr.heap.size wr w1) : RL w w1 gA gB gC n k F := by
  obtain ⟨h0, hA, hB, hC, hne, hw⟩ := h
  exact ⟨(hb.block _ (heap_lt h0)).trans h0, hA.keep hb, hB.keep hb, (hb.block _ (heap_lt hC)).trans hC, hne, below_up hw hb hw.size⟩
theorem RL.one {w W : World} {gA gB gC n k : Nat} {F : Nat → Int} (h : RL w W gA gB gC n k F) : RL w ((W.setCell ⟨gA, k, none⟩ (.int .i64 (RS (F k) (P 6)))).setCell ⟨gB, k, none⟩ (.int .i64 (RS (F k) (P 7)))) gA gB gC n (k + 1) F := by
  obtain ⟨h0, hA, hB, hC, hne, hw⟩ := h
  obtain ⟨n1, n2, n3, n4, n5, n6⟩ := hne
  refine ⟨?_, own_other (own_step (F := fun j => RS (F j) (P 6)) hA) n1, own_step (F := fun j => RS (F j) (P 7)) (own_other hB (Ne.symm n1)), ?_, ⟨n1, n2, n3, n4, n5, n6⟩, (hw.setCell (p := ⟨gA, k, none⟩) (by show w.heap.size ≤ gA; omega) _).setCell (p := ⟨gB, k, none⟩) (by show w.heap.size ≤ gB; omega) _⟩
  · rw [heap_set (by omega), heap_set (by omega)]; exact h0
  · rw [heap_set (Ne.symm n3), heap_set (Ne.symm n2)]; exact hC
theorem RL.two {w W : World} {gA gB gC n k : Nat} {F : Nat → Int} (h : RL w W gA gB gC n k F) : RL w ((W.setCell ⟨gB, k, none⟩ (.int .i64 (RS (F k) (P 7)))).setCell ⟨gA, k, none⟩ (.int .i64 (RS (F k) (P 6)))) gA gB gC n (k + 1) F := by
  obtain ⟨h0, hA, hB, hC, hne, hw⟩ := h
  obtain ⟨n1, n2, n3, n4, n5, n6⟩ := hne
  refine ⟨?_, own_step (F := fun j => RS (F j) (P 6)) (own_other hA n1), own_other (own_step (F := fun j => RS (F j) (P 7)) hB) (Ne.symm n1), ?_, ⟨n1, n2, n3, n4, n5, n6⟩, (hw.setCell (p := ⟨gB, k, none⟩) (by show w.heap.size ≤ gB; omega) _).setCell (p := ⟨gA, k, none⟩) (by show w.heap.size ≤ gA; omega) _⟩
  · rw [heap_set (by omega), heap_set (by omega)]; exact h0
  · rw [heap_set (Ne.symm n2), heap_set (Ne.symm n3)]; exact hC
theorem RL.drew {w W : World} {gA gB gC n k : Nat} {F : Nat → Int} (h : RL w W gA gB gC n k F) : RL w W.drew gA gB gC n k F := by
  obtain ⟨h0, hA, hB, hC, hne, hw⟩ := h
  exact ⟨h0, hA, hB, hC, hne, hw.drew⟩
def ResP (w : World) (n : Nat) (F : Nat → Int) (e : Ending) (w' : World) : Prop :=
  ∃ gA gB, e = .returned (.agg #[.slice (some ⟨gA, 0, none⟩) n n, .slice (some ⟨gB, 0, none⟩) n n]) ∧ Own w' gA n (fun j => RS (F j) (P 6)) ∧ Own w' gB n (fun j => RS (F j) (P 7)) ∧ w.heap.size ≤ gA ∧ w.heap.size ≤ gB ∧ Below w.heap.size w w'
theorem RL.last {w W : World} {gA gB gC n : Nat} {F : Nat → Int} {u v : Value} (h : RL w W gA gB gC n n F) : ResP w n F (.returned (.agg #[.slice (some ⟨gA, 0, none⟩) n n, .slice (some ⟨gB, 0, none⟩) n n])) ((W.setCell ⟨w.heap.size, 0, none⟩ u).setCell ⟨w.heap.size, 1, none⟩ v) := by
  obtain ⟨h0, hA, hB, hC, hne, hw⟩ := h
  obtain ⟨n1, n2, n3, n4, n5, n6⟩ := hne
  exact ⟨gA, gB, rfl, own_congr (own_other (own_other hA (by omega)) (by omega)) rfl (fun j hj => by simp [hj]), own_congr (own_other (own_other hB (by omega)) (by omega)) rfl (fun j hj => by simp [hj]), by omega, by omega, (hw.setCell (p := ⟨w.heap.size, 0, none⟩) (Nat.le_refl _) _).setCell (p := ⟨w.heap.size, 1, none⟩) (Nat.le_refl _) _⟩
set_option maxRecDepth 100000 in
set_option maxHeartbeats 3200000 in
theorem residueLists_c (a : Option Addr) (n cap : Nat) (F : Nat → Int) (w : World) (ht : Tab w) (hn : n ≤ 4096) (hs : Src w a n F) :
    Calls Tryd.prog 80 #[.slice a n cap] w (ResP w n F) := by
  have HS := Lib.hid hs
  clear hs
  have hmk := made_n n (by omega)
  go_enter Tryd.func80, Tryd.ntmps80
  go_upto_region 1 with fail
  go_cut [3] from 7 (fun p w2 => ∃ gA gB gC, p = .pointer (some ⟨gC, 0, none⟩) ∧ RL w w2 gA gB gC n 0 F)
  case first =>
    go_region
    all_goals
      go_wp2_with fail
      go_meet
    all_goals
      have h4 := heap4 w
      first
        | exact ⟨w.heap.size + 1, w.heap.size + 1 + 1, w.heap.size + 1 + 1 + 1, rfl, RL.start F (h4 _ _ _ _).1 (h4 _ _ _ _).2.1 (h4 _ _ _ _).2.2.1 (h4 _ _ _ _).2.2.2.1 (by omega) (h4 _ _ _ _).2.2.2.2⟩
        | exact ⟨w.heap.size + 1, w.heap.size + 1 + 1 + 1, w.heap.size + 1 + 1, rfl, RL.start F (h4 _ _ _ _).1 (h4 _ _ _ _).2.1 (h4 _ _ _ _).2.2.2.1 (h4 _ _ _ _).2.2.1 (by omega) (h4 _ _ _ _).2.2.2.2⟩
        | exact ⟨w.heap.size + 1 + 1, w.heap.size + 1, w.heap.size + 1 + 1 + 1, rfl, RL.start F (h4 _ _ _ _).1 (h4 _ _ _ _).2.2.1 (h4 _ _ _ _).2.1 (h4 _ _ _ _).2.2.2.1 (by omega) (h4 _ _ _ _).2.2.2.2⟩
        | exact ⟨w.heap.size + 1 + 1, w.heap.size + 1 + 1 + 1, w.heap.size + 1, rfl, RL.start F (h4 _ _ _ _).1 (h4 _ _ _ _).2.2.1 (h4 _ _ _ _).2.2.2.1 (h4 _ _ _ _).2.1 (by omega) (h4 _ _ _ _).2.2.2.2⟩
        | exact ⟨w.heap.size + 1 + 1 + 1, w.heap.size + 1, w.heap.size + 1 + 1, rfl, RL.start F (h4 _ _ _ _).1 (h4 _ _ _ _).2.2.2.1 (h4 _ _ _ _).2.1 (h4 _ _ _ _).2.2.1 (by omega) (h4 _ _ _ _).2.2.2.2⟩
        | exact ⟨w.heap.size + 1 + 1 + 1, w.heap.size + 1 + 1, w.heap.size + 1, rfl, RL.start F (h4 _ _ _ _).1 (h4 _ _ _ _).2.2.2.1 (h4 _ _ _ _).2.2.1 (h4 _ _ _ _).2.1 (by omega) (h4 _ _ _ _).2.2.2.2⟩
  case rest =>
    clear hmk
    obtain ⟨gA, gB, gC, rfl, h0⟩ := hcut
    have HR0 := Lib.hid h0
    clear h0
    go_wp2_with fail
    go_loopw [4, 5, 6, 16] (fun _ _ _ i wr => ∃ k : Nat, i = .int .i64 k ∧ k ≤ n ∧ RL w wr gA gB gC n k F) (fun _ _ _ i _ => n - (intOf i).toNat)
    case atStart => exact ⟨0, rfl, Nat.zero_le _, HR0.out⟩
    case round =>
      clear HR0
      obtain ⟨k, rfl, hk, hr⟩ := hrel
      by_cases h1 : k < n
      · obtain ⟨b, off, rfl, hlt, hc⟩ : ∃ b off, a = some ⟨b, off, none⟩ ∧ b < w.heap.size ∧ ∀ j, j < n → w.cell? ⟨b, off + j, none⟩ = some (.int .i64 (F j)) := by
          rcases HS.out with h | h
          · omega
          · exact h
        have hd1 : decide ((k : Int) < n) = true := decide_eq_true (by omega)
        have hb := hr.2.2.2.2.2
        have c1 : wr.cell? ⟨b, off + k, none⟩ = some (.int .i64 (F k)) := (hb.cell (p := ⟨b, off + k, none⟩) hlt).trans (hc k h1)
        have HT := Lib.hid (ht.below hb)
        have HR := Lib.hid hr
        clear hr hb hc
        go_wp2_with fail
        refine (residues_c (F k) wr HT.out).mono ?_
        rintro e w1 ⟨rfl, b1⟩
        have hr1 := HR.out.keep b1
        have S1 := Lib.hid (hr1.one.keep (below_alloc _ (.cells #[.int .i64 (RS (F k) (P 6)), .int .i64 (RS (F k) (P 7))] 62))).drew
        have cA := heap_cell (j := 0) hr1.2.2.2.1 rfl
        have cB := heap_cell (j := 1) hr1.2.2.2.1 rfl
        have oA := World.rowIs.cell hr1.2.1 h1
        have oB := World.rowIs.cell hr1.2.2.1 h1
        have fA := World.rowIs.frozen hr1.2.1 k
        have fB := World.rowIs.frozen hr1.2.2.1 k
        have lA := hr1.2.1.lt
        have lB := hr1.2.2.1.lt
        have lC := heap_lt hr1.2.2.2.1
        have ne := hr1.2.2.2.2.1
        simp only [slO, List.getElem_toArray, List.getElem_cons_zero, List.getElem_cons_succ] at cA cB
        simp only [Nat.lt_irrefl, if_false] at oA oB
        obtain ⟨n1, n2, n3, n4, n5, n6⟩ := ne
        have m1 := Ne.symm n1
        have hkn : (k : Int) < n := by omega
        clear hr1 b1 c1 HR HT
        go_wp2_with fail
        go_region
        all_goals go_wp2
        all_goals go_roundw
        case rel => exact ⟨k + 1, by go_num, by omega, S1.out⟩
        case measure => simp [intOf]; omega
      · have hd1 : decide ((k : Int) < n) = false := decide_eq_false (by omega)
        obtain rfl : k = n := by omega
        have cA := heap_cell (j := 0) hr.2.2.2.1 rfl
        have cB := heap_cell (j := 1) hr.2.2.2.1 rfl
        have dA := heap_cell (j := 0) hr.1 rfl
        have dB := heap_cell (j := 1) hr.1 rfl
        have f0 := heap_frozen (j := 0) hr.1
        have f1 := heap_frozen (j := 1) hr.1
        simp only [slO, List.getElem_toArray, List.getElem_cons_zero, List.getElem_cons_succ] at cA cB dA dB
        have HF := Lib.hid (hr.last (u := .slice (some ⟨gA, 0, none⟩) k k) (v := .slice (some ⟨gB, 0, none⟩) k k))
        clear hr
        go_wp2
        refine bodyPost_ret (v := .agg #[.slice (some ⟨gA, 0, none⟩) k k, .slice (some ⟨gB, 0, none⟩) k k]) (by simp [results, Tryd.results80, go_sem, *]) rfl ?_
        exact HF.out
end Go.Proofs.YtaapmpjkcddababDoor
namespace Go.Proofs.YtaapmpjkcddababDoor
open Go.RowKit
/-- The product of the residues of two lists, place by place. -/
def rpL (f : Int) (l m : List Int) : List Int := if l.length = 0 ∨ m.length = 0 then [] else tab (l.length + m.length - 1) fun k => RS (cpar (fun j => RS (lf l j) (P f)) (fun j => RS (lf m j) (P f)) k l.length) (P f)
theorem productR_c (f : Int) (g1 g2 : Nat) (l m : List Int) (w : World) (ht : Tab w) (h0 : 0 ≤ f) (h8 : f ≤ 8) (hn : l.length ≤ 4096) (hm : m.length ≤ 4096) (h1 : Own w g1 l.length (fun j => RS (lf l j) (P f))) (h2 : Own w g2 m.length (fun j => RS (lf m j) (P f))) :
    Calls Tryd.prog 56 #[.int .i64 f, .slice (some ⟨g1, 0, none⟩) l.length l.length, .slice (some ⟨g2, 0, none⟩) m.length m.length] w (OwnG w (rpL f l m)) := by
  have hp := P_bd h0 h8
  unfold rpL
  by_cases hz : l.length = 0 ∨ m.length = 0
  · rw [if_pos hz]
    exact product_none f _ _ _ _ _ _ w hz
  · rw [if_neg hz]
    refine (product_some f g1 0 g2 0 l.length m.length _ _ (l.length + m.length - 1) (fun j => RS (lf l j) (P f)) (fun j => RS (lf m j) (P f)) w ht h0 h8 hn hm (by omega) (by omega) (by omega) (fun j => RS_bd (by omega)) (fun j => RS_bd (by omega)) (fun j hj => by show RS (lf m j) (P f) = 0; rw [lf_out m hj]; simp [RS]) h1.lt h2.lt (fun j hj => by rw [Nat.zero_add]; exact h1.cell hj) (fun j hj => by rw [Nat.zero_add]; exact h2.cell hj)).mono ?_
    rintro e w' ⟨rfl, ho, hb⟩
    exact OwnG.of_own ho (tab_len _ _).symm (Nat.le_refl _) (fun j hj => by rw [lf_tab, if_pos hj]) hb
theorem rp_len (f : Int) (l m : List Int) : (rpL f l m).length = (ceL l m).length := by
  unfold rpL ceL
  split
  · rfl
  · rw [tab_len, tab_len]
theorem rp_bd {f : Int} (h0 : 0 ≤ f) (h8 : f ≤ 8) (l m : List Int) (j : Nat) : 0 ≤ lf (rpL f l m) j ∧ lf (rpL f l m) j < P f := by
  have hp := P_bd h0 h8
  unfold rpL
  split
  · rw [lf_out [] (Nat.zero_le _)]; omega
  · rw [lf_tab]
    split
    · exact RS_bd (by omega)
    · omega
/-- What convolve takes: terms. -/
def TermsB (l : List Int) : Prop := l.length ≤ 4096 ∧ ∀ j, -1000000 ≤ lf l j ∧ lf l j ≤ 1000000
theorem rp_center {l m : List Int} (hl : TermsB l) (hm : TermsB m) {k : Nat} (hk : k < (ceL l m).length) : mCentered0 (lf (rpL 6 l m) k) (lf (rpL 7 l m) k) = lf (ceL l m) k := by
  unfold rpL ceL at *
  by_cases hz : l.length = 0 ∨ m.length = 0
  · rw [if_pos hz] at hk
    simp at hk
  · rw [if_neg hz] at hk
    rw [tab_len] at hk
    rw [if_neg hz, if_neg hz, if_neg hz, lf_tab, if_pos hk, lf_tab, if_pos hk, lf_tab, if_pos hk]
    exact center_conv hl.1 hl.2 hm.2 (fun j hj => lf_out l hj) k
def OwnN (w : World) (n : Nat) (F : Nat → Int) (e : Ending) (w' : World) : Prop := ∃ g, e = .returned (.slice (some ⟨g, 0, none⟩) n n) ∧ w.heap.size ≤ g ∧ Own w' g n F ∧ Below w.heap.size w w'
theorem OwnG.n {w w' : World} {l : List Int} {n : Nat} {e : Ending} (h : OwnG w l e w') (hn : l.length = n) : OwnN w n (lf l) e w' := by
  subst hn
  exact h
theorem pairs_at (w : World) (v0 v1 u0 u1 : Value) (t : TypeId) : ((w.alloc (.cells #[v0, v1] t)).alloc (.cells #[u0, u1] t)).heap[w.heap.size]? = some (.cells #[v0, v1] t) ∧ ((w.alloc (.cells #[v0, v1] t)).alloc (.cells #[u0, u1] t)).heap[w.heap.size + 1]? = some (.cells #[u0, u1] t) ∧ Below w.heap.size w ((w.alloc (.cells #[v0, v1] t)).alloc (.cells #[u0, u1] t)) := by
  have s1 : (w.alloc (.cells #[v0, v1] t)).heap.size = w.heap.size + 1 := by simp
  refine ⟨?_, ?_, ((Below.refl _ _).alloc (Nat.le_refl _) _).alloc (by omega) _⟩
  · rw [heap_alloc_old _ _ (by omega), alloc_heap]
  · rw [← s1, alloc_heap]
def FourC (g h : Nat) (v0 v1 u0 u1 : Value) (W : World) : Prop := W.cell? ⟨g, 0, none⟩ = some v0 ∧ W.cell? ⟨g, 1, none⟩ = some v1 ∧ W.cell? ⟨h, 0, none⟩ = some u0 ∧ W.cell? ⟨h, 1, none⟩ = some u1
theorem FourC.keep {g h : Nat} {v0 v1 u0 u1 : Value} {W W' : World} (k : FourC g h v0 v1 u0 u1 W) (hb : Below W.heap.size W W') : FourC g h v0 v1 u0 u1 W' := by
  obtain ⟨k0, k1, k2, k3⟩ := k
  exact ⟨(hb.cell (p := ⟨g, 0, none⟩) (block_lt_of_cell k0)).trans k0, (hb.cell (p := ⟨g, 1, none⟩) (block_lt_of_cell k1)).trans k1, (hb.cell (p := ⟨h, 0, none⟩) (block_lt_of_cell k2)).trans k2, (hb.cell (p := ⟨h, 1, none⟩) (block_lt_of_cell k3)).trans k3⟩
theorem cell_set {w : World} {g g2 o j : Nat} {v : Value} (h : g ≠ g2) : (w.setCell ⟨g2, o, none⟩ v).cell? ⟨g, j, none⟩ = w.cell? ⟨g, j, none⟩ := by
  unfold World.cell?
  rw [heap_set h]
theorem FourC.set2 {g h p : Nat} {v0 v1 u0 u1 x y : Value} {W : World} (k : FourC g h v0 v1 u0 u1 W) (h1 : g < p) (h2 : h < p) : FourC g h v0 v1 u0 u1 ((W.setCell ⟨p, 0, none⟩ x).setCell ⟨p, 1, none⟩ y) := by
  obtain ⟨k0, k1, k2, k3⟩ := k
  exact ⟨by rw [cell_set (by omega), cell_set (by omega)]; exact k0, by rw [cell_set (by omega), cell_set (by omega)]; exact k1, by rw [cell_set (by omega), cell_set (by omega)]; exact k2, by rw [cell_set (by omega), cell_set (by omega)]; exact k3⟩
/-- What stands while the two products are made. -/
def Bd (w : World) (s2 gA gB gC gD n m : Nat) (A B C D : Nat → Int) (W : World) : Prop :=
  Below w.heap.size w W ∧ Own W gA n A ∧ Own W gB n B ∧ Own W gC m C ∧ Own W gD m D ∧ FourC s2 (s2 + 1) (.slice (some ⟨gA, 0, none⟩) n n) (.slice (some ⟨gB, 0, none⟩) n n) (.slice (some ⟨gC, 0, none⟩) m m) (.slice (some ⟨gD, 0, none⟩) m m) W
theorem Bd.keep {w : World} {s2 gA gB gC gD n m : Nat} {A B C D : Nat → Int} {W W' : World} (h : Bd w s2 gA gB gC gD n m A B C D W) (hb : Below W.heap.size W W') : Bd w s2 gA gB gC gD n m A B C D W' := by
  obtain ⟨h1, h2, h3, h4, h5, h6⟩ := h
  exact ⟨below_up h1 hb h1.size, h2.keep hb, h3.keep hb, h4.keep hb, h5.keep hb, h6.keep hb⟩
theorem Bd.al {w : World} {s2 gA gB gC gD n m : Nat} {A B C D : Nat → Int} {W : World} (h : Bd w s2 gA gB gC gD n m A B C D W) (o : Obj) : Bd w s2 gA gB gC gD n m A B C D (W.alloc o) := h.keep (below_alloc W o)
theorem Bd.drew {w : World} {s2 gA gB gC gD n m : Nat} {A B C D : Nat → Int} {W : World} (h : Bd w s2 gA gB gC gD n m A B C D W) : Bd w s2 gA gB gC gD n m A B C D W.drew := h.keep ((Below.refl _ _).drew)
def OwnD (Z : World → Prop) (W : World) (n : Nat) (F : Nat → Int) (e : Ending) (w' : World) : Prop := ∃ g, e = .returned (.slice (some ⟨g, 0, none⟩) n n) ∧ W.heap.size ≤ g ∧ Own w' g n F ∧ Z w' ∧ Below W.heap.size W w'
/-- The pair of the products. -/
def RF (w W : World) (N g5 g6 g7 : Nat) (X6 X7 : Nat → Int) : Prop := W.cell? ⟨g7, 0, none⟩ = some (.slice (some ⟨g5, 0, none⟩) N N) ∧ W.cell? ⟨g7, 1, none⟩ = some (.slice (some ⟨g6, 0, none⟩) N N) ∧ Own W g5 N X6 ∧ Own W g6 N X7 ∧ Below w.heap.size w W
theorem RF.a {w W : World} {N g5 g6 : Nat} {X6 X7 : Nat → Int} (h5 : Own W g5 N X6) (h6 : Own W g6 N X7) (hb : Below w.heap.size w W) (t : TypeId) : RF w (W.alloc (.cells #[.slice (some ⟨g5, 0, none⟩) N N, .slice (some ⟨g6, 0, none⟩) N N] t)) N g5 g6 W.heap.size X6 X7 :=
  ⟨heap_cell (alloc_heap _ _) rfl, heap_cell (alloc_heap _ _) rfl, h5.keep (below_alloc _ _), h6.keep (below_alloc _ _), hb.alloc hb.size _⟩
theorem cell_new {w : World} {p j : Nat} {v : Value} {u : Value} (h : w.cell? ⟨p, j, none⟩ = some u) : (w.setCell ⟨p, j, none⟩ v).cell? ⟨p, j, none⟩ = some v := World.cell?_setCell_same _ _ _ h
theorem cell_next {w : World} {p j o : Nat} {v : Value} (h : j ≠ o) : (w.setCell ⟨p, o, none⟩ v).cell? ⟨p, j, none⟩ = w.cell? ⟨p, j, none⟩ := by
  apply World.cell?_setCell_other
  intro e
  injection e with _ e
  exact h e.symm
theorem pair0 {w : World} {g : Nat} {t : TypeId} {v0 v1 : Value} (h : w.heap[g]? = some (.cells #[v0, v1] t)) : w.cell? ⟨g, 0, none⟩ = some v0 := heap_cell h rfl
theorem pair1 {w : World} {g : Nat} {t : TypeId} {v0 v1 : Value} (h : w.heap[g]? = some (.cells #[v0, v1] t)) : w.cell? ⟨g, 1, none⟩ = some v1 := heap_cell h rfl
theorem RF.b {w W : World} {N g5 g6 g7 : Nat} {X6 X7 : Nat → Int} {v0 v1 : Value} {t : TypeId} (h5 : Own W g5 N X6) (h6 : Own W g6 N X7) (hb : Below w.heap.size w W) (hz : W.heap[g7]? = some (.cells #[v0, v1] t)) (n5 : g5 ≠ g7) (n6 : g6 ≠ g7) (hw : w.heap.size ≤ g7) : RF w ((W.setCell ⟨g7, 0, none⟩ (.slice (some ⟨g5, 0, none⟩) N N)).setCell ⟨g7, 1, none⟩ (.slice (some ⟨g6, 0, none⟩) N N)) N g5 g6 g7 X6 X7 :=
  ⟨by rw [cell_next (by omega)]; exact cell_new (heap_cell hz rfl), cell_new (by rw [cell_next (by omega)]; exact heap_cell hz rfl), own_other (own_other h5 n5) n5, own_other (own_other h6 n6) n6, (hb.setCell (p := ⟨g7, 0, none⟩) hw _).setCell (p := ⟨g7, 1, none⟩) hw _⟩
def ConvS (g7 g5 g6 k N : Nat) (x y : Int) (W : World) : Prop := W.cell? ⟨g7, 0, none⟩ = some (.slice (some ⟨g5, 0, none⟩) N N) ∧ W.cell? ⟨g7, 1, none⟩ = some (.slice (some ⟨g6, 0, none⟩) N N) ∧ W.cell? ⟨g5, k, none⟩ = some (.int .i64 x) ∧ W.cell? ⟨g6, k, none⟩ = some (.int .i64 y)
theorem ConvS.keep {g7 g5 g6 k N B : Nat} {x y : Int} {W W' : World} (h : ConvS g7 g5 g6 k N x y W) (hb : Below B W W') (h7 : g7 < B) (h5 : g5 < B) (h6 : g6 < B) : ConvS g7 g5 g6 k N x y W' := by
  obtain ⟨k0, k1, k2, k3⟩ := h
  exact ⟨(hb.cell (p := ⟨g7, 0, none⟩) h7).trans k0, (hb.cell (p := ⟨g7, 1, none⟩) h7).trans k1, (hb.cell (p := ⟨g5, k, none⟩) h5).trans k2, (hb.cell (p := ⟨g6, k, none⟩) h6).trans k3⟩
theorem ConvS.set {g7 g5 g6 k N p j : Nat} {x y : Int} {v : Value} {W : World} (h : ConvS g7 g5 g6 k N x y W) (h7 : g7 < p) (h5 : g5 < p) (h6 : g6 < p) : ConvS g7 g5 g6 k N x y (W.setCell ⟨p, j, none⟩ v) := by
  obtain ⟨k0, k1, k2, k3⟩ := h
  exact ⟨by rw [cell_set (by omega)]; exact k0, by rw [cell_set (by omega)]; exact k1, by rw [cell_set (by omega)]; exact k2, by rw [cell_set (by omega)]; exact k3⟩
set_option maxRecDepth 100000 in
set_option maxHeartbeats 3200000 in
theorem convolve_c (a : Option Addr) (l : List Int) (cap : Nat) (a2 : Option Addr) (m : List Int) (cap2 : Nat) (w : World) (ht : Tab w) (hl : TermsB l) (hm : TermsB m) (hs : Src w a l.length (lf l)) (hs2 : Src w a2 m.length (lf m)) :
    Calls Tryd.prog 54 #[.slice a l.length cap, .slice a2 m.length cap2] w (OwnG w (ceL l m)) := by
  have R1 := Lib.hid (residueLists_c a l.length cap (lf l) w ht hl.1 hs)
  have R2 : Hid (∀ W, Below w.heap.size w W → Calls Tryd.prog 80 #[.slice a2 m.length cap2] W (ResP W m.length (lf m))) := Lib.hid fun W hb => residueLists_c a2 m.length cap2 (lf m) W (ht.below hb) hm.1 (hs2.keep hb)
  have P6R : Hid (∀ (s2 gA gB gC gD : Nat) (B D : Nat → Int) (W : World), Bd w s2 gA gB gC gD l.length m.length (fun j => RS (lf l j) (P 6)) B (fun j => RS (lf m j) (P 6)) D W → Calls Tryd.prog 56 #[.int .i64 6, .slice (some ⟨gA, 0, none⟩) l.length l.length, .slice (some ⟨gC, 0, none⟩) m.length m.length] W (OwnD (Bd w s2 gA gB gC gD l.length m.length (fun j => RS (lf l j) (P 6)) B (fun j => RS (lf m j) (P 6)) D) W (ceL l m).length (lf (rpL 6 l m)))) := Lib.hid fun s2 gA gB gC gD B D W hB => (productR_c 6 gA gC l m W (ht.below hB.1) (by omega) (by omega) hl.1 hm.1 hB.2.1 hB.2.2.2.1).mono fun _ _ h => by
    obtain ⟨g, h1, h2, h3, h4⟩ := h.n (rp_len 6 l m)
    exact ⟨g, h1, h2, h3, hB.keep h4, h4⟩
  have P7R : Hid (∀ (s2 gA gB gC gD : Nat) (A C : Nat → Int) (W : World), Bd w s2 gA gB gC gD l.length m.length A (fun j => RS (lf l j) (P 7)) C (fun j => RS (lf m j) (P 7)) W → Calls Tryd.prog 56 #[.int .i64 7, .slice (some ⟨gB, 0, none⟩) l.length l.length, .slice (some ⟨gD, 0, none⟩) m.length m.length] W (OwnD (Bd w s2 gA gB gC gD l.length m.length A (fun j => RS (lf l j) (P 7)) C (fun j => RS (lf m j) (P 7))) W (ceL l m).length (lf (rpL 7 l m)))) := Lib.hid fun s2 gA gB gC gD A C W hB => (productR_c 7 gB gD l m W (ht.below hB.1) (by omega) (by omega) hl.1 hm.1 hB.2.2.1 hB.2.2.2.2.1).mono fun _ _ h => by
    obtain ⟨g, h1, h2, h3, h4⟩ := h.n (rp_len 7 l m)
    exact ⟨g, h1, h2, h3, hB.keep h4, h4⟩
  have HCE : Hid (∀ k, k < (ceL l m).length → mCentered0 (lf (rpL 6 l m) k) (lf (rpL 7 l m) k) = lf (ceL l m) k) := Lib.hid fun k hk => rp_center hl hm hk
  have HB6 := Lib.hid (rp_bd (f := 6) (by omega) (by omega) l m)
  have HB7 := Lib.hid (rp_bd (f := 7) (by omega) (by omega) l m)
  have hlen : (ceL l m).length ≤ 8192 := by have := @ceL_len l m; have := hl.1; have := hm.1; omega
  have HTB : Hid (∀ W, Below w.heap.size w W → Tab W) := Lib.hid fun W hb => ht.below hb
  have HOG : Hid (∀ (g : Nat) (W : World), w.heap.size ≤ g → Own W g (ceL l m).length (lf (ceL l m)) → Below w.heap.size w W → OwnG w (ceL l m) (.returned (.slice (some ⟨g, 0, none⟩) (ceL l m).length (ceL l m).length)) W) := Lib.hid fun g W hg ho hb => ⟨g, rfl, hg, ho, hb⟩
  clear hs hs2 hl hm ht
  generalize lf (rpL 6 l m) = X6 at *
  generalize lf (rpL 7 l m) = X7 at *
  generalize lf (ceL l m) = C at *
  generalize (ceL l m).length = N at *
  go_enter Tryd.func54, Tryd.ntmps54
  go_wp2_with fail
  refine R1.out.mono ?_
  rintro e w1 ⟨gA, gB, rfl, oA, oB, qA, qB, b1⟩
  go_wp2_with fail
  refine (R2.out _ b1).mono ?_
  rintro e w2 ⟨gC, gD, rfl, oC, oD, qC, qD, b2⟩
  have b3 := below_up b1 b2 b1.size
  have oA2 := oA.keep b2
  have oB2 := oB.keep b2
  clear oA oB b1 b2 R1 R2
  go_upto_region 2 with fail
  have pa := pairs_at w2 (.slice (some ⟨gA, 0, none⟩) l.length l.length) (.slice (some ⟨gB, 0, none⟩) l.length l.length) (.slice (some ⟨gC, 0, none⟩) m.length m.length) (.slice (some ⟨gD, 0, none⟩) m.length m.length) 89
  generalize ((w2.alloc (.cells #[.slice (some ⟨gA, 0, none⟩) l.length l.length, .slice (some ⟨gB, 0, none⟩) l.length l.length] 89)).alloc (.cells #[.slice (some ⟨gC, 0, none⟩) m.length m.length, .slice (some ⟨gD, 0, none⟩) m.length m.length] 89)) = W3 at *
  obtain ⟨p1, p2, p3⟩ := pa
  have k3 : FourC w2.heap.size (w2.heap.size + 1) (.slice (some ⟨gA, 0, none⟩) l.length l.length) (.slice (some ⟨gB, 0, none⟩) l.length l.length) (.slice (some ⟨gC, 0, none⟩) m.length m.length) (.slice (some ⟨gD, 0, none⟩) m.length m.length) W3 := ⟨heap_cell p1 rfl, heap_cell p1 rfl, heap_cell p2 rfl, heap_cell p2 rfl⟩
  have B3 : Bd w w2.heap.size gA gB gC gD l.length m.length (fun j => RS (lf l j) (P 6)) (fun j => RS (lf l j) (P 7)) (fun j => RS (lf m j) (P 6)) (fun j => RS (lf m j) (P 7)) W3 := ⟨below_up b3 p3 b3.size, oA2.keep p3, oB2.keep p3, oC.keep p3, oD.keep p3, k3⟩
  have lt3 : w2.heap.size + 1 < W3.heap.size := heap_lt p2
  clear oA2 oB2 oC oD p1 p2 p3 b3
  generalize w2.heap.size = s2 at *
  go_cut [7] from 10 (fun p w7 => ∃ g5 g6 g7, p = .pointer (some ⟨g7, 0, none⟩) ∧ RF w w7 N g5 g6 g7 X6 X7)
  case first =>
    have tok1 : Hid True := Lib.hid trivial
    have B4 := B3.drew
    have k4 := B4.2.2.2.2.2
    have lt4 : s2 + 1 < W3.drew.heap.size := lt3
    have hw3 := B3.1.size
    go_region_held3 (fun W => W.cell? ⟨s2, 0, none⟩ = some (.slice (some ⟨gA, 0, none⟩) l.length l.length) ∧ W.cell? ⟨s2, 1, none⟩ = some (.slice (some ⟨gB, 0, none⟩) l.length l.length) ∧ W.cell? ⟨s2 + 1, 0, none⟩ = some (.slice (some ⟨gC, 0, none⟩) m.length m.length) ∧ W.cell? ⟨s2 + 1, 1, none⟩ = some (.slice (some ⟨gD, 0, none⟩) m.length m.length))
      (first | exact k3 | exact k4 | exact k4.keep (below_alloc _ _) | exact k5 | exact k5.keep (below_alloc _ _) | exact k6 | exact k6.keep (below_alloc _ _) | exact k6.set2 (by omega) (by omega) | go_keep)
      (first
        | (go_at_call 56; clear tok1; refine (P6R.out s2 gA gB gC gD _ _ _ (by first | exact B4 | exact B4.al _)).mono ?_; rintro e w5 ⟨g5, rfl, q5, o5, B5, b5⟩; have k5 := B5.2.2.2.2.2; have z5 := b5.size; have lt5 : g5 < w5.heap.size := o5.lt; have l5 : s2 + 1 < w5.heap.size := block_lt_of_cell k5.2.2.1; have hw5 := B5.1.size; (try have y5 := Lib.hid ((b5.block W3.heap.size (by simp)).trans (alloc_heap W3 (.cells #[.slice none 0 0, .slice none 0 0] 89)))))
        | (go_at_call 56; refine (P7R.out s2 gA gB gC gD _ _ _ (by first | exact B5 | exact B5.al _)).mono ?_; rintro e w6 ⟨g6, rfl, q6, o6, B6, b6⟩; have k6 := B6.2.2.2.2.2; have z6 := b6.size; have o56 : Own w6 g5 N X6 := (by first | exact o5.keep b6 | exact (o5.keep (below_alloc _ _)).keep b6); (try have y6 := Lib.hid ((b6.block w5.heap.size (by simp)).trans (alloc_heap w5 (.cells #[.slice none 0 0, .slice none 0 0] 89)))); (try have y6 := Lib.hid ((b6.block _ (heap_lt y5.out)).trans y5.out)); (try have c60 := pair0 y6.out); (try have c61 := pair1 y6.out); (try have f60 := heap_frozen (j := 0) y6.out); (try have f61 := heap_frozen (j := 1) y6.out)))
    all_goals
      clear k3 k4 k5 k6 b5 b6
      go_wp2_with fail
      go_meet
    all_goals
      first
        | exact ⟨g5, g6, _, rfl, RF.a o56 o6 B6.1 _⟩
        | exact ⟨g5, g6, _, rfl, RF.b o56 o6 B6.1 y6.out (by simp at q5 q6; omega) (by simp at q5 q6; omega) (by omega)⟩
  case rest =>
    obtain ⟨g5, g6, g7, rfl, hRF⟩ := hcut
    clear B3 P6R P7R lt3
    obtain ⟨c0, c1, o5, o6, b7⟩ := hRF
    have hmk := made_n N (by omega)
    have l7 := block_lt_of_cell c0
    have l5 := o5.lt
    have l6 := o6.lt
    have s7 := b7.size
    have HO5 := Lib.hid o5
    have HO6 := Lib.hid o6
    have HC0 := Lib.hid c0
    have HC1 := Lib.hid c1
    clear o5 o6 c1
    go_wp2_with fail
    clear hmk c0
    go_loopw [9, 31] (fun _ i wr => ∃ k : Nat, i = .int .i64 k ∧ k ≤ N ∧ Own wr wc.heap.size N (fun j => if j < k then C j else 0) ∧ Below wc.heap.size wc wr) (fun _ i _ => N - (intOf i).toNat)
    case atStart =>
      refine ⟨0, rfl, Nat.zero_le _, ?_, below_alloc wc _⟩
      exact (World.rowIs_made wc (.int .i64 0) N 3).congr fun j _ => by simp
    case round =>
      obtain ⟨k, rfl, hk, ho, hb⟩ := hrel
      by_cases h1 : k < N
      · have hd1 : decide ((k : Int) < N) = true := decide_eq_true (by omega)
        have kS : ConvS g7 g5 g6 k N (X6 k) (X7 k) wr := (show ConvS g7 g5 g6 k N (X6 k) (X7 k) wc from ⟨HC0.out, HC1.out, HO5.out.cell h1, HO6.out.cell h1⟩).keep hb l7 l5 l6
        have kS2 : ConvS g7 g5 g6 k N (X6 k) (X7 k) wr.drew := kS
        have hb2 : Below wc.heap.size wc wr.drew := hb.drew
        have ho2 : Own wr.drew wc.heap.size N (fun j => if j < k then C j else 0) := ho
        have x6 := HB6.out k
        have x7 := HB7.out k
        have HCC := Lib.hid (center_c (X6 k) (X7 k) wr.drew (HTB.out _ (below_up b7 hb2 b7.size)) x6.1 x6.2 x7.1 x7.2)
        have HCK := Lib.hid (HCE.out k h1)
        have hsz := hb2.size
        have g7r : g7 < wr.drew.heap.size := by omega
        have g5r : g5 < wr.drew.heap.size := by omega
        have g6r : g6 < wr.drew.heap.size := by omega
        have hkN : (k : Int) < N := by omega
        clear ho hb
        go_wp2_with fail
        go_region_held3 (fun W => W.cell? ⟨g7, 0, none⟩ = some (.slice (some ⟨g5, 0, none⟩) N N) ∧ W.cell? ⟨g7, 1, none⟩ = some (.slice (some ⟨g6, 0, none⟩) N N) ∧ W.cell? ⟨g5, k, none⟩ = some (.int .i64 (X6 k)) ∧ W.cell? ⟨g6, k, none⟩ = some (.int .i64 (X7 k)))
          (first | exact kS | exact kS2 | exact kS8 | exact kS8.set l7 l5 l6 | go_keep)
          (first
            | (go_at_call 46; refine HCC.out.mono ?_; rintro e w8 ⟨rfl, b8⟩; have kS8 := kS2.keep b8 g7r g5r g6r; have o8 := ho2.keep b8; have hb8 := below_up hb2 b8 hb2.size; have c8 := World.rowIs.cell o8 h1; have f8 := World.rowIs.frozen o8 k))
        have HS := Lib.hid (own_step (F := C) o8)
        have HE := Lib.hid HCK.out
        rw [HE.out]
        have HB8 := Lib.hid (hb8.setCell (p := ⟨wc.heap.size, k, none⟩) (Nat.le_refl _) (.int .i64 (C k)))
        clear kS kS2 kS8 o8 hb8 b8 c8 f8 ho2 hb2
        go_wp2
        go_roundw
        case rel => exact ⟨k + 1, by go_num, by omega, HS.out, HB8.out⟩
        case measure => simp [intOf]; omega
      · have hd1 : decide ((k : Int) < N) = false := decide_eq_false (by omega)
        obtain rfl : k = N := by omega
        have HF := Lib.hid (HOG.out wc.heap.size wr (by omega) (own_congr ho rfl (fun j hj => by simp [hj])) (below_up b7 hb b7.size))
        clear ho
        go_wp2
        go_ret
        exact HF.out
end Go.Proofs.YtaapmpjkcddababDoor
namespace Go.Proofs.YtaapmpjkcddababDoor
open Go.RowKit
/-- The digits of a text, the least first; zeros behind. -/
def digF (s : ByteArray) (j : Nat) : Int := if j < s.size then bt s (s.size - 1 - j) - 48 else 0
theorem digF_rev {s : ByteArray} {k : Nat} (h : k < s.size) : digF s (s.size - 1 - k) = bt s k - 48 := by
  unfold digF
  rw [if_pos (by omega), show s.size - 1 - (s.size - 1 - k) = k by omega]
/-- The number of a numeral. -/
def numV (s : ByteArray) : Int := dv (digF s) s.size
theorem DigOk.dig {s : ByteArray} (h : DigOk s) : Dig (digF s) s.size := fun i hi => by
  have := h.2.1 (s.size - 1 - i) (by omega)
  unfold digF
  rw [if_pos hi]
  omega
theorem DigOk.can {s : ByteArray} (h : DigOk s) : Can (digF s) s.size := by
  refine ⟨h.dig, h.1.1, ?_⟩
  rcases h.2.2 with h1 | h1
  · right
    have := digF_rev (s := s) (k := 0) (by have := h.1.1; omega)
    rw [Nat.sub_zero] at this
    rw [this]
    omega
  · exact .inl h1
noncomputable def mModText (s : ByteArray) (f : Int) : Int := if mDigitsOk s = true ∧ 0 ≤ f ∧ f ≤ 8 then RS (numV s) (P f) else -1
set_option maxHeartbeats 1600000 in
theorem sModText (s : ByteArray) (f : Int) (w : World) (hs : s.size ≤ 1048576) : Calls Tryd.prog 31 #[.string s, .int .i64 f] w (IntP w (mModText s f)) := by
  have R1 := sDigitsOk s w hs
  by_cases h1 : mDigitsOk s = true
  · rw [h1] at R1
    have hd := dig_iff.1 h1
    by_cases hf : 0 ≤ f ∧ f ≤ 8
    · have HM : Hid (mModText s f = RS (numV s) (P f)) := Lib.hid (if_pos ⟨h1, hf⟩)
      have hp := P_bd hf.1 hf.2
      have hz : (P f == 0) = false := by simp; omega
      have HMU : Hid (∀ x y w, Calls Tryd.prog 32 #[.int .i64 f, .int .i64 x, .int .i64 y] w fun e w' => e = .returned (.int .i64 (RS (x * y) (P f))) ∧ w = w') := Lib.hid fun x y w => by have := sMul f x y w; rwa [mMul, if_pos hf] at this
      have HAD : Hid (∀ x y w, Calls Tryd.prog 34 #[.int .i64 f, .int .i64 x, .int .i64 y] w fun e w' => e = .returned (.int .i64 (RS (x + y) (P f))) ∧ w = w') := Lib.hid fun x y w => by have := sAdd f x y w; rwa [mAdd, if_pos hf] at this
      have HST : Hid (∀ k, k < s.size → RS (RS (RS (topV (digF s) s.size k) (P f) * 10) (P f) + (bt s k - 48)) (P f) = RS (topV (digF s) s.size (k + 1)) (P f)) := Lib.hid fun k hk => by
        rw [topV, digF_rev hk]
        unfold RS
        exact emod_add_congr (by rw [Int.emod_emod_of_dvd _ (Int.dvd_refl _), Int.mul_emod, Int.emod_emod_of_dvd _ (Int.dvd_refl _), ← Int.mul_emod]) rfl
      have HEND : Hid (topV (digF s) s.size s.size = numV s) := Lib.hid (topV_all _ _)
      have HDB : Hid (∀ k, k < s.size → 48 ≤ bt s k ∧ bt s k ≤ 57) := Lib.hid hd.2.1
      have HR1 := Lib.hid R1
      have hs3 := hd.1.2
      clear R1 h1 hd
      go_enter Tryd.func31, Tryd.ntmps31
      go_wp2_with fail
      refine HR1.out.mono ?_
      rintro e w' ⟨rfl, rfl⟩
      go_wp2_with fail
      refine (sModulus f w).mono ?_
      rintro e w' ⟨rfl, rfl⟩
      go_wp2_with fail
      go_loopw [5, 6] (fun u i wr => ∃ k : Nat, i = .int .i64 k ∧ k ≤ s.size ∧ u = .int .i64 (RS (topV (digF s) s.size k) (P f)) ∧ Below w.heap.size w wr) (fun _ i _ => s.size - (intOf i).toNat)
      case atStart => exact ⟨0, rfl, Nat.zero_le _, by simp [topV, RS], Below.refl _ _⟩
      case round =>
        obtain ⟨k, rfl, hk, rfl, hb⟩ := hrel
        by_cases h2 : k < s.size
        · have hd1 : decide ((k : Int) < s.size) = true := decide_eq_true (by omega)
          have hbt := bt_get h2
          have hbb := HDB.out k h2
          have HS := Lib.hid (HST.out k h2)
          rw [hbt] at HS hbb
          clear hbt
          have i1 : (0 : Int) ≤ (k : Int) := by omega
          have i2 : (k : Int) < (s.size : Int) := by omega
          have q0 : IntKind.i64.wrap (s[k].toNat : Int) = (s[k].toNat : Int) := IntWalk.i64_in _ (by omega)
          have q1 : IntKind.i64.wrap ((s[k].toNat : Int) - 48) = (s[k].toNat : Int) - 48 := IntWalk.i64_in _ (by omega)
          generalize RS (topV (digF s) s.size k) (P f) = X at *
          go_wp2
          go_quiet ((first | (go_at_call 32; exact quiet_left (HMU.out X 10 _)) | (go_at_call 34; exact quiet_left (HAD.out (RS (X * 10) (P f)) ((s[k].toNat : Int) - 48) _))))
          go_wp2
          go_roundw
          case rel => exact ⟨k + 1, by go_num, by omega, vint HS.out, below_drewN hb _⟩
          case measure => simp [intOf]; omega
        · have hd1 : decide ((k : Int) < s.size) = false := decide_eq_false (by omega)
          obtain rfl : k = s.size := by omega
          go_wp2
          go_ret
          exact ⟨by rw [HM.out, ← HEND.out]; rfl, hb⟩
    · have HM : Hid (mModText s f = -1) := Lib.hid (if_neg fun h => hf h.2)
      have hz : (P f == 0) = true := by simp [P_off (f := f) (by omega)]
      have HR1 := Lib.hid R1
      clear R1 h1 hd hf
      go_enter Tryd.func31, Tryd.ntmps31
      go_wp2_with fail
      refine HR1.out.mono ?_
      rintro e w' ⟨rfl, rfl⟩
      go_wp2_with fail
      refine (sModulus f w).mono ?_
      rintro e w' ⟨rfl, rfl⟩
      go_wp2
      go_ret
      exact ⟨by rw [HM.out]; rfl, Below.refl _ _⟩
  · have h1f : mDigitsOk s = false := by simpa using h1
    rw [h1f] at R1
    have HM : Hid (mModText s f = -1) := Lib.hid (if_neg fun h => h1 h.1)
    have HR1 := Lib.hid R1
    clear R1 h1 h1f
    go_enter Tryd.func31, Tryd.ntmps31
    go_wp2_with fail
    refine HR1.out.mono ?_
    rintro e w' ⟨rfl, rfl⟩
    go_wp2
    go_ret
    exact ⟨by rw [HM.out]; rfl, Below.refl _ _⟩
/-- The digits as a list. -/
def digL (s : ByteArray) : List Int := tab s.size (digF s)
set_option maxHeartbeats 1600000 in
theorem sDs (s : ByteArray) (w : World) (hs : s.size ≤ 1048576) : Calls Tryd.prog 68 #[.string s] w (OwnsL w (digL s)) := by
  obtain ⟨i0, hi, hz0, hz1, hz2⟩ := info_parts info3
  have HI := Lib.hid hi
  have HZ0 := Lib.hid hz0
  have HZ1 := Lib.hid hz1
  have HZ2 := Lib.hid hz2
  clear hi hz0 hz1 hz2
  go_enter Tryd.func68, Tryd.ntmps68
  go_wp2_with fail
  go_loopw [3, 4] (fun v i wr => ∃ k : Nat, i = .int .i64 ((s.size : Int) - 1 - k) ∧ k ≤ s.size ∧ wr.ownsRow w.heap.size 3 1 v k (xsF (digF s) k) ∧ Below w.heap.size w wr) (fun _ i _ => (intOf i + 1).toNat)
  case atStart => exact ⟨0, by simp, Nat.zero_le _, own_empty w _, (Below.refl _ _).alloc (Nat.le_refl _) _⟩
  case round =>
    obtain ⟨k, rfl, hk, hown, hnx⟩ := hrel
    have hs2 := hnx.size
    by_cases h1 : k < s.size
    · obtain ⟨j, hj⟩ : ∃ j : Nat, (s.size : Int) - 1 - k = (j : Int) := ⟨s.size - 1 - k, by omega⟩
      have hjs : j < s.size := by omega
      have hdig : digF s k = bt s j - 48 := by
        unfold digF
        rw [if_pos h1, show s.size - 1 - k = j by omega]
      rw [bt_get hjs] at hdig
      have HD := Lib.hid hdig
      have hu := (s[j]).toNat_lt
      have HJ := Lib.hid hj
      have hd1 : decide ((0 : Int) ≤ (j : Int)) = true := decide_eq_true (by omega)
      have i2 : (j : Int) < (s.size : Int) := by omega
      rw [hj]
      clear hdig hj
      go_wp2_with (at_builtin; refine wpList_append_own _ rfl _ _ 36 rfl w.heap.size 3 i0 (.int .i64 0) 1 8 Tryd.underlying36 HI.out HZ0.out HZ1.out HZ2.out rfl (by decide) _ _ _ rfl (hown.alloc _) ⟨wr.heap.size, 0, none⟩ 1 1 [.int .i64 ((s[j].toNat : Int) - 48)] rfl rfl ?c1 ?c2 ?c3 ?c4 ?c5 ?_)
      case c1 => exact cell_one_new _ _ _
      case c2 => intro u hu; simp at hu; subst hu; rfl
      case c3 => unfold maxLen; omega
      case c4 => omega
      case c5 => simp; omega
      intro v' w1 hown' hgrow _
      have hbel : Below w.heap.size w w1 := (hnx.alloc hs2 _).grown hgrow (by simp; omega) (own_ge hown)
      have hown2 : w1.ownsRow w.heap.size 3 1 v' (k + 1) (xsF (digF s) (k + 1)) := by rw [← xsF_succ, HD.out]; exact hown'
      clear hgrow hown hown'
      go_wp2
      go_roundw
      case rel => exact ⟨k + 1, vint (by have := HJ.out; omega), by omega, hown2, hbel⟩
      case measure => simp [intOf] <;> omega
    · have hk2 : (s.size : Int) - 1 - k = -1 := by omega
      obtain rfl : k = s.size := by omega
      have HO := Lib.hid (owns_to (w := w) (l := digL s) hown (by unfold digL; rw [tab_len]) (fun j hj => by unfold digL; rw [lf_tab, if_pos hj]) hnx)
      rw [hk2]
      clear hown hk2
      go_wp2
      go_ret
      exact HO.out
end Go.Proofs.YtaapmpjkcddababDoor
namespace Go.Proofs.YtaapmpjkcddababDoor
open Go.RowKit
/-- What is carried into place k, and the digit that is written there. -/
def cuS (S : Nat → Int) : Nat → Int
  | 0 => 0
  | k + 1 => (cuS S k + S k) / 10
def cdS (S : Nat → Int) (k : Nat) : Int := (cuS S k + S k) % 10
theorem carry_all {S : Nat → Int} (h : ∀ j, 0 ≤ S j) : ∀ k, Carry S (cdS S) k (cuS S k)
  | 0 => Carry.start S _
  | k + 1 => (carry_all h k).step (h k) rfl
theorem cu_bd {S : Nat → Int} (h : ∀ j, 0 ≤ S j ∧ S j ≤ 1000000) : ∀ k, 0 ≤ cuS S k ∧ cuS S k ≤ 200000
  | 0 => by simp [cuS]
  | k + 1 => by
    have := cu_bd h k
    have := h k
    rw [cuS]
    omega
theorem cd_bd (S : Nat → Int) (k : Nat) : 0 ≤ cdS S k ∧ cdS S k < 10 := by unfold cdS; omega
def xsB (F : Nat → Int) (k : Nat) : List Value := (List.range k).map fun j => .int .u8 (F j)
theorem xsB_succ (F : Nat → Int) (k : Nat) : xsB F k ++ [.int .u8 (F k)] = xsB F (k + 1) := by simp [xsB, List.range_succ]
theorem ownB_empty (w : World) (F : Nat → Int) : (w.alloc (.cells #[] 5)).ownsRow w.heap.size 5 1 (.slice (some ⟨w.heap.size, 0, none⟩) 0 0) 0 (xsB F 0) :=
  World.ownsRow_made w #[] 0 (Nat.le_refl _) (by unfold maxLen; omega) rfl
theorem ownB_form {w : World} {base : Nat} {v : Value} {n : Nat} {F : Nat → Int} (h : w.ownsRow base 5 1 v n (xsB F n)) (hn : 0 < n) : ∃ g cap, v = .slice (some ⟨g, 0, none⟩) n cap ∧ base ≤ g ∧ g < w.heap.size ∧ ∀ j, j < n → w.cell? ⟨g, j, none⟩ = some (.int .u8 (F j)) := by
  obtain ⟨g, cap, rfl, hb, hlt⟩ := h.form hn
  refine ⟨g, cap, rfl, hb, hlt, fun j hj => ?_⟩
  have := h.cells (g := g) rfl j (.int .u8 (F j)) (by unfold xsB; rw [List.getElem?_map, List.getElem?_range hj]; rfl)
  rwa [add_at, Nat.zero_add] at this
/-- The text of m digits, the least first. -/
def txtB (D : Nat → Int) (m : Nat) : List UInt8 := (List.range m).map fun j => UInt8.ofNat (48 + D (m - 1 - j)).toNat
theorem txtB_len (D : Nat → Int) (m : Nat) : (txtB D m).length = m := by simp [txtB]
theorem txtB_at {D : Nat → Int} {m j : Nat} (hD : Dig D m) (hj : j < m) : ((txtB D m)[j]'(by rw [txtB_len]; exact hj)).toNat = (48 + D (m - 1 - j)).toNat := by
  have hd := hD (m - 1 - j) (by omega)
  unfold txtB
  simp
  omega
theorem own_ge' {w : World} {base : Nat} {v : Value} {n : Nat} {xs : List Value} (h : w.ownsRow base 5 1 v n xs) : ∀ k, v.ownBlock = some k → base ≤ k := own_ge h
theorem meas_to {n k : Nat} {U V T : Int} (h : (n - (k + 1)) * 200001 + V.toNat < (n - k) * 200001 + U.toNat) (e : (U + T) / 10 = V) : (n - ((k : Int) + 1).toNat) * 200001 + ((U + T) / 10).toNat < (n - ((k : Int)).toNat) * 200001 + U.toNat := by
  rw [e, show ((k : Int) + 1).toNat = k + 1 by omega, Int.toNat_natCast]
  exact h
def TextP (S : Nat → Int) (n : Nat) (w : World) (e : Ending) (w' : World) : Prop := ∃ s : ByteArray, e = .returned (.string s) ∧ Below w.heap.size w w' ∧ Can (digF s) s.size ∧ numV s = dv S n ∧ (∀ j, j < s.size → 48 ≤ bt s j ∧ bt s j ≤ 57)
/-- What the text of the digits is. -/
theorem txt_facts {D : Nat → Int} {m : Nat} (hC : Can D m) : (⟨(txtB D m).toArray⟩ : ByteArray).size = m ∧ (∀ j, j < m → bt ⟨(txtB D m).toArray⟩ j = 48 + D (m - 1 - j)) ∧ (∀ j, j < m → digF ⟨(txtB D m).toArray⟩ j = D j) := by
  have hsz : (⟨(txtB D m).toArray⟩ : ByteArray).size = m := by
    show (txtB D m).toArray.size = m
    rw [List.size_toArray, txtB_len]
  have hbt : ∀ j, j < m → bt ⟨(txtB D m).toArray⟩ j = 48 + D (m - 1 - j) := fun j hj => by
    have hd := hC.1 (m - 1 - j) (by omega)
    unfold bt
    have h2 : j < (txtB D m).length := by rw [txtB_len]; exact hj
    show ((((txtB D m).toArray.toList).getD j 0).toNat : Int) = _
    rw [List.getD_eq_getElem?_getD, List.toList_toArray, List.getElem?_eq_getElem h2]
    have := txtB_at hC.1 hj
    simp only [Option.getD_some]
    rw [this]
    omega
  refine ⟨hsz, hbt, fun j hj => ?_⟩
  unfold digF
  rw [hsz, if_pos hj, hbt (m - 1 - j) (by omega), show m - 1 - (m - 1 - j) = j by omega]
  omega
theorem txt_text {D S : Nat → Int} {m n : Nat} (hC : Can D m) (hv : dv D m = dv S n) : Can (digF ⟨(txtB D m).toArray⟩) (⟨(txtB D m).toArray⟩ : ByteArray).size ∧ numV ⟨(txtB D m).toArray⟩ = dv S n ∧ (∀ j, j < (⟨(txtB D m).toArray⟩ : ByteArray).size → 48 ≤ bt ⟨(txtB D m).toArray⟩ j ∧ bt ⟨(txtB D m).toArray⟩ j ≤ 57) := by
  obtain ⟨h1, h2, h3⟩ := txt_facts hC
  refine ⟨?_, ?_, fun j hj => ?_⟩
  · rw [h1]
    refine ⟨fun i hi => by rw [h3 i hi]; exact hC.1 i hi, hC.2.1, ?_⟩
    rcases hC.2.2 with h | h
    · exact .inl h
    · have := hC.2.1
      exact .inr (by rw [h3 _ (by omega)]; exact h)
  · unfold numV
    rw [h1, ← hv]
    exact sumN_congr fun i hi => by rw [h3 i hi]
  · rw [h1] at hj
    rw [h2 j hj]
    have := hC.1 (m - 1 - j) (by omega)
    omega
set_option maxRecDepth 100000 in
set_option maxHeartbeats 3200000 in
theorem sText (a : Option Addr) (l : List Int) (cap : Nat) (w : World) (hn : l.length ≤ 4096) (n0 : 0 < l.length) (hS : ∀ j, 0 ≤ lf l j ∧ lf l j ≤ 1000000) (hs : Src w a l.length (lf l)) :
    Calls Tryd.prog 70 #[.slice a l.length cap] w (TextP (lf l) l.length w) := by
  obtain ⟨i0, hi, hz0, hz1, hz2⟩ := info_parts info5
  have HI := Lib.hid hi
  have HZ0 := Lib.hid hz0
  have HZ1 := Lib.hid hz1
  have HZ2 := Lib.hid hz2
  clear hi hz0 hz1 hz2
  have HAT : Hid (∀ (k : Nat) (w2 : World), Below w.heap.size w w2 → Calls Tryd.prog 69 #[.slice a l.length cap, .int .i64 k] w2 fun e w' => e = .returned (.int .i64 (lf l k)) ∧ w2 = w') := Lib.hid fun k w2 hb => at_c a l cap k w2 (by omega) (hs.keep hb)
  have HCB : Hid (∀ k, 0 ≤ cuS (lf l) k ∧ cuS (lf l) k ≤ 200000) := Lib.hid (cu_bd hS)
  have HCA : Hid (∀ k, Carry (lf l) (cdS (lf l)) k (cuS (lf l) k)) := Lib.hid (carry_all fun j => (hS j).1)
  have HSB := Lib.hid hS
  have HZS : Hid (∀ j, l.length ≤ j → lf l j = 0) := Lib.hid fun j hj => lf_out l hj
  clear hS hs
  generalize lf l = S at *
  generalize l.length = n at *
  go_enter Tryd.func70, Tryd.ntmps70
  go_upto_block 0 with fail
  go_cut [3, 4, 5] from 9 (fun _ v _ w2 => ∃ K : Nat, 1 ≤ K ∧ K ≤ 300000 ∧ n ≤ K ∧ cuS S K = 0 ∧ w2.ownsRow w.heap.size 5 1 v K (xsB (fun j => 48 + cdS S j) K) ∧ Below w.heap.size w w2)
  case first =>
    go_wp2_with fail
    go_loopw [3, 4, 5] (fun u v i wr => ∃ k : Nat, i = .int .i64 k ∧ (k ≤ n ∨ (k : Int) + cuS S k ≤ n + 200000) ∧ u = .int .i64 (cuS S k) ∧ wr.ownsRow w.heap.size 5 1 v k (xsB (fun j => 48 + cdS S j) k) ∧ Below w.heap.size w wr) (fun u _ i _ => (n - (intOf i).toNat) * 200001 + (intOf u).toNat)
    case atStart => exact ⟨0, rfl, .inl (Nat.zero_le _), rfl, ownB_empty w _, (Below.refl _ _).alloc (Nat.le_refl _) _⟩
    case round =>
      obtain ⟨k, rfl, hk, rfl, hown, hnx⟩ := hrel
      have cb := HCB.out k
      have cb1 := HCB.out (k + 1)
      have sb := HSB.out k
      have hs2 := hnx.size
      by_cases hc : k < n ∨ 0 < cuS S k
      · have HNX : Hid ((cuS S k + S k) / 10 = cuS S (k + 1)) := Lib.hid rfl
        have HD : Hid ((cuS S k + S k) % 10 = cdS S k) := Lib.hid rfl
        have hk9 : k ≤ 300000 := by omega
        have hkn : k + 1 ≤ n ∨ ((k + 1 : Nat) : Int) + cuS S (k + 1) ≤ n + 200000 := by
          by_cases h : k < n
          · left; omega
          · right
            have hz := HZS.out k (by omega)
            have e := HNX.out
            rw [hz] at e
            omega
        have hmeas : (n - (k + 1)) * 200001 + (cuS S (k + 1)).toNat < (n - k) * 200001 + (cuS S k).toNat := by
          by_cases h : k < n
          · have : n - k = (n - (k + 1)) + 1 := by omega
            rw [this, Nat.add_mul]
            omega
          · have hz := HZS.out k (by omega)
            have e := HNX.out
            rw [hz] at e
            have e1 : n - k = 0 := by omega
            have e2 : n - (k + 1) = 0 := by omega
            rw [e1, e2]
            omega
        have HM := Lib.hid hmeas
        have HKN := Lib.hid hkn
        have dg := cd_bd S k
        clear hmeas hkn hk
        by_cases h1 : k < n
        · have hd1 : decide ((k : Int) < n) = true := decide_eq_true (by omega)
          have HATk := Lib.hid (HAT.out k wr hnx)
          generalize cuS S k = U at *
          generalize S k = T at *
          go_wp2_with fail
          refine HATk.out.mono ?_
          rintro e w' ⟨rfl, rfl⟩
          go_wp2_with (at_builtin; refine wpList_append_own _ rfl _ _ 27 rfl w.heap.size 5 i0 (.int .u8 0) 1 1 Tryd.underlying27 HI.out HZ0.out HZ1.out HZ2.out rfl (by decide) _ _ _ rfl (hown.alloc _) ⟨wr.heap.size, 0, none⟩ 1 1 [.int .u8 (48 + (U + T) % 10)] rfl rfl ?c1 ?c2 ?c3 ?c4 ?c5 ?_)
          case c1 => exact cell_one_new _ _ _
          case c2 => intro u hu; simp at hu; subst hu; rfl
          case c3 => unfold maxLen; omega
          case c4 => omega
          case c5 => simp; omega
          intro v' w1 hown' hgrow _
          have hbel : Below w.heap.size w w1 := (hnx.alloc hs2 _).grown hgrow (by simp; omega) (own_ge' hown)
          have hown2 : w1.ownsRow w.heap.size 5 1 v' (k + 1) (xsB (fun j => 48 + cdS S j) (k + 1)) := by rw [← xsB_succ, ← HD.out]; exact hown'
          clear hgrow hown hown'
          go_wp2
          go_roundw
          case rel => exact ⟨k + 1, by go_num, HKN.out, vint HNX.out, hown2, hbel⟩
          case measure => simp only [intOf]; exact meas_to HM.out HNX.out
        · have hd1 : decide ((k : Int) < n) = false := decide_eq_false (by omega)
          have hd2 : decide (0 < cuS S k) = true := decide_eq_true (by omega)
          have HATk := Lib.hid (HAT.out k wr hnx)
          generalize cuS S k = U at *
          generalize S k = T at *
          go_wp2_with fail
          refine HATk.out.mono ?_
          rintro e w' ⟨rfl, rfl⟩
          go_wp2_with (at_builtin; refine wpList_append_own _ rfl _ _ 27 rfl w.heap.size 5 i0 (.int .u8 0) 1 1 Tryd.underlying27 HI.out HZ0.out HZ1.out HZ2.out rfl (by decide) _ _ _ rfl (hown.alloc _) ⟨wr.heap.size, 0, none⟩ 1 1 [.int .u8 (48 + (U + T) % 10)] rfl rfl ?d1 ?d2 ?d3 ?d4 ?d5 ?_)
          case d1 => exact cell_one_new _ _ _
          case d2 => intro u hu; simp at hu; subst hu; rfl
          case d3 => unfold maxLen; omega
          case d4 => omega
          case d5 => simp; omega
          intro v' w1 hown' hgrow _
          have hbel : Below w.heap.size w w1 := (hnx.alloc hs2 _).grown hgrow (by simp; omega) (own_ge' hown)
          have hown2 : w1.ownsRow w.heap.size 5 1 v' (k + 1) (xsB (fun j => 48 + cdS S j) (k + 1)) := by rw [← xsB_succ, ← HD.out]; exact hown'
          clear hgrow hown hown'
          go_wp2
          go_roundw
          case rel => exact ⟨k + 1, by go_num, HKN.out, vint HNX.out, hown2, hbel⟩
          case measure => simp only [intOf]; exact meas_to HM.out HNX.out
      · have hd1 : decide ((k : Int) < n) = false := decide_eq_false (by omega)
        have hz : cuS S k = 0 := by omega
        have HZ := Lib.hid hz
        rw [hz]
        have HREL : Hid (∃ K : Nat, 1 ≤ K ∧ K ≤ 300000 ∧ n ≤ K ∧ cuS S K = 0 ∧ wr.ownsRow w.heap.size 5 1 u4 K (xsB (fun j => 48 + cdS S j) K) ∧ Below w.heap.size w wr) := Lib.hid ⟨k, by omega, by omega, by omega, hz, hown, hnx⟩
        clear hown hz
        go_wp2
        go_meet
        case rel => exact HREL.out
  case rest =>
    obtain ⟨K, hK1, hK3, hnK, hz, hown, hb⟩ := hcut
    have HDV : Hid (dv (cdS S) K = dv S n) := Lib.hid (by
      have h := HCA.out K
      rw [hz] at h
      exact h.last hnK HZS.out)
    have HDG : Hid (∀ m, Dig (cdS S) m) := Lib.hid fun m i _ => cd_bd S i
    obtain ⟨g, capb, rfl, hg, hgl, hcell⟩ := ownB_form hown (by omega)
    have HCELL := Lib.hid hcell
    clear hown hcell hz HCA HCB HSB HZS HAT
    go_upto_block 2 with fail
    go_cut [6] from 9 (fun i w2 => ∃ m : Nat, i = .int .i64 m ∧ m ≤ K ∧ Hid (Can (cdS S) m ∧ dv (cdS S) m = dv S n) ∧ wc = w2)
    case first =>
      go_wp2_with fail
      go_loopw [6] (fun i wr => ∃ m : Nat, i = .int .i64 m ∧ 1 ≤ m ∧ m ≤ K ∧ Hid (∀ j, m ≤ j → j < K → cdS S j = 0) ∧ wc = wr) (fun i _ => (intOf i).toNat)
      case atStart => exact ⟨K, rfl, hK1, Nat.le_refl _, Lib.hid (fun j h1 h2 => by omega), rfl⟩
      case round =>
        obtain ⟨m, rfl, hm1, hmK, HZR, rfl⟩ := hrel
        have HV : Hid (dv (cdS S) m = dv S n) := Lib.hid ((dv_cut hmK HZR.out).symm.trans HDV.out)
        by_cases h1 : m = 1
        · have HC : Hid (Can (cdS S) m ∧ dv (cdS S) m = dv S n) := Lib.hid ⟨⟨HDG.out m, hm1, .inl h1⟩, HV.out⟩
          have hd1 : decide ((1 : Int) < m) = false := decide_eq_false (by omega)
          clear h1
          go_wp2
          go_meet
          case rel => exact ⟨m, rfl, hmK, HC, rfl⟩
        · have hd1 : decide ((1 : Int) < m) = true := decide_eq_true (by omega)
          obtain ⟨p, rfl⟩ : ∃ p, m = p + 1 := ⟨m - 1, by omega⟩
          have hp0 : 0 < p := by omega
          have hd2 : decide ((1 : Int) < (p : Int) + 1) = true := decide_eq_true (by omega)
          have cc := HCELL.out p (by omega)
          have dg := cd_bd S p
          have i2 : (p : Int) < (K : Int) := by omega
          by_cases hzp : cdS S p = 0
          · have HZ2 : Hid (∀ j, p ≤ j → j < K → cdS S j = 0) := Lib.hid fun j h2 h3 => by
              by_cases e : j = p
              · rw [e]; exact hzp
              · exact HZR.out j (by omega) h3
            have e48 : ((48 + cdS S p : Int) == 48) = true := by rw [hzp]; rfl
            rw [hzp] at cc
            clear hzp h1
            go_wp2
            go_roundw
            case rel => exact ⟨p, by go_num, by omega, by omega, HZ2, by trivial⟩
            case measure => simp [intOf] <;> omega
          · have HC : Hid (Can (cdS S) (p + 1) ∧ dv (cdS S) (p + 1) = dv S n) := Lib.hid ⟨⟨HDG.out _, by omega, .inr hzp⟩, HV.out⟩
            have e48 : ((48 + cdS S p : Int) == 48) = false := by rw [beq_eq_false_iff_ne]; omega
            clear hzp h1
            go_wp2
            go_meet
            case rel => exact ⟨p + 1, rfl, hmK, HC, rfl⟩
    case rest =>
      obtain ⟨m, rfl, hmK, HC, rfl⟩ := hcut
      have hm1 := HC.out.1.2.1
      have HT := Lib.hid (txt_text (S := S) (n := n) HC.out.1 HC.out.2)
      have HCV : Hid (∀ (g2 cap2 : Nat) (w2 : World), (∀ j, j < m → w2.cell? ⟨g2, j, none⟩ = some (.int .u8 (48 + cdS S (m - 1 - j)))) → (convert 27 9 (.slice (some ⟨g2, 0, none⟩) m cap2)).run Tryd.prog w2 = .ok (.string ⟨(txtB (cdS S) m).toArray⟩) w2) := Lib.hid fun g2 cap2 w2 h => by
        have := run_convert_bytes_back (P := Tryd.prog) w2 27 9 5 ⟨g2, 0, none⟩ cap2 (txtB (cdS S) m) Tryd.underlying27 Tryd.underlying5 Tryd.underlying9 (fun j hj => by
          rw [txtB_len] at hj
          rw [add_at, Nat.zero_add, h j hj, txtB_at HC.out.1.1 hj]
          have := cd_bd S (m - 1 - j)
          congr 2
          omega)
        rwa [txtB_len] at this
      go_wp2_with fail
      go_loopw [7, 8] (fun v i wr => ∃ k : Nat, i = .int .i64 ((m : Int) - 1 - k) ∧ k ≤ m ∧ wr.ownsRow wc.heap.size 5 1 v k (xsB (fun j => 48 + cdS S (m - 1 - j)) k) ∧ Below wc.heap.size wc wr) (fun _ i _ => (intOf i + 1).toNat)
      case atStart => exact ⟨0, by simp, Nat.zero_le _, ownB_empty wc _, (Below.refl _ _).alloc (Nat.le_refl _) _⟩
      case round =>
        obtain ⟨k, rfl, hk, hown, hnx⟩ := hrel
        have hs2 := hnx.size
        by_cases h1 : k < m
        · obtain ⟨j, hj⟩ : ∃ j : Nat, (m : Int) - 1 - k = (j : Int) := ⟨m - 1 - k, by omega⟩
          have hjK : j < K := by omega
          have cc : wr.cell? ⟨g, j, none⟩ = some (.int .u8 (48 + cdS S j)) := (hnx.cell (p := ⟨g, j, none⟩) hgl).trans (HCELL.out j hjK)
          have HJ := Lib.hid hj
          have HJ2 : Hid (m - 1 - k = j) := Lib.hid (by omega)
          have dg := cd_bd S j
          have i2 : (j : Int) < (K : Int) := by omega
          rw [hj]
          clear hj
          go_wp2_with (at_builtin; refine wpList_append_own _ rfl _ _ 27 rfl wc.heap.size 5 i0 (.int .u8 0) 1 1 Tryd.underlying27 HI.out HZ0.out HZ1.out HZ2.out rfl (by decide) _ _ _ rfl (hown.alloc _) ⟨wr.heap.size, 0, none⟩ 1 1 [.int .u8 (48 + cdS S j)] rfl rfl ?e1 ?e2 ?e3 ?e4 ?e5 ?_)
          case e1 => exact cell_one_new _ _ _
          case e2 => intro u hu; simp at hu; subst hu; rfl
          case e3 => unfold maxLen; omega
          case e4 => omega
          case e5 => simp; omega
          intro v' w1 hown' hgrow _
          have hbel : Below wc.heap.size wc w1 := (hnx.alloc hs2 _).grown hgrow (by simp; omega) (own_ge' hown)
          have hown2 : w1.ownsRow wc.heap.size 5 1 v' (k + 1) (xsB (fun j => 48 + cdS S (m - 1 - j)) (k + 1)) := by rw [← xsB_succ, HJ2.out]; exact hown'
          clear hgrow hown hown' cc
          go_wp2
          go_roundw
          case rel => exact ⟨k + 1, vint (by have := HJ.out; omega), by omega, hown2, hbel⟩
          case measure => simp [intOf] <;> omega
        · have hk2 : (m : Int) - 1 - k = -1 := by omega
          obtain rfl : k = m := by omega
          obtain ⟨g2, cap2, rfl, _, _, hcell2⟩ := ownB_form hown (by omega)
          have hcv := HCV.out g2 cap2 wr hcell2
          have HB := Lib.hid (below_up hb hnx hb.size)
          rw [hk2]
          clear hown hk2 hcell2
          go_wp2
          go_ret
          exact ⟨_, rfl, HB.out, HT.out.1, HT.out.2.1, HT.out.2.2⟩
end Go.Proofs.YtaapmpjkcddababDoor
namespace Go.Proofs.YtaapmpjkcddababDoor
open Go.RowKit
/-- s is the numeral of v. -/
def TxtOf (v : Int) (s : ByteArray) : Prop := Can (digF s) s.size ∧ numV s = v
theorem TxtOf.unique {v : Int} {s t : ByteArray} (hs : TxtOf v s) (ht : TxtOf v t) : s = t := by
  obtain ⟨h1, h2⟩ := can_unique hs.1 ht.1 (hs.2.trans ht.2.symm)
  have hb : ∀ j, j < s.size → bt s j = bt t j := fun j hj => by
    have e1 := digF_rev (s := s) hj
    have e2 := digF_rev (s := t) (k := j) (by omega)
    have e3 := h2 (s.size - 1 - j) (by omega)
    rw [e1, h1, e2] at e3
    omega
  have hget : ∀ j (hj : j < s.size) (hj2 : j < t.size), s[j] = t[j] := fun j hj hj2 => by
    have := hb j hj
    rw [bt_get hj, bt_get hj2] at this
    exact UInt8.toNat_inj.1 (by omega)
  exact ByteArray.ext_getElem h1 hget
open Classical in
noncomputable def txtOf (v : Int) : ByteArray := if h : ∃ s, TxtOf v s then Classical.choose h else ⟨#[]⟩
theorem txtOf_eq {v : Int} {s : ByteArray} (h : TxtOf v s) : txtOf v = s := by
  have hex : ∃ s, TxtOf v s := ⟨s, h⟩
  unfold txtOf
  rw [dif_pos hex]
  exact (Classical.choose_spec hex).unique h
/-- The text is the numeral of the sums' number. -/
theorem TextP.txt {S : Nat → Int} {n : Nat} {w w' : World} {e : Ending} (h : TextP S n w e w') : e = .returned (.string (txtOf (dv S n))) ∧ Below w.heap.size w w' ∧ TxtOf (dv S n) (txtOf (dv S n)) := by
  obtain ⟨s, he, hb, hc, hv, _⟩ := h
  have ht : TxtOf (dv S n) s := ⟨hc, hv⟩
  rw [txtOf_eq ht]
  exact ⟨he, hb, ht⟩
theorem lf_digL (s : ByteArray) : lf (digL s) = digF s := by
  funext j
  unfold digL
  rw [lf_tab]
  unfold digF
  by_cases h : j < s.size
  · rw [if_pos h]
  · rw [if_neg h, if_neg h]
theorem digL_len (s : ByteArray) : (digL s).length = s.size := tab_len _ _
/-- The sums of a product of numerals. -/
def mulD (a b : ByteArray) : List Int := tab (a.size + b.size) fun i => cv i (digF a) (digF b)
theorem digF_out {s : ByteArray} {j : Nat} (h : s.size ≤ j) : digF s j = 0 := if_neg (by omega)
theorem dig9 {s : ByteArray} (h : DigOk s) (j : Nat) : 0 ≤ digF s j ∧ digF s j ≤ 9 := by
  by_cases hj : j < s.size
  · have := h.dig j hj; omega
  · rw [digF_out (by omega)]; omega
theorem prod9 {x y : Int} (x0 : 0 ≤ x) (x1 : x ≤ 9) (y0 : 0 ≤ y) (y1 : y ≤ 9) : 0 ≤ x * y ∧ x * y ≤ 81 := by
  have h1 := Int.mul_nonneg x0 y0
  have h2 : x * y ≤ 9 * y := Int.mul_le_mul_of_nonneg_right x1 y0
  omega
theorem cpar9 {A B : Nat → Int} (hA : ∀ j, 0 ≤ A j ∧ A j ≤ 9) (hB : ∀ j, 0 ≤ B j ∧ B j ≤ 9) (i : Nat) : ∀ k : Nat, 0 ≤ cpar A B i k ∧ cpar A B i k ≤ 81 * (k : Int)
  | 0 => by simp [cpar, sumN]
  | k + 1 => by
    have ih := cpar9 hA hB i k
    rw [cpar_succ]
    have hp := prod9 (hA k).1 (hA k).2 (hB (i - k)).1 (hB (i - k)).2
    split <;> omega
theorem mulD_num (a b : ByteArray) : dv (lf (mulD a b)) (mulD a b).length = numV a * numV b := by
  have hl : (mulD a b).length = a.size + b.size := tab_len _ _
  rw [hl]
  unfold numV
  rw [← dv_mul (fun j hj => digF_out hj) (fun j hj => digF_out hj)]
  exact sumN_congr fun i hi => by
    unfold mulD
    rw [lf_tab, if_pos hi]
    rfl
theorem mulD_bd {a b : ByteArray} (ha : DigOk a) (hb : DigOk b) (j : Nat) : 0 ≤ lf (mulD a b) j ∧ lf (mulD a b) j ≤ 1000000 := by
  unfold mulD
  rw [lf_tab]
  split
  · have h1 := cpar9 (dig9 ha) (dig9 hb) j a.size
    rw [cpar_end (A := digF a) j (fun j hj => digF_out hj)] at h1
    have h2 := ha.1.2
    show 0 ≤ cv j (digF a) (digF b) ∧ cv j (digF a) (digF b) ≤ 1000000
    omega
  · omega
end Go.Proofs.YtaapmpjkcddababDoor
namespace Go.Proofs.YtaapmpjkcddababDoor
open Go.RowKit
theorem can_exists : ∀ (f : Nat) (v : Int), 0 ≤ v → v < (f : Int) → ∃ D n, Can D n ∧ dv D n = v
  | 0, v, h0, h1 => by omega
  | f + 1, v, h0, h1 => by
    by_cases h : v < 10
    · refine ⟨fun _ => v, 1, ⟨fun i _ => ⟨h0, h⟩, Nat.le_refl _, .inl rfl⟩, ?_⟩
      show 0 + v * 10 ^ 0 = v
      omega
    · obtain ⟨D, n, ⟨hd, h1n, hz⟩, hv⟩ := can_exists f (v / 10) (by omega) (by omega)
      refine ⟨fun j => match j with | 0 => v % 10 | k + 1 => D k, n + 1, ⟨fun i hi => ?_, by omega, .inr ?_⟩, ?_⟩
      · cases i with
        | zero => show 0 ≤ v % 10 ∧ v % 10 < 10; omega
        | succ k => exact hd k (by omega)
      · obtain ⟨m, rfl⟩ : ∃ m, n = m + 1 := ⟨n - 1, by omega⟩
        show D m ≠ 0
        rcases hz with hz | hz
        · have hm : m = 0 := by omega
          subst hm
          have e : dv D 1 = D 0 := by show 0 + D 0 * 10 ^ 0 = D 0; omega
          rw [e] at hv
          omega
        · exact hz
      · rw [dv_first]
        have e : tl (fun j => match j with | 0 => v % 10 | k + 1 => D k) = D := by funext j; rfl
        rw [e, hv]
        show v % 10 + 10 * (v / 10) = v
        omega
theorem txt_ex {v : Int} (h : 0 ≤ v) : TxtOf v (txtOf v) := by
  obtain ⟨D, n, hc, hv⟩ := can_exists (v.toNat + 1) v h (by omega)
  have ht := txt_text (S := D) (n := n) hc rfl
  have : TxtOf v ⟨(txtB D n).toArray⟩ := ⟨ht.1, ht.2.1.trans hv⟩
  rw [txtOf_eq this]
  exact this
theorem TxtOf.nonneg {v : Int} {s : ByteArray} (h : TxtOf v s) : 0 ≤ v := by
  have b := dv_bd h.1.1
  have e : dv (digF s) s.size = v := h.2
  omega
theorem TxtOf.lt {v : Int} {s : ByteArray} (h : TxtOf v s) : v < 10 ^ s.size := by
  have b := dv_bd h.1.1
  have e : dv (digF s) s.size = v := h.2
  omega
theorem TxtOf.pos {v : Int} {s : ByteArray} (h : TxtOf v s) : 1 ≤ s.size := h.1.2.1
/-- A numeral of a number below 10^n has at most n digits. -/
theorem TxtOf.size_le {v : Int} {s : ByteArray} {n : Nat} (h : TxtOf v s) (n0 : 1 ≤ n) (hv : v < 10 ^ n) : s.size ≤ n := by
  by_cases hs : s.size ≤ n
  · exact hs
  · exfalso
    obtain ⟨m, hm⟩ : ∃ m, s.size = m + 1 := ⟨s.size - 1, by omega⟩
    have hc := h.1
    have e : dv (digF s) s.size = v := h.2
    rw [hm] at hc e
    have b := can_low hc (by omega)
    have := pow10_mono (show n ≤ m by omega)
    omega
theorem TxtOf.size_mul {u v : Int} {s a b : ByteArray} (h : TxtOf (u * v) s) (ha : TxtOf u a) (hb : TxtOf v b) : s.size ≤ a.size + b.size := by
  refine h.size_le (by have := ha.pos; omega) ?_
  have h1 := ha.lt
  have h2 := hb.lt
  have h3 := ha.nonneg
  have h4 := hb.nonneg
  have p := pow10_pos b.size
  have q := pow10_pos a.size
  rw [Int.pow_add]
  have : u * v ≤ u * 10 ^ b.size := Int.mul_le_mul_of_nonneg_left (by omega) h3
  have : u * 10 ^ b.size < 10 ^ a.size * 10 ^ b.size := Int.mul_lt_mul_of_pos_right h1 p
  omega
/-- Digits everywhere. -/
theorem TxtOf.dig9 {v : Int} {s : ByteArray} (h : TxtOf v s) (j : Nat) : 0 ≤ digF s j ∧ digF s j ≤ 9 := by
  by_cases hj : j < s.size
  · have := h.1.1 j hj; omega
  · rw [digF_out (by omega)]; omega
/-- The bytes of a numeral. -/
theorem TxtOf.bytes {v : Int} {s : ByteArray} (h : TxtOf v s) {j : Nat} (hj : j < s.size) : 48 ≤ bt s j ∧ bt s j ≤ 57 := by
  have e := digF_rev hj
  have := h.1.1 (s.size - 1 - j) (by omega)
  omega
/-- The terms of a numeral. -/
def tmN (s : ByteArray) : Nat := (s.size + 5) / 6
def tmL (s : ByteArray) : List Int := tab (tmN s) (tmF (digF s))
theorem tmL_len (s : ByteArray) : (tmL s).length = tmN s := tab_len _ _
theorem lf_tmL (s : ByteArray) : lf (tmL s) = tmF (digF s) := by
  funext p
  unfold tmL
  rw [lf_tab]
  by_cases h : p < tmN s
  · rw [if_pos h]
  · rw [if_neg h, tmF_out (n := s.size) (fun j hj => digF_out hj) (by unfold tmN at h; omega)]
/-- The number of a list of terms. -/
def nmL (l : List Int) : Int := evN 1000000 (lf l) l.length
theorem nm_tmL (s : ByteArray) : nmL (tmL s) = numV s := by
  unfold nmL numV
  rw [lf_tmL, tmL_len, terms_num]
  exact dv_cut (by unfold tmN; omega) fun j hj _ => digF_out hj
theorem nm_tab (n : Nat) (F : Nat → Int) : nmL (tab n F) = evN 1000000 F n := by
  unfold nmL
  rw [tab_len]
  exact sumN_congr fun i hi => by rw [lf_tab, if_pos hi]
theorem nm_mul {a b : ByteArray} (ha : 1 ≤ a.size) (hb : 1 ≤ b.size) : nmL (ceL (tmL a) (tmL b)) = numV a * numV b := by
  have la := tmL_len a
  have lb := tmL_len b
  have na : 0 < tmN a := by unfold tmN; omega
  have nb : 0 < tmN b := by unfold tmN; omega
  unfold ceL
  rw [if_neg (by omega), nm_tab, ← nm_tmL a, ← nm_tmL b]
  unfold nmL
  rw [la, lb]
  exact conv_num na nb (fun j hj => lf_out _ (by omega)) (fun j hj => lf_out _ (by omega))
theorem ce_bd {a b : ByteArray} (ha : ∀ j, 0 ≤ digF a j ∧ digF a j ≤ 9) (hb : ∀ j, 0 ≤ digF b j ∧ digF b j ≤ 9) (hs : a.size ≤ 600) (j : Nat) : 0 ≤ lf (ceL (tmL a) (tmL b)) j ∧ lf (ceL (tmL a) (tmL b)) j ≤ 1000000000000000 := by
  unfold ceL
  split
  · rw [lf_out [] (Nat.zero_le _)]; omega
  · rw [lf_tab]
    split
    · have hA : ∀ j, 0 ≤ lf (tmL a) j ∧ lf (tmL a) j ≤ 1000000 := fun j => by rw [lf_tmL]; have := tmF_bd ha j; omega
      have hB : ∀ j, 0 ≤ lf (tmL b) j ∧ lf (tmL b) j ≤ 1000000 := fun j => by rw [lf_tmL]; have := tmF_bd hb j; omega
      have h1 := cv_terms hA hB j (tmN a)
      rw [cpar_end (A := lf (tmL a)) j (fun i hi => lf_out (tmL a) (by rw [tmL_len]; exact hi))] at h1
      have h2 : tmN a ≤ 100 := by unfold tmN; omega
      omega
    · omega
theorem ce_len {a b : ByteArray} (ha : 1 ≤ a.size) (hb : 1 ≤ b.size) : (ceL (tmL a) (tmL b)).length = tmN a + tmN b - 1 := by
  have la := tmL_len a
  have lb := tmL_len b
  have na : 0 < tmN a := by unfold tmN; omega
  have nb : 0 < tmN b := by unfold tmN; omega
  unfold ceL
  rw [if_neg (by omega), tab_len, la, lb]
/-- The terms of a sum. -/
def smL (a b : ByteArray) : List Int := tab (max (tmN a) (tmN b)) fun i => tmF (digF a) i + tmF (digF b) i
theorem nm_sum (a b : ByteArray) : nmL (smL a b) = numV a + numV b := by
  unfold smL
  rw [nm_tab, evN_add, ← nm_tmL a, ← nm_tmL b]
  unfold nmL
  rw [lf_tmL, lf_tmL, tmL_len, tmL_len]
  congr 1
  · exact evN_more (by omega) fun j hj => tmF_out (n := a.size) (fun j hj => digF_out hj) (by unfold tmN at hj; omega)
  · exact evN_more (by omega) fun j hj => tmF_out (n := b.size) (fun j hj => digF_out hj) (by unfold tmN at hj; omega)
theorem sm_bd {a b : ByteArray} (ha : ∀ j, 0 ≤ digF a j ∧ digF a j ≤ 9) (hb : ∀ j, 0 ≤ digF b j ∧ digF b j ≤ 9) (j : Nat) : 0 ≤ lf (smL a b) j ∧ lf (smL a b) j ≤ 1000000000000000 := by
  unfold smL
  rw [lf_tab]
  have h1 := tmF_bd ha j
  have h2 := tmF_bd hb j
  split <;> omega
theorem cu_bd2 {S : Nat → Int} (h : ∀ j, 0 ≤ S j ∧ S j ≤ 1000000000000000) : ∀ k, 0 ≤ cuS S k ∧ cuS S k ≤ 200000000000000
  | 0 => by simp [cuS]
  | k + 1 => by
    have := cu_bd2 h k
    have := h k
    rw [cuS]
    omega
/-- The number that a row of terms writes. -/
theorem nm_spread (l : List Int) : dv (spS (lf l)) (6 * l.length) = nmL l := spread_num (lf l) l.length
end Go.Proofs.YtaapmpjkcddababDoor
namespace Go.Proofs.YtaapmpjkcddababDoor
open Go.RowKit
def upd (Q : Nat → Int) (s : Nat) (m : Int) : Nat → Int := fun j => if j = s then m else Q j
end Go.Proofs.YtaapmpjkcddababDoor
namespace Go.Proofs.YtaapmpjkcddababDoor
open Go.RowKit
/-- A row with room: the first n cells are known. -/
def OwnV (w : World) (g n cap : Nat) (F : Nat → Int) : Prop := ∃ V, w.rowIs g 3 cap V ∧ n ≤ cap ∧ ∀ j, j < n → V j = .int .i64 (F j)
theorem OwnV.cell {w : World} {g n cap : Nat} {F : Nat → Int} (h : OwnV w g n cap F) {j : Nat} (hj : j < n) : w.cell? ⟨g, j, none⟩ = some (.int .i64 (F j)) := by
  obtain ⟨V, h1, h2, h3⟩ := h
  rw [← h3 j hj]
  exact World.rowIs.cell h1 (by omega)
theorem OwnV.frozen {w : World} {g n cap : Nat} {F : Nat → Int} (h : OwnV w g n cap F) (j : Nat) : w.frozen? ⟨g, j, none⟩ = false := by
  obtain ⟨V, h1, h2, h3⟩ := h
  exact World.rowIs.frozen h1 j
theorem OwnV.lt {w : World} {g n cap : Nat} {F : Nat → Int} (h : OwnV w g n cap F) : g < w.heap.size := by
  obtain ⟨V, h1, _⟩ := h
  exact World.rowIs.lt h1
theorem OwnV.set {w : World} {g n cap s : Nat} {F : Nat → Int} {x : Int} (h : OwnV w g n cap F) : OwnV (w.setCell ⟨g, s, none⟩ (.int .i64 x)) g n cap (upd F s x) := by
  obtain ⟨V, h1, h2, h3⟩ := h
  refine ⟨_, World.rowIs.set h1 s (.int .i64 x), h2, fun j hj => ?_⟩
  unfold upd
  by_cases e : j = s
  · simp [e]
  · simp [e, h3 j hj]
theorem OwnV.other {w : World} {g g2 n cap s : Nat} {F : Nat → Int} {v : Value} (h : OwnV w g n cap F) (hne : g ≠ g2) : OwnV (w.setCell ⟨g2, s, none⟩ v) g n cap F := by
  obtain ⟨V, h1, h2, h3⟩ := h
  exact ⟨V, World.rowIs.setOther h1 (a := ⟨g2, s, none⟩) hne v, h2, h3⟩
theorem OwnV.keep {w w' : World} {g n cap : Nat} {F : Nat → Int} (h : OwnV w g n cap F) (hb : Below w.heap.size w w') : OwnV w' g n cap F := by
  obtain ⟨V, h1, h2, h3⟩ := h
  exact ⟨V, World.rowIs.of_block h1 (hb.block g (World.rowIs.lt h1)), h2, h3⟩
theorem OwnV.congr {w : World} {g n cap : Nat} {F G : Nat → Int} (h : OwnV w g n cap F) (e : ∀ j, j < n → F j = G j) : OwnV w g n cap G := by
  obtain ⟨V, h1, h2, h3⟩ := h
  exact ⟨V, h1, h2, fun j hj => by rw [h3 j hj, e j hj]⟩
theorem OwnV.src {w : World} {g n cap : Nat} {F : Nat → Int} (h : OwnV w g n cap F) : Src w (some ⟨g, 0, none⟩) n F :=
  .inr ⟨g, 0, rfl, h.lt, fun j hj => by rw [Nat.zero_add]; exact h.cell hj⟩
theorem OwnV.of_owns {w : World} {base n : Nat} {v : Value} {F : Nat → Int} (h : w.ownsRow base 3 1 v n (xsF F n)) (hn : n ≠ 0) : ∃ g cap, v = .slice (some ⟨g, 0, none⟩) n cap ∧ base ≤ g ∧ OwnV w g n cap F := by
  obtain ⟨hl, h⟩ := h
  rcases h with ⟨h1, h2⟩ | ⟨g, cap, cur, h1, hg, hh, hc, hm, hs, ht⟩
  · exact absurd h2 hn
  · refine ⟨g, cap, h1, hg, fun j => (cur[j]?).getD .nilIface, ⟨cur, hh, by omega, fun j hj => ?_⟩, hc, fun j hj => ?_⟩
    · have : j < cur.size := by omega
      simp [this]
    · have hx : (xsF F n)[j]? = some (.int .i64 (F j)) := by simp [xsF, hj]
      rw [← ht, List.getElem?_take_of_lt (by omega)] at hx
      have : cur[j]? = some (.int .i64 (F j)) := by simpa using hx
      show (cur[j]?).getD .nilIface = _
      rw [this]; rfl
end Go.Proofs.YtaapmpjkcddababDoor
namespace Go.Proofs.YtaapmpjkcddababDoor
open Go.RowKit
/-- A row of bytes of one's own, n of them written. -/
def OwnB (w : World) (g n cap : Nat) (F : Nat → Int) : Prop := ∃ V, w.rowIs g 5 cap V ∧ n ≤ cap ∧ ∀ j, j < n → V j = .int .u8 (F j)
theorem OwnB.cell {w : World} {g n cap : Nat} {F : Nat → Int} (h : OwnB w g n cap F) {j : Nat} (hj : j < n) : w.cell? ⟨g, j, none⟩ = some (.int .u8 (F j)) := by
  obtain ⟨V, h1, h2, h3⟩ := h
  rw [← h3 j hj]
  exact World.rowIs.cell h1 (by omega)
theorem OwnB.frozen {w : World} {g n cap : Nat} {F : Nat → Int} (h : OwnB w g n cap F) (j : Nat) : w.frozen? ⟨g, j, none⟩ = false := by
  obtain ⟨V, h1, h2, h3⟩ := h
  exact World.rowIs.frozen h1 j
theorem OwnB.lt {w : World} {g n cap : Nat} {F : Nat → Int} (h : OwnB w g n cap F) : g < w.heap.size := by
  obtain ⟨V, h1, _⟩ := h
  exact World.rowIs.lt h1
theorem OwnB.set {w : World} {g n cap s : Nat} {F : Nat → Int} {x : Int} (h : OwnB w g n cap F) : OwnB (w.setCell ⟨g, s, none⟩ (.int .u8 x)) g n cap (upd F s x) := by
  obtain ⟨V, h1, h2, h3⟩ := h
  refine ⟨_, World.rowIs.set h1 s (.int .u8 x), h2, fun j hj => ?_⟩
  unfold upd
  by_cases e : j = s
  · simp [e]
  · simp [e, h3 j hj]
theorem OwnB.congr {w : World} {g n cap : Nat} {F G : Nat → Int} (h : OwnB w g n cap F) (e : ∀ j, j < n → F j = G j) : OwnB w g n cap G := by
  obtain ⟨V, h1, h2, h3⟩ := h
  exact ⟨V, h1, h2, fun j hj => by rw [h3 j hj, e j hj]⟩
theorem OwnB.of_owns {w : World} {base n : Nat} {v : Value} {F : Nat → Int} (h : w.ownsRow base 5 1 v n (xsB F n)) (hn : n ≠ 0) : ∃ g cap, v = .slice (some ⟨g, 0, none⟩) n cap ∧ base ≤ g ∧ OwnB w g n cap F := by
  obtain ⟨hl, h⟩ := h
  rcases h with ⟨h1, h2⟩ | ⟨g, cap, cur, h1, hg, hh, hc, hm, hs, ht⟩
  · exact absurd h2 hn
  · refine ⟨g, cap, h1, hg, fun j => (cur[j]?).getD .nilIface, ⟨cur, hh, by omega, fun j hj => ?_⟩, hc, fun j hj => ?_⟩
    · have : j < cur.size := by omega
      simp [this]
    · have hx : (xsB F n)[j]? = some (.int .u8 (F j)) := by simp [xsB, hj]
      rw [← ht, List.getElem?_take_of_lt (by omega)] at hx
      rw [Array.getElem?_toList] at hx
      show (cur[j]?).getD .nilIface = _
      rw [hx]
      rfl
/-- k exchanges from both ends. -/
def swF (n : Nat) (F : Nat → Int) (k j : Nat) : Int := if j < n ∧ (j < k ∨ n - 1 - j < k) then F (n - 1 - j) else F j
theorem swF_zero (n : Nat) (F : Nat → Int) (j : Nat) : F j = swF n F 0 j := by unfold swF; rw [if_neg (by omega)]
theorem swF_lo (n : Nat) (F : Nat → Int) {k m : Nat} (h : k < m) (hm : n = k + m + 1) : swF n F k k = F k ∧ swF n F k m = F m := by
  unfold swF
  rw [if_neg (by omega), if_neg (by omega)]
  exact ⟨rfl, rfl⟩
theorem swF_step (n : Nat) (F : Nat → Int) {k m : Nat} (h : k < m) (hm : n = k + m + 1) (j : Nat) : upd (upd (swF n F k) k (F m)) m (F k) j = swF n F (k + 1) j := by
  unfold upd swF
  by_cases h1 : j = m
  · rw [if_pos h1, if_pos (by omega), show n - 1 - j = k by omega]
  · rw [if_neg h1]
    by_cases h2 : j = k
    · rw [if_pos h2, if_pos (by omega), show n - 1 - j = m by omega]
    · rw [if_neg h2]
      by_cases h3 : j < n ∧ (j < k ∨ n - 1 - j < k)
      · rw [if_pos h3, if_pos (by omega)]
      · rw [if_neg h3, if_neg (by omega)]
theorem swF_step2 (n : Nat) (F : Nat → Int) {k m : Nat} (h : k < m) (hm : n = k + m + 1) (j : Nat) : upd (upd (swF n F k) m (F k)) k (F m) j = swF n F (k + 1) j := by
  rw [← swF_step n F h hm]
  unfold upd
  by_cases h1 : j = m
  · rw [if_neg (by omega), if_pos h1, if_pos h1]
  · by_cases h2 : j = k
    · rw [if_pos h2, if_neg h1, if_pos h2]
    · rw [if_neg h2, if_neg h1, if_neg h1, if_neg h2]
theorem swF_end (n : Nat) (F : Nat → Int) {k j : Nat} (h : n ≤ 2 * k + 1) (hj : j < n) : swF n F k j = F (n - 1 - j) := by
  unfold swF
  by_cases h3 : j < n ∧ (j < k ∨ n - 1 - j < k)
  · rw [if_pos h3]
  · rw [if_neg h3, show n - 1 - j = j by omega]
def RevP (w : World) (g N cap n : Nat) (F : Nat → Int) (e : Ending) (w' : World) : Prop := e = .returned (.tuple #[]) ∧ (∃ G, OwnB w' g N cap G ∧ ∀ j, j < n → G j = F (n - 1 - j)) ∧ w.grownBy w' (some g)
set_option maxRecDepth 100000 in
set_option maxHeartbeats 1600000 in
theorem reverse_c (g N cap n c2 : Nat) (F : Nat → Int) (w : World) (hn : n ≤ N) (hn9 : n ≤ 1000000) (ho : OwnB w g N cap F) : Calls Tryd.prog 88 #[.slice (some ⟨g, 0, none⟩) n c2] w (RevP w g N cap n F) := by
  have HO := Lib.hid ho
  clear ho
  go_enter Tryd.func88, Tryd.ntmps88
  go_wp2_with fail
  go_loopw [2, 3] (fun s2 s3 wr => ∃ k : Nat, s2 = .int .i64 k ∧ s3 = .int .i64 ((n : Int) - 1 - k) ∧ k ≤ n ∧ OwnB wr g N cap (swF n F k) ∧ w.grownBy wr (some g)) (fun s2 _ _ => n - (intOf s2).toNat)
  case atStart => exact ⟨0, rfl, by simp, Nat.zero_le _, HO.out.congr (fun j _ => swF_zero n F j), World.grownBy.refl _ _⟩
  case round =>
    obtain ⟨k, rfl, rfl, hk, hr, hg⟩ := hrel
    by_cases h1 : (k : Int) < (n : Int) - 1 - k
    · obtain ⟨m, hm⟩ : ∃ m : Nat, (n : Int) - 1 - k = m := ⟨n - 1 - k, by omega⟩
      have hnm : n = k + m + 1 := by omega
      have hkm : k < m := by omega
      have cs := swF_lo n F hkm hnm
      have c1 := hr.cell (show k < N by omega)
      have c2 := hr.cell (show m < N by omega)
      rw [cs.1] at c1
      rw [cs.2] at c2
      have f1 := hr.frozen k
      have f2 := hr.frozen m
      have hr1 : OwnB wr.drew g N cap (swF n F k) := hr
      have hg1 : w.grownBy wr.drew (some g) := ⟨hg.os, hg.tape, hg.output, hg.size, hg.block⟩
      have S1 : Hid (OwnB ((wr.drew.setCell ⟨g, k, none⟩ (.int .u8 (F m))).setCell ⟨g, m, none⟩ (.int .u8 (F k))) g N cap (swF n F (k + 1))) := Lib.hid ((hr1.set.set).congr fun j _ => swF_step n F hkm hnm j)
      have S2 : Hid (OwnB ((wr.drew.setCell ⟨g, m, none⟩ (.int .u8 (F k))).setCell ⟨g, k, none⟩ (.int .u8 (F m))) g N cap (swF n F (k + 1))) := Lib.hid ((hr1.set.set).congr fun j _ => swF_step2 n F hkm hnm j)
      have G1 : Hid (∀ (o1 o2 : Nat) (v1 v2 : Value), w.grownBy ((wr.drew.setCell ⟨g, o1, none⟩ v1).setCell ⟨g, o2, none⟩ v2) (some g)) := Lib.hid fun o1 o2 v1 v2 => grown_set (grown_set hg1 o1 v1) o2 v2
      have d1 : decide ((k : Int) < (m : Int)) = true := decide_eq_true (by omega)
      have i1 : (0 : Int) ≤ (k : Int) ∧ (k : Int) < n := by omega
      have i2 : (0 : Int) ≤ (m : Int) ∧ (m : Int) < n := by omega
      have HME : Hid ((m : Int) - 1 = (n : Int) - 1 - (k + 1 : Nat)) := Lib.hid (by omega)
      rw [hm]
      have hkm2 : (k : Int) < m := by omega
      have hmn : (m : Int) < n := by omega
      have hkn : (k : Int) < n := by omega
      clear hr hr1 hg1 cs hm hnm
      go_wp2_with fail
      go_region
      all_goals go_wp2
      all_goals go_roundw
      case rel => exact ⟨k + 1, by go_num, vint HME.out, by omega, by first | exact S1.out | exact S2.out, G1.out _ _ _ _⟩
      case measure => simp [intOf]; omega
    · have d1 : decide ((k : Int) < (n : Int) - 1 - k) = false := decide_eq_false h1
      have HF : Hid (RevP w g N cap n F (.returned (.tuple #[])) wr) := Lib.hid ⟨rfl, ⟨_, hr, fun j hj => swF_end n F (by omega) hj⟩, hg⟩
      clear hr
      go_wp2
      go_end0
      exact HF.out
end Go.Proofs.YtaapmpjkcddababDoor
namespace Go.Proofs.YtaapmpjkcddababDoor
open Go.RowKit
/-- What is left, and the term that comes in at the sixth place. -/
theorem num_step (T : Nat → Int) {i c : Nat} (hc : c < 6) : (cuS (spS T) (6 * i + c) + (if c = 0 then T i else 0)) / 10 = cuS (spS T) (6 * i + (c + 1)) ∧ (cuS (spS T) (6 * i + c) + (if c = 0 then T i else 0)) % 10 = cdS (spS T) (6 * i + c) := by
  have e : (if c = 0 then T i else 0) = spS T (6 * i + c) := by
    by_cases h : c = 0
    · subst h
      rw [if_pos rfl, Nat.add_zero, spS_at]
    · rw [if_neg h, spS_no T (by omega) hc]
  rw [e]
  exact ⟨rfl, rfl⟩
theorem ownB_nil (w : World) (B : Nat) (F : Nat → Int) : w.ownsRow B 5 1 (.slice none 0 0) 0 (xsB F 0) := World.ownsRow_nil w B 5 1
/-- Behind the last term at most fifteen digits follow. -/
theorem cu_done {S : Nat → Int} {n : Nat} (hz : ∀ j, n ≤ j → S j = 0) (h0 : 0 ≤ cuS S n) (hb : cuS S n ≤ 200000000000000) : ∀ d : Nat, cuS S (n + 15 + d) = 0
  | 0 => by
    have st : ∀ j : Nat, cuS S (n + j + 1) = cuS S (n + j) / 10 := fun j => by rw [cuS, hz (n + j) (by omega), Int.add_zero]
    have s0 : cuS S (n + 1) = cuS S n / 10 := st 0
    have s1 : cuS S (n + 2) = cuS S (n + 1) / 10 := st 1
    have s2 : cuS S (n + 3) = cuS S (n + 2) / 10 := st 2
    have s3 : cuS S (n + 4) = cuS S (n + 3) / 10 := st 3
    have s4 : cuS S (n + 5) = cuS S (n + 4) / 10 := st 4
    have s5 : cuS S (n + 6) = cuS S (n + 5) / 10 := st 5
    have s6 : cuS S (n + 7) = cuS S (n + 6) / 10 := st 6
    have s7 : cuS S (n + 8) = cuS S (n + 7) / 10 := st 7
    have s8 : cuS S (n + 9) = cuS S (n + 8) / 10 := st 8
    have s9 : cuS S (n + 10) = cuS S (n + 9) / 10 := st 9
    have s10 : cuS S (n + 11) = cuS S (n + 10) / 10 := st 10
    have s11 : cuS S (n + 12) = cuS S (n + 11) / 10 := st 11
    have s12 : cuS S (n + 13) = cuS S (n + 12) / 10 := st 12
    have s13 : cuS S (n + 14) = cuS S (n + 13) / 10 := st 13
    have s14 : cuS S (n + 15) = cuS S (n + 14) / 10 := st 14
    show cuS S (n + 15) = 0
    omega
  | d + 1 => by
    have ih := cu_done hz h0 hb d
    show cuS S (n + 15 + d + 1) = 0
    rw [cuS, ih, hz (n + 15 + d) (by omega)]
    rfl
set_option maxRecDepth 100000 in
set_option maxHeartbeats 3200000 in
theorem numeral_c (a : Option Addr) (l : List Int) (cap : Nat) (w : World) (hn : l.length ≤ 4096) (n0 : 0 < l.length) (hS : ∀ j, 0 ≤ lf l j ∧ lf l j ≤ 1000000000000000) (hs : Src w a l.length (lf l)) :
    Calls Tryd.prog 71 #[.slice a l.length cap] w (TextP (spS (lf l)) (6 * l.length) w) := by
  obtain ⟨i0, hi, hz0, hz1, hz2⟩ := info_parts info5
  have HI := Lib.hid hi
  have HZ0 := Lib.hid hz0
  have HZ1 := Lib.hid hz1
  have HZ2 := Lib.hid hz2
  clear hi hz0 hz1 hz2
  obtain ⟨b, off, rfl, hlt, hc⟩ : ∃ b off, a = some ⟨b, off, none⟩ ∧ b < w.heap.size ∧ ∀ j, j < l.length → w.cell? ⟨b, off + j, none⟩ = some (.int .i64 (lf l j)) := by
    rcases hs with h | h
    · omega
    · exact h
  have HC := Lib.hid hc
  have HCB : Hid (∀ k, 0 ≤ cuS (spS (lf l)) k ∧ cuS (spS (lf l)) k ≤ 200000000000000) := Lib.hid (cu_bd2 (spS_bd (by omega) hS))
  have HCA : Hid (∀ k, Carry (spS (lf l)) (cdS (spS (lf l))) k (cuS (spS (lf l)) k)) := Lib.hid (carry_all fun j => (spS_bd (by omega) hS j).1)
  have HSB := Lib.hid hS
  have HZS : Hid (∀ j, 6 * l.length ≤ j → spS (lf l) j = 0) := Lib.hid fun j hj => spS_out (fun i hi => lf_out l hi) hj
  have HDONE : Hid (∀ k, 6 * l.length ≤ k → 0 < cuS (spS (lf l)) k → k < 6 * l.length + 15) := Lib.hid fun k hk hp => by
    by_cases h : k < 6 * l.length + 15
    · exact h
    · have := cu_done HZS.out (HCB.out _).1 (HCB.out _).2 (k - (6 * l.length + 15))
      rw [show 6 * l.length + 15 + (k - (6 * l.length + 15)) = k by omega] at this
      omega
  clear hS hs hc
  generalize lf l = T at *
  generalize l.length = n at *
  go_enter Tryd.func71, Tryd.ntmps71
  go_upto_block 0 with fail
  go_cut [3, 4, 6] from 8 (fun v u _ w2 => u = .int .i64 (cuS (spS T) (6 * n)) ∧ w2.ownsRow w.heap.size 5 1 v (6 * n) (xsB (fun j => 48 + cdS (spS T) j) (6 * n)) ∧ Below w.heap.size w w2)
  case first =>
    go_wp2_with fail
    go_loopw [3, 4, 6, 10] (fun v u _ i wr => ∃ k : Nat, i = .int .i64 k ∧ k ≤ n ∧ u = .int .i64 (cuS (spS T) (6 * k)) ∧ wr.ownsRow w.heap.size 5 1 v (6 * k) (xsB (fun j => 48 + cdS (spS T) j) (6 * k)) ∧ Below w.heap.size w wr) (fun _ _ _ i _ => n - (intOf i).toNat)
    case atStart => exact ⟨0, rfl, Nat.zero_le _, rfl, ownB_nil w _ _, Below.refl _ _⟩
    case round =>
      obtain ⟨k, rfl, hk, rfl, hown, hnx⟩ := hrel
      by_cases h1 : k < n
      · have hd1 : decide ((k : Int) < n) = true := decide_eq_true (by omega)
        have c1 : wr.cell? ⟨b, off + k, none⟩ = some (.int .i64 (T k)) := (hnx.cell (p := ⟨b, off + k, none⟩) hlt).trans (HC.out k h1)
        have cb := HCB.out (6 * k)
        have sb := HSB.out k
        have HOWN := Lib.hid hown
        have HE0 : Hid (cuS (spS T) (6 * k) + T k = cuS (spS T) (6 * k + 0) + (if 0 = 0 then T k else 0)) := Lib.hid rfl
        clear hown
        go_wp2_with fail
        go_loopw [3, 4, 17] (fun v u i wr2 => ∃ c : Nat, i = .int .i64 c ∧ c ≤ 6 ∧ u = .int .i64 (cuS (spS T) (6 * k + c) + (if c = 0 then T k else 0)) ∧ wr2.ownsRow w.heap.size 5 1 v (6 * k + c) (xsB (fun j => 48 + cdS (spS T) j) (6 * k + c)) ∧ Below w.heap.size w wr2) (fun _ _ i _ => 6 - (intOf i).toNat)
        case atStart => exact ⟨0, rfl, by omega, vint HE0.out, HOWN.out, hnx⟩
        case round =>
          clear HOWN HE0 cb c1 hnx
          obtain ⟨c, rfl, hc6, rfl, hown, hnx⟩ := hrel
          have hs2 := hnx.size
          have cb := HCB.out (6 * k + c)
          by_cases h2 : c < 6
          · have hd2 : decide ((c : Int) < 6) = true := decide_eq_true (by omega)
            have HST := Lib.hid (num_step T (i := k) h2)
            have hX : 0 ≤ cuS (spS T) (6 * k + c) + (if c = 0 then T k else 0) ∧ cuS (spS T) (6 * k + c) + (if c = 0 then T k else 0) ≤ 2000000000000000 := by split <;> omega
            have HU : Hid (cuS (spS T) (6 * k + (c + 1)) = cuS (spS T) (6 * k + (c + 1)) + (if c + 1 = 0 then T k else 0)) := Lib.hid (by rw [if_neg (by omega)]; omega)
            clear cb
            generalize cuS (spS T) (6 * k + c) + (if c = 0 then T k else 0) = X at *
            go_wp2_with (at_builtin; refine wpList_append_own _ rfl _ _ 27 rfl w.heap.size 5 i0 (.int .u8 0) 1 1 Tryd.underlying27 HI.out HZ0.out HZ1.out HZ2.out rfl (by decide) _ _ _ rfl (hown.alloc _) ⟨wr.heap.size, 0, none⟩ 1 1 [.int .u8 (48 + X % 10)] rfl rfl ?c1 ?c2 ?c3 ?c4 ?c5 ?_)
            case c1 => exact cell_one_new _ _ _
            case c2 => intro u hu; simp at hu; subst hu; rfl
            case c3 => unfold maxLen; omega
            case c4 => omega
            case c5 => simp; omega
            intro v' w1 hown' hgrow _
            have hbel : Below w.heap.size w w1 := (hnx.alloc hs2 _).grown hgrow (by simp; omega) (own_ge' hown)
            have hown2 : w1.ownsRow w.heap.size 5 1 v' (6 * k + (c + 1)) (xsB (fun j => 48 + cdS (spS T) j) (6 * k + (c + 1))) := by rw [← Nat.add_assoc, ← xsB_succ, ← HST.out.2]; exact hown'
            clear hgrow hown hown'
            go_wp2
            go_roundw
            case rel => exact ⟨c + 1, by go_num, by omega, vint (HST.out.1.trans HU.out), hown2, hbel⟩
            case measure => simp [intOf]; omega
          · have hd2 : decide ((c : Int) < 6) = false := decide_eq_false (by omega)
            obtain rfl : c = 6 := by omega
            have HU : Hid (cuS (spS T) (6 * k + 6) + (if 6 = 0 then T k else 0) = cuS (spS T) (6 * (k + 1))) := Lib.hid (by rw [if_neg (by omega), Int.add_zero]; rfl)
            have HOWN : Hid (wr.ownsRow w.heap.size 5 1 _ (6 * (k + 1)) (xsB (fun j => 48 + cdS (spS T) j) (6 * (k + 1)))) := Lib.hid hown
            rw [HU.out]
            clear hown cb
            go_wp2
            go_roundw
            case rel => exact ⟨k + 1, by go_num, by omega, rfl, HOWN.out, hnx⟩
            case measure => simp [intOf]; omega
      · have hd1 : decide ((k : Int) < n) = false := decide_eq_false (by omega)
        obtain rfl : k = n := by omega
        have HOWN := Lib.hid hown
        clear hown
        go_wp2
        go_meet
        case rel => exact ⟨rfl, HOWN.out, hnx⟩
  case rest =>
    obtain ⟨rfl, hown, hb⟩ := hcut
    go_upto_block 4 with fail
    go_cut [3, 4] from 8 (fun v _ w2 => ∃ K : Nat, 6 ≤ K ∧ K ≤ 30000 ∧ 6 * n ≤ K ∧ cuS (spS T) K = 0 ∧ w2.ownsRow w.heap.size 5 1 v K (xsB (fun j => 48 + cdS (spS T) j) K) ∧ Below w.heap.size w w2)
    case first =>
      go_wp2_with fail
      go_loopw [3, 4] (fun v u wr => ∃ k : Nat, 6 * n ≤ k ∧ u = .int .i64 (cuS (spS T) k) ∧ k ≤ 6 * n + 15 ∧ wr.ownsRow w.heap.size 5 1 v k (xsB (fun j => 48 + cdS (spS T) j) k) ∧ Below w.heap.size w wr) (fun _ u _ => (intOf u).toNat)
      case atStart => exact ⟨6 * n, Nat.le_refl _, rfl, by omega, hown, hb⟩
      case round =>
        obtain ⟨k, hk, rfl, hkb, hown, hnx⟩ := hrel
        have hs2 := hnx.size
        have cb := HCB.out k
        have cb1 := HCB.out (k + 1)
        have hz := HZS.out k hk
        have HNX : Hid (cuS (spS T) k / 10 = cuS (spS T) (k + 1)) := Lib.hid (by rw [cuS, hz, Int.add_zero])
        have HD : Hid (cuS (spS T) k % 10 = cdS (spS T) k) := Lib.hid (by rw [cdS, hz, Int.add_zero])
        clear hz
        by_cases h1 : 0 < cuS (spS T) k
        · have hd1 : decide (0 < cuS (spS T) k) = true := decide_eq_true h1
          have hkb2 := HDONE.out k hk h1
          have HM : Hid ((cuS (spS T) k / 10).toNat < (cuS (spS T) k).toNat) := Lib.hid (by omega)
          generalize cuS (spS T) k = U at *
          go_wp2_with (at_builtin; refine wpList_append_own _ rfl _ _ 27 rfl w.heap.size 5 i0 (.int .u8 0) 1 1 Tryd.underlying27 HI.out HZ0.out HZ1.out HZ2.out rfl (by decide) _ _ _ rfl (hown.alloc _) ⟨wr.heap.size, 0, none⟩ 1 1 [.int .u8 (48 + U % 10)] rfl rfl ?d1 ?d2 ?d3 ?d4 ?d5 ?_)
          case d1 => exact cell_one_new _ _ _
          case d2 => intro u hu; simp at hu; subst hu; rfl
          case d3 => unfold maxLen; omega
          case d4 => omega
          case d5 => simp; omega
          intro v' w1 hown' hgrow _
          have hbel : Below w.heap.size w w1 := (hnx.alloc hs2 _).grown hgrow (by simp; omega) (own_ge' hown)
          have hown2 : w1.ownsRow w.heap.size 5 1 v' (k + 1) (xsB (fun j => 48 + cdS (spS T) j) (k + 1)) := by rw [← xsB_succ, ← HD.out]; exact hown'
          clear hgrow hown hown'
          go_wp2
          go_roundw
          case rel => exact ⟨k + 1, by omega, vint HNX.out, by omega, hown2, hbel⟩
          case measure => simp only [intOf]; exact HM.out
        · have hd1 : decide (0 < cuS (spS T) k) = false := decide_eq_false h1
          have hz0 : cuS (spS T) k = 0 := by omega
          have HREL : Hid (∃ K : Nat, 6 ≤ K ∧ K ≤ 30000 ∧ 6 * n ≤ K ∧ cuS (spS T) K = 0 ∧ wr.ownsRow w.heap.size 5 1 _ K (xsB (fun j => 48 + cdS (spS T) j) K) ∧ Below w.heap.size w wr) := Lib.hid ⟨k, by omega, by omega, hk, hz0, hown, hnx⟩
          rw [hz0]
          clear hown hz0 h1 hd1 HNX HD
          go_wp2
          go_meet
          case rel => exact HREL.out
    case rest =>
      clear hown hb
      obtain ⟨K, hK6, hK3, hnK, hz, hown, hb⟩ := hcut
      have HDV : Hid (dv (cdS (spS T)) K = dv (spS T) (6 * n)) := Lib.hid (by
        have h := HCA.out K
        rw [hz] at h
        exact h.last hnK HZS.out)
      have HDG : Hid (∀ m, Dig (cdS (spS T)) m) := Lib.hid fun m i _ => cd_bd (spS T) i
      obtain ⟨g, capb, rfl, hg, hOB⟩ := OwnB.of_owns hown (by omega)
      have HOB := Lib.hid hOB
      have hcapK : K ≤ capb := by obtain ⟨_, _, h, _⟩ := hOB; exact h
      clear hown hOB hz HCA HCB HSB HZS HC HDONE
      generalize spS T = S at *
      generalize 6 * n = n6 at *
      go_upto_block 6 with fail
      go_cut [7] from 8 (fun i w2 => ∃ m : Nat, i = .int .i64 m ∧ m ≤ K ∧ Hid (Can (cdS S) m ∧ dv (cdS S) m = dv S n6) ∧ wc = w2)
      case first =>
        go_wp2_with fail
        go_loopw [7] (fun i wr => ∃ m : Nat, i = .int .i64 m ∧ 1 ≤ m ∧ m ≤ K ∧ Hid (∀ j, m ≤ j → j < K → cdS S j = 0) ∧ wc = wr) (fun i _ => (intOf i).toNat)
        case atStart => exact ⟨K, rfl, by omega, Nat.le_refl _, Lib.hid (fun j h1 h2 => by omega), rfl⟩
        case round =>
          obtain ⟨m, rfl, hm1, hmK, HZR, rfl⟩ := hrel
          have HV : Hid (dv (cdS S) m = dv S n6) := Lib.hid ((dv_cut hmK HZR.out).symm.trans HDV.out)
          by_cases h1 : m = 1
          · have HC : Hid (Can (cdS S) m ∧ dv (cdS S) m = dv S n6) := Lib.hid ⟨⟨HDG.out m, hm1, .inl h1⟩, HV.out⟩
            have hd1 : decide ((1 : Int) < m) = false := decide_eq_false (by omega)
            clear h1
            go_wp2
            go_meet
            case rel => exact ⟨m, rfl, hmK, HC, rfl⟩
          · have hd1 : decide ((1 : Int) < m) = true := decide_eq_true (by omega)
            obtain ⟨p, rfl⟩ : ∃ p, m = p + 1 := ⟨m - 1, by omega⟩
            have hp0 : 0 < p := by omega
            have hd2 : decide ((1 : Int) < (p : Int) + 1) = true := decide_eq_true (by omega)
            have cc := HOB.out.cell (show p < K by omega)
            have dg := cd_bd S p
            have i2 : (p : Int) < (K : Int) := by omega
            by_cases hzp : cdS S p = 0
            · have HZ2 : Hid (∀ j, p ≤ j → j < K → cdS S j = 0) := Lib.hid fun j h2 h3 => by
                by_cases e : j = p
                · rw [e]; exact hzp
                · exact HZR.out j (by omega) h3
              have e48 : ((48 + cdS S p : Int) == 48) = true := by rw [hzp]; rfl
              rw [hzp] at cc
              clear hzp h1
              go_wp2
              go_roundw
              case rel => exact ⟨p, by go_num, by omega, by omega, HZ2, by trivial⟩
              case measure => simp [intOf] <;> omega
            · have HC : Hid (Can (cdS S) (p + 1) ∧ dv (cdS S) (p + 1) = dv S n6) := Lib.hid ⟨⟨HDG.out _, by omega, .inr hzp⟩, HV.out⟩
              have e48 : ((48 + cdS S p : Int) == 48) = false := by rw [beq_eq_false_iff_ne]; omega
              clear hzp h1
              go_wp2
              go_meet
              case rel => exact ⟨p + 1, rfl, hmK, HC, rfl⟩
      case rest =>
        obtain ⟨m, rfl, hmK, HC, rfl⟩ := hcut
        have hm1 := HC.out.1.2.1
        have HT := Lib.hid (txt_text (S := S) (n := n6) HC.out.1 HC.out.2)
        have HCV : Hid (∀ (g2 cap2 : Nat) (w2 : World), (∀ j, j < m → w2.cell? ⟨g2, j, none⟩ = some (.int .u8 (48 + cdS S (m - 1 - j)))) → (convert 27 9 (.slice (some ⟨g2, 0, none⟩) m cap2)).run Tryd.prog w2 = .ok (.string ⟨(txtB (cdS S) m).toArray⟩) w2) := Lib.hid fun g2 cap2 w2 h => by
          have := run_convert_bytes_back (P := Tryd.prog) w2 27 9 5 ⟨g2, 0, none⟩ cap2 (txtB (cdS S) m) Tryd.underlying27 Tryd.underlying5 Tryd.underlying9 (fun j hj => by
            rw [txtB_len] at hj
            rw [add_at, Nat.zero_add, h j hj, txtB_at HC.out.1.1 hj]
            have := cd_bd S (m - 1 - j)
            congr 2
            omega)
          rwa [txtB_len] at this
        have HREV : Hid (∀ c2, Calls Tryd.prog 88 #[.slice (some ⟨g, 0, none⟩) m c2] wc (RevP wc g K capb m (fun j => 48 + cdS S j))) := Lib.hid fun c2 => reverse_c g K capb m c2 _ wc hmK (by omega) HOB.out
        have i1 : (0 : Int) ≤ (m : Int) ∧ (m : Int) ≤ capb := by omega
        have i2 : (m : Int) ≤ capb := by omega
        go_wp2_with fail
        refine (HREV.out _).mono ?_
        rintro e w3 ⟨rfl, ⟨G, hOB3, hG⟩, hg3⟩
        have hcv := HCV.out g capb w3 (fun j hj => by rw [hOB3.cell (by omega), hG j hj])
        have HB3 : Hid (Below w.heap.size w w3) := Lib.hid (hb.grown hg3 (by have := hb.size; omega) (fun r hr => by injection hr with hr; omega))
        clear hOB3 hG hg3 HREV HCV
        go_wp2
        go_ret
        exact ⟨_, rfl, HB3.out, HT.out⟩
end Go.Proofs.YtaapmpjkcddababDoor
namespace Go.Proofs.YtaapmpjkcddababDoor
open Go.RowKit
theorem terms_set {s : ByteArray} {W : World} {g k p : Nat} (hk : k < s.size) (hp : (s.size - 1 - k) / 6 = p) (h : Own W g (tmN s) (tS (digF s) s.size k)) :
    Own (W.setCell ⟨g, p, none⟩ (.int .i64 (tS (digF s) s.size k p * 10 + (bt s k - 48)))) g (tmN s) (tS (digF s) s.size (k + 1)) := by
  refine (World.rowIs.set h p (.int .i64 (tS (digF s) s.size k p * 10 + (bt s k - 48)))).congr fun j _ => ?_
  by_cases e : j = p
  · subst e
    rw [if_pos rfl, tS_hit (digF s) hk hp, digF_rev hk]
  · rw [if_neg e, tS_miss (digF s) hk (fun h => e (h.symm.trans hp))]
set_option maxRecDepth 100000 in
set_option maxHeartbeats 1600000 in
theorem termsOf_c {v : Int} (s : ByteArray) (w : World) (h : TxtOf v s) (hs : s.size ≤ 4096) : Calls Tryd.prog 72 #[.string s] w (OwnG w (tmL s)) := by
  have HDB : Hid (∀ k, k < s.size → 48 ≤ bt s k ∧ bt s k ≤ 57) := Lib.hid fun k hk => h.bytes hk
  have HTB : Hid (∀ k p, 0 ≤ tS (digF s) s.size k p ∧ tS (digF s) s.size k p < 1000000) := Lib.hid fun k p => tS_bd h.dig9 s.size k p
  have HST : Hid (∀ (W : World) (g k p : Nat), k < s.size → (s.size - 1 - k) / 6 = p → Own W g (tmN s) (tS (digF s) s.size k) → Own (W.setCell ⟨g, p, none⟩ (.int .i64 (tS (digF s) s.size k p * 10 + (bt s k - 48)))) g (tmN s) (tS (digF s) s.size (k + 1))) := Lib.hid fun W g k p hk hp ho => terms_set hk hp ho
  have HS0 : Hid (∀ p, tS (digF s) s.size 0 p = 0) := Lib.hid fun p => tS_start (fun j hj => digF_out hj) p
  have HEND : Hid (∀ w', Own w' w.heap.size (tmN s) (tS (digF s) s.size s.size) → Below w.heap.size w w' → OwnG w (tmL s) (.returned (.slice (some ⟨w.heap.size, 0, none⟩) (tmN s) (tmN s))) w') := Lib.hid fun w' ho hb => OwnG.of_own ho (tmL_len s).symm (Nat.le_refl _) (fun j _ => by rw [tS_end, lf_tmL]) hb
  have HN : Hid (tmN s = (s.size + 5) / 6) := Lib.hid rfl
  have s1 := h.pos
  have hmk : ∀ w, (Instr.makeSlice 36 (.int .i64 (((s.size : Int) + 6 - 1) / 6)) (.int .i64 (((s.size : Int) + 6 - 1) / 6))).run Tryd.prog w = .ok (.slice (some ⟨w.heap.size, 0, none⟩) (tmN s) (tmN s)) (w.alloc (.cells (madeCells #[.int .i64 0] (tmN s)) 3)) := fun w => by
    rw [show (((s.size : Int) + 6 - 1) / 6) = (tmN s : Int) by rw [HN.out]; omega]; exact made_n (tmN s) (by rw [HN.out]; omega) w
  clear h
  generalize tmN s = N at *
  go_enter Tryd.func72, Tryd.ntmps72
  go_wp2_with fail
  clear hmk
  go_loopw [4, 5, 14] (fun _ _ i wr => ∃ k : Nat, i = .int .i64 k ∧ k ≤ s.size ∧ Own wr w.heap.size N (tS (digF s) s.size k) ∧ Below w.heap.size w wr) (fun _ _ i _ => s.size - (intOf i).toNat)
  case atStart =>
    refine ⟨0, rfl, Nat.zero_le _, ?_, (Below.refl _ _).alloc (Nat.le_refl _) _⟩
    exact (World.rowIs_made w (.int .i64 0) N 3).congr fun j _ => by rw [HS0.out]
  case round =>
    obtain ⟨k, rfl, hk, ho, hb⟩ := hrel
    by_cases h1 : k < s.size
    · have hd1 : decide ((k : Int) < s.size) = true := decide_eq_true (by omega)
      obtain ⟨p, hp⟩ : ∃ p, (s.size - 1 - k) / 6 = p := ⟨_, rfl⟩
      have hpN : p < N := by have := HN.out; omega
      have hbt := bt_get h1
      have hbb := HDB.out k h1
      have ho1 : Own wr.drew w.heap.size N (tS (digF s) s.size k) := ho
      have HSET := Lib.hid (HST.out _ _ k p h1 hp ho1)
      have hb1 : Below w.heap.size w wr.drew := ⟨hb.os, hb.tape, hb.output, hb.size, hb.block⟩
      have c1 := World.rowIs.cell ho hpN
      have c11 := World.rowIs.cell ho1 hpN
      have c12 := World.rowIs.frozen ho1 p
      have xb := HTB.out k p
      rw [hbt] at HSET hbb
      clear hbt
      have t1 : ((s.size : Int) - 1 - k) / 6 = (p : Int) := by omega
      have t2 : Int.tdiv ((s.size : Int) - 1 - k) 6 = (p : Int) := by rw [Int.tdiv_eq_ediv_of_nonneg (by omega)]; exact t1
      have i0 : IntKind.i64.wrap ((s.size : Int) - 1 - k) = (s.size : Int) - 1 - k := IntWalk.i64_in _ (by omega)
      have i1 : (0 : Int) ≤ (k : Int) ∧ (k : Int) < s.size := by omega
      have i2 : (0 : Int) ≤ (p : Int) ∧ (p : Int) < N := by omega
      have i3 : (0 : Int) ≤ (k : Int) := by omega
      have i4 : (k : Int) < s.size := by omega
      have i5 : (p : Int) < N := by omega
      have q0 : IntKind.u8.wrap ((s[k].toNat : Int) - 48) = (s[k].toNat : Int) - 48 := IntWalk.u8_in _ (by omega)
      have q1 : IntKind.i64.wrap ((s[k].toNat : Int) - 48) = (s[k].toNat : Int) - 48 := IntWalk.i64_in _ (by omega)
      generalize tS (digF s) s.size k p = X at *
      have q2 : IntKind.i64.wrap (X * 10) = X * 10 := IntWalk.i64_in _ (by omega)
      have q3 : IntKind.i64.wrap (X * 10 + ((s[k].toNat : Int) - 48)) = X * 10 + ((s[k].toNat : Int) - 48) := IntWalk.i64_in _ (by omega)
      clear ho ho1 hp
      go_wp2
      refine wp_region_still_tail 14 (by kernel_rfl) (by kernel_rfl) ?_
      simp only [List.take_succ_cons, List.take_zero, List.drop_succ_cons, List.drop_zero]
      still_step
      still_step
      still_step
      still_step
      still_step
      still_step
      still_step
      still_step
      still_step
      still_step
      still_step
      still_step
      still_step
      still_step
      refine wpStill_nil ?_
      change wpList _ _ _ _ _ wr.drew
      clear c1 t1 t2 i0 q0 q1 q2 q3
      generalize wr.drew = W1 at *
      go_wp2
      go_roundw
      case rel => exact ⟨k + 1, by go_num, by omega, HSET.out, hb1.setCell (Nat.le_refl _) _⟩
      case measure => simp [intOf]; omega
    · have hd1 : decide ((k : Int) < s.size) = false := decide_eq_false (by omega)
      obtain rfl : k = s.size := by omega
      have HF := Lib.hid (HEND.out _ ho hb)
      clear ho
      go_wp2
      go_ret
      exact HF.out
end Go.Proofs.YtaapmpjkcddababDoor
namespace Go.Proofs.YtaapmpjkcddababDoor
open Go.RowKit
set_option maxHeartbeats 1600000 in
theorem iDigitsOk (s : ByteArray) (w : World) (hs : s.size ≤ 1048576) : Calls Tryd.prog 37 #[.string s] w (SameB w (mDigitsOk s)) := by
  by_cases h1 : 1 ≤ s.size ∧ s.size ≤ 300
  · have HN : Hid (∀ k, k < s.size → ¬ (48 ≤ bt s k ∧ bt s k ≤ 57) → mDigitsOk s = false) := Lib.hid fun k hk h => dig_not.2 fun hd => h (hd.2.1 k hk)
    have HE : Hid ((∀ j, j < s.size → 48 ≤ bt s j ∧ bt s j ≤ 57) → ∀ B : Bool, (B = true ↔ (bt s 0 ≠ 48 ∨ s.size = 1)) → mDigitsOk s = B) := Lib.hid fun ha B hB => by
      cases B
      · exact dig_not.2 fun hd => by have := hB.2 hd.2.2; cases this
      · exact dig_iff.2 ⟨h1, ha, hB.1 rfl⟩
    have z1 : decide ((s.size : Int) < 1) = false := decide_eq_false (by omega)
    have z2 : decide ((300 : Int) < s.size) = false := decide_eq_false (by omega)
    go_enter Tryd.func37, Tryd.ntmps37
    go_wp2_with fail
    go_loop [3, 14] (fun _ i => ∃ k : Nat, i = .int .i64 k ∧ k ≤ s.size ∧ Hid (∀ j, j < k → 48 ≤ bt s j ∧ bt s j ≤ 57)) (fun _ i => s.size - (intOf i).toNat)
    case atStart => exact ⟨0, rfl, Nat.zero_le _, Lib.hid (fun j hj => by omega)⟩
    case round =>
      obtain ⟨k, rfl, hk, HA⟩ := hrel
      by_cases h2 : k < s.size
      · have hd1 : decide ((k : Int) < s.size) = true := decide_eq_true (by omega)
        have i1 : (0 : Int) ≤ (k : Int) ∧ (k : Int) < s.size := by omega
        have hb := bt_get h2
        by_cases hlo : (s[k].toNat : Int) < 48
        · have dlo : decide ((s[k].toNat : Int) < 48) = true := decide_eq_true hlo
          have HR := Lib.hid (HN.out k h2 (by omega))
          go_wp2
          go_ret
          exact ⟨by rw [HR.out]; rfl, rfl⟩
        · have dlo : decide ((s[k].toNat : Int) < 48) = false := decide_eq_false hlo
          by_cases hhi : 57 < (s[k].toNat : Int)
          · have dhi : decide (57 < (s[k].toNat : Int)) = true := decide_eq_true hhi
            have HR := Lib.hid (HN.out k h2 (by omega))
            go_wp2
            go_ret
            exact ⟨by rw [HR.out]; rfl, rfl⟩
          · have dhi : decide (57 < (s[k].toNat : Int)) = false := decide_eq_false hhi
            have HA2 : Hid (∀ j, j < k + 1 → 48 ≤ bt s j ∧ bt s j ≤ 57) := Lib.hid (fun j hj => by
              by_cases e : j = k
              · subst e; omega
              · exact HA.out j (by omega))
            clear HA hb
            go_wp2
            go_round
            case rel => exact ⟨k + 1, by go_num, by omega, HA2⟩
            case measure => simp [intOf]; omega
      · have hd1 : decide ((k : Int) < s.size) = false := decide_eq_false (by omega)
        obtain rfl : k = s.size := by omega
        have h0 : 0 < s.size := by omega
        have hb := bt_get h0
        have HE2 := Lib.hid (HE.out HA.out)
        clear HA HE HN
        by_cases hz : (s[0].toNat : Int) = 48
        · have dz : ((s[0].toNat : Int) != 48) = false := by simp [hz]
          by_cases h11 : s.size = 1
          · have d1 : ((s.size : Int) == 1) = true := by simp [h11]
            have HR := Lib.hid (HE2.out true ⟨fun _ => .inr h11, fun _ => rfl⟩)
            clear h11 hb hz
            go_wp2
            go_ret
            exact ⟨by rw [HR.out]; rfl, rfl⟩
          · have d1 : ((s.size : Int) == 1) = false := by rw [beq_eq_false_iff_ne]; omega
            have HR := Lib.hid (HE2.out false ⟨(fun h => by cases h), (fun h => by rcases h with h | h <;> omega)⟩)
            clear h11 hb hz
            go_wp2
            go_ret
            exact ⟨by rw [HR.out]; rfl, rfl⟩
        · have dz : ((s[0].toNat : Int) != 48) = true := by rw [bne_iff_ne]; exact hz
          have HR := Lib.hid (HE2.out true ⟨fun _ => .inl (by omega), fun _ => rfl⟩)
          clear hb hz
          go_wp2
          go_ret
          exact ⟨by rw [HR.out]; rfl, rfl⟩
  · have HB := Lib.hid (dig_not.2 fun h : DigOk s => h1 h.1)
    by_cases h2 : s.size < 1
    · have z1 : decide ((s.size : Int) < 1) = true := decide_eq_true (by omega)
      clear h1 h2
      go_enter Tryd.func37, Tryd.ntmps37
      go_wp2
      go_ret
      exact ⟨by rw [HB.out]; rfl, rfl⟩
    · have z1 : decide ((s.size : Int) < 1) = false := decide_eq_false (by omega)
      have z2 : decide ((300 : Int) < s.size) = true := decide_eq_true (by omega)
      clear h1 h2
      go_enter Tryd.func37, Tryd.ntmps37
      go_wp2
      go_ret
      exact ⟨by rw [HB.out]; rfl, rfl⟩
end Go.Proofs.YtaapmpjkcddababDoor
namespace Go.Proofs.YtaapmpjkcddababDoor
open Mth
/-- Half way round is -1. -/
theorem Rt.half {f w v : Int} {m : Nat} (h : Rt f w v (m + m)) : (w ^ m + 1) % P f = 0 := by
  have m0 : 0 < m := by have := h.n0; omega
  refine Classical.byContradiction fun hs => ?_
  have h1 : (w ^ m - 1) % P f ≠ 0 := fun e => by
    have : w ^ m % P f = 1 % P f := by
      have := emod_add_congr (p := P f) (a := w ^ m - 1) (b := 0) (c := 1) (d := 1) (by rw [e]; simp) rfl
      rwa [Int.sub_add_cancel, Int.zero_add] at this
    have := Nat.le_of_dvd m0 ((h.ord m).1 this)
    omega
  have := mul_nz h.h0 h.h8 h1 hs
  refine this ?_
  have e : (w ^ m - 1) * (w ^ m + 1) = w ^ (m + m) - 1 := by
    rw [Int.pow_add, Int.mul_add, Int.sub_mul, Int.sub_mul]
    omega
  rw [e]
  exact emod_zero_of_sub h.full
theorem rv_bit (b c : Nat) (hc : c < 2) : ∀ j, rv (2 * b + c) (j + 1) = c * 2 ^ j + rv b j
  | 0 => by simp [rv]; omega
  | j + 1 => by
    rw [rv, rv_bit b c hc j]
    show 2 * (c * 2 ^ j + rv b j) + (2 * b + c) / 2 ^ (j + 1) % 2 = c * 2 ^ (j + 1) + rv b (j + 1)
    rw [rv, Nat.pow_succ, Nat.mul_comm (2 ^ j) 2, ← Nat.div_div_eq_div_mul, show (2 * b + c) / 2 = b by omega, Nat.mul_add, ← Nat.mul_assoc c, Nat.mul_comm c 2, Nat.mul_assoc 2 c, Nat.add_assoc]
/-- After s levels: each block of 2^s is the transform of every 2^(k-s)-th number of X. -/
def Lev (f w : Int) (k s : Nat) (X V : Nat → Int) : Prop :=
  ∀ b t, b < 2 ^ (k - s) → t < 2 ^ s → V (b * 2 ^ s + t) % P f = sumN (fun u => X (rv b (k - s) + u * 2 ^ (k - s)) * w ^ (t * (u * 2 ^ (k - s)))) (2 ^ s) % P f
theorem Lev.start {f w : Int} {k : Nat} {X V : Nat → Int} (h : ∀ j, j < 2 ^ k → V j % P f = X (rv j k) % P f) : Lev f w k 0 X V := by
  intro b t hb ht
  have : t = 0 := by have : t < 1 := ht; omega
  subst this
  rw [Nat.sub_zero] at hb ⊢
  rw [show b * 2 ^ 0 + 0 = b by simp, h b hb]
  show _ = (sumN _ 0 + X (rv b k + 0 * 2 ^ k) * w ^ (0 * (0 * 2 ^ k))) % P f
  simp [sumN]
/-- One level. -/
theorem Lev.step {f w v : Int} {k s : Nat} {X V V' : Nat → Int} (hr : Rt f w v (2 ^ k)) (hs : s < k) (h : Lev f w k s X V)
    (hlo : ∀ b t, b < 2 ^ (k - s - 1) → t < 2 ^ s → V' (b * 2 ^ (s + 1) + t) % P f = (V (b * 2 ^ (s + 1) + t) + V (b * 2 ^ (s + 1) + t + 2 ^ s) * w ^ (t * 2 ^ (k - s - 1))) % P f)
    (hhi : ∀ b t, b < 2 ^ (k - s - 1) → t < 2 ^ s → V' (b * 2 ^ (s + 1) + t + 2 ^ s) % P f = (V (b * 2 ^ (s + 1) + t) - V (b * 2 ^ (s + 1) + t + 2 ^ s) * w ^ (t * 2 ^ (k - s - 1))) % P f) : Lev f w k (s + 1) X V' := by
  intro b t hb ht
  obtain ⟨m, hm⟩ : ∃ m, m = 2 ^ (k - s - 1) := ⟨_, rfl⟩
  obtain ⟨g, hg⟩ : ∃ g, g = 2 ^ s := ⟨_, rfl⟩
  have e1 : k - (s + 1) = k - s - 1 := by omega
  have e2 : k - s = k - s - 1 + 1 := by omega
  have p1 : (2 : Nat) ^ (k - s) = 2 * m := by rw [e2, Nat.pow_succ, hm, Nat.mul_comm]
  have p2 : (2 : Nat) ^ (s + 1) = 2 * g := by rw [Nat.pow_succ, hg, Nat.mul_comm]
  have p3 : (2 : Nat) ^ k = g * m + g * m := by
    have : k = s + (k - s - 1) + 1 := by omega
    rw [this, Nat.pow_succ, Nat.pow_add, ← hg, ← hm]
    omega
  have hr2 : Rt f w v (g * m + g * m) := by rw [← p3]; exact hr
  have hhalf := hr2.half
  rw [e1, ← hm] at hb
  rw [← hm] at hlo hhi
  rw [← hg] at hlo hhi
  rw [p2] at hlo hhi ht
  rw [e1, ← hm, p2]
  -- the two blocks below
  have r0 : rv (2 * b) (k - s) = rv b (k - s - 1) := by rw [e2]; have := rv_bit b 0 (by omega) (k - s - 1); simpa using this
  have r1 : rv (2 * b + 1) (k - s) = rv b (k - s - 1) + m := by rw [e2]; have := rv_bit b 1 (by omega) (k - s - 1); rw [Nat.one_mul, ← hm] at this; rw [show k - s - 1 + 1 - 1 = k - s - 1 by omega]; omega
  have LE : ∀ t, t < g → V (b * (2 * g) + t) % P f = sumN (fun u => X (rv b (k - s - 1) + u * (2 * m)) * w ^ (t * (u * (2 * m)))) g % P f := fun t ht => by
    have := h (2 * b) t (by rw [p1]; omega) (by rw [← hg]; exact ht)
    rw [r0, p1, ← hg, show 2 * b * g = b * (2 * g) by rw [Nat.mul_comm 2 b, Nat.mul_assoc]] at this
    exact this
  have LO : ∀ t, t < g → V (b * (2 * g) + t + g) % P f = sumN (fun u => X (rv b (k - s - 1) + m + u * (2 * m)) * w ^ (t * (u * (2 * m)))) g % P f := fun t ht => by
    have := h (2 * b + 1) t (by rw [p1]; omega) (by rw [← hg]; exact ht)
    rw [r1, p1, ← hg, show (2 * b + 1) * g + t = b * (2 * g) + t + g by rw [Nat.add_mul, Nat.mul_comm 2 b, Nat.mul_assoc]; omega] at this
    exact this
  -- the whole sum, split
  have split : ∀ t, sumN (fun u => X (rv b (k - s - 1) + u * m) * w ^ (t * (u * m))) (2 * g) = sumN (fun u => X (rv b (k - s - 1) + u * (2 * m)) * w ^ (t * (u * (2 * m)))) g + sumN (fun u => X (rv b (k - s - 1) + m + u * (2 * m)) * w ^ (t * (u * (2 * m)))) g * w ^ (t * m) := fun t => by
    rw [sumN_even, ← sumN_mul_r]
    congr 1
    · exact sumN_congr fun u _ => by rw [show 2 * u * m = u * (2 * m) by rw [Nat.mul_comm 2 u, Nat.mul_assoc]]
    · exact sumN_congr fun u _ => by
        rw [show (2 * u + 1) * m = m + u * (2 * m) by rw [Nat.add_mul, Nat.mul_comm 2 u, Nat.mul_assoc]; omega, ← Nat.add_assoc, Int.mul_assoc, ← Int.pow_add, ← Nat.mul_add, Nat.add_comm m]
  by_cases htg : t < g
  · rw [hlo b t hb htg, split t]
    exact emod_add_congr (LE t htg) (emod_mul_congr (LO t htg) rfl)
  · obtain ⟨r, rfl⟩ : ∃ r, t = r + g := ⟨t - g, by omega⟩
    have hrg : r < g := by omega
    rw [← Nat.add_assoc, hhi b r hb hrg, split (r + g)]
    -- w^((r+g) u 2m) = w^(r u 2m), w^((r+g) m) = - w^(r m)
    have x1 : ∀ u, w ^ ((r + g) * (u * (2 * m))) % P f = w ^ (r * (u * (2 * m))) % P f := fun u => hr2.exp (by
      rw [Nat.add_mul, show g * (u * (2 * m)) = (g * m + g * m) * u by rw [← Nat.mul_assoc, Nat.mul_comm g u, Nat.mul_assoc, Nat.mul_comm _ u, ← Nat.mul_add g, Nat.two_mul], Nat.add_mul_mod_self_left])
    have x2 : w ^ ((r + g) * m) % P f = (- w ^ (r * m)) % P f := by
      rw [Nat.add_mul, Int.pow_add]
      have : (w ^ (r * m) * w ^ (g * m)) % P f = (w ^ (r * m) * (-1)) % P f := emod_mul_congr rfl (by
        have := emod_add_congr (p := P f) (a := w ^ (g * m) + 1) (b := 0) (c := -1) (d := -1) (by rw [hhalf]; simp) rfl
        rw [Int.zero_add] at this
        rw [← this]
        congr 1
        omega)
      rw [this]
      congr 1
      omega
    have y1 : (sumN (fun u => X (rv b (k - s - 1) + u * (2 * m)) * w ^ ((r + g) * (u * (2 * m)))) g) % P f = V (b * (2 * g) + r) % P f := by
      rw [LE r hrg]
      exact sumN_mod fun u _ => emod_mul_congr rfl (x1 u)
    have y2 : (sumN (fun u => X (rv b (k - s - 1) + m + u * (2 * m)) * w ^ ((r + g) * (u * (2 * m)))) g) % P f = V (b * (2 * g) + r + g) % P f := by
      rw [LO r hrg]
      exact sumN_mod fun u _ => emod_mul_congr rfl (x1 u)
    have y3 := emod_add_congr y1 (emod_mul_congr y2 x2)
    rw [y3]
    congr 1
    rw [Int.mul_neg]
    omega
/-- All levels: the transform. -/
theorem Lev.last {f w : Int} {k : Nat} {X V : Nat → Int} (h : Lev f w k k X V) {t : Nat} (ht : t < 2 ^ k) : V t % P f = ftF w (2 ^ k) X t % P f := by
  have := h 0 t (by simp) ht
  rw [Nat.sub_self, Nat.zero_mul, Nat.zero_add] at this
  rw [this]
  unfold ftF
  congr 1
  exact sumN_congr fun u _ => by simp [rv]
end Go.Proofs.YtaapmpjkcddababDoor
namespace Go.Proofs.YtaapmpjkcddababDoor
open Mth
def VecOk (f : Int) (l : List Int) : Prop := (0 ≤ mLog l.length ∧ mLog l.length ≤ T f) ∧ ∀ j, j < l.length → 0 ≤ lf l j ∧ lf l j < P f
/-- The log of a vector. -/
theorem VecOk.log {f : Int} {l : List Int} (h : VecOk f l) : ∃ k : Nat, k ≤ 9 ∧ l.length = 2 ^ k ∧ mLog l.length = k ∧ hasK f k := by
  rcases log_cases (l.length : Int) with ⟨k, hk, hn, hl⟩ | ⟨_, hl⟩
  · refine ⟨k, hk, ?_, hl, (hasK_iff f k).2 ⟨by omega, by have := h.1.2; omega⟩⟩
    have e : ((2 ^ k : Nat) : Int) = 2 ^ k := by rw [Int.natCast_pow]; rfl
    omega
  · have := h.1.1
    omega
theorem VecOk.f08 {f : Int} {l : List Int} (h : VecOk f l) : 0 ≤ f ∧ f ≤ 8 := by
  obtain ⟨k, _, _, _, hk⟩ := h.log
  exact hk.1
theorem VecOk.pos {f : Int} {l : List Int} (h : VecOk f l) : 0 < l.length ∧ l.length ≤ 512 := by
  obtain ⟨k, hk, hn, _, _⟩ := h.log
  have : 2 ^ k ≤ 2 ^ 9 := Nat.pow_le_pow_right (by omega) hk
  have h0 : 0 < 2 ^ k := Nat.pow_pos (by omega)
  omega
theorem VecOk.lt {f : Int} {l : List Int} (h : VecOk f l) (j : Nat) : 0 ≤ lf l j ∧ lf l j < P f := by
  have h08 := h.f08
  have hp := P_bd h08.1 h08.2
  by_cases hj : j < l.length
  · exact h.2 j hj
  · rw [lf_out l (by omega)]; omega
/-- A list of the same length whose numbers are reduced is a vector. -/
theorem VecOk.tab {f : Int} {l : List Int} (h : VecOk f l) {n : Nat} (hn : n = l.length) (F : Nat → Int) (hF : ∀ j, j < n → 0 ≤ F j ∧ F j < P f) : VecOk f (tab n F) := by
  subst hn
  refine ⟨by rw [tab_len]; exact h.1, fun j hj => ?_⟩
  rw [tab_len] at hj
  rw [lf_tab, if_pos hj]
  exact hF j hj
end Go.Proofs.YtaapmpjkcddababDoor
namespace Go.Proofs.YtaapmpjkcddababDoor
open Mth
/-- Within one level: the blocks below B done, and of block B the first j pairs. -/
def stDone (h B j t : Nat) : Prop := t < B * (2 * h) ∨ (t < B * (2 * h) + 2 * h ∧ t % (2 * h) % h < j)
instance (h B j t : Nat) : Decidable (stDone h B j t) := inferInstanceAs (Decidable (_ ∨ _))
end Go.Proofs.YtaapmpjkcddababDoor
namespace Go.Proofs.YtaapmpjkcddababDoor
open Mth
/-- Zeros behind. -/
def padL (l : List Int) (n : Nat) : List Int := tab n (lf l)
theorem padL_len (l : List Int) (n : Nat) : (padL l n).length = n := tab_len _ _
theorem lf_padL (l : List Int) {n : Nat} (h : l.length ≤ n) (j : Nat) : lf (padL l n) j = lf l j := by
  unfold padL
  rw [lf_tab]
  by_cases hj : j < n
  · rw [if_pos hj]
  · rw [if_neg hj, lf_out l (by omega)]
end Go.Proofs.YtaapmpjkcddababDoor
namespace Go.Proofs.YtaapmpjkcddababDoor
open Go.RowKit
theorem wpList_copy_pad {w : World} {ops : Array Oper} {rest : List Oper} {o : Oper} {a : Act} {Q : Exit → Act → World → Prop} (hgd : o.guard = none) (d s : Operand)
    (ho : o.op = .call { callee := .builtin .copy, args := #[d, s], argTypes := #[36, 36] }) (N m cap1 cap2 : Nat) (a2 : Option Addr) (F : Nat → Int)
    (hd : a.eval d = .slice (some ⟨w.heap.size, 0, none⟩) N cap1) (hs : a.eval s = .slice a2 m cap2) (hmN : m ≤ N) (hsrc : Src w a2 m F)
    (h : ∀ w', Hid (Own w' w.heap.size N (fun j => if 0 ≤ j ∧ j < 0 + m then F (j - 0) else 0)) → Below w.heap.size w w' → wpList Tryd.prog ops Q rest (a.put o.dst (goInt m)) w') :
    wpList Tryd.prog ops Q (o :: rest) a (w.alloc (.cells (madeCells #[.int .i64 0] N) 3)) := by
  refine wpList_copy_splice hgd d s 36 36 ho 3 Tryd.underlying36 size3 (some ⟨w.heap.size, 0, none⟩) a2 N cap1 m cap2 hd hs w.heap.size 0 (madeCells #[.int .i64 0] N).toList 3 (by unfold World.alloc; simp) (xsF F m) (by rw [xsF_len]; exact (Nat.min_eq_left hmN).symm) ?_ (by rw [xsF_len, made_len]; omega) xsF_one w.heap.size w ((Below.refl _ _).alloc (Nat.le_refl _) _) (Nat.le_refl _) (fun w' hg hb => ?_)
  · intro hpos
    rw [xsF_len] at hpos
    refine ⟨rfl, ?_⟩
    rcases hsrc with hz | ⟨b, off2, rfl, hlt, hc⟩
    · omega
    · refine ⟨_, rfl, fun j v hv => ?_⟩
      obtain ⟨hj, rfl⟩ := xsF_at hv
      rw [add_at]
      exact (((Below.refl _ w).alloc (Nat.le_refl _) _).cell (p := ⟨b, off2 + j, none⟩) hlt).trans (hc j (by omega))
  · rw [xsF_len]
    exact h w' (Lib.hid (own_splice (by omega) hg.out)) hb
theorem padded_c (a : Option Addr) (l : List Int) (cap N : Nat) (w : World) (hl : l.length ≤ N) (hN : N ≤ 1048576) (hs : Src w a l.length (lf l)) : Calls Tryd.prog 84 #[.slice a l.length cap, .int .i64 N] w (OwnG w (padL l N)) := by
  have hmk := made_n N hN
  have HS := Lib.hid hs
  have HO : Hid (∀ w', Own w' w.heap.size N (fun j => if j < l.length then lf l j else 0) → Below w.heap.size w w' → OwnG w (padL l N) (.returned (.slice (some ⟨w.heap.size, 0, none⟩) N N)) w') := Lib.hid fun w' ho hb => OwnG.of_own ho (padL_len l N).symm (Nat.le_refl _) (fun j hj => by
    unfold padL
    rw [lf_tab, if_pos hj]
    by_cases hjl : j < l.length
    · rw [if_pos hjl]
    · rw [if_neg hjl, lf_out l (by omega)]) hb
  clear hs
  go_enter Tryd.func84, Tryd.ntmps84
  go_wp2_with (with_reducible refine wpList_copy_pad rfl _ _ rfl N l.length N cap _ (lf l) rfl rfl hl HS.out ?_)
  intro w2 H2 hb
  have HR := Lib.hid (HO.out w2 H2.out hb)
  clear hmk H2 HO
  go_wp2
  go_ret
  exact HR.out
end Go.Proofs.YtaapmpjkcddababDoor
namespace Go.Proofs.YtaapmpjkcddababDoor
open Go.RowKit
def TextB (w : World) (s : ByteArray) (b : Bool) (e : Ending) (w' : World) : Prop := e = .returned (.tuple #[.string s, .bool b]) ∧ Below w.heap.size w w'
open Classical in
noncomputable def mAddText0 (a b : ByteArray) : ByteArray := if DigOk a ∧ DigOk b then txtOf (numV a + numV b) else ⟨#[]⟩
open Classical in
noncomputable def mAddText1 (a b : ByteArray) : Bool := decide (DigOk a ∧ DigOk b)
end Go.Proofs.YtaapmpjkcddababDoor
namespace Go.Proofs.YtaapmpjkcddababDoor
open Go.RowKit
theorem sText_mul (x : Option Addr) (cap : Nat) (a b : ByteArray) (w : World) (ha : DigOk a) (hb : DigOk b) (hs : Src w x (mulD a b).length (lf (mulD a b))) :
    Calls Tryd.prog 70 #[.slice x (mulD a b).length cap] w fun e w' => e = .returned (.string (txtOf (numV a * numV b))) ∧ Below w.heap.size w w' ∧ TxtOf (numV a * numV b) (txtOf (numV a * numV b)) := by
  have hl : (mulD a b).length = a.size + b.size := tab_len _ _
  have h1 := ha.1
  have h2 := hb.1
  refine (sText x (mulD a b) cap w (by omega) (by omega) (mulD_bd ha hb) hs).mono fun e w' h => ?_
  obtain ⟨r1, r2, r3⟩ := h.txt
  rw [mulD_num] at r1 r3
  exact ⟨r1, r2, r3⟩
set_option maxRecDepth 100000 in
set_option maxHeartbeats 3200000 in
theorem sMul5 (a b : ByteArray) (w : World) (ha : DigOk a) (hb : DigOk b) :
    Calls Tryd.prog 36 #[.string a, .string b] w fun e w' => e = .returned (.string (txtOf (numV a * numV b))) ∧ Below w.heap.size w w' ∧ TxtOf (numV a * numV b) (txtOf (numV a * numV b)) := by
  obtain ⟨i0, hi, hz0, hz1, hz2⟩ := info_parts info3
  have HI := Lib.hid hi
  have HZ0 := Lib.hid hz0
  have HZ1 := Lib.hid hz1
  have HZ2 := Lib.hid hz2
  clear hi hz0 hz1 hz2
  have HSA := ha.1
  have HSB := hb.1
  have D1 : Hid (∀ w2, Calls Tryd.prog 68 #[.string a] w2 (OwnsL w2 (digL a))) := Lib.hid fun w2 => sDs a w2 (by omega)
  have D2 : Hid (∀ w2, Calls Tryd.prog 68 #[.string b] w2 (OwnsL w2 (digL b))) := Lib.hid fun w2 => sDs b w2 (by omega)
  have HT : Hid (∀ (x : Option Addr) (cap : Nat) (w2 : World), Src w2 x (mulD a b).length (lf (mulD a b)) → Calls Tryd.prog 70 #[.slice x (mulD a b).length cap] w2 fun e w' => e = .returned (.string (txtOf (numV a * numV b))) ∧ Below w2.heap.size w2 w' ∧ TxtOf (numV a * numV b) (txtOf (numV a * numV b))) := Lib.hid fun x cap w2 hs => sText_mul x cap a b w2 ha hb hs
  have HLA : Hid ((digL a).length = a.size) := Lib.hid (digL_len a)
  have HLB : Hid ((digL b).length = b.size) := Lib.hid (digL_len b)
  have HFA : Hid (lf (digL a) = digF a) := Lib.hid (lf_digL a)
  have HFB : Hid (lf (digL b) = digF b) := Lib.hid (lf_digL b)
  have H9A := Lib.hid (dig9 ha)
  have H9B := Lib.hid (dig9 hb)
  have HBD : Hid (∀ i k : Nat, 0 ≤ cpar (digF a) (digF b) i k ∧ cpar (digF a) (digF b) i k ≤ 81 * (k : Int)) := Lib.hid fun i k => cpar9 (dig9 ha) (dig9 hb) i k
  have HA2 : Hid (∀ j, a.size ≤ j → digF a j = 0) := Lib.hid fun j hj => digF_out hj
  have HOD : Hid (∀ (W W' : World) (v : Value) (N : Nat), N = a.size + b.size → W'.ownsRow W.heap.size 3 1 v N (xsF (fun i => cv i (digF a) (digF b)) N) → Below W.heap.size W W' → OwnsL W (mulD a b) (.returned v) W') := Lib.hid fun W W' v N hN h hb => owns_to h (by rw [hN]; exact (tab_len _ _).symm) (fun j hj => by unfold mulD; rw [lf_tab, if_pos (by omega)]) hb
  clear ha hb
  generalize txtOf (numV a * numV b) = T at *
  generalize numV a * numV b = V at *
  go_enter Tryd.func36, Tryd.ntmps36
  go_wp2_with fail
  refine (D1.out _).mono ?_
  rintro e w1 ho1
  obtain ⟨x1, c1, rfl, hS1, hB1⟩ := ho1.list
  clear ho1
  go_wp2_with fail
  refine (D2.out _).mono ?_
  rintro e w2 ho2
  obtain ⟨x2, c2, rfl, hS2, hB2⟩ := ho2.list
  clear ho2
  have hS3 := hS1.keep hB2
  rw [HLA.out, HFA.out] at hS3
  obtain ⟨b1, off, rfl, hlt, hc⟩ : ∃ b1 off, x1 = some ⟨b1, off, none⟩ ∧ b1 < w2.heap.size ∧ ∀ j, j < a.size → w2.cell? ⟨b1, off + j, none⟩ = some (.int .i64 (digF a j)) := by
    rcases hS3 with h | ⟨b1, off, h1, h2, h3⟩
    · omega
    · exact ⟨b1, off, h1, h2, h3⟩
  have HC := Lib.hid hc
  have HS2 := Lib.hid hS2
  have HAT : Hid (∀ (k i : Nat) (w3 : World), i ≤ k → Below w2.heap.size w2 w3 → Calls Tryd.prog 69 #[.slice x2 b.size c2, .int .i64 ((k : Int) - i)] w3 fun e w' => e = .returned (.int .i64 (digF b (k - i))) ∧ w3 = w') := Lib.hid fun k i w3 hik hb => by
    have R := at_c x2 (digL b) c2 (k - i) w3 (by rw [HLB.out]; omega) (HS2.out.keep hb)
    rw [HLB.out, HFB.out, show (((k - i : Nat)) : Int) = (k : Int) - i by omega] at R
    exact R
  rw [HLA.out, HLB.out]
  have HBW : Hid (Below w.heap.size w w2) := Lib.hid (hB1.trans (hB2.mono hB1.size))
  clear hS1 hS2 hS3 HS2 HFA HFB hc
  generalize digF a = A at *
  generalize digF b = B at *
  generalize a.size = n at *
  generalize b.size = m at *
  obtain ⟨N, hN⟩ : ∃ N, n + m = N := ⟨_, rfl⟩
  rw [hN] at HOD
  go_wp2_with fail
  go_loopw [7, 8, 9, 10] (fun v i _ _ wr => ∃ k : Nat, i = .int .i64 k ∧ k ≤ N ∧ wr.ownsRow w2.heap.size 3 1 v k (xsF (fun k => cv k A B) k) ∧ Below w2.heap.size w2 wr) (fun _ i _ _ _ => N - (intOf i).toNat)
  case atStart => exact ⟨0, rfl, Nat.zero_le _, own_empty w2 _, (Below.refl _ _).alloc (Nat.le_refl _) _⟩
  case round =>
    obtain ⟨k, rfl, hk, hown, hnx⟩ := hrel
    by_cases h1 : k < N
    · have hd1 : decide ((k : Int) < (n : Int) + m) = true := decide_eq_true (by omega)
      have HOWN := Lib.hid hown
      clear hown
      go_wp2_with fail
      go_loopw [9, 10] (fun s j wr2 => ∃ i : Nat, j = .int .i64 i ∧ i ≤ n ∧ i ≤ k + 1 ∧ s = .int .i64 (cpar A B k i) ∧ ∃ p, wr2 = wr.drewN p) (fun _ j _ => n - (intOf j).toNat)
      case atStart => exact ⟨0, rfl, Nat.zero_le _, Nat.zero_le _, by simp [cpar, sumN], 0, rfl⟩
      case round =>
        obtain ⟨i, rfl, hin, hik, rfl, p, rfl⟩ := hrel
        have hbq := below_drewN hnx p
        by_cases h2 : i ≤ k
        · have hd2 : decide ((i : Int) ≤ k) = true := decide_eq_true (by omega)
          by_cases h3 : i < n
          · have hd3 : decide ((i : Int) < n) = true := decide_eq_true (by omega)
            have d1 : wr.cell? ⟨b1, off + i, none⟩ = some (.int .i64 (A i)) := (hnx.cell (p := ⟨b1, off + i, none⟩) hlt).trans (HC.out i h3)
            have bA := H9A.out i
            have bB := H9B.out (k - i)
            have pb := prod9 bA.1 bA.2 bB.1 bB.2
            have sb := HBD.out k i
            have HS := Lib.hid (cpar_step (A := A) (B := B) h2)
            have HATk : Hid (∀ p2, Calls Tryd.prog 69 #[.slice x2 m c2, .int .i64 ((k : Int) - i)] (wr.drewN (p + p2)) fun e w' => e = .returned (.int .i64 (B (k - i))) ∧ ∃ n, w' = wr.drewN (p + n)) := Lib.hid fun p2 => (HAT.out k i _ h2 (below_drewN hnx (p + p2))).mono fun _ _ h => ⟨h.1, p2, h.2.symm⟩
            have q1 : IntKind.i64.wrap ((k : Int) - i) = (k : Int) - i := IntWalk.i64_in _ (by omega)
            have q5 : IntKind.i64.wrap (A i * B (k - i)) = A i * B (k - i) := IntWalk.i64_in _ (by omega)
            generalize cpar A B k i = X at *
            have q6 : IntKind.i64.wrap (X + A i * B (k - i)) = X + A i * B (k - i) := IntWalk.i64_in _ (by omega)
            go_wp2
            go_quiet ((go_at_call 69; exact HATk.out _))
            go_wp2
            go_roundw
            case rel => exact ⟨i + 1, by go_num, by omega, by omega, vint HS.out, _, rfl⟩
            case measure => simp [intOf]; omega
          · have hd3 : decide ((i : Int) < n) = false := decide_eq_false (by omega)
            have HE := Lib.hid (cpar_done (B := B) HA2.out (k := k) (i := i) (.inr (by omega)))
            have hown : (wr.drewN p).ownsRow w2.heap.size 3 1 _ k (xsF (fun k => cv k A B) k) := HOWN.out
            have hs := hbq.size
            have hqs : (wr.drewN p).heap.size = wr.heap.size := rfl
            go_wp2_with (at_builtin; refine wpList_append_own _ rfl _ _ 36 rfl w2.heap.size 3 i0 (.int .i64 0) 1 8 Tryd.underlying36 HI.out HZ0.out HZ1.out HZ2.out rfl (by decide) _ _ _ rfl (hown.alloc _) ⟨(wr.drewN p).heap.size, 0, none⟩ 1 1 [.int .i64 (cpar A B k i)] rfl rfl ?c1 ?c2 ?c3 ?c4 ?c5 ?_)
            case c1 => exact cell_one_new _ _ _
            case c2 => intro u hu; simp at hu; subst hu; rfl
            case c3 => unfold maxLen; omega
            case c4 => omega
            case c5 => simp; omega
            intro v' w1 hown' hgrow _
            have hbel : Below w2.heap.size w2 w1 := (hbq.alloc hs _).grown hgrow (by simp; omega) (own_ge hown)
            rw [vint HE.out, xsF_succ (fun k => cv k A B)] at hown'
            clear hgrow hown HOWN
            go_wp2
            go_roundw
            case rel => exact ⟨k + 1, by go_num, by omega, hown', hbel⟩
            case measure => simp [intOf]; omega
        · have hd2 : decide ((i : Int) ≤ k) = false := decide_eq_false (by omega)
          have HE := Lib.hid (cpar_done (B := B) HA2.out (k := k) (i := i) (.inl (by omega)))
          have hown : (wr.drewN p).ownsRow w2.heap.size 3 1 _ k (xsF (fun k => cv k A B) k) := HOWN.out
          have hs := hbq.size
          have hqs : (wr.drewN p).heap.size = wr.heap.size := rfl
          go_wp2_with (at_builtin; refine wpList_append_own _ rfl _ _ 36 rfl w2.heap.size 3 i0 (.int .i64 0) 1 8 Tryd.underlying36 HI.out HZ0.out HZ1.out HZ2.out rfl (by decide) _ _ _ rfl (hown.alloc _) ⟨(wr.drewN p).heap.size, 0, none⟩ 1 1 [.int .i64 (cpar A B k i)] rfl rfl ?d1 ?d2 ?d3 ?d4 ?d5 ?_)
          case d1 => exact cell_one_new _ _ _
          case d2 => intro u hu; simp at hu; subst hu; rfl
          case d3 => unfold maxLen; omega
          case d4 => omega
          case d5 => simp; omega
          intro v' w1 hown' hgrow _
          have hbel : Below w2.heap.size w2 w1 := (hbq.alloc hs _).grown hgrow (by simp; omega) (own_ge hown)
          rw [vint HE.out, xsF_succ (fun k => cv k A B)] at hown'
          clear hgrow hown HOWN
          go_wp2
          go_roundw
          case rel => exact ⟨k + 1, by go_num, by omega, hown', hbel⟩
          case measure => simp [intOf]; omega
    · have hd : decide ((k : Int) < (n : Int) + m) = false := decide_eq_false (by omega)
      have hkN : k = N := by omega
      obtain ⟨x3, c3, hv, hS3, _⟩ := (HOD.out w2 wr _ k hkN hown hnx).list
      have hv2 := Ending.returned.inj hv
      rw [hv2]
      have HX := Lib.hid (HT.out x3 c3 wr hS3)
      have HBR : Hid (Below w.heap.size w wr) := Lib.hid (HBW.out.trans (hnx.mono HBW.out.size))
      clear hown hS3 hv hv2
      go_wp2_with fail
      refine HX.out.mono ?_
      rintro e w3 ⟨rfl, hB3, hT⟩
      have HTT := Lib.hid hT
      clear hT
      go_wp2
      go_ret
      exact ⟨rfl, HBR.out.trans (hB3.mono HBR.out.size), HTT.out⟩
open Classical in
noncomputable def mMulText0 (a b : ByteArray) : ByteArray := if DigOk a ∧ DigOk b then txtOf (numV a * numV b) else ⟨#[]⟩
open Classical in
noncomputable def mMulText1 (a b : ByteArray) : Bool := decide (DigOk a ∧ DigOk b)
theorem sMulText_on (a b : ByteArray) (w : World) (ha : DigOk a) (hb : DigOk b) :
    Calls Tryd.prog 9 #[.string a, .string b] w (TextB w (txtOf (numV a * numV b)) true) := by
  have HSA := ha.1
  have HSB := hb.1
  have G1 := sDigitsOk a w (by omega)
  rw [dig_iff.2 ha] at G1
  have G2 := sDigitsOk b w (by omega)
  rw [dig_iff.2 hb] at G2
  have G3 := sMul5 a b w ha hb
  clear ha hb HSA HSB
  go_enter Tryd.func9, Tryd.ntmps9
  go_wp2_with fail
  refine G1.mono ?_
  rintro e w' ⟨rfl, rfl⟩
  go_wp2_with fail
  refine G2.mono ?_
  rintro e w' ⟨rfl, rfl⟩
  go_wp2_with fail
  refine G3.mono ?_
  rintro e w' ⟨rfl, hB, _⟩
  go_wp2
  go_ret2
  exact ⟨rfl, hB⟩
theorem sMulText_off (a b : ByteArray) (w : World) (hna : a.size ≤ 1048576) (hnb : b.size ≤ 1048576) (h : ¬ (DigOk a ∧ DigOk b)) :
    Calls Tryd.prog 9 #[.string a, .string b] w (TextB w ⟨#[]⟩ false) := by
  by_cases ha : DigOk a
  · have hb : ¬ DigOk b := fun hb => h ⟨ha, hb⟩
    have G1 := sDigitsOk a w hna
    rw [dig_iff.2 ha] at G1
    have G2 := sDigitsOk b w hnb
    rw [dig_not.2 hb] at G2
    clear ha hb h hna hnb
    go_enter Tryd.func9, Tryd.ntmps9
    go_wp2_with fail
    refine G1.mono ?_
    rintro e w' ⟨rfl, rfl⟩
    go_wp2_with fail
    refine G2.mono ?_
    rintro e w' ⟨rfl, rfl⟩
    go_wp2
    go_ret2
    exact ⟨rfl, Below.refl _ _⟩
  · have G1 := sDigitsOk a w hna
    rw [dig_not.2 ha] at G1
    clear ha h hna hnb
    go_enter Tryd.func9, Tryd.ntmps9
    go_wp2_with fail
    refine G1.mono ?_
    rintro e w' ⟨rfl, rfl⟩
    go_wp2
    go_ret2
    exact ⟨rfl, Below.refl _ _⟩
theorem sMulText (a b : ByteArray) (w : World) (hna : a.size ≤ 1048576) (hnb : b.size ≤ 1048576) :
    Calls Tryd.prog 9 #[.string a, .string b] w (TextB w (mMulText0 a b) (mMulText1 a b)) := by
  by_cases h : DigOk a ∧ DigOk b
  · rw [show mMulText0 a b = txtOf (numV a * numV b) by unfold mMulText0; rw [if_pos h], show mMulText1 a b = true by unfold mMulText1; simp [h]]
    exact sMulText_on a b w h.1 h.2
  · rw [show mMulText0 a b = ⟨#[]⟩ by unfold mMulText0; rw [if_neg h], show mMulText1 a b = false by unfold mMulText1; simp only [h, decide_false]]
    exact sMulText_off a b w hna hnb h
end Go.Proofs.YtaapmpjkcddababDoor
namespace Go.Proofs.YtaapmpjkcddababDoor
open Go.RowKit
@[irreducible] def bigT : Int := 10 ^ 300
theorem TxtOf.digOk {v : Int} {s : ByteArray} (h : TxtOf v s) (hs : s.size ≤ 300) : DigOk s := by
  obtain ⟨⟨h1, h2, h3⟩, _⟩ := h
  refine ⟨⟨h2, hs⟩, fun j hj => ?_, ?_⟩
  · have e := digF_rev hj
    have := h1 (s.size - 1 - j) (by omega)
    omega
  · rcases h3 with h3 | h3
    · exact .inr h3
    · have e := digF_rev (s := s) (k := 0) (by omega)
      rw [show s.size - 1 - 0 = s.size - 1 by omega] at e
      exact .inl (by omega)
theorem DigOk.txt {s : ByteArray} (h : DigOk s) : TxtOf (numV s) s := ⟨h.can, rfl⟩
theorem TxtOf.small {v : Int} {s : ByteArray} (h : TxtOf v s) (hs : s.size ≤ 300) : 0 ≤ v ∧ v < bigT := by
  have b := dv_bd h.1.1
  have := pow10_mono hs
  have e : dv (digF s) s.size = v := h.2
  unfold bigT
  omega
theorem TxtOf.large {v : Int} {s : ByteArray} (h : TxtOf v s) (hs : 300 < s.size) : bigT ≤ v := by
  obtain ⟨n, hn⟩ : ∃ n, s.size = n + 1 := ⟨s.size - 1, by omega⟩
  have hc := h.1
  have e : dv (digF s) s.size = v := h.2
  rw [hn] at hc e
  have b := can_low hc (by omega)
  have := pow10_mono (show 300 ≤ n by omega)
  unfold bigT
  omega
theorem pow_up {A : Int} (hA : 1 ≤ A) {k n : Nat} (h : k ≤ n) : A ^ k ≤ A ^ n ∧ 1 ≤ A ^ k := by
  have pos : ∀ k : Nat, 1 ≤ A ^ k := fun k => by
    induction k with
    | zero => simp
    | succ k ih =>
      rw [Int.pow_succ]
      have := Int.mul_le_mul ih hA (by omega) (by omega)
      omega
  refine ⟨?_, pos k⟩
  induction n with
  | zero => rw [show k = 0 by omega]; exact Int.le_refl _
  | succ n ih =>
    by_cases e : k = n + 1
    · rw [e]; exact Int.le_refl _
    · have i1 := ih (by omega)
      rw [Int.pow_succ]
      have := Int.mul_le_mul_of_nonneg_left hA (show 0 ≤ A ^ n by have := pos n; omega)
      omega
theorem bigT_pos : 1 ≤ bigT := by
  unfold bigT
  have := pow10_pos 300
  omega
/-- The powers of a number below the bound. -/
theorem pow_large {A : Int} (hA : 0 ≤ A) {k n : Nat} (h : k + 1 ≤ n) (hb : bigT ≤ A ^ (k + 1)) : ¬ A ^ n < bigT := by
  by_cases h0 : A = 0
  · rw [h0, Int.pow_succ, Int.mul_zero] at hb
    have := bigT_pos
    omega
  · have := (pow_up (show 1 ≤ A by omega) h).1
    omega
theorem pow_stop {A : Int} {k n : Nat} (h : k + 1 ≤ n) (hz : A ^ (k + 1) = 0 ∨ A = 1) : A ^ (k + 1) = A ^ n := by
  rcases hz with hz | hz
  · obtain ⟨d, rfl⟩ : ∃ d, n = (k + 1) + d := ⟨n - (k + 1), by omega⟩
    rw [Int.pow_add A (k + 1) d, hz, Int.zero_mul]
  · rw [hz, Int.one_pow, Int.one_pow]
theorem str1 {s : ByteArray} {c : UInt8} (h : (s.toList == [c]) = true) : s = ⟨#[c]⟩ := by
  have e := beq_iff_eq.1 h
  rw [ByteArray.toList_eq] at e
  cases s with
  | mk d =>
    cases d with
    | mk l => exact congrArg (fun l : List UInt8 => (⟨⟨l⟩⟩ : ByteArray)) e
theorem num0 : numV ⟨#[48]⟩ = 0 := by decide
theorem num1 : numV ⟨#[49]⟩ = 1 := by decide
theorem txt_one : TxtOf 1 ⟨#[49]⟩ := ⟨⟨fun i hi => by
  have hi2 : i < 1 := hi
  obtain rfl : i = 0 := by omega
  decide, by decide, .inl rfl⟩, num1⟩
def PowOk (a : ByteArray) (e : Int) : Prop := DigOk a ∧ (0 ≤ e ∧ e ≤ 1000) ∧ numV a ^ e.toNat < bigT
open Classical in
noncomputable def mPowText0 (a : ByteArray) (e : Int) : ByteArray := if PowOk a e then txtOf (numV a ^ e.toNat) else ⟨#[]⟩
open Classical in
noncomputable def mPowText1 (a : ByteArray) (e : Int) : Bool := decide (PowOk a e)
theorem pow_yes {a : ByteArray} {e : Int} {s : ByteArray} (h : PowOk a e) (hs : TxtOf (numV a ^ e.toNat) s) : mPowText0 a e = s ∧ mPowText1 a e = true := by
  unfold mPowText0 mPowText1
  exact ⟨by rw [if_pos h]; exact txtOf_eq hs, by simp [h]⟩
theorem pow_no {a : ByteArray} {e : Int} (h : ¬ PowOk a e) : mPowText0 a e = ⟨#[]⟩ ∧ mPowText1 a e = false := by
  unfold mPowText0 mPowText1
  exact ⟨by rw [if_neg h], by simp only [h, decide_false]⟩
theorem text_b {w w' : World} {s s' : ByteArray} {b b' : Bool} (h : s' = s ∧ b' = b) (hb : Below w.heap.size w w') : TextB w s' b' (.returned (.tuple #[.string s, .bool b])) w' := by
  rw [h.1, h.2]
  exact ⟨rfl, hb⟩
set_option maxRecDepth 100000 in
set_option maxHeartbeats 3200000 in
theorem sPowText_on (a : ByteArray) (E : Nat) (w : World) (ha : DigOk a) (hE : E ≤ 1000) :
    Calls Tryd.prog 11 #[.string a, .int .i64 E] w (TextB w (mPowText0 a E) (mPowText1 a E)) := by
  have HSA := ha.1
  have G1 := sDigitsOk a w (by omega)
  rw [dig_iff.2 ha] at G1
  have G2 := in_c E 0 1000 w
  rw [show decide (0 ≤ (E : Int) ∧ (E : Int) ≤ 1000) = true from decide_eq_true (by omega)] at G2
  have HM : Hid (∀ (t : ByteArray) (k : Nat) (w2 : World), TxtOf (numV a ^ k) t → t.size ≤ 300 → Calls Tryd.prog 36 #[.string t, .string a] w2 fun e w' => ∃ u, e = .returned (.string u) ∧ Below w2.heap.size w2 w' ∧ TxtOf (numV a ^ (k + 1)) u) := Lib.hid fun t k w2 ht hs => by
    refine (sMul5 t a w2 (ht.digOk hs) ha).mono fun e w' h => ?_
    obtain ⟨h1, h2, h3⟩ := h
    rw [ht.2, ← Int.pow_succ] at h1 h3
    exact ⟨_, h1, h2, h3⟩
  have HN0 : Hid (0 ≤ numV a) := Lib.hid (ha.txt.small HSA.2).1
  have HYES : Hid (∀ s, s.size ≤ 300 → TxtOf (numV a ^ E) s → mPowText0 a E = s ∧ mPowText1 a E = true) := Lib.hid fun s hs h => pow_yes ⟨ha, by omega, by rw [Int.toNat_natCast]; exact (h.small hs).2⟩ (by rw [Int.toNat_natCast]; exact h)
  have HNO : Hid (∀ s (k : Nat), k < E → 300 < s.size → TxtOf (numV a ^ (k + 1)) s → mPowText0 a E = ⟨#[]⟩ ∧ mPowText1 a E = false) := Lib.hid fun s k hk hs h => pow_no fun hp => by
    have := hp.2.2
    rw [Int.toNat_natCast] at this
    exact pow_large HN0.out (show k + 1 ≤ E by omega) (h.large hs) this
  have HST : Hid (∀ s (k : Nat), k < E → TxtOf (numV a ^ (k + 1)) s → (s = ⟨#[48]⟩ ∨ a = ⟨#[49]⟩) → TxtOf (numV a ^ E) s) := Lib.hid fun s k hk h hq => by
    rw [← pow_stop (A := numV a) (show k + 1 ≤ E by omega) (by
      rcases hq with hq | hq
      · left; rw [← h.2, hq]; exact num0
      · right; rw [hq]; exact num1)]
    exact h
  clear ha
  generalize mPowText0 a E = R0 at *
  generalize mPowText1 a E = R1 at *
  go_enter Tryd.func11, Tryd.ntmps11
  go_wp2_with fail
  refine G1.mono ?_
  rintro e w' ⟨rfl, rfl⟩
  go_wp2_with fail
  refine G2.mono ?_
  rintro e w' ⟨rfl, rfl⟩
  clear G1 G2
  go_wp2_with fail
  go_loopw [6, 7] (fun s i wr => ∃ (k : Nat) (t : ByteArray), i = .int .i64 k ∧ s = .string t ∧ k ≤ E ∧ t.size ≤ 300 ∧ Hid (TxtOf (numV a ^ k) t) ∧ Below w.heap.size w wr) (fun _ i _ => E - (intOf i).toNat)
  case atStart => exact ⟨0, ⟨#[49]⟩, rfl, rfl, Nat.zero_le _, by decide, Lib.hid (by rw [Int.pow_zero]; exact txt_one), Below.refl _ _⟩
  case round =>
    obtain ⟨k, t, rfl, rfl, hk, ht, HTX, hnx⟩ := hrel
    by_cases h1 : k < E
    · have hd1 : decide ((k : Int) < E) = true := decide_eq_true (by omega)
      have HMk := Lib.hid (HM.out t k wr HTX.out ht)
      go_wp2_with fail
      refine HMk.out.mono ?_
      rintro e w2 ⟨u, rfl, hB2, hU⟩
      have HU := Lib.hid hU
      have hbel : Below w.heap.size w w2 := hnx.trans (hB2.mono hnx.size)
      clear hU HMk HTX
      by_cases h2 : 300 < u.size
      · have hd2 : decide ((300 : Int) < u.size) = true := decide_eq_true (by omega)
        go_wp2
        go_ret2
        exact text_b (HNO.out u k h1 h2 HU.out) hbel
      · have hd2 : decide ((300 : Int) < u.size) = false := decide_eq_false (by omega)
        cases hq : (u.toList == [48]) with
        | true =>
          have HR := Lib.hid (HYES.out u (by omega) (HST.out u k h1 HU.out (.inl (str1 hq))))
          go_wp2
          go_ret2
          exact text_b HR.out hbel
        | false =>
          cases hq2 : (a.toList == [49]) with
          | true =>
            have HR := Lib.hid (HYES.out u (by omega) (HST.out u k h1 HU.out (.inr (str1 hq2))))
            go_wp2
            go_ret2
            exact text_b HR.out hbel
          | false =>
            go_wp2
            go_roundw
            case rel => exact ⟨k + 1, u, by go_num, rfl, by omega, by omega, HU, hbel⟩
            case measure => simp [intOf]; omega
    · have hd1 : decide ((k : Int) < E) = false := decide_eq_false (by omega)
      obtain rfl : k = E := by omega
      go_wp2
      go_ret2
      exact text_b (HYES.out t ht HTX.out) hnx
end Go.Proofs.YtaapmpjkcddababDoor
namespace Go.Proofs.YtaapmpjkcddababDoor
open Go.RowKit
def TxtP (w : World) (v : Int) (e : Ending) (w' : World) : Prop := e = .returned (.string (txtOf v)) ∧ Below w.heap.size w w' ∧ TxtOf v (txtOf v)
theorem tm_terms {v : Int} {s : ByteArray} (h : TxtOf v s) (hs : s.size ≤ 4096) : TermsB (tmL s) := by
  refine ⟨by rw [tmL_len]; unfold tmN; omega, fun j => ?_⟩
  rw [lf_tmL]
  have := tmF_bd h.dig9 j
  omega
theorem productText_c {u v : Int} (a b : ByteArray) (w : World) (ht : Tab w) (ha : TxtOf u a) (hb : TxtOf v b) (sa : a.size ≤ 600) (sb : b.size ≤ 600) :
    Calls Tryd.prog 38 #[.string a, .string b] w (TxtP w (u * v)) := by
  have R1 := Lib.hid (termsOf_c a w ha (by omega))
  have R2 : Hid (∀ W, Calls Tryd.prog 72 #[.string b] W (OwnG W (tmL b))) := Lib.hid fun W => termsOf_c b W hb (by omega)
  have R3 : Hid (∀ (g1 g2 : Nat) (W : World), Below w.heap.size w W → Own W g1 (tmL a).length (lf (tmL a)) → Own W g2 (tmL b).length (lf (tmL b)) → Calls Tryd.prog 54 #[.slice (some ⟨g1, 0, none⟩) (tmL a).length (tmL a).length, .slice (some ⟨g2, 0, none⟩) (tmL b).length (tmL b).length] W (OwnG W (ceL (tmL a) (tmL b)))) := Lib.hid fun g1 g2 W hW h1 h2 => convolve_c _ _ _ _ _ _ W (ht.below hW) (tm_terms ha (by omega)) (tm_terms hb (by omega)) h1.src h2.src
  have R4 : Hid (∀ (g : Nat) (W : World), Own W g (ceL (tmL a) (tmL b)).length (lf (ceL (tmL a) (tmL b))) → Calls Tryd.prog 71 #[.slice (some ⟨g, 0, none⟩) (ceL (tmL a) (tmL b)).length (ceL (tmL a) (tmL b)).length] W (TxtP W (u * v))) := Lib.hid fun g W ho => by
    have hl := ce_len ha.pos hb.pos
    have n1 : 0 < tmN a := by have := ha.pos; unfold tmN; omega
    have n2 : 0 < tmN b := by have := hb.pos; unfold tmN; omega
    have n3 : tmN a ≤ 100 := by unfold tmN; omega
    have n4 : tmN b ≤ 100 := by unfold tmN; omega
    refine (numeral_c (some ⟨g, 0, none⟩) (ceL (tmL a) (tmL b)) (ceL (tmL a) (tmL b)).length W (by omega) (by omega) (ce_bd ha.dig9 hb.dig9 sa) ho.src).mono fun e w' h => ?_
    have := h.txt
    rw [nm_spread, nm_mul ha.pos hb.pos, ha.2, hb.2] at this
    exact this
  clear ha hb ht
  generalize ceL (tmL a) (tmL b) = C at *
  generalize tmL a = A at *
  generalize tmL b = B at *
  go_enter Tryd.func38, Tryd.ntmps38
  go_wp2_with fail
  refine R1.out.mono ?_
  rintro e w1 ⟨g1, rfl, q1, o1, b1⟩
  go_wp2_with fail
  refine (R2.out _).mono ?_
  rintro e w2 ⟨g2, rfl, q2, o2, b2⟩
  have b3 := below_up b1 b2 b1.size
  have o3 := o1.keep b2
  clear o1 b1 b2
  go_wp2_with fail
  refine (R3.out g1 g2 _ b3 o3 o2).mono ?_
  rintro e w4 ⟨g4, rfl, q4, o4, b4⟩
  have b5 := below_up b3 b4 b3.size
  clear o3 o2 b3 b4
  go_wp2_with fail
  refine (R4.out g4 _ o4).mono ?_
  rintro e w6 ⟨rfl, b6, hT⟩
  have HT := Lib.hid hT
  have b7 := below_up b5 b6 b5.size
  clear o4 b5 b6 hT
  go_wp2
  go_ret
  exact ⟨rfl, b7, HT.out⟩
/-- The row of a sum: the first k places have both terms. -/
def smF5 (A B : Nat → Int) (k j : Nat) : Int := if j < k then A j + B j else A j
theorem sm_set5 {W : World} {g n k : Nat} {A B : Nat → Int} (h : Own W g n (smF5 A B k)) : Own (W.setCell ⟨g, k, none⟩ (.int .i64 (A k + B k))) g n (smF5 A B (k + 1)) := by
  refine (World.rowIs.set h k (.int .i64 (A k + B k))).congr fun j _ => ?_
  unfold smF5
  by_cases e : j = k
  · subst e; simp
  · by_cases h2 : j < k
    · simp [e, h2, show j < k + 1 by omega]
    · simp [e, h2, show ¬ j < k + 1 by omega]
set_option maxRecDepth 100000 in
set_option maxHeartbeats 1600000 in
theorem sumText_n {u v : Int} (a b : ByteArray) (n m N : Nat) (w : World) (ha : TxtOf u a) (hb : TxtOf v b) (sa : a.size ≤ 600) (sb : b.size ≤ 600) (hna : tmN a = n) (hnb : tmN b = m) (hN : max n m = N) (bx : Bool) (hd : decide ((n : Int) < m) = bx) :
    Calls Tryd.prog 60 #[.string a, .string b] w (TxtP w (u + v)) := by
  have la := tmL_len a
  have lb := tmL_len b
  rw [hna] at la
  rw [hnb] at lb
  have R1 : Hid (Calls Tryd.prog 72 #[.string a] w fun e w' => ∃ g, e = .returned (.slice (some ⟨g, 0, none⟩) n n) ∧ w.heap.size ≤ g ∧ Own w' g n (lf (tmL a)) ∧ Below w.heap.size w w') := Lib.hid ((termsOf_c a w ha (by omega)).mono fun e w' h => by
    obtain ⟨g, h1, h2, h3, h4⟩ := h
    rw [la] at h1 h3
    exact ⟨g, h1, h2, h3, h4⟩)
  have R2 : Hid (∀ W, Calls Tryd.prog 72 #[.string b] W fun e w' => ∃ g, e = .returned (.slice (some ⟨g, 0, none⟩) m m) ∧ W.heap.size ≤ g ∧ Own w' g m (lf (tmL b)) ∧ Below W.heap.size W w') := Lib.hid fun W => ((termsOf_c b W hb (by omega)).mono fun e w' h => by
    obtain ⟨g, h1, h2, h3, h4⟩ := h
    rw [lb] at h1 h3
    exact ⟨g, h1, h2, h3, h4⟩)
  have n1 : 0 < n := by have := ha.pos; rw [← hna]; unfold tmN; omega
  have n3 : n ≤ 100 := by rw [← hna]; unfold tmN; omega
  have n4 : m ≤ 100 := by rw [← hnb]; unfold tmN; omega
  have R3 : Hid (∀ (g : Nat) (x : Int) (W : World), Own W g n (lf (tmL a)) → x = N → Calls Tryd.prog 84 #[.slice (some ⟨g, 0, none⟩) n n, .int .i64 x] W fun e w' => ∃ g, e = .returned (.slice (some ⟨g, 0, none⟩) N N) ∧ W.heap.size ≤ g ∧ Own w' g N (lf (tmL a)) ∧ Below W.heap.size W w') := Lib.hid fun g x W ho hx => by
    have := padded_c (some ⟨g, 0, none⟩) (tmL a) n N W (by omega) (by omega) (by rw [la]; exact ho.src)
    rw [la] at this
    rw [hx]
    refine this.mono fun e w' h => ?_
    obtain ⟨g, h1, h2, h3, h4⟩ := h
    rw [padL_len] at h1 h3
    exact ⟨g, h1, h2, own_congr h3 rfl (fun j hj => lf_padL (tmL a) (by omega) j), h4⟩
  have HE : Hid (∀ j, smF5 (lf (tmL a)) (lf (tmL b)) m j = tmF (digF a) j + tmF (digF b) j) := Lib.hid fun j => by
    unfold smF5
    rw [lf_tmL, lf_tmL]
    by_cases h : j < m
    · rw [if_pos h]
    · rw [if_neg h, tmF_out (D := digF b) (n := b.size) (fun i hi => digF_out hi) (by rw [← hnb] at h; unfold tmN at h; omega), Int.add_zero]
  have R4 : Hid (∀ (g : Nat) (W : World), Own W g N (smF5 (lf (tmL a)) (lf (tmL b)) m) → Calls Tryd.prog 71 #[.slice (some ⟨g, 0, none⟩) N N] W (TxtP W (u + v))) := Lib.hid fun g W ho => by
    have hl : (smL a b).length = N := by unfold smL; rw [tab_len, hna, hnb, hN]
    have ho2 : Own W g (smL a b).length (lf (smL a b)) := own_congr ho hl.symm (fun j hj => by
      rw [HE.out]
      unfold smL
      rw [lf_tab, hna, hnb, hN, if_pos hj])
    have := numeral_c (some ⟨g, 0, none⟩) (smL a b) N W (by omega) (by omega) (sm_bd ha.dig9 hb.dig9) ho2.src
    rw [hl] at this
    refine this.mono fun e w' h => ?_
    have h2 := h.txt
    rw [← hl, nm_spread, nm_sum, ha.2, hb.2] at h2
    exact h2
  have HA : Hid (∀ j, 0 ≤ lf (tmL a) j ∧ lf (tmL a) j < 1000000) := Lib.hid fun j => by rw [lf_tmL]; exact tmF_bd ha.dig9 j
  have HB : Hid (∀ j, 0 ≤ lf (tmL b) j ∧ lf (tmL b) j < 1000000) := Lib.hid fun j => by rw [lf_tmL]; exact tmF_bd hb.dig9 j
  clear ha hb HE la lb hna hnb
  generalize lf (tmL a) = A at *
  generalize lf (tmL b) = B at *
  have hmN : m ≤ N := by omega
  have hn8 : N ≤ 100 := by omega
  cases bx
  all_goals
    simp only [decide_eq_true_eq, decide_eq_false_iff_not] at hd
  · have d0 : decide ((n : Int) < m) = false := decide_eq_false hd
    have HX : Hid ((n : Int) = N) := Lib.hid (by omega)
    go_enter Tryd.func60, Tryd.ntmps60
    go_wp2_with fail
    refine R1.out.mono ?_
    rintro e w1 ⟨g1, rfl, q1, o1, b1⟩
    go_wp2_with fail
    refine (R2.out _).mono ?_
    rintro e w2 ⟨g2, rfl, q2, o2, b2⟩
    have b3 := below_up b1 b2 b1.size
    have o3 := o1.keep b2
    clear o1 b1 b2
    go_wp2_with fail
    refine (R3.out g1 _ _ o3 HX.out).mono ?_
    rintro e w4 ⟨g4, rfl, q4, o4, b4⟩
    have b5 := below_up b3 b4 b3.size
    have o5 := o2.keep b4
    have q5 : w.heap.size ≤ g4 := by have := b3.size; omega
    have q6 : g2 ≠ g4 := by have := o2.lt; omega
    have HO : Hid (Own w4 g4 N (smF5 A B 0)) := Lib.hid (own_congr o4 rfl (fun j _ => by unfold smF5; rw [if_neg (by omega)]))
    clear o3 o2 b3 b4 o4
    go_wp2_with fail
    go_loopw [8, 9, 23] (fun _ _ i wr => ∃ k : Nat, i = .int .i64 k ∧ k ≤ m ∧ Own wr g4 N (smF5 A B k) ∧ Own wr g2 m B ∧ Below w.heap.size w wr) (fun _ _ i _ => m - (intOf i).toNat)
    case atStart => exact ⟨0, rfl, Nat.zero_le _, HO.out, o5, b5⟩
    case round =>
      clear HO o5 b5
      obtain ⟨k, rfl, hk, ho, ho2, hb⟩ := hrel
      by_cases h1 : k < m
      · have hd1 : decide ((k : Int) < m) = true := decide_eq_true (by omega)
        have hkN : (k : Int) < N := by omega
        have c1 := World.rowIs.cell ho (show k < N by omega)
        have c2 := World.rowIs.cell ho2 h1
        have f1 := World.rowIs.frozen ho k
        have HS := Lib.hid (sm_set5 ho)
        have HS2 := Lib.hid (own_other (k := k) (v := .int .i64 (A k + B k)) ho2 q6)
        have e1 : smF5 A B k k = A k := by unfold smF5; rw [if_neg (by omega)]
        rw [e1] at c1
        have xa := HA.out k
        have xb := HB.out k
        clear ho ho2 e1
        go_wp2
        go_roundw
        case rel => exact ⟨k + 1, by go_num, by omega, HS.out, HS2.out, hb.setCell (p := ⟨g4, k, none⟩) q5 _⟩
        case measure => simp [intOf]; omega
      · have hd1 : decide ((k : Int) < m) = false := decide_eq_false (by omega)
        obtain rfl : k = m := by omega
        have HO := Lib.hid ho
        clear ho ho2
        go_wp2_with fail
        refine (R4.out g4 _ HO.out).mono ?_
        rintro e w6 ⟨rfl, b6, hT⟩
        have HT := Lib.hid hT
        have b7 := below_up hb b6 hb.size
        clear b6 hT
        go_wp2
        go_ret
        exact ⟨rfl, b7, HT.out⟩
  · have d0 : decide ((n : Int) < m) = true := decide_eq_true hd
    have HX : Hid ((m : Int) = N) := Lib.hid (by omega)
    go_enter Tryd.func60, Tryd.ntmps60
    go_wp2_with fail
    refine R1.out.mono ?_
    rintro e w1 ⟨g1, rfl, q1, o1, b1⟩
    go_wp2_with fail
    refine (R2.out _).mono ?_
    rintro e w2 ⟨g2, rfl, q2, o2, b2⟩
    have b3 := below_up b1 b2 b1.size
    have o3 := o1.keep b2
    clear o1 b1 b2
    go_wp2_with fail
    refine (R3.out g1 _ _ o3 HX.out).mono ?_
    rintro e w4 ⟨g4, rfl, q4, o4, b4⟩
    have b5 := below_up b3 b4 b3.size
    have o5 := o2.keep b4
    have q5 : w.heap.size ≤ g4 := by have := b3.size; omega
    have q6 : g2 ≠ g4 := by have := o2.lt; omega
    have HO : Hid (Own w4 g4 N (smF5 A B 0)) := Lib.hid (own_congr o4 rfl (fun j _ => by unfold smF5; rw [if_neg (by omega)]))
    clear o3 o2 b3 b4 o4
    go_wp2_with fail
    go_loopw [8, 9, 23] (fun _ _ i wr => ∃ k : Nat, i = .int .i64 k ∧ k ≤ m ∧ Own wr g4 N (smF5 A B k) ∧ Own wr g2 m B ∧ Below w.heap.size w wr) (fun _ _ i _ => m - (intOf i).toNat)
    case atStart => exact ⟨0, rfl, Nat.zero_le _, HO.out, o5, b5⟩
    case round =>
      clear HO o5 b5
      obtain ⟨k, rfl, hk, ho, ho2, hb⟩ := hrel
      by_cases h1 : k < m
      · have hd1 : decide ((k : Int) < m) = true := decide_eq_true (by omega)
        have hkN : (k : Int) < N := by omega
        have c1 := World.rowIs.cell ho (show k < N by omega)
        have c2 := World.rowIs.cell ho2 h1
        have f1 := World.rowIs.frozen ho k
        have HS := Lib.hid (sm_set5 ho)
        have HS2 := Lib.hid (own_other (k := k) (v := .int .i64 (A k + B k)) ho2 q6)
        have e1 : smF5 A B k k = A k := by unfold smF5; rw [if_neg (by omega)]
        rw [e1] at c1
        have xa := HA.out k
        have xb := HB.out k
        clear ho ho2 e1
        go_wp2
        go_roundw
        case rel => exact ⟨k + 1, by go_num, by omega, HS.out, HS2.out, hb.setCell (p := ⟨g4, k, none⟩) q5 _⟩
        case measure => simp [intOf]; omega
      · have hd1 : decide ((k : Int) < m) = false := decide_eq_false (by omega)
        obtain rfl : k = m := by omega
        have HO := Lib.hid ho
        clear ho ho2
        go_wp2_with fail
        refine (R4.out g4 _ HO.out).mono ?_
        rintro e w6 ⟨rfl, b6, hT⟩
        have HT := Lib.hid hT
        have b7 := below_up hb b6 hb.size
        clear b6 hT
        go_wp2
        go_ret
        exact ⟨rfl, b7, HT.out⟩
theorem sumText_c {u v : Int} (a b : ByteArray) (w : World) (ha : TxtOf u a) (hb : TxtOf v b) (sa : a.size ≤ 600) (sb : b.size ≤ 600) :
    Calls Tryd.prog 60 #[.string a, .string b] w (TxtP w (u + v)) := sumText_n a b _ _ _ w ha hb sa sb rfl rfl rfl _ rfl
theorem iMulText (a b : ByteArray) (w : World) (hna : a.size ≤ 1048576) (hnb : b.size ≤ 1048576) (ht : Tab w) :
    Calls Tryd.prog 10 #[.string a, .string b] w (TextB w (mMulText0 a b) (mMulText1 a b)) := by
  have G1 := iDigitsOk a w hna
  have G2 := iDigitsOk b w hnb
  by_cases ha : DigOk a
  · rw [dig_iff.2 ha] at G1
    by_cases hb : DigOk b
    · rw [dig_iff.2 hb] at G2
      rw [show mMulText0 a b = txtOf (numV a * numV b) by unfold mMulText0; rw [if_pos ⟨ha, hb⟩], show mMulText1 a b = true by unfold mMulText1; simp [ha, hb]]
      have G3 := productText_c a b w ht ha.txt hb.txt (by have := ha.1; omega) (by have := hb.1; omega)
      clear ha hb
      go_enter Tryd.func10, Tryd.ntmps10
      go_wp2_with fail
      refine G1.mono ?_
      rintro e w' ⟨rfl, rfl⟩
      go_wp2_with fail
      refine G2.mono ?_
      rintro e w' ⟨rfl, rfl⟩
      go_wp2_with fail
      refine G3.mono ?_
      rintro e w1 ⟨rfl, b1, _⟩
      go_wp2
      go_ret2
      exact ⟨rfl, b1⟩
    · rw [dig_not.2 hb] at G2
      rw [show mMulText0 a b = ⟨#[]⟩ by unfold mMulText0; rw [if_neg fun h => hb h.2], show mMulText1 a b = false by unfold mMulText1; simp [hb]]
      clear ha hb
      go_enter Tryd.func10, Tryd.ntmps10
      go_wp2_with fail
      refine G1.mono ?_
      rintro e w' ⟨rfl, rfl⟩
      go_wp2_with fail
      refine G2.mono ?_
      rintro e w' ⟨rfl, rfl⟩
      go_wp2
      go_ret2
      exact ⟨rfl, Below.refl _ _⟩
  · rw [dig_not.2 ha] at G1
    rw [show mMulText0 a b = ⟨#[]⟩ by unfold mMulText0; rw [if_neg fun h => ha h.1], show mMulText1 a b = false by unfold mMulText1; simp [ha]]
    clear ha G2
    go_enter Tryd.func10, Tryd.ntmps10
    go_wp2_with fail
    refine G1.mono ?_
    rintro e w' ⟨rfl, rfl⟩
    go_wp2
    go_ret2
    exact ⟨rfl, Below.refl _ _⟩
theorem iAddText (a b : ByteArray) (w : World) (hna : a.size ≤ 1048576) (hnb : b.size ≤ 1048576) :
    Calls Tryd.prog 29 #[.string a, .string b] w (TextB w (mAddText0 a b) (mAddText1 a b)) := by
  have G1 := iDigitsOk a w hna
  have G2 := iDigitsOk b w hnb
  by_cases ha : DigOk a
  · rw [dig_iff.2 ha] at G1
    by_cases hb : DigOk b
    · rw [dig_iff.2 hb] at G2
      rw [show mAddText0 a b = txtOf (numV a + numV b) by unfold mAddText0; rw [if_pos ⟨ha, hb⟩], show mAddText1 a b = true by unfold mAddText1; simp [ha, hb]]
      have G3 := sumText_c a b w ha.txt hb.txt (by have := ha.1; omega) (by have := hb.1; omega)
      clear ha hb
      go_enter Tryd.func29, Tryd.ntmps29
      go_wp2_with fail
      refine G1.mono ?_
      rintro e w' ⟨rfl, rfl⟩
      go_wp2_with fail
      refine G2.mono ?_
      rintro e w' ⟨rfl, rfl⟩
      go_wp2_with fail
      refine G3.mono ?_
      rintro e w1 ⟨rfl, b1, _⟩
      go_wp2
      go_ret2
      exact ⟨rfl, b1⟩
    · rw [dig_not.2 hb] at G2
      rw [show mAddText0 a b = ⟨#[]⟩ by unfold mAddText0; rw [if_neg fun h => hb h.2], show mAddText1 a b = false by unfold mAddText1; simp [hb]]
      clear ha hb
      go_enter Tryd.func29, Tryd.ntmps29
      go_wp2_with fail
      refine G1.mono ?_
      rintro e w' ⟨rfl, rfl⟩
      go_wp2_with fail
      refine G2.mono ?_
      rintro e w' ⟨rfl, rfl⟩
      go_wp2
      go_ret2
      exact ⟨rfl, Below.refl _ _⟩
  · rw [dig_not.2 ha] at G1
    rw [show mAddText0 a b = ⟨#[]⟩ by unfold mAddText0; rw [if_neg fun h => ha h.1], show mAddText1 a b = false by unfold mAddText1; simp [ha]]
    clear ha G2
    go_enter Tryd.func29, Tryd.ntmps29
    go_wp2_with fail
    refine G1.mono ?_
    rintro e w' ⟨rfl, rfl⟩
    go_wp2
    go_ret2
    exact ⟨rfl, Below.refl _ _⟩
end Go.Proofs.YtaapmpjkcddababDoor
namespace Go.Proofs.YtaapmpjkcddababDoor
open Go.RowKit
def NilB (w : World) (e : Ending) (w' : World) : Prop := e = .returned (.tuple #[.slice none 0 0, .bool false]) ∧ Below w.heap.size w w'
theorem NilB.list {w w' : World} {l : List Int} {b : Bool} {e : Ending} (hl : l = []) (hb : b = false) (h : NilB w e w') : ListLB w l b e w' := by
  subst hl; subst hb
  obtain ⟨rfl, hb⟩ := h
  exact ⟨none, 0, rfl, .inl rfl, hb⟩
theorem NilB.own {w w' : World} {l : List Int} {b : Bool} {e : Ending} (hl : l = []) (hb : b = false) (h : NilB w e w') : OwnLB w l b e w' := by
  subst hl; subst hb
  obtain ⟨rfl, hb⟩ := h
  exact ⟨none, 0, rfl, OwnA.nil rfl, hb⟩
theorem OwnG.finishB {w w' : World} {l : List Int} {g : Nat} (hg : w.heap.size ≤ g) (ho : Own w' g l.length (lf l)) (hb : Below w.heap.size w w') : OwnLB w l true (.returned (.tuple #[.slice (some ⟨g, 0, none⟩) l.length l.length, .bool true])) w' := ⟨_, _, rfl, .inr ⟨g, rfl, rfl, hg, ho⟩, hb⟩
set_option maxRecDepth 100000 in
set_option maxHeartbeats 1600000 in
theorem iMulPoly_on (f : Int) (a : Option Addr) (l : List Int) (cap : Nat) (a2 : Option Addr) (m : List Int) (cap2 : Nat) (w : World) (hn : l.length ≤ 1048576) (hn2 : m.length ≤ 1048576) (hs : Src w a l.length (lf l)) (hs2 : Src w a2 m.length (lf m)) (ht : Tab w) (hl : PolOk f l) (hm : PolOk f m) (hlen : l.length + m.length ≤ 401) :
    Calls Tryd.prog 23 #[.int .i64 f, .slice a l.length cap, .slice a2 m.length cap2] w (OwnLB w (mulL f l m) true) := by
  have HS := Lib.hid hs
  have HS2 := Lib.hid hs2
  have BA : Hid (∀ o, Below w.heap.size w (w.alloc o)) := Lib.hid fun o => (Below.refl _ _).alloc (Nat.le_refl _) o
  clear hs hs2
  have HB : Hid ((mPolyOk f l && mPolyOk f m) = true) := Lib.hid (by rw [pok_iff.2 hl, pok_iff.2 hm]; rfl)
  have h0 := hl.1.1
  have h8 := hl.1.2
  have HL := Lib.hid hl
  have HM := Lib.hid hm
  clear hl hm
  have hd : decide ((400 : Int) < (l.length : Int) + m.length - 1) = false := by simp; omega
  have l4 := HL.out.2.1
  have m4 := HM.out.2.1
  go_enter Tryd.func23, Tryd.ntmps23
  go_wp2_with fail
  refine (arePolys_c f w.heap.size a a2 l m cap cap2 _ hn hn2 (HS.out.keep (BA.out _)) (HS2.out.keep (BA.out _)) (ht.below (BA.out _)) (cell_two _ _ _ _).1 (cell_two _ _ _ _).2).mono ?_
  rintro e w' ⟨rfl, rfl⟩
  rw [HB.out]
  go_wp2_with fail
  refine (product_c f a a2 l m cap cap2 _ (ht.below (BA.out _)) h0 h8 (by omega) (by omega) HL.out.2.2 HM.out.2.2 (HS.out.keep (BA.out _)) (HS2.out.keep (BA.out _))).mono ?_
  rintro e w2 ho
  obtain ⟨g, rfl, hg, hO, hB⟩ := ho.up (BA.out _)
  have HO := Lib.hid hO
  clear hO ho
  go_wp2
  go_ret2
  exact OwnG.finishB hg HO.out hB
/-- Horner's sums. -/
def hz (f x : Int) (A : Nat → Int) (n : Nat) : Nat → Int
  | 0 => 0
  | t + 1 => RS (RS (hz f x A n t * x) (P f) + A (n - (t + 1))) (P f)
end Go.Proofs.YtaapmpjkcddababDoor
