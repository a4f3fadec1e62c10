/-
  Texts of the proofs of this seat, joined (part 1).
-/
import Derived.Test.YtaapmpjkcddabaaRows
import Derived.JoinedOf
import Derived.KernelRfl
import Derived.WalkKit
import Derived.WalkSpells
import Derived.WalkLawsBesides
import Derived.Lib.Hide
import Derived.Deep.QuietTactic
import Derived.BigQuiet
import Derived.Maps.AppendAt
import Derived.Deep.AppendLies
import Derived.OpenShut
import Derived.Deep.OwnRows
import Derived.Laws.CopyOwn
import Derived.Laws.IdiomStrings
namespace Go.Proofs.Ytaapmpjkcddabaa
set_option maxRecDepth 100000
theorem both {a b : Bool} (h : a = true) (k : b = true) : (a && b) = true := by rw [h, k]; rfl
theorem f_laidOut : laidOutB Try.prog = true := by kernel_rfl
theorem f_mapsRowed : mapsRowed Try.prog = true := by kernel_rfl
theorem f_stops : (Try.prog.stops == []) = true := by kernel_rfl
theorem f_knobs : (Try.prog.stopKnobs == []) = true := by kernel_rfl
theorem f_keys : (Rows.fnExactBoundRow.plainKeys == Try.prog.plainKeys) = true := by kernel_rfl
theorem f_heard : Try.prog.stopsHeard = true := by kernel_rfl
def headSigns : List Char := [Char.ofNat 104, Char.ofNat 97, Char.ofNat 114, Char.ofNat 110, Char.ofNat 101, Char.ofNat 115, Char.ofNat 115, Char.ofNat 32, Char.ofNat 99, Char.ofNat 51, Char.ofNat 51, Char.ofNat 50, Char.ofNat 55, Char.ofNat 49, Char.ofNat 48, Char.ofNat 56, Char.ofNat 53, Char.ofNat 51, Char.ofNat 99, Char.ofNat 97, Char.ofNat 53, Char.ofNat 57, Char.ofNat 101, Char.ofNat 49, Char.ofNat 99, Char.ofNat 49, Char.ofNat 99, Char.ofNat 98, Char.ofNat 101, Char.ofNat 53, Char.ofNat 55, Char.ofNat 54, Char.ofNat 53, Char.ofNat 49, Char.ofNat 102, Char.ofNat 48, Char.ofNat 49, Char.ofNat 100, Char.ofNat 48, Char.ofNat 101, Char.ofNat 50, Char.ofNat 101, Char.ofNat 54, Char.ofNat 55, Char.ofNat 48, Char.ofNat 56, Char.ofNat 100, Char.ofNat 55, Char.ofNat 101, Char.ofNat 57, Char.ofNat 51, Char.ofNat 51, Char.ofNat 57, Char.ofNat 52, Char.ofNat 100, Char.ofNat 101, Char.ofNat 54, Char.ofNat 50, Char.ofNat 97, Char.ofNat 48, Char.ofNat 97, Char.ofNat 49, Char.ofNat 98, Char.ofNat 102, Char.ofNat 101, Char.ofNat 48, Char.ofNat 97, Char.ofNat 50, Char.ofNat 57, Char.ofNat 52, Char.ofNat 50, Char.ofNat 53, Char.ofNat 32, Char.ofNat 99, Char.ofNat 117, Char.ofNat 116, Char.ofNat 32, Char.ofNat 97, Char.ofNat 116, Char.ofNat 32, Char.ofNat 108, Char.ofNat 111, Char.ofNat 111, Char.ofNat 112, Char.ofNat 46, Char.ofNat 101, Char.ofNat 120, Char.ofNat 97, Char.ofNat 109, Char.ofNat 112, Char.ofNat 108, Char.ofNat 101, Char.ofNat 47, Char.ofNat 103, Char.ofNat 48, Char.ofNat 48, Char.ofNat 55, Char.ofNat 49, Char.ofNat 48, Char.ofNat 47, Char.ofNat 108, Char.ofNat 97, Char.ofNat 119, Char.ofNat 115, Char.ofNat 46, Char.ofNat 70, Char.ofNat 110, Char.ofNat 69, Char.ofNat 120, Char.ofNat 97, Char.ofNat 99, Char.ofNat 116, Char.ofNat 66, Char.ofNat 111, Char.ofNat 117, Char.ofNat 110, Char.ofNat 100, Char.ofNat 32, Char.ofNat 108, Char.ofNat 111, Char.ofNat 111, Char.ofNat 112, Char.ofNat 46, Char.ofNat 101, Char.ofNat 120, Char.ofNat 97, Char.ofNat 109, Char.ofNat 112, Char.ofNat 108, Char.ofNat 101, Char.ofNat 47, Char.ofNat 103, Char.ofNat 48, Char.ofNat 48, Char.ofNat 55, Char.ofNat 49, Char.ofNat 48, Char.ofNat 47, Char.ofNat 108, Char.ofNat 97, Char.ofNat 119, Char.ofNat 115, Char.ofNat 46, Char.ofNat 70, Char.ofNat 110, Char.ofNat 69, Char.ofNat 120, Char.ofNat 97, Char.ofNat 99, Char.ofNat 116, Char.ofNat 68, Char.ofNat 105, Char.ofNat 103, Char.ofNat 105, Char.ofNat 116, Char.ofNat 115, Char.ofNat 79, Char.ofNat 107, Char.ofNat 32, Char.ofNat 108, Char.ofNat 111, Char.ofNat 111, Char.ofNat 112, Char.ofNat 46, Char.ofNat 101, Char.ofNat 120, Char.ofNat 97, Char.ofNat 109, Char.ofNat 112, Char.ofNat 108, Char.ofNat 101, Char.ofNat 47, Char.ofNat 103, Char.ofNat 48, Char.ofNat 48, Char.ofNat 55, Char.ofNat 49, Char.ofNat 48, Char.ofNat 47, Char.ofNat 108, Char.ofNat 97, Char.ofNat 119, Char.ofNat 115, Char.ofNat 46, Char.ofNat 70, Char.ofNat 110, Char.ofNat 69, Char.ofNat 120, Char.ofNat 97, Char.ofNat 99, Char.ofNat 116, Char.ofNat 67, Char.ofNat 111, Char.ofNat 109, Char.ofNat 112, Char.ofNat 97, Char.ofNat 114, Char.ofNat 101, Char.ofNat 84, Char.ofNat 101, Char.ofNat 120, Char.ofNat 116]
theorem init_is : Try.prog.initOrder = String.ofList headSigns := by kernel_rfl
theorem init_list : Try.prog.initOrder.toList = headSigns := by rw [init_is]; exact String.toList_ofList
theorem ws_word (a : List Char) (h : ∀ c, c ∈ a → c ≠ Char.ofNat 32) (r : List Char) : wordsSigns (a ++ Char.ofNat 32 :: r) = a :: wordsSigns r := by
  induction a with
  | nil => rfl
  | cons c a ih =>
    have hc : c ≠ Char.ofNat 32 := h c List.mem_cons_self
    have ih' := ih (fun c hc => h c (List.mem_cons_of_mem _ hc))
    show wordsSigns (c :: (a ++ Char.ofNat 32 :: r)) = (c :: a) :: wordsSigns r
    generalize wordsSigns r = t at *
    rw [wordsSigns, ih']
    intro e; exact hc e
def headA : List Char := headSigns.take 7
def headB : List Char := (headSigns.drop 8).take 64
def headC : List Char := (headSigns.drop 73).take 3
def headRest : List Char := headSigns.drop 77
theorem head_split : headSigns = headA ++ Char.ofNat 32 :: (headB ++ Char.ofNat 32 :: (headC ++ Char.ofNat 32 :: headRest)) := by kernel_rfl
theorem head_words : wordsSigns Try.prog.initOrder.toList = headA :: headB :: headC :: wordsSigns headRest := by
  rw [init_list, head_split, ws_word _ (by decide +kernel), ws_word _ (by decide +kernel), ws_word _ (by decide +kernel)]
theorem sum_is : "c332710853ca59e1c1cbe57651f01d0e2e6708d7e93394de62a0a1bfe0a29425" = String.ofList headB := by kernel_rfl
theorem sum_list : "c332710853ca59e1c1cbe57651f01d0e2e6708d7e93394de62a0a1bfe0a29425".toList = headB := by rw [sum_is]; exact String.toList_ofList
theorem behind_of (R : List (List Char)) : behindMainWord (headA :: headB :: headC :: R) = headC :: R := by kernel_rfl
theorem strip_of (R : List (List Char)) : stripLifts liftWords (headC :: R) = ([], headC :: R) := by kernel_rfl
section
variable {P : Program} {R : List (List Char)} (hw : wordsSigns P.initOrder.toList = headA :: headB :: headC :: R)
include hw
theorem main_gen : P.mainIs = some (true, headB) := by
  unfold Program.mainIs
  rw [hw]
  kernel_rfl
theorem lifts_gen : P.headLifts = [] := by
  unfold Program.headLifts
  rw [hw, behind_of, strip_of]
  kernel_rfl
theorem final_gen : P.liftsFinal = false := by
  unfold Program.liftsFinal
  rw [lifts_gen hw, hw, behind_of]
  kernel_rfl
theorem make_gen : P.make = some .cut := by
  unfold Program.make
  rw [lifts_gen hw, hw, behind_of]
  kernel_rfl
theorem enter_gen (hl : P.laysLater = false) (hr : P.bearsReflect = false) (hd : P.doorFits [] = true) : P.mayEnter = true := by
  unfold Program.mayEnter
  rw [hw, behind_of]
  dsimp only
  rw [strip_of, hl, hr]
  dsimp only
  rw [hd]
  kernel_rfl
end
theorem f_lays : Try.prog.laysLater = false := by kernel_rfl
theorem f_refl : Try.prog.bearsReflect = false := by kernel_rfl
theorem f_door : Try.prog.doorFits [] = true := by kernel_rfl
theorem f_enter : Try.prog.mayEnter = true := enter_gen head_words f_lays f_refl f_door
theorem f_lifts : (Rows.fnExactBoundRow.lifted == Try.prog.liftsFinal) = true := by
  rw [final_gen head_words]
  kernel_rfl
theorem f_make : (Try.prog.make == some Rows.fnExactBoundRow.make) = true := by
  rw [make_gen head_words]
  kernel_rfl
end Go.Proofs.Ytaapmpjkcddabaa
namespace Go.Proofs.Ytaapmpjkcddabaa
namespace Mth

theorem mulm {a b c d p : Nat} (h1 : a % p = c % p) (h2 : b % p = d % p) : (a * b) % p = (c * d) % p := by
  rw [Nat.mul_mod, h1, h2, ← Nat.mul_mod]
theorem powm {a c p : Nat} (k : Nat) (h1 : a % p = c % p) : a ^ k % p = c ^ k % p := by
  rw [Nat.pow_mod, h1, ← Nat.pow_mod]
theorem pow_one_mod {a p : Nat} (k : Nat) (hp : 1 < p) (h : a % p = 1) : a ^ k % p = 1 := by
  have := powm (c := 1) k (show a % p = 1 % p by rw [h, Nat.mod_eq_of_lt hp])
  rw [this, Nat.one_pow, Nat.mod_eq_of_lt hp]

theorem pow_gcd {g p : Nat} (hp : 1 < p) (a b : Nat) (ha : g ^ a % p = 1) (hb : g ^ b % p = 1) : g ^ (Nat.gcd a b) % p = 1 := by
  induction a, b using Nat.gcd.induction with
  | H0 n => simpa using hb
  | H1 m n hm ih =>
    rw [Nat.gcd_rec]
    refine ih ?_ ha
    have e : g ^ n % p = (g ^ (n % m)) % p := by
      conv => lhs; rw [← Nat.div_add_mod n m, Nat.pow_add, Nat.pow_mul]
      rw [Nat.mul_mod, pow_one_mod (n / m) hp ha, Nat.one_mul, Nat.mod_mod]
    rw [← e]; exact hb

def prod (l : List Nat) : Nat := l.foldr (· * ·) 1
def Pr (q : Nat) : Prop := 1 < q ∧ ∀ d, d ≤ q → d ∣ q → d = 1 ∨ d = q
instance (q : Nat) : Decidable (Pr q) := inferInstanceAs (Decidable (1 < q ∧ ∀ d, d ≤ q → d ∣ q → d = 1 ∨ d = q))
theorem Pr.coprime {q c : Nat} (h : Pr q) (hc : ¬ q ∣ c) : Nat.Coprime q c := by
  have hd : Nat.gcd q c ∣ q := Nat.gcd_dvd_left q c
  have hle : Nat.gcd q c ≤ q := Nat.le_of_dvd (by have := h.1; omega) hd
  rcases h.2 _ hle hd with h1 | h1
  · exact h1
  · exact absurd (h1 ▸ Nat.gcd_dvd_right q c) hc
theorem prime_in (l : List Nat) (hl : ∀ q, q ∈ l → Pr q) (c : Nat) (hc : c ∣ prod l) (h1 : c ≠ 1) : ∃ q, q ∈ l ∧ q ∣ c := by
  induction l with
  | nil => exact absurd (Nat.dvd_one.1 hc) h1
  | cons q l ih =>
    by_cases hq : q ∣ c
    · exact ⟨q, List.mem_cons_self, hq⟩
    · have hco := (hl q List.mem_cons_self).coprime hq
      have : c ∣ prod l := Nat.Coprime.dvd_of_dvd_mul_left hco.symm hc
      obtain ⟨r, hr, hrc⟩ := ih (fun q h => hl q (List.mem_cons_of_mem _ h)) this
      exact ⟨r, List.mem_cons_of_mem _ hr, hrc⟩

theorem surj (n : Nat) : ∀ (f : Nat → Nat), (∀ i, i < n → f i < n) → (∀ i j, i < n → j < n → f i = f j → i = j) → ∀ y, y < n → ∃ i, i < n ∧ f i = y := by
  induction n with
  | zero => intro f _ _ y hy; omega
  | succ n ih =>
    intro f hf inj y hy
    let h := fun i => if f i = n then f n else f i
    have hh : ∀ i, i < n → h i < n := by
      intro i hi
      show (if f i = n then f n else f i) < n
      have a := hf i (by omega); have b := hf n (by omega)
      split
      · rename_i e
        have : f n ≠ n := fun e2 => by have := inj i n (by omega) (by omega) (e.trans e2.symm); omega
        omega
      · omega
    have hi : ∀ i j, i < n → j < n → h i = h j → i = j := by
      intro i j hi hj e
      have e' : (if f i = n then f n else f i) = (if f j = n then f n else f j) := e
      split at e' <;> split at e'
      · rename_i a b; exact inj i j (by omega) (by omega) (a.trans b.symm)
      · have := inj n j (by omega) (by omega) e'; omega
      · have := inj i n (by omega) (by omega) e'; omega
      · exact inj i j (by omega) (by omega) e'
    have ihs := ih h hh hi
    by_cases hy2 : y < n
    · obtain ⟨i, hi2, e⟩ := ihs y hy2
      have e' : (if f i = n then f n else f i) = y := e
      split at e'
      · exact ⟨n, by omega, e'⟩
      · exact ⟨i, by omega, e'⟩
    · have hyn : y = n := by omega
      subst hyn
      by_cases hex : ∃ i, i < y + 1 ∧ f i = y
      · exact hex
      · exfalso
        have hne : ∀ i, i < y + 1 → f i ≠ y := fun i hi e => hex ⟨i, hi, e⟩
        have hlt : f y < y := by have := hf y (by omega); have := hne y (by omega); omega
        obtain ⟨i, hi2, e⟩ := ihs (f y) hlt
        have e' : (if f i = y then f y else f i) = f y := e
        rw [if_neg (hne i (by omega))] at e'
        have := inj i y (by omega) (by omega) e'; omega

/-- A field: p and a number of order p - 1. -/
structure Fld (p g : Nat) : Prop where
  two : 2 < p
  one : g ^ (p - 1) % p = 1
  ord : ∀ m, g ^ m % p = 1 → (p - 1) ∣ m

theorem Fld.make {p g : Nat} (l : List Nat) (two : 2 < p) (one : g ^ (p - 1) % p = 1) (hl : ∀ q, q ∈ l → Pr q) (hp : prod l = p - 1) (hq : ∀ q, q ∈ l → g ^ ((p - 1) / q) % p ≠ 1) : Fld p g := by
  refine ⟨two, one, fun m hm => ?_⟩
  have he := pow_gcd (by omega) m (p - 1) hm one
  have hd : Nat.gcd m (p - 1) ∣ p - 1 := Nat.gcd_dvd_right _ _
  by_cases hc : (p - 1) / Nat.gcd m (p - 1) = 1
  · have : p - 1 = Nat.gcd m (p - 1) := by have := Nat.div_mul_cancel hd; rw [hc] at this; omega
    rw [this]; exact Nat.gcd_dvd_left _ _
  · exfalso
    obtain ⟨q, hql, hqc⟩ := prime_in l hl _ (by rw [hp]; exact Nat.div_dvd_of_dvd hd) hc
    apply hq q hql
    obtain ⟨k, hk⟩ := hqc
    have h2 : p - 1 = q * (k * Nat.gcd m (p - 1)) := by
      rw [← Nat.mul_assoc, ← hk]; exact (Nat.div_mul_cancel hd).symm
    have hq0 : 0 < q := by have := (hl q hql).1; omega
    have h3 : (p - 1) / q = k * Nat.gcd m (p - 1) := Nat.div_eq_of_eq_mul_right hq0 h2
    rw [h3, Nat.mul_comm, Nat.pow_mul]
    exact pow_one_mod k (by omega) he

variable {p g : Nat}
theorem Fld.nz (h : Fld p g) (i : Nat) : g ^ i % p ≠ 0 := by
  intro e
  have h1 : (g ^ i * g ^ (i * (p - 2))) % p = 1 := by
    rw [← Nat.pow_add, show i + i * (p - 2) = (p - 1) * i by
      have := h.two
      obtain ⟨k, rfl⟩ : ∃ k, p = k + 3 := ⟨p - 3, by omega⟩
      show i + i * (k + 1) = (k + 2) * i
      rw [Nat.mul_comm (k + 2) i, Nat.mul_add, Nat.mul_add]; omega, Nat.pow_mul]
    exact pow_one_mod i (by have := h.two; omega) h.one
  rw [Nat.mul_mod, e, Nat.zero_mul, Nat.zero_mod] at h1
  omega
theorem Fld.inj (h : Fld p g) {i j : Nat} (hi : i < p - 1) (hj : j < p - 1) (e : g ^ i % p = g ^ j % p) : i = j := by
  have key : ∀ i j, i < p - 1 → j < p - 1 → g ^ i % p = g ^ j % p → i ≤ j → i = j := by
    intro i j hi hj e hle
    have h2 : (g ^ j * g ^ (p - 1 - i)) % p = 1 := by
      rw [← mulm (c := g ^ j) (d := g ^ (p - 1 - i)) e rfl, ← Nat.pow_add, show i + (p - 1 - i) = p - 1 by omega]
      exact h.one
    rw [← Nat.pow_add] at h2
    have h3 := h.ord _ h2
    rw [show j + (p - 1 - i) = (j - i) + (p - 1) by omega] at h3
    have h4 : p - 1 ∣ j - i := (Nat.dvd_add_left (Nat.dvd_refl _)).1 h3
    have := Nat.eq_zero_of_dvd_of_lt h4 (by omega)
    omega
  rcases Nat.le_total i j with hl | hl
  · exact key i j hi hj e hl
  · exact (key j i hj hi e.symm hl).symm
theorem Fld.log (h : Fld p g) {x : Nat} (h0 : 0 < x) (h1 : x < p) : ∃ i, g ^ i % p = x := by
  have hp := h.two
  obtain ⟨i, _, e⟩ := surj (p - 1) (fun i => g ^ i % p - 1)
    (fun i _ => by have := Nat.mod_lt (g ^ i) (show 0 < p by omega); show _ - 1 < _; omega)
    (fun i j hi hj e => h.inj hi hj (by
      have a := h.nz i; have b := h.nz j
      have e' : g ^ i % p - 1 = g ^ j % p - 1 := e
      omega)) (x - 1) (by omega)
  have e' : g ^ i % p - 1 = x - 1 := e
  have := h.nz i
  exact ⟨i, by omega⟩
theorem Fld.fermat (h : Fld p g) {x : Nat} (hx : x % p ≠ 0) : x ^ (p - 1) % p = 1 := by
  have hp := h.two
  obtain ⟨i, e⟩ := h.log (x := x % p) (by omega) (Nat.mod_lt _ (by omega))
  have e2 : x % p = g ^ i % p := e.symm
  rw [powm (p - 1) e2, ← Nat.pow_mul, Nat.mul_comm, Nat.pow_mul]
  exact pow_one_mod i (by omega) h.one
theorem Fld.mul_nz (h : Fld p g) {x y : Nat} (hx : x % p ≠ 0) (hy : y % p ≠ 0) : (x * y) % p ≠ 0 := by
  have hp := h.two
  obtain ⟨i, e⟩ := h.log (x := x % p) (by omega) (Nat.mod_lt _ (by omega))
  obtain ⟨j, e2⟩ := h.log (x := y % p) (by omega) (Nat.mod_lt _ (by omega))
  rw [mulm e.symm e2.symm, ← Nat.pow_add]
  exact h.nz _
/-- Exponents count modulo p - 1. -/
theorem Fld.pow_mod (h : Fld p g) {x : Nat} (k : Nat) (hx : x % p ≠ 0) : x ^ (k % (p - 1)) % p = x ^ k % p := by
  have hp := h.two
  conv => rhs; rw [← Nat.div_add_mod k (p - 1), Nat.pow_add, Nat.pow_mul]
  rw [Nat.mul_mod, pow_one_mod (k / (p - 1)) (by omega) (h.fermat hx), Nat.one_mul, Nat.mod_mod]
theorem Fld.roots (h : Fld p g) {s r : Nat} (hs : s < p) (hr : r < p) (e : (s * s) % p = (r * r) % p) : s = r ∨ s + r = p := by
  have hp := h.two
  have key : ∀ s r, s < p → r < s → (s * s) % p = (r * r) % p → s + r = p := by
    intro s r hs hr e
    by_cases hz : (s + r) % p = 0
    · obtain ⟨k, hk⟩ := Nat.dvd_of_mod_eq_zero hz
      have : k = 1 := by
        rcases k with _ | _ | k
        · omega
        · rfl
        · have := Nat.mul_le_mul_left p (show 2 ≤ k + 1 + 1 by omega); omega
      subst this; omega
    · exfalso
      apply h.mul_nz (x := s - r) (y := s + r) (by rw [Nat.mod_eq_of_lt (by omega)]; omega) hz
      obtain ⟨d, rfl⟩ : ∃ d, s = r + d := ⟨s - r, by omega⟩
      rw [Nat.add_sub_cancel_left]
      have e1 : (r + d) * (r + d) = r * r + d * (r + d + r) := by simp [Nat.mul_add, Nat.mul_comm]; omega
      rw [e1] at e
      have h2 := Nat.sub_mod_eq_zero_of_mod_eq e
      rw [Nat.add_sub_cancel_left] at h2
      exact h2
  rcases Nat.lt_trichotomy s r with hl | hl | hl
  · right; have := key r s hr hl e.symm; omega
  · left; exact hl
  · right; exact key s r hs hl e
theorem Fld.sqrt1 (h : Fld p g) {y : Nat} (e : (y * y) % p = 1) : y % p = 1 ∨ y % p = p - 1 := by
  have hp := h.two
  have := h.roots (s := y % p) (r := 1) (Nat.mod_lt _ (by omega)) (by omega) (by rw [← Nat.mul_mod, e, Nat.one_mul, Nat.mod_eq_of_lt (by omega)])
  omega
theorem Fld.order (h : Fld p g) {x : Nat} (hx : x % p ≠ 0) : ∃ o, 0 < o ∧ o ∣ p - 1 ∧ ∀ m, x ^ m % p = 1 ↔ o ∣ m := by
  have hp := h.two
  obtain ⟨i, e⟩ := h.log (x := x % p) (by omega) (Nat.mod_lt _ (by omega))
  have hg0 : 0 < Nat.gcd i (p - 1) := Nat.gcd_pos_of_pos_right _ (by omega)
  have hgd := Nat.gcd_dvd_right i (p - 1)
  have hgi := Nat.gcd_dvd_left i (p - 1)
  refine ⟨(p - 1) / Nat.gcd i (p - 1), Nat.div_pos (Nat.le_of_dvd (by omega) hgd) hg0, Nat.div_dvd_of_dvd hgd, fun m => ?_⟩
  have e2 : x ^ m % p = g ^ (i * m) % p := by rw [powm m e.symm, Nat.pow_mul]
  rw [e2]
  constructor
  · intro h1
    have h2 := h.ord _ h1
    have hco : Nat.Coprime ((p - 1) / Nat.gcd i (p - 1)) (i / Nat.gcd i (p - 1)) := by
      have := Nat.coprime_div_gcd_div_gcd hg0; exact this.symm
    apply hco.dvd_of_dvd_mul_left
    apply Nat.dvd_of_mul_dvd_mul_left hg0
    rw [← Nat.mul_assoc, Nat.mul_div_cancel' hgd, Nat.mul_div_cancel' hgi]
    exact h2
  · rintro ⟨c, rfl⟩
    have : p - 1 ∣ i * ((p - 1) / Nat.gcd i (p - 1) * c) := by
      obtain ⟨a, ha⟩ := hgi
      have gen : ∀ d a n, d ∣ n → d * a * (n / d * c) = n * (a * c) := fun d a n hd => by
        rw [show d * a * (n / d * c) = (d * (n / d)) * (a * c) by simp only [Nat.mul_assoc, Nat.mul_left_comm], Nat.mul_div_cancel' hd]
      exact ⟨a * c, (congrArg (· * ((p - 1) / Nat.gcd i (p - 1) * c)) ha).trans (gen _ a _ hgd)⟩
    obtain ⟨c', hc'⟩ := this
    rw [hc', Nat.pow_mul]
    exact pow_one_mod c' (by omega) h.one
/-- Fast powers, to be reckoned by the kernel. -/
def fpow (p : Nat) : Nat → Nat → Nat → Nat → Nat
  | 0, _, _, r => r
  | n + 1, x, e, r => fpow p n (x * x % p) (e / 2) (if e % 2 = 1 then r * x % p else r)
theorem half_even {p r x e y : Nat} (h : e % 2 = 0) (hy : y % p = x * x % p) : (r * y ^ (e / 2)) % p = (r * x ^ e) % p := by
  refine mulm rfl ?_
  conv => rhs; rw [← Nat.div_add_mod e 2, h, Nat.add_zero, Nat.pow_mul, Nat.pow_two]
  exact powm _ hy
theorem half_odd {p r x e y s : Nat} (h : e % 2 = 1) (hy : y % p = x * x % p) (hs : s % p = r * x % p) : (s * y ^ (e / 2)) % p = (r * x ^ e) % p := by
  conv => rhs; rw [← Nat.div_add_mod e 2, h, Nat.pow_succ, Nat.pow_mul, Nat.pow_two, Nat.mul_comm ((x * x) ^ (e / 2)) x, ← Nat.mul_assoc]
  exact mulm hs (powm _ hy)
theorem fpow_eq (p : Nat) : ∀ n x e r, e < 2 ^ n → fpow p n x e r % p = (r * x ^ e) % p := by
  intro n
  induction n with
  | zero => intro x e r h; have : e = 0 := by simpa using h
            subst this; simp [fpow]
  | succ n ih =>
    intro x e r h
    show fpow p n (x * x % p) (e / 2) (if e % 2 = 1 then r * x % p else r) % p = _
    rw [ih _ _ _ (by rw [Nat.pow_succ] at h; omega)]
    split
    · rename_i h1; exact half_odd h1 (by simp) (by simp)
    · exact half_even (by omega) (by simp)
theorem fpow_one {p x e n : Nat} (h : e < 2 ^ n) : fpow p n x e 1 % p = x ^ e % p := by rw [fpow_eq p n x e 1 h, Nat.one_mul]

def pN : Nat → Nat
  | 0 => 17 | 1 => 97 | 2 => 193 | 3 => 257 | 4 => 7681 | 5 => 12289 | 6 => 998244353 | 7 => 469762049 | 8 => 1004535809 | _ => 0
def gN : Nat → Nat
  | 0 => 3 | 1 => 5 | 2 => 5 | 3 => 3 | 4 => 17 | 5 => 11 | 6 => 3 | 7 => 3 | 8 => 3 | _ => 0
def tN : Nat → Nat
  | 0 => 4 | 1 => 5 | 2 => 6 | 3 => 8 | 4 => 9 | 5 => 12 | 6 => 23 | 7 => 26 | 8 => 21 | _ => 0
def oN : Nat → List Nat
  | 0 => [] | 1 => [3] | 2 => [3] | 3 => [] | 4 => [3, 5] | 5 => [3] | 6 => [7, 17] | 7 => [7] | 8 => [479] | _ => []
def facs (f : Nat) : List Nat := List.replicate (tN f) 2 ++ oN f
theorem pr_small : Pr 2 ∧ Pr 3 ∧ Pr 5 ∧ Pr 7 ∧ Pr 17 ∧ Pr 479 := by decide +kernel
theorem facs_pr (f : Nat) : ∀ q, q ∈ facs f → Pr q := by
  obtain ⟨h2, h3, h5, h7, h17, h479⟩ := pr_small
  intro q hq
  rcases List.mem_append.1 hq with h | h
  · have := List.eq_of_mem_replicate h; subst this; exact h2
  · unfold oN at h
    split at h <;> simp at h
    all_goals (first | (subst h; assumption) | (rcases h with rfl | rfl <;> assumption))
theorem facs_prod (f : Nat) (hf : f < 9) : prod (facs f) = pN f - 1 := by
  have : ∀ f, f < 9 → prod (facs f) = pN f - 1 := by decide +kernel
  exact this f hf
theorem fld_facts : ∀ f, f < 9 → (2 < pN f ∧ fpow (pN f) 30 (gN f) (pN f - 1) 1 % pN f = 1 ∧ (∀ q, q ∈ facs f → fpow (pN f) 30 (gN f) ((pN f - 1) / q) 1 % pN f ≠ 1) ∧ pN f - 1 < 2 ^ 30) := by decide +kernel
theorem fld (f : Nat) (hf : f < 9) : Fld (pN f) (gN f) := by
  obtain ⟨h2, h1, hq, hb⟩ := fld_facts f hf
  refine Fld.make (facs f) h2 ?_ (facs_pr f) (facs_prod f hf) ?_
  · rw [fpow_one hb] at h1; exact h1
  · intro q hql
    have := hq q hql
    rw [fpow_one (Nat.lt_of_le_of_lt (Nat.div_le_self _ _) hb)] at this
    exact this
end Mth
end Go.Proofs.Ytaapmpjkcddabaa
namespace Go.Proofs.Ytaapmpjkcddabaa
open Mth

def P (f : Int) : Int := if 0 ≤ f then (pN f.toNat : Int) else 0
def G (f : Int) : Int := if 0 ≤ f then (gN f.toNat : Int) else 0
def T (f : Int) : Int := if 0 ≤ f ∧ f ≤ 8 then (tN f.toNat : Int) else -1
theorem nine {f : Int} (h0 : 0 ≤ f) (h8 : f ≤ 8) : f = 0 ∨ f = 1 ∨ f = 2 ∨ f = 3 ∨ f = 4 ∨ f = 5 ∨ f = 6 ∨ f = 7 ∨ f = 8 := by omega
theorem P_bd {f : Int} (h0 : 0 ≤ f) (h8 : f ≤ 8) : 17 ≤ P f ∧ P f ≤ 1004535809 := by
  rcases nine h0 h8 with rfl | rfl | rfl | rfl | rfl | rfl | rfl | rfl | rfl <;> decide
theorem P_nat {f : Int} (h0 : 0 ≤ f) : P f = (pN f.toNat : Int) := by unfold P; rw [if_pos h0]
theorem P_toNat {f : Int} (h0 : 0 ≤ f) : (P f).toNat = pN f.toNat := by rw [P_nat h0]; rfl
/-- The remainder that is not negative. -/
def RS (x m : Int) : Int := x % m
theorem RS_bd {x m : Int} (h : 0 < m) : 0 ≤ RS x m ∧ RS x m < m := ⟨Int.emod_nonneg _ (by omega), Int.emod_lt_of_pos _ h⟩
/-- Powers: x^e as an element. -/
def PW (m x e : Int) : Int := ((x.toNat ^ e.toNat % m.toNat : Nat) : Int)
theorem PW_bd {m x e : Int} (h : 0 < m) : 0 ≤ PW m x e ∧ PW m x e < m := by
  unfold PW
  have := Nat.mod_lt (x.toNat ^ e.toNat) (show 0 < m.toNat by omega)
  omega
theorem toNat_RS {m : Int} (hm : 0 < m) {a b : Int} (ha : 0 ≤ a) (hb : 0 ≤ b) : (RS (a * b) m).toNat = a.toNat * b.toNat % m.toNat := by
  obtain ⟨a, rfl⟩ := Int.eq_ofNat_of_zero_le ha
  obtain ⟨b, rfl⟩ := Int.eq_ofNat_of_zero_le hb
  obtain ⟨m, rfl⟩ := Int.eq_ofNat_of_zero_le (Int.le_of_lt hm)
  unfold RS
  rw [← Int.natCast_mul, ← Int.natCast_emod]; rfl
def pow0 (e : Int) : Int := if e < 0 then -1 else if e = 0 then 1 else 0
def mPower (f a e : Int) : Int := if 0 ≤ f ∧ f ≤ 8 then (if RS a (P f) = 0 then pow0 e else PW (P f) (RS a (P f)) (RS e (P f - 1))) else -1
end Go.Proofs.Ytaapmpjkcddabaa
namespace Go.Proofs.Ytaapmpjkcddabaa
open Go.RowKit

/-- The world holds the table of fields. -/
def Tab (w : World) : Prop := ∀ n : Int, 0 ≤ n → n ≤ 8 →
  w.cell? ⟨0, n.toNat * 3, none⟩ = some (.int .i64 (P n)) ∧ w.cell? ⟨0, n.toNat * 3 + 1, none⟩ = some (.int .i64 (G n)) ∧ w.cell? ⟨0, n.toNat * 3 + 2, none⟩ = some (.int .i64 (T n))
theorem Tab.keep {w w' : World} (h : Tab w) (hk : ∀ o, w'.cell? ⟨0, o, none⟩ = w.cell? ⟨0, o, none⟩) : Tab w' := by
  intro n h0 h8
  rw [hk, hk, hk]; exact h n h0 h8

end Go.Proofs.Ytaapmpjkcddabaa
namespace Go.Proofs.Ytaapmpjkcddabaa
open Go.RowKit
/-- The bytes that a cursor reads, apart from its own block. -/
def Bytes (w : World) (g : Nat) (a : Option Addr) (len : Nat) : Prop :=
  len ≤ 1099511627776 ∧ (len = 0 ∨ ∃ b off, a = some ⟨b, off, none⟩ ∧ b < g ∧ b < w.heap.size ∧ ∀ j, j < len → ∃ n : Int, 0 ≤ n ∧ n < 256 ∧ w.cell? ⟨b, off + j, none⟩ = some (.int .u8 n))
def CurAt (g : Nat) (w : World) (a : Option Addr) (len cap : Nat) (i h : Int) : Prop :=
  w.cell? ⟨g, 0, none⟩ = some (.slice a len cap) ∧ w.cell? ⟨g, 1, none⟩ = some (.int .i64 i) ∧ w.cell? ⟨g, 2, none⟩ = some (.int .i64 h) ∧
  w.frozen? ⟨g, 1, none⟩ = false ∧ w.frozen? ⟨g, 2, none⟩ = false ∧ 0 ≤ i ∧ i ≤ len ∧ g < w.heap.size ∧ Bytes w g a len
def Cur (g : Nat) (w : World) : Prop := ∃ a len cap i h, CurAt g w a len cap i h
theorem Bytes.keep {w w' : World} {g : Nat} {a : Option Addr} {len : Nat} (h : Bytes w g a len) (hg : w.grownBy w' (some g)) : Bytes w' g a len := by
  refine ⟨h.1, h.2.imp id ?_⟩
  rintro ⟨b, off, e, hne, hlt, hb⟩
  refine ⟨b, off, e, hne, Nat.lt_of_lt_of_le hlt hg.size, fun j hj => ?_⟩
  obtain ⟨n, n0, n1, hc⟩ := hb j hj
  exact ⟨n, n0, n1, hg.cell hc (fun e => by injection e with e; have e : b = g := e; omega)⟩
end Go.Proofs.Ytaapmpjkcddabaa
namespace Go.Proofs.Ytaapmpjkcddabaa
open Go.RowKit
theorem Cur.alloc {g : Nat} {w : World} (h : Cur g w) (o : Obj) : Cur g (w.alloc o) := by
  obtain ⟨a, len, cap, i, hh, h0, h1, h2, f1, f2, i0, i1, hgs, hby⟩ := h
  have hg := World.grownBy_alloc w o none
  have c : ∀ k v, w.cell? ⟨g, k, none⟩ = some v → (w.alloc o).cell? ⟨g, k, none⟩ = some v := fun k v hv => hg.cell hv (by simp)
  have fz : ∀ k, (w.alloc o).frozen? ⟨g, k, none⟩ = w.frozen? ⟨g, k, none⟩ := fun k => hg.frozen_far ⟨g, k, none⟩ hgs (by simp)
  exact ⟨a, len, cap, i, hh, c _ _ h0, c _ _ h1, c _ _ h2, (fz _).trans f1, (fz _).trans f2, i0, i1, Nat.lt_of_lt_of_le hgs hg.size, hby.keep (World.grownBy_alloc w o (some g))⟩
theorem Cur.lt {g : Nat} {w : World} (h : Cur g w) : g < w.heap.size := by
  obtain ⟨a, len, cap, i, hh, h0, h1, h2, f1, f2, i0, i1, hgs, hby⟩ := h
  exact hgs
end Go.Proofs.Ytaapmpjkcddabaa
namespace Go.Proofs.Ytaapmpjkcddabaa
open Go.RowKit
/-- A slice value whose bytes can be read. -/
def Code (w : World) (a : Option Addr) (len : Nat) : Prop := Bytes w w.heap.size a len
theorem Code.keep {w w' : World} {a : Option Addr} {len : Nat} (h : Code w a len) (hb : Below w.heap.size w w') : Code w' a len := by
  refine ⟨h.1, h.2.imp id ?_⟩
  rintro ⟨b, off, e, hne, hlt, hbb⟩
  have hs := hb.size
  refine ⟨b, off, e, by omega, by omega, fun j hj => ?_⟩
  obtain ⟨n, n0, n1, hcell⟩ := hbb j hj
  exact ⟨n, n0, n1, (hb.cell (p := ⟨b, off + j, none⟩) hlt).trans hcell⟩
theorem cell_some {w : World} {x : Addr} {v : Value} (h : w.cell? x = some v) : x.spot = none ∧ x.block < w.heap.size := by
  unfold World.cell? at h
  split at h
  · rename_i hh
    refine ⟨?_, (Array.getElem?_eq_some_iff.1 hh).1⟩
    split at h
    · cases h
    · rename_i hs; simpa using hs
  · cases h
theorem Tab.below {w w' : World} (h : Tab w) (hb : Below w.heap.size w w') : Tab w' := by
  have h0 := (cell_some (h 0 (by omega) (by omega)).1).2
  exact h.keep fun o => hb.cell (p := ⟨0, o, none⟩) h0
end Go.Proofs.Ytaapmpjkcddabaa
namespace Go.Proofs.Ytaapmpjkcddabaa
open Go.RowKit
/-- A slice of n integers that can be read: F j at j. -/
def Src (w : World) (a : Option Addr) (n : Nat) (F : Nat → Int) : Prop :=
  n = 0 ∨ ∃ b off, a = some ⟨b, off, none⟩ ∧ b < w.heap.size ∧ ∀ j, j < n → w.cell? ⟨b, off + j, none⟩ = some (.int .i64 (F j))
theorem Src.keep {w w' : World} {a : Option Addr} {n : Nat} {F : Nat → Int} (h : Src w a n F) (hb : Below w.heap.size w w') : Src w' a n F := by
  refine h.imp id ?_
  rintro ⟨b, off, e, hlt, hc⟩
  exact ⟨b, off, e, Nat.lt_of_lt_of_le hlt hb.size, fun j hj => (hb.cell (p := ⟨b, off + j, none⟩) hlt).trans (hc j hj)⟩
/-- A block of the call's own: n integers, F j at j. -/
def Own (w : World) (g n : Nat) (F : Nat → Int) : Prop := w.rowIs g 3 n (fun j => .int .i64 (F j))
theorem Own.src {w : World} {g n : Nat} {F : Nat → Int} (h : Own w g n F) : Src w (some ⟨g, 0, none⟩) n F :=
  .inr ⟨g, 0, rfl, h.lt, fun j hj => by rw [Nat.zero_add]; exact h.cell hj⟩
theorem Own.keep {w w' : World} {g n : Nat} {F : Nat → Int} (h : Own w g n F) (hb : Below w.heap.size w w') : Own w' g n F := World.rowIs.of_block h (hb.block g h.lt)
def IntP (w : World) (x : Int) (e : Ending) (w' : World) : Prop := e = .returned (.int .i64 x) ∧ Below w.heap.size w w'
end Go.Proofs.Ytaapmpjkcddabaa
namespace Go.Proofs.Ytaapmpjkcddabaa
open Mth
def two (k : Int) : Int := 2 ^ k.toNat
section
variable {f : Int} (h0 : 0 ≤ f) (h8 : f ≤ 8)
include h0 h8
theorem fldf : Fld (P f).toNat (gN f.toNat) := by rw [P_toNat h0]; exact fld _ (by omega)
/-- In numbers: p and the residues. -/
theorem RS_nat {a b : Int} (ha : 0 ≤ a) (hb : 0 ≤ b) : RS (a * b) (P f) = ((a.toNat * b.toNat % (P f).toNat : Nat) : Int) := by
  have hp := P_bd h0 h8
  have := toNat_RS (m := P f) (by omega) ha hb
  have hb2 := RS_bd (x := a * b) (m := P f) (by omega)
  omega
end
namespace Mth
variable {p g : Nat}
theorem Fld.half (h : Fld p g) (ho : p % 2 = 1) : g ^ ((p - 1) / 2) % p = p - 1 := by
  have hp := h.two
  have e : (g ^ ((p - 1) / 2) * g ^ ((p - 1) / 2)) % p = 1 := by
    rw [← Nat.pow_add, show (p - 1) / 2 + (p - 1) / 2 = p - 1 by omega]; exact h.one
  rcases h.sqrt1 e with h1 | h1
  · exfalso
    have := Nat.le_of_dvd (by omega) (h.ord _ h1); omega
  · exact h1
theorem neg_sq (hp : 2 < p) : ((p - 1) * (p - 1)) % p = 1 := by
  obtain ⟨k, rfl⟩ : ∃ k, p = k + 2 := ⟨p - 2, by omega⟩
  have : (k + 2 - 1) * (k + 2 - 1) = 1 + (k + 2) * k := by
    show (k + 1) * (k + 1) = _
    simp [Nat.mul_add, Nat.mul_comm]; omega
  rw [this, Nat.add_mul_mod_self_left, Nat.mod_eq_of_lt (by omega)]
theorem pow2 (e k : Nat) : e ^ (2 ^ (k + 1)) = e ^ (2 ^ k) * e ^ (2 ^ k) := by
  rw [Nat.pow_succ, Nat.pow_mul, Nat.pow_two]
theorem pow2' (e k : Nat) : e ^ (2 ^ (k + 1)) = (e * e) ^ (2 ^ k) := by
  rw [Nat.pow_succ, Nat.mul_comm, Nat.pow_mul, Nat.pow_two]
/-- The state of the program's loop. -/
structure Sq (p a r e s k : Nat) : Prop where
  rr : (r * r) % p = (a * e) % p
  ee : e ^ (2 ^ k) % p = 1
  ss : s ^ (2 ^ k) % p = p - 1
theorem Sq.ss' {a r e s k : Nat} (h : Sq p a r e s (k + 1)) : (s * s % p) ^ (2 ^ k) % p = p - 1 := by
  rw [powm (c := s * s) _ (Nat.mod_mod _ _), ← pow2', h.ss]
theorem Sq.no {a r e s k : Nat} (hf : Fld p g) (h : Sq p a r e s (k + 1)) (h1 : e ^ (2 ^ k) % p ≠ 1) : Sq p a (r * s % p) (e * (s * s % p) % p) (s * s % p) k := by
  have hp := hf.two
  have e1 : e ^ (2 ^ k) % p = p - 1 := by
    rcases hf.sqrt1 (y := e ^ (2 ^ k)) (by rw [← pow2]; exact h.ee) with h2 | h2
    · exact absurd h2 h1
    · exact h2
  refine ⟨?_, ?_, h.ss'⟩
  · have a1 : (r * s % p * (r * s % p)) % p = (r * r * (s * s)) % p := by
      rw [← Nat.mul_mod, show r * s * (r * s) = r * r * (s * s) by simp only [Nat.mul_assoc, Nat.mul_left_comm]]
    have a2 : (a * (e * (s * s % p) % p)) % p = (a * e * (s * s)) % p := by
      rw [mulm (a := a) (c := a) rfl (Nat.mod_mod _ _), Nat.mul_assoc]
      exact mulm rfl (mulm rfl (Nat.mod_mod _ _))
    rw [a1, a2]; exact mulm h.rr rfl
  · rw [powm (c := e * (s * s % p)) _ (Nat.mod_mod _ _), Nat.mul_pow]
    rw [Nat.mul_mod, e1, h.ss', neg_sq hp]
theorem Sq.last {a r e s : Nat} (h : Sq p a r e s 0) : (r * r) % p = a % p := by
  have e1 : e % p = 1 := by simpa using h.ee
  rw [h.rr, Nat.mul_mod, e1, Nat.mul_one, Nat.mod_mod]
/-- The start, where a^((p-1)/2) is 1. -/
theorem Sq.first {a t o : Nat} (h : Fld p g) (ho : p % 2 = 1) (ht : 0 < t) (hto : p - 1 = 2 ^ t * o) (hodd : o % 2 = 1) (ha : a ^ ((p - 1) / 2) % p = 1) :
    Sq p a (a ^ ((o + 1) / 2) % p) (a ^ o % p) (g ^ o % p) (t - 1) := by
  have hh : o * 2 ^ (t - 1) = (p - 1) / 2 := by
    rw [hto]
    obtain ⟨u, rfl⟩ : ∃ u, t = u + 1 := ⟨t - 1, by omega⟩
    rw [Nat.pow_succ, Nat.add_sub_cancel, show 2 ^ u * 2 * o = o * 2 ^ u * 2 by rw [Nat.mul_comm, ← Nat.mul_assoc], Nat.mul_div_cancel _ (by omega)]
  refine ⟨?_, ?_, ?_⟩
  · rw [← Nat.mul_mod, ← Nat.pow_add, show (o + 1) / 2 + (o + 1) / 2 = o + 1 by omega, mulm (a := a) (c := a) rfl (Nat.mod_mod _ _), Nat.pow_succ, Nat.mul_comm]
  · rw [powm (c := a ^ o) _ (Nat.mod_mod _ _), ← Nat.pow_mul, hh, ha]
  · rw [powm (c := g ^ o) _ (Nat.mod_mod _ _), ← Nat.pow_mul, hh, h.half ho]
end Mth
theorem PW_toNat {f : Int} (x e : Int) : (PW (P f) x e).toNat = x.toNat ^ e.toNat % (P f).toNat := by
  unfold PW; exact Int.toNat_natCast _
namespace Mth
variable {p g : Nat}
end Mth
end Go.Proofs.Ytaapmpjkcddabaa
namespace Go.Proofs.Ytaapmpjkcddabaa
open Mth
def invF (f z : Int) : Int := if RS z (P f) = 0 then 0 else mPower f z (-1)
def prodF (f : Int) (Z : Nat → Int) : Nat → Int
  | 0 => 1
  | k + 1 => if RS (Z k) (P f) = 0 then prodF f Z k else RS (prodF f Z k * RS (Z k) (P f)) (P f)
section
variable {f : Int} (h0 : 0 ≤ f) (h8 : f ≤ 8)
include h0 h8
theorem RS_mul_pos {a b : Int} (a0 : 0 < a) (a1 : a < P f) (b0 : 0 < b) (b1 : b < P f) : 0 < RS (a * b) (P f) ∧ RS (a * b) (P f) < P f := by
  have hp := P_bd h0 h8
  have hb := RS_bd (x := a * b) (m := P f) (by omega)
  have hn := (fldf h0 h8).mul_nz (x := a.toNat) (y := b.toNat) (by rw [Nat.mod_eq_of_lt (by omega)]; omega) (by rw [Nat.mod_eq_of_lt (by omega)]; omega)
  rw [RS_nat h0 h8 (by omega) (by omega)] at *
  omega
theorem prodF_bd (Z : Nat → Int) (k : Nat) : 0 < prodF f Z k ∧ prodF f Z k < P f := by
  have hp := P_bd h0 h8
  induction k with
  | zero => exact ⟨by show (0 : Int) < 1; omega, by show (1 : Int) < _; omega⟩
  | succ k ih =>
    rw [prodF]
    split
    · exact ih
    · rename_i hz
      have hb := RS_bd (x := Z k) (m := P f) (by omega)
      exact RS_mul_pos h0 h8 ih.1 ih.2 (by omega) hb.2
/-- The way back: b times the product of the first k is 1. -/
theorem back_first {x : Int} (x0 : 0 < x) (x1 : x < P f) : RS (PW (P f) x (P f - 2) * x) (P f) = 1 := by
  have hp := P_bd h0 h8
  rw [RS_nat h0 h8 (PW_bd (by omega)).1 (by omega), PW_toNat, mulm (Nat.mod_mod _ _) rfl, ← Nat.pow_succ, show (P f - 2).toNat.succ = (P f).toNat - 1 by omega,
    (fldf h0 h8).fermat (by rw [Nat.mod_eq_of_lt (by omega)]; omega)]
  rfl
end
theorem back_no {f : Int} {Z : Nat → Int} {k : Nat} {b : Int} (hz : RS (Z k) (P f) = 0) (h : RS (b * prodF f Z (k + 1)) (P f) = 1) : RS (b * prodF f Z k) (P f) = 1 ∧ invF f (Z k) = 0 := by
  rw [prodF, if_pos hz] at h
  exact ⟨h, if_pos hz⟩
end Go.Proofs.Ytaapmpjkcddabaa
namespace Go.Proofs.Ytaapmpjkcddabaa
open Go.RowKit
/-- The state of the way back. -/
def Back (f : Int) (Z : Nat → Int) (w wr : World) (n : Nat) (i b : Int) : Prop :=
  RS (b * prodF f Z (i + 1).toNat) (P f) = 1 ∧ Own wr w.heap.size n (fun j => if (j : Int) ≤ i then RS (Z j) (P f) else invF f (Z j)) ∧ Own wr (w.heap.size + 1) n (fun j => prodF f Z j) ∧ Below w.heap.size w wr
theorem Back.no {f : Int} {Z : Nat → Int} {w wr : World} {n k : Nat} {b : Int} (h : Back f Z w wr n k b) (hz : RS (Z k) (P f) = 0) : Back f Z w wr n (k - 1) b := by
  obtain ⟨h1, h2, h3, h4⟩ := h
  rw [show ((k : Int) + 1).toNat = k + 1 by omega] at h1
  obtain ⟨e1, e2⟩ := back_no hz h1
  refine ⟨by rw [show ((k : Int) - 1 + 1).toNat = k by omega]; exact e1, ?_, h3, h4⟩
  refine World.rowIs.congr h2 fun j _ => ?_
  by_cases hj : j = k
  · subst hj; simp [hz, e2]
  · by_cases hj2 : (j : Int) ≤ k
    · simp [hj2, show (j : Int) ≤ (k : Int) - 1 by omega]
    · simp [hj2, show ¬ (j : Int) ≤ (k : Int) - 1 by omega]
/-- The state of the way forth. -/
def Forth (f : Int) (Z : Nat → Int) (w wr : World) (n k : Nat) : Prop :=
  Own wr w.heap.size n (fun j => if j < k then RS (Z j) (P f) else 0) ∧ Own wr (w.heap.size + 1) n (fun j => if j < k then prodF f Z j else 0) ∧ Below w.heap.size w wr
theorem Forth.back {f : Int} (h0 : 0 ≤ f) (h8 : f ≤ 8) {Z : Nat → Int} {w wr : World} {n : Nat} (h : Forth f Z w wr n n) : Back f Z w wr n ((n : Int) - 1) (PW (P f) (prodF f Z n) (P f - 2)) := by
  have hb := prodF_bd h0 h8 Z n
  refine ⟨by rw [show ((n : Int) - 1 + 1).toNat = n by omega]; exact back_first h0 h8 hb.1 hb.2, World.rowIs.congr h.1 fun j hj => ?_, World.rowIs.congr h.2.1 fun j hj => ?_, h.2.2⟩
  · simp [hj, show (j : Int) ≤ (n : Int) - 1 by omega]
  · simp [hj]
end Go.Proofs.Ytaapmpjkcddabaa
namespace Go.Proofs.Ytaapmpjkcddabaa
open Go.RowKit
def xsF (F : Nat → Int) (k : Nat) : List Value := (List.range k).map fun j => .int .i64 (F j)
theorem src_of_owns {w' : World} {base : Nat} {v : Value} {n : Nat} {F : Nat → Int} (h : w'.ownsRow base 3 1 v n (xsF F n)) : ∃ a cap, v = .slice a n cap ∧ Src w' a n F := by
  obtain ⟨hl, h⟩ := h
  rcases h with ⟨rfl, rfl⟩ | ⟨g, cap, cur, rfl, hg, hh, hc, hm, hs, ht⟩
  · exact ⟨none, 0, rfl, .inl rfl⟩
  · refine ⟨_, _, rfl, .inr ⟨g, 0, rfl, (Array.getElem?_eq_some_iff.1 hh).1, fun j hj => ?_⟩⟩
    have hx : (xsF F n)[j]? = some (.int .i64 (F j)) := by simp [xsF, hj]
    have hcur : cur.toList[j]? = some (.int .i64 (F j)) := by
      rw [← ht, List.getElem?_take_of_lt (by omega)] at hx; exact hx
    unfold World.cell?
    rw [hh]
    simp
    simpa using hcur
end Go.Proofs.Ytaapmpjkcddabaa
namespace Go.Proofs.Ytaapmpjkcddabaa
open Mth

/-- The length without the zeros at the end. -/
def cutN (F : Nat → Int) : Nat → Nat
  | 0 => 0
  | n + 1 => if F n = 0 then cutN F n else n + 1
theorem cutN_le (F : Nat → Int) (n : Nat) : cutN F n ≤ n := by
  induction n with
  | zero => exact Nat.le_refl _
  | succ n ih => unfold cutN; split <;> omega
theorem cutN_top (F : Nat → Int) (n : Nat) : cutN F n = 0 ∨ F (cutN F n - 1) ≠ 0 := by
  induction n with
  | zero => exact .inl rfl
  | succ n ih =>
    unfold cutN
    split
    · exact ih
    · rename_i h; exact .inr h
theorem cutN_zero (F : Nat → Int) (n j : Nat) (h : cutN F n ≤ j) (hj : j < n) : F j = 0 := by
  induction n with
  | zero => omega
  | succ n ih =>
    unfold cutN at h
    split at h
    · rename_i h0
      by_cases e : j = n
      · rw [e]; exact h0
      · exact ih h (by omega)
    · omega
/-- The coefficients of a list, with zeros behind it. -/
def lf (l : List Int) : Nat → Int := fun j => l.getD j 0
def tab (n : Nat) (F : Nat → Int) : List Int := (List.range n).map F
theorem tab_len (n : Nat) (F : Nat → Int) : (tab n F).length = n := by simp [tab]
theorem lf_tab (n : Nat) (F : Nat → Int) (j : Nat) : lf (tab n F) j = if j < n then F j else 0 := by
  unfold lf tab
  rw [List.getD_eq_getElem?_getD]
  by_cases h : j < n
  · simp [h]
  · rw [List.getElem?_eq_none (by simp; omega), if_neg h]; rfl
theorem lf_out (l : List Int) {j : Nat} (h : l.length ≤ j) : lf l j = 0 := by
  unfold lf
  rw [List.getD_eq_getElem?_getD, List.getElem?_eq_none h]; rfl
theorem list_ext {a b : List Int} (hl : a.length = b.length) (h : ∀ j, j < a.length → lf a j = lf b j) : a = b := by
  apply List.ext_getElem hl
  intro j h1 h2
  have := h j h1
  unfold lf at this
  rw [List.getD_eq_getElem?_getD, List.getD_eq_getElem?_getD, List.getElem?_eq_getElem h1, List.getElem?_eq_getElem h2] at this
  exact this
def cutL (n : Nat) (F : Nat → Int) : List Int := tab (cutN F n) F
theorem cutL_len (n : Nat) (F : Nat → Int) : (cutL n F).length = cutN F n := tab_len _ _
theorem lf_cutL (n : Nat) (F : Nat → Int) (j : Nat) : lf (cutL n F) j = if j < n then F j else 0 := by
  unfold cutL
  rw [lf_tab]
  have := cutN_le F n
  by_cases h1 : j < cutN F n
  · rw [if_pos h1, if_pos (by omega)]
  · rw [if_neg h1]
    by_cases h2 : j < n
    · rw [if_pos h2, cutN_zero F n j (by omega) h2]
    · rw [if_neg h2]
/-- Elements of the field, the last of them not 0. -/
def Pol (f : Int) (l : List Int) : Prop := (∀ j, 0 ≤ lf l j ∧ lf l j < P f) ∧ (l.length = 0 ∨ lf l (l.length - 1) ≠ 0)
theorem Pol.cut {f : Int} {n : Nat} {F : Nat → Int} (hp : 0 < P f) (h : ∀ j, j < n → 0 ≤ F j ∧ F j < P f) : Pol f (cutL n F) := by
  refine ⟨fun j => ?_, ?_⟩
  · rw [lf_cutL]
    split
    · rename_i hj; exact h j hj
    · omega
  · rw [cutL_len]
    have := cutN_le F n
    rcases cutN_top F n with h1 | h1
    · exact .inl h1
    · by_cases h0 : cutN F n = 0
      · exact .inl h0
      · right
        rw [lf_cutL, if_pos (by omega)]; exact h1
theorem Pol.nil {f : Int} (hp : 0 < P f) : Pol f [] := ⟨fun j => by rw [lf_out [] (Nat.zero_le _)]; omega, .inl rfl⟩
/-- Polynomials with the same coefficients are one. -/
theorem Pol.eq {f : Int} {a b : List Int} (ha : Pol f a) (hb : Pol f b) (h : ∀ j, lf a j % P f = lf b j % P f) : a = b := by
  have e : ∀ j, lf a j = lf b j := fun j => by
    have h1 := ha.1 j
    have h2 := hb.1 j
    have := h j
    rw [Int.emod_eq_of_lt h1.1 h1.2, Int.emod_eq_of_lt h2.1 h2.2] at this
    exact this
  have hl : a.length = b.length := by
    rcases Nat.lt_trichotomy a.length b.length with hlt | hlt | hlt
    · rcases hb.2 with h0 | h0
      · omega
      · rw [← e, lf_out a (by omega)] at h0; exact absurd rfl h0
    · exact hlt
    · rcases ha.2 with h0 | h0
      · omega
      · rw [e, lf_out b (by omega)] at h0; exact absurd rfl h0
  exact list_ext hl (fun j _ => e j)
/-- Sums of the first n terms. -/
def sumN (f : Nat → Int) : Nat → Int
  | 0 => 0
  | n + 1 => sumN f n + f n
theorem sumN_first (f : Nat → Int) (n : Nat) : sumN f (n + 1) = f 0 + sumN (fun i => f (i + 1)) n := by
  induction n with
  | zero => simp [sumN]
  | succ n ih => rw [sumN, ih, sumN]; omega
theorem sumN_congr {f g : Nat → Int} {n : Nat} (h : ∀ i, i < n → f i = g i) : sumN f n = sumN g n := by
  induction n with
  | zero => rfl
  | succ n ih => rw [sumN, sumN, ih (fun i hi => h i (by omega)), h n (by omega)]
theorem sumN_more {f : Nat → Int} {n m : Nat} (hnm : n ≤ m) (h : ∀ i, n ≤ i → i < m → f i = 0) : sumN f m = sumN f n := by
  induction m with
  | zero => rw [show n = 0 by omega]
  | succ m ih =>
    by_cases e : n = m + 1
    · rw [e]
    · rw [sumN, h m (by omega) (by omega), ih (by omega) (fun i h1 h2 => h i h1 (by omega))]; omega

/-- Products of series. -/
def tl (A : Nat → Int) : Nat → Int := fun j => A (j + 1)
def cv : Nat → (Nat → Int) → (Nat → Int) → Int
  | 0, A, B => A 0 * B 0
  | k + 1, A, B => A 0 * B (k + 1) + cv k (tl A) B
def mulS (A B : Nat → Int) : Nat → Int := fun k => cv k A B
theorem cv_congr {k : Nat} : ∀ {A A' B B' : Nat → Int}, (∀ j, j ≤ k → A j = A' j) → (∀ j, j ≤ k → B j = B' j) → cv k A B = cv k A' B' := by
  induction k with
  | zero => intro A A' B B' ha hb; simp only [cv]; rw [ha 0 (by omega), hb 0 (by omega)]
  | succ k ih =>
    intro A A' B B' ha hb
    simp only [cv]
    rw [ha 0 (by omega), hb (k + 1) (by omega), ih (A := tl A) (A' := tl A') (fun j hj => ha (j + 1) (by omega)) (fun j hj => hb j (by omega))]
theorem cv_add_l (k : Nat) : ∀ A A' B : Nat → Int, cv k (fun j => A j + A' j) B = cv k A B + cv k A' B := by
  induction k with
  | zero => intro A A' B; simp only [cv]; exact Int.add_mul _ _ _
  | succ k ih =>
    intro A A' B
    simp only [cv]
    have := ih (tl A) (tl A') B
    have e : tl (fun j => A j + A' j) = fun j => tl A j + tl A' j := rfl
    rw [e, this, Int.add_mul]; omega
theorem cv_smul_l (k : Nat) : ∀ (c : Int) (A B : Nat → Int), cv k (fun j => c * A j) B = c * cv k A B := by
  induction k with
  | zero => intro c A B; simp only [cv]; exact Int.mul_assoc _ _ _
  | succ k ih =>
    intro c A B
    simp only [cv]
    have := ih c (tl A) B
    have e : tl (fun j => c * A j) = fun j => c * tl A j := rfl
    rw [e, this, Int.mul_add, Int.mul_assoc]
theorem cv_right (k : Nat) : ∀ A B : Nat → Int, cv (k + 1) A B = A (k + 1) * B 0 + cv k A (tl B) := by
  induction k with
  | zero => intro A B; simp only [cv, tl]; omega
  | succ k ih =>
    intro A B
    have h1 : cv (k + 2) A B = A 0 * B (k + 2) + cv (k + 1) (tl A) B := rfl
    have h2 : cv (k + 1) A (tl B) = A 0 * B (k + 2) + cv k (tl A) (tl B) := rfl
    rw [h1, ih (tl A) B, h2]
    show _ + (A (k + 2) * B 0 + _) = A (k + 2) * B 0 + _
    omega
theorem cv_comm (k : Nat) : ∀ A B : Nat → Int, cv k A B = cv k B A := by
  induction k with
  | zero => intro A B; exact Int.mul_comm _ _
  | succ k ih =>
    intro A B
    rw [cv_right]
    simp only [cv]
    rw [ih A (tl B), Int.mul_comm]
theorem cv_add_r (k : Nat) (A B B' : Nat → Int) : cv k A (fun j => B j + B' j) = cv k A B + cv k A B' := by
  rw [cv_comm, cv_add_l, cv_comm k B, cv_comm k B']
theorem cv_assoc (k : Nat) : ∀ A B C : Nat → Int, cv k (mulS A B) C = cv k A (mulS B C) := by
  induction k with
  | zero => intro A B C; simp only [cv, mulS]; exact Int.mul_assoc _ _ _
  | succ k ih =>
    intro A B C
    have h1 : cv (k + 1) (mulS A B) C = A 0 * B 0 * C (k + 1) + cv k (tl (mulS A B)) C := rfl
    have h2 : tl (mulS A B) = fun j => A 0 * tl B j + mulS (tl A) B j := rfl
    have h3 : cv (k + 1) A (mulS B C) = A 0 * (B 0 * C (k + 1) + cv k (tl B) C) + cv k (tl A) (mulS B C) := rfl
    rw [h1, h2, cv_add_l, cv_smul_l, ih (tl A) B C, h3, Int.mul_add, Int.mul_assoc]; omega
theorem cv_sum (k : Nat) : ∀ A B : Nat → Int, cv k A B = sumN (fun i => A i * B (k - i)) (k + 1) := by
  induction k with
  | zero => intro A B; simp [cv, sumN]
  | succ k ih =>
    intro A B
    rw [sumN_first]
    simp only [cv]
    rw [ih (tl A) B]
    congr 1
    exact sumN_congr fun i _ => by rw [Nat.add_sub_add_right]; rfl
/-- The part of a product's coefficient that the first i coefficients of A give. -/
def cpar (A B : Nat → Int) (k i : Nat) : Int := sumN (fun j => if j ≤ k then A j * B (k - j) else 0) i
theorem cpar_succ (A B : Nat → Int) (k i : Nat) : cpar A B k (i + 1) = cpar A B k i + (if i ≤ k then A i * B (k - i) else 0) := rfl
theorem cpar_end {A B : Nat → Int} {n : Nat} (k : Nat) (h : ∀ j, n ≤ j → A j = 0) : cpar A B k n = cv k A B := by
  rw [cv_sum]
  unfold cpar
  have e1 : sumN (fun i => A i * B (k - i)) (k + 1) = sumN (fun j => if j ≤ k then A j * B (k - j) else 0) (k + 1) := sumN_congr fun i hi => by simp [show i ≤ k by omega]
  rw [e1]
  rcases Nat.le_total n (k + 1) with hl | hl
  · exact (sumN_more hl (fun i h1 h2 => by simp [h i h1])).symm
  · exact sumN_more hl (fun i h1 h2 => by simp [show ¬ i ≤ k by omega])
theorem cv_zero_l {k : Nat} {A B : Nat → Int} (h : ∀ j, j ≤ k → A j = 0) : cv k A B = 0 := by
  rw [cv_congr (A' := fun _ => 0 * 0) (B' := B) (fun j hj => by rw [h j hj]; rfl) (fun _ _ => rfl), cv_smul_l]; simp
/-- Beyond both supports a product vanishes; at the top it is the product of the tops. -/
theorem cv_out {A B : Nat → Int} {n m k : Nat} (ha : ∀ j, n ≤ j → A j = 0) (hb : ∀ j, m ≤ j → B j = 0) (hk : n + m ≤ k + 1) : cv k A B = 0 := by
  rw [cv_sum]
  rw [sumN_more (n := 0) (Nat.zero_le _)]
  · rfl
  · intro i _ hi
    by_cases h1 : n ≤ i
    · rw [ha i h1, Int.zero_mul]
    · rw [hb (k - i) (by omega), Int.mul_zero]
theorem cv_top {A B : Nat → Int} {n m : Nat} (ha : ∀ j, n + 1 ≤ j → A j = 0) (hb : ∀ j, m + 1 ≤ j → B j = 0) : cv (n + m) A B = A n * B m := by
  rw [← cpar_end (n + m) ha, cpar_succ, if_pos (by omega), Nat.add_sub_cancel_left]
  have : cpar A B (n + m) n = 0 := by
    unfold cpar
    rw [sumN_more (n := 0) (Nat.zero_le _)]
    · rfl
    · intro i _ hi
      rw [if_pos (by omega), hb _ (by omega), Int.mul_zero]
  rw [this]; omega
theorem cv_mod {p : Int} (k : Nat) : ∀ {A A' B B' : Nat → Int}, (∀ j, A j % p = A' j % p) → (∀ j, B j % p = B' j % p) → cv k A B % p = cv k A' B' % p := by
  induction k with
  | zero =>
    intro A A' B B' ha hb
    simp only [cv]
    rw [Int.mul_emod, ha, hb, ← Int.mul_emod]
  | succ k ih =>
    intro A A' B B' ha hb
    simp only [cv]
    rw [Int.add_emod, ih (A := tl A) (A' := tl A') (fun j => ha (j + 1)) hb, Int.mul_emod, ha 0, hb (k + 1), ← Int.mul_emod, ← Int.add_emod]
end Go.Proofs.Ytaapmpjkcddabaa
namespace Go.Proofs.Ytaapmpjkcddabaa
open Mth

theorem mul_nz {f : Int} (h0 : 0 ≤ f) (h8 : f ≤ 8) {x y : Int} (hx : x % P f ≠ 0) (hy : y % P f ≠ 0) : (x * y) % P f ≠ 0 := by
  have hp := P_bd h0 h8
  have bx := RS_bd (x := x) (m := P f) (by omega)
  have by' := RS_bd (x := y) (m := P f) (by omega)
  unfold RS at bx by'
  have := RS_mul_pos h0 h8 (a := x % P f) (b := y % P f) (by omega) bx.2 (by omega) by'.2
  unfold RS at this
  rw [Int.mul_emod]
  omega
def FinS (A : Nat → Int) : Prop := ∃ n, ∀ j, n ≤ j → A j = 0
theorem FinS.lf (l : List Int) : FinS (lf l) := ⟨l.length, fun _ h => lf_out l h⟩
theorem FinS.zero : FinS (fun _ => 0) := ⟨0, fun _ _ => rfl⟩
theorem FinS.add {A B : Nat → Int} (ha : FinS A) (hb : FinS B) : FinS (fun j => A j + B j) := by
  obtain ⟨n, hn⟩ := ha; obtain ⟨m, hm⟩ := hb
  exact ⟨n + m, fun j hj => by show A j + B j = 0; rw [hn j (by omega), hm j (by omega)]; rfl⟩
theorem FinS.smul {A : Nat → Int} (c : Int) (ha : FinS A) : FinS (fun j => c * A j) := by
  obtain ⟨n, hn⟩ := ha
  exact ⟨n, fun j hj => by show c * A j = 0; rw [hn j hj, Int.mul_zero]⟩
theorem FinS.mul {A B : Nat → Int} (ha : FinS A) (hb : FinS B) : FinS (mulS A B) := by
  obtain ⟨n, hn⟩ := ha; obtain ⟨m, hm⟩ := hb
  exact ⟨n + m, fun j hj => cv_out hn hm (by omega)⟩

theorem emod_add_congr {p a b c d : Int} (h1 : a % p = b % p) (h2 : c % p = d % p) : (a + c) % p = (b + d) % p := by rw [Int.add_emod, h1, h2, ← Int.add_emod]
theorem emod_zero_of_sub {p a b : Int} (h : a % p = b % p) : (a - b) % p = 0 := by rw [Int.sub_emod, h]; simp

/-- A multiple of a polynomial without coefficients from its degree on is zero. -/
theorem div_zero {f : Int} (h0 : 0 ≤ f) (h8 : f ≤ 8) {b : List Int} (hb : Pol f b) (hne : b.length ≠ 0) {Q : Nat → Int} (hQ : FinS Q) (h : ∀ k, b.length ≤ k + 1 → cv k Q (lf b) % P f = 0) : ∀ j, Q j % P f = 0 := by
  have hp := P_bd h0 h8
  obtain ⟨N, hN⟩ := hQ
  have key : ∀ t j, N ≤ j + t → Q j % P f = 0 := by
    intro t
    induction t with
    | zero => intro j hj; rw [hN j (by omega)]; simp
    | succ t ih =>
      intro j hj
      by_cases hjt : N ≤ j + t
      · exact ih j hjt
      · have hz : ∀ i, j + 1 ≤ i → (fun i => Q i % P f) i = 0 := fun i hi => ih i (by omega)
        have hbz : ∀ i, (b.length - 1) + 1 ≤ i → lf b i = 0 := fun i hi => lf_out b (by omega)
        have ht := cv_top hz hbz
        have hc := h (j + (b.length - 1)) (by omega)
        rw [cv_mod (A' := fun i => Q i % P f) (B' := lf b) _ (fun i => by simp) (fun _ => rfl), ht] at hc
        by_cases hq : Q j % P f = 0
        · exact hq
        · exfalso
          have hbt : lf b (b.length - 1) % P f ≠ 0 := by
            have h1 := hb.1 (b.length - 1)
            rw [Int.emod_eq_of_lt h1.1 h1.2]
            rcases hb.2 with h2 | h2
            · exact absurd h2 hne
            · exact h2
          exact mul_nz h0 h8 (by simpa using hq) hbt hc
  intro j
  exact key N j (by omega)

/-- Congruent modulo the polynomial b, over the field. -/
def Cg (f : Int) (b : List Int) (A A' : Nat → Int) : Prop := ∃ C, FinS C ∧ ∀ j, A j % P f = (cv j C (lf b) + A' j) % P f
theorem Cg.of {f : Int} {b : List Int} {A A' : Nat → Int} (h : ∀ j, A j % P f = A' j % P f) : Cg f b A A' := ⟨fun _ => 0, FinS.zero, fun j => by rw [h j, cv_zero_l (fun _ _ => rfl)]; simp⟩
theorem Cg.refl {f : Int} {b : List Int} {A : Nat → Int} : Cg f b A A := Cg.of fun _ => rfl
theorem Cg.symm {f : Int} {b : List Int} {A A' : Nat → Int} (h : Cg f b A A') : Cg f b A' A := by
  obtain ⟨C, hC, h⟩ := h
  refine ⟨fun j => (-1) * C j, hC.smul _, fun j => ?_⟩
  rw [cv_smul_l]
  have e := emod_add_congr (p := P f) (a := (-1) * cv j C (lf b)) rfl (h j)
  rw [e]; congr 1; omega
theorem Cg.trans {f : Int} {b : List Int} {A A' A'' : Nat → Int} (h : Cg f b A A') (k : Cg f b A' A'') : Cg f b A A'' := by
  obtain ⟨C, hC, h⟩ := h; obtain ⟨D, hD, k⟩ := k
  refine ⟨fun j => C j + D j, hC.add hD, fun j => ?_⟩
  rw [cv_add_l, h j]
  have e := emod_add_congr (p := P f) (a := cv j C (lf b)) rfl (k j)
  rw [e]; congr 1; omega
theorem Cg.mul {f : Int} {b : List Int} {A A' B B' : Nat → Int} (hA' : FinS A') (hB : FinS B) (h : Cg f b A A') (k : Cg f b B B') : Cg f b (mulS A B) (mulS A' B') := by
  obtain ⟨C, hC, h⟩ := h; obtain ⟨D, hD, k⟩ := k
  refine ⟨fun j => mulS C B j + mulS A' D j, (hC.mul hB).add (hA'.mul hD), fun j => ?_⟩
  have e1 : mulS A B j % P f = (mulS (mulS C (lf b)) B j + mulS A' B j) % P f := by
    show cv j A B % P f = _
    rw [cv_mod (A' := fun j => mulS C (lf b) j + A' j) (B' := B) j h (fun _ => rfl), cv_add_l]; rfl
  have e2 : mulS A' B j % P f = (mulS A' (mulS D (lf b)) j + mulS A' B' j) % P f := by
    show cv j A' B % P f = _
    rw [cv_mod (A' := A') (B' := fun j => mulS D (lf b) j + B' j) j (fun _ => rfl) k, cv_add_r]; rfl
  have e3 : mulS (mulS C (lf b)) B j = cv j (mulS C B) (lf b) := by
    show cv j (mulS C (lf b)) B = _
    rw [cv_assoc, cv_assoc]
    exact cv_congr (fun _ _ => rfl) (fun i _ => cv_comm i _ _)
  have e4 : mulS A' (mulS D (lf b)) j = cv j (mulS A' D) (lf b) := (cv_assoc j _ _ _).symm
  rw [e1, cv_add_l, emod_add_congr (p := P f) (a := mulS (mulS C (lf b)) B j) rfl e2, e3, e4]
  congr 1
  omega
/-- Two short polynomials that are congruent are one. -/
theorem Cg.short {f : Int} (h0 : 0 ≤ f) (h8 : f ≤ 8) {b r s : List Int} (hb : Pol f b) (hr : Pol f r) (hs : Pol f s) (lr : r.length < b.length) (ls : s.length < b.length) (h : Cg f b (lf r) (lf s)) : r = s := by
  obtain ⟨C, hC, h⟩ := h
  have hz := div_zero h0 h8 hb (by omega) hC (fun k hk => by
    have := h k
    rw [lf_out r (by omega), lf_out s (by omega), Int.add_zero] at this
    rw [← this]; simp)
  refine hr.eq hs fun j => ?_
  rw [h j, Int.add_emod, cv_mod (A' := fun _ => 0) (B' := lf b) j (fun i => by rw [hz i]; simp) (fun _ => rfl), cv_zero_l (fun _ _ => rfl)]; simp
def IsRem (f : Int) (A : Nat → Int) (b r : List Int) : Prop := Pol f r ∧ r.length < b.length ∧ Cg f b A (lf r)
theorem IsRem.unique {f : Int} (h0 : 0 ≤ f) (h8 : f ≤ 8) {A A' : Nat → Int} {b r s : List Int} (hb : Pol f b) (hr : IsRem f A b r) (hs : IsRem f A' b s) (h : Cg f b A A') : r = s :=
  Cg.short h0 h8 hb hr.1 hs.1 hr.2.1 hs.2.1 (hr.2.2.symm.trans (h.trans hs.2.2))
/-- The state of a division: n is where the rest ends. -/
def DivAt (f : Int) (A : Nat → Int) (b : List Int) (n : Nat) (Q R : Nat → Int) : Prop :=
  (∀ j, A j % P f = (cv j Q (lf b) + R j) % P f) ∧ (∀ j, 0 ≤ R j ∧ R j < P f) ∧ (∀ j, 0 ≤ Q j ∧ Q j < P f) ∧ (∀ j, n ≤ j → R j = 0) ∧ (∀ j, j + b.length ≤ n → Q j = 0) ∧ FinS Q
theorem DivAt.start {f : Int} {a b : List Int} (ha : Pol f a) (hp : 0 < P f) : DivAt f (lf a) b a.length (fun _ => 0) (lf a) :=
  ⟨fun j => by rw [cv_zero_l (fun _ _ => rfl)]; simp, ha.1, fun _ => ⟨Int.le_refl _, hp⟩, fun _ h => lf_out a h, fun _ _ => rfl, FinS.zero⟩
theorem DivAt.congr {f : Int} {A : Nat → Int} {b : List Int} {n : Nat} {Q Q' R R' : Nat → Int} (h : DivAt f A b n Q R) (hQ : ∀ j, Q j = Q' j) (hR : ∀ j, R j = R' j) : DivAt f A b n Q' R' := by
  obtain rfl : Q = Q' := funext hQ
  obtain rfl : R = R' := funext hR
  exact h
theorem sumN_single (g : Nat → Int) (s n : Nat) : sumN (fun i => if i = s then g i else 0) n = if s < n then g s else 0 := by
  induction n with
  | zero => simp [sumN]
  | succ n ih =>
    rw [sumN, ih]
    by_cases h : n = s
    · subst h; simp
    · by_cases h2 : s < n
      · simp [h, h2, show s < n + 1 by omega]
      · simp [h, h2, show ¬ s < n + 1 by omega]
theorem cv_mono (k s : Nat) (m : Int) (B : Nat → Int) : cv k (fun j => if j = s then m else 0) B = if s ≤ k then m * B (k - s) else 0 := by
  rw [cv_sum, sumN_congr (g := fun i => if i = s then m * B (k - i) else 0) (fun i _ => by split <;> simp), sumN_single (fun i => m * B (k - i))]
  by_cases h : s ≤ k
  · simp [h, show s < k + 1 by omega]
  · simp [h, show ¬ s < k + 1 by omega]
/-- Quotient and remainder. -/
def DivP (f : Int) (a b q r : List Int) : Prop := Pol f q ∧ Pol f r ∧ r.length < b.length ∧ ∀ j, lf a j % P f = (cv j (lf q) (lf b) + lf r j) % P f
theorem DivP.unique {f : Int} (h0 : 0 ≤ f) (h8 : f ≤ 8) {a b q r q' r' : List Int} (hb : Pol f b) (h : DivP f a b q r) (k : DivP f a b q' r') : q = q' ∧ r = r' := by
  obtain ⟨h1, h2, h3, h4⟩ := h
  obtain ⟨k1, k2, k3, k4⟩ := k
  have er : r = r' := IsRem.unique h0 h8 hb (A := lf a) (A' := lf a) ⟨h2, h3, lf q, FinS.lf q, h4⟩ ⟨k2, k3, lf q', FinS.lf q', k4⟩ Cg.refl
  refine ⟨?_, er⟩
  subst er
  have hz := div_zero h0 h8 hb (by omega) (Q := fun j => lf q j + (-1) * lf q' j) ((FinS.lf q).add ((FinS.lf q').smul _)) (fun k _ => by
    rw [cv_add_l, cv_smul_l]
    have e := emod_zero_of_sub ((h4 k).symm.trans (k4 k))
    rw [← e]; congr 1; omega)
  refine h1.eq k1 fun j => ?_
  have := hz j
  have e : lf q j = (lf q j + (-1) * lf q' j) + lf q' j := by omega
  rw [e, Int.add_emod, this]; simp
end Go.Proofs.Ytaapmpjkcddabaa
namespace Go.Proofs.Ytaapmpjkcddabaa
open Mth

def mulL (f : Int) (a b : List Int) : List Int := cutL (a.length + b.length - 1) fun k => RS (cv k (lf a) (lf b)) (P f)
theorem lf_mulL (f : Int) (a b : List Int) (k : Nat) : lf (mulL f a b) k = cv k (lf a) (lf b) % P f := by
  unfold mulL
  rw [lf_cutL]
  split
  · rfl
  · rw [cv_out (fun j h => lf_out a h) (fun j h => lf_out b h) (by omega)]; simp
/-- Powers of series. -/
def oneS : Nat → Int := fun j => if j = 0 then 1 else 0
def powS (A : Nat → Int) : Nat → (Nat → Int)
  | 0 => oneS
  | k + 1 => mulS (powS A k) A
theorem FinS.one : FinS oneS := ⟨1, fun j hj => by unfold oneS; rw [if_neg (by omega)]⟩
theorem FinS.pow {A : Nat → Int} (h : FinS A) (k : Nat) : FinS (powS A k) := by
  induction k with
  | zero => exact FinS.one
  | succ k ih => exact ih.mul h
theorem one_mul (A : Nat → Int) : mulS oneS A = A := by
  funext k
  show cv k oneS A = A k
  have := cv_mono k 0 1 A
  rw [if_pos (Nat.zero_le _), Int.one_mul, Nat.sub_zero] at this
  exact this
theorem mul_commS (A B : Nat → Int) : mulS A B = mulS B A := funext fun k => cv_comm k A B
/-- The state of the loop: r s^e is a^e0, modulo m. -/
def PowAt (f : Int) (m : List Int) (A : Nat → Int) (e0 e : Nat) (r s : List Int) : Prop := (Pol f r ∧ r.length < m.length) ∧ (Pol f s ∧ s.length < m.length) ∧ Cg f m (mulS (lf r) (powS (lf s) e)) (powS A e0)
theorem Cg.pow {f : Int} {b : List Int} {A A' : Nat → Int} (hA : FinS A) (hA' : FinS A') (h : Cg f b A A') (k : Nat) : Cg f b (powS A k) (powS A' k) := by
  induction k with
  | zero => exact Cg.refl
  | succ k ih => exact Cg.mul (hA'.pow k) hA ih h
theorem lf_mulL_cg (f : Int) (m a b : List Int) : Cg f m (lf (mulL f a b)) (mulS (lf a) (lf b)) := Cg.of fun j => by rw [lf_mulL]; simp [mulS]
/-- a^e modulo m. -/
def IsPow (f : Int) (a : List Int) (e : Nat) (m r : List Int) : Prop := IsRem f (powS (lf a) e) m r
theorem PowAt.last {f : Int} {m r s a : List Int} {e0 : Nat} (h : PowAt f m (lf a) e0 0 r s) : IsPow f a e0 m r := by
  obtain ⟨h1, h2, h3⟩ := h
  refine ⟨h1.1, h1.2, ?_⟩
  have e : mulS (lf r) (powS (lf s) 0) = lf r := by show mulS (lf r) oneS = _; rw [mul_commS, one_mul]
  rw [e] at h3
  exact h3.symm
theorem PowAt.first {f : Int} {m r s a : List Int} {e0 : Nat} (hr : IsRem f oneS m r) (hs : IsRem f (lf a) m s) : PowAt f m (lf a) e0 e0 r s := by
  refine ⟨⟨hr.1, hr.2.1⟩, ⟨hs.1, hs.2.1⟩, ?_⟩
  have := Cg.mul FinS.one ((FinS.lf s).pow e0) hr.2.2.symm (Cg.pow (FinS.lf s) (FinS.lf a) hs.2.2.symm e0)
  rw [one_mul] at this
  exact this
theorem IsPow.unique {f : Int} (h0 : 0 ≤ f) (h8 : f ≤ 8) {a m r r' : List Int} {e : Nat} (hm : Pol f m) (h : IsPow f a e m r) (k : IsPow f a e m r') : r = r' := IsRem.unique h0 h8 hm h k Cg.refl
/-- One more factor. -/
theorem IsPow.succ {f : Int} (h0 : 0 ≤ f) (h8 : f ≤ 8) {a m x y r : List Int} {e : Nat} (hm : Pol f m) (hx : IsPow f a e m x) (hy : IsPow f a (e + 1) m y) (hr : IsRem f (lf (mulL f x a)) m r) : r = y := by
  refine IsRem.unique h0 h8 hm hr hy ?_
  refine (lf_mulL_cg f m x a).trans ?_
  show Cg f m _ (mulS (powS (lf a) e) (lf a))
  exact Cg.mul ((FinS.lf a).pow e) (FinS.lf a) hx.2.2.symm Cg.refl

end Go.Proofs.Ytaapmpjkcddabaa
namespace Go.Proofs.Ytaapmpjkcddabaa
open Go.RowKit
/-- A list in memory of its own, made at B or later: nil, or a whole block. -/
def OwnA (w : World) (B : Nat) (a : Option Addr) (l : List Int) (cap : Nat) : Prop :=
  (a = none ∧ cap = 0 ∧ l.length = 0) ∨ ∃ g, a = some ⟨g, 0, none⟩ ∧ cap = l.length ∧ B ≤ g ∧ Own w g l.length (lf l)
theorem OwnA.src {w : World} {B : Nat} {a : Option Addr} {l : List Int} {cap : Nat} (h : OwnA w B a l cap) : Src w a l.length (lf l) := by
  rcases h with ⟨_, _, h⟩ | ⟨g, rfl, _, _, h⟩
  · exact .inl h
  · exact h.src
theorem OwnA.keep {w w' : World} {B : Nat} {a : Option Addr} {l : List Int} {cap : Nat} (h : OwnA w B a l cap) (hb : Below w.heap.size w w') : OwnA w' B a l cap := by
  rcases h with h | ⟨g, h1, h2, h3, h4⟩
  · exact .inl h
  · exact .inr ⟨g, h1, h2, h3, h4.keep hb⟩
/-- Its block, if it has one, lies below B. -/
def Lies (a : Option Addr) (B : Nat) : Prop := ∀ x, a = some x → x.block < B
theorem OwnA.lies {w : World} {B : Nat} {a : Option Addr} {l : List Int} {cap : Nat} (h : OwnA w B a l cap) : Lies a w.heap.size := by
  intro x hx
  rcases h with ⟨h1, _⟩ | ⟨g, h1, _, _, h4⟩
  · rw [h1] at hx; cases hx
  · rw [h1] at hx; cases hx; exact h4.lt
theorem Lies.mono {a : Option Addr} {B B' : Nat} (h : Lies a B) (hB : B ≤ B') : Lies a B' := fun x hx => Nat.lt_of_lt_of_le (h x hx) hB
/-- The world has grown, and written at most into the block of a. -/
def Grow (w w' : World) (a : Option Addr) : Prop := w = w' ∨ ∃ g, a = some ⟨g, 0, none⟩ ∧ w.grownBy w' (some g)
theorem OwnA.after {w w' : World} {B cap : Nat} {a a2 : Option Addr} {l : List Int} (h : OwnA w B a2 l cap) (hg : Grow w w' a) (hl : Lies a B) : OwnA w' B a2 l cap := by
  rcases hg with rfl | ⟨g, rfl, hg⟩
  · exact h
  · have := hl _ rfl
    rcases h with h | ⟨g2, h1, h2, h3, h4⟩
    · exact .inl h
    · refine .inr ⟨g2, h1, h2, h3, World.rowIs.of_block h4 (hg.block g2 h4.lt (fun e => ?_))⟩
      injection e with e
      have : g < B := this
      omega
theorem Grow.below {u w w' : World} {B0 B cap : Nat} {a : Option Addr} {l : List Int} (hg : Grow w w' a) (ho : OwnA w B a l cap) (hB : B0 ≤ B) (hb : Below B0 u w) (hs : B0 ≤ w.heap.size) : Below B0 u w' := by
  rcases hg with rfl | ⟨g, rfl, hg⟩
  · exact hb
  · rcases ho with ⟨h, _⟩ | ⟨g2, h1, h2, h3, h4⟩
    · cases h
    · cases h1
      exact hb.grown hg hs (fun k hk => by injection hk with hk; omega)
theorem Grow.size {w w' : World} {a : Option Addr} (hg : Grow w w' a) : w.heap.size ≤ w'.heap.size := by
  rcases hg with rfl | ⟨g, rfl, hg⟩
  · exact Nat.le_refl _
  · exact hg.size
def ListL (w : World) (l : List Int) (e : Ending) (w' : World) : Prop := ∃ a cap, e = .returned (.slice a l.length cap) ∧ Src w' a l.length (lf l) ∧ Below w.heap.size w w'
def OwnL (w : World) (l : List Int) (e : Ending) (w' : World) : Prop := ∃ a cap, e = .returned (.slice a l.length cap) ∧ OwnA w' w.heap.size a l cap ∧ Below w.heap.size w w'
theorem OwnL.list {w w' : World} {l : List Int} {e : Ending} (h : OwnL w l e w') : ListL w l e w' := by
  obtain ⟨a, cap, h1, h2, h3⟩ := h
  exact ⟨a, cap, h1, h2.src, h3⟩
/-- A mark in a block that lies further on leaves it. -/
theorem OwnA.before {w w' : World} {B B2 cap cap2 : Nat} {a a2 : Option Addr} {l l2 : List Int} (h : OwnA w B a l cap) (hg : Grow w w' a2) (h2 : OwnA w B2 a2 l2 cap2) (hl : Lies a B2) : OwnA w' B a l cap := by
  rcases hg with rfl | ⟨g, rfl, hg⟩
  · exact h
  · rcases h with h | ⟨g1, rfl, h12, h13, h14⟩
    · exact .inl h
    · rcases h2 with ⟨h2, _⟩ | ⟨g2, h21, h22, h23, h24⟩
      · cases h2
      · cases h21
        have : g1 < B2 := hl _ rfl
        refine .inr ⟨g1, rfl, h12, h13, World.rowIs.of_block h14 (hg.block g1 h14.lt (fun e => ?_))⟩
        injection e with e
        omega
theorem OwnA.nil {w : World} {B : Nat} {l : List Int} (h : l.length = 0) : OwnA w B none l 0 := .inl ⟨rfl, rfl, h⟩
theorem own_congr {w : World} {g n m : Nat} {F G : Nat → Int} (h : Own w g n F) (hn : n = m) (e : ∀ j, j < n → F j = G j) : Own w g m G := by
  subst hn
  exact World.rowIs.congr h fun j hj => by rw [e j hj]
/-- A block of n integers is the list of its first n. -/
theorem OwnA.of {w : World} {g n B : Nat} {F : Nat → Int} {l : List Int} (h : Own w g n F) (hn : n = l.length) (hB : B ≤ g) (e : ∀ j, j < n → F j = lf l j) : OwnA w B (some ⟨g, 0, none⟩) l n :=
  .inr ⟨g, rfl, hn, hB, own_congr h hn e⟩
theorem below_up {B : Nat} {a w w' : World} (h : Below B a w) (h2 : Below w.heap.size w w') (hB : B ≤ w.heap.size) : Below B a w' := h.trans (h2.mono hB)
end Go.Proofs.Ytaapmpjkcddabaa
namespace Go.Proofs.Ytaapmpjkcddabaa
open Mth
def Dv (f : Int) (g : List Int) (A : Nat → Int) : Prop := Cg f g A (fun _ => 0)
theorem Dv.zero {f : Int} (_h0 : 0 ≤ f) (_h8 : f ≤ 8) {g : List Int} {A : Nat → Int} (h : ∀ j, A j = 0) : Dv f g A := Cg.of fun j => by rw [h j]
/-- What divides the divisor and the remainder divides the dividend. -/
theorem Dv.up {f : Int} (_h0 : 0 ≤ f) (_h8 : f ≤ 8) {g b : List Int} {A R : Nat → Int} (hb : Dv f g (lf b)) (hr : Dv f g R) (h : Cg f b A R) : Dv f g A := by
  obtain ⟨C, hC, h⟩ := h
  obtain ⟨B, hB, hb⟩ := hb
  obtain ⟨D, hD, hr⟩ := hr
  refine ⟨fun j => mulS C B j + D j, (hC.mul hB).add hD, fun j => ?_⟩
  rw [h j, cv_add_l, cv_assoc]
  have e1 : cv j C (lf b) % P f = cv j C (mulS B (lf g)) % P f := cv_mod j (fun _ => rfl) (fun i => by rw [hb i]; simp [mulS])
  have e2 := hr j
  rw [Int.add_zero] at e2
  rw [Int.add_zero]
  exact emod_add_congr e1 e2
end Go.Proofs.Ytaapmpjkcddabaa
namespace Go.Proofs.Ytaapmpjkcddabaa
open Go.RowKit
/-- A list in a new block of its very size. -/
def OwnG (w : World) (l : List Int) (e : Ending) (w' : World) : Prop := ∃ g, e = .returned (.slice (some ⟨g, 0, none⟩) l.length l.length) ∧ w.heap.size ≤ g ∧ Own w' g l.length (lf l) ∧ Below w.heap.size w w'
theorem OwnG.own {w w' : World} {l : List Int} {e : Ending} (h : OwnG w l e w') : OwnL w l e w' := by
  obtain ⟨g, rfl, hg, ho, hb⟩ := h
  exact ⟨_, _, rfl, .inr ⟨g, rfl, rfl, hg, ho⟩, hb⟩
theorem OwnG.up {u w w' : World} {l : List Int} {e : Ending} (h : OwnG w l e w') (hb : Below u.heap.size u w) : OwnG u l e w' := by
  obtain ⟨g, rfl, hg, ho, h2⟩ := h
  exact ⟨g, rfl, Nat.le_trans hb.size hg, ho, below_up hb h2 hb.size⟩
end Go.Proofs.Ytaapmpjkcddabaa
namespace Go.Proofs.Ytaapmpjkcddabaa
open Go.RowKit
def SameB (w : World) (b : Bool) (e : Ending) (w' : World) : Prop := e = .returned (.bool b) ∧ w = w'
theorem in_c (x lo hi : Int) (w : World) : Calls Try.prog 12 #[.int .i64 x, .int .i64 lo, .int .i64 hi] w (SameB w (decide (lo ≤ x ∧ x ≤ hi))) := by
  by_cases h1 : lo ≤ x
  · by_cases h2 : x ≤ hi
    · go_enter Try.func12, Try.ntmps12
      go_wp2
      go_ret
      exact ⟨by simp [h1, h2], rfl⟩
    · have hd : decide (x ≤ hi) = false := by simpa using h2
      go_enter Try.func12, Try.ntmps12
      go_wp2
      go_ret
      exact ⟨by simp, rfl⟩
  · have hd : decide (lo ≤ x) = false := by simpa using h1
    go_enter Try.func12, Try.ntmps12
    go_wp2
    go_ret
    exact ⟨by simp, rfl⟩
end Go.Proofs.Ytaapmpjkcddabaa
namespace Go.Proofs.Ytaapmpjkcddabaa
open Go.RowKit
theorem src_of_owns2 {w' : World} {base : Nat} {v : Value} {n : Nat} {F : Nat → Int} (h : w'.ownsRow base 3 1 v n (xsF F n)) : ∃ a cap, v = .slice a n cap ∧ n ≤ cap ∧ Src w' a n F := by
  obtain ⟨a, cap, hv, hs⟩ := src_of_owns h
  refine ⟨a, cap, hv, ?_, hs⟩
  obtain ⟨hl, h⟩ := h
  rcases h with ⟨h1, h2⟩ | ⟨g, cap', cur, h1, hg, hh, hc, hm, hs, ht⟩
  · rw [hv] at h1; cases h1; exact Nat.le_refl _
  · rw [hv] at h1; cases h1; exact hc
/-- A list that the call made, in a row of its own that may have room. -/
def OwnsL (w : World) (l : List Int) (e : Ending) (w' : World) : Prop := ∃ v, e = .returned v ∧ w'.ownsRow w.heap.size 3 1 v l.length (xsF (lf l) l.length) ∧ Below w.heap.size w w'
theorem OwnsL.list {w w' : World} {l : List Int} {e : Ending} (h : OwnsL w l e w') : ListL w l e w' := by
  obtain ⟨v, rfl, ho, hb⟩ := h
  obtain ⟨a, cap, rfl, _, hs⟩ := src_of_owns2 ho
  exact ⟨a, cap, rfl, hs, hb⟩
theorem OwnsL.up {u w w' : World} {l : List Int} {e : Ending} (h : OwnsL w l e w') (hb : Below u.heap.size u w) (hs : u.heap.size ≤ w.heap.size) : OwnsL u l e w' := by
  obtain ⟨v, rfl, ho, h2⟩ := h
  refine ⟨v, rfl, ?_, below_up hb h2 hs⟩
  obtain ⟨hl, h⟩ := ho
  refine ⟨hl, ?_⟩
  rcases h with h | ⟨g, cap, cur, h1, hg, hr⟩
  · exact .inl h
  · exact .inr ⟨g, cap, cur, h1, Nat.le_trans hs hg, hr⟩
end Go.Proofs.Ytaapmpjkcddabaa
namespace Go.Proofs.Ytaapmpjkcddabaa
open Mth
theorem P6 : P 6 = 998244353 := by decide
theorem P7 : P 7 = 469762049 := by decide
/-- The product of the primes of the fields 6 and 7. -/
def MM : Int := 468937312667959297
theorem bezout_dvd {a b s t u v : Int} (hb : a * s + b * t = 1) (e : a * u = b * v) : b ∣ u := by
  have h1 : (a * s + b * t) * u = s * (a * u) + b * (t * u) := by
    rw [Int.add_mul]
    congr 1
    · rw [Int.mul_comm a s, Int.mul_assoc]
    · rw [Int.mul_assoc]
  rw [hb, Int.one_mul, e] at h1
  exact ⟨s * v + t * u, h1.trans (by rw [Int.mul_add, ← Int.mul_assoc s b v, Int.mul_comm s b, Int.mul_assoc])⟩
theorem bez67 : (998244353 : Int) * 208783132 + 469762049 * (-443664155) = 1 := by decide
theorem mul67 : (998244353 : Int) * 469762049 = 468937312667959297 := by decide
theorem small_zero {z t : Int} (h : z = 468937312667959297 * t) (h1 : -468937312667959297 < z) (h2 : z < 468937312667959297) : z = 0 := by omega
/-- A number below MM is known by its two residues. -/
theorem crt_unique {x y : Int} (x0 : 0 ≤ x) (x1 : x < MM) (y0 : 0 ≤ y) (y1 : y < MM) (h6 : x % P 6 = y % P 6) (h7 : x % P 7 = y % P 7) : x = y := by
  rw [P6] at h6
  rw [P7] at h7
  unfold MM at x1 y1
  obtain ⟨u, hu⟩ : (998244353 : Int) ∣ x - y := Int.dvd_of_emod_eq_zero (Int.emod_eq_emod_iff_emod_sub_eq_zero.1 h6)
  obtain ⟨v, hv⟩ : (469762049 : Int) ∣ x - y := Int.dvd_of_emod_eq_zero (Int.emod_eq_emod_iff_emod_sub_eq_zero.1 h7)
  obtain ⟨t, ht⟩ := bezout_dvd bez67 (hu.symm.trans hv)
  rw [ht, ← Int.mul_assoc, mul67] at hu
  have := small_zero hu (by clear hu hv ht h6 h7; omega) (by clear hu hv ht h6 h7; omega)
  clear hu hv ht h6 h7
  omega
/-- z is the number of the residues a, b. -/
def IsJoined (a b z : Int) : Prop := 0 ≤ z ∧ z < MM ∧ z % P 6 = a ∧ z % P 7 = b
theorem IsJoined.unique {a b y z : Int} (hy : IsJoined a b y) (hz : IsJoined a b z) : y = z :=
  crt_unique hy.1 hy.2.1 hz.1 hz.2.1 (hy.2.2.1.trans hz.2.2.1.symm) (hy.2.2.2.trans hz.2.2.2.symm)
def mBound (n m : Int) : Int := if (1 ≤ n ∧ n ≤ 200) ∧ 1 ≤ m ∧ m ≤ 200 then min n m * 1000000 * 1000000 else -1
end Go.Proofs.Ytaapmpjkcddabaa
namespace Go.Proofs.Ytaapmpjkcddabaa
open Go.RowKit
def NilP (w : World) (e : Ending) (w' : World) : Prop := e = .returned (.slice none 0 0) ∧ Below w.heap.size w w'
theorem NilP.list {w w' : World} {l : List Int} {e : Ending} (hl : l = []) (h : NilP w e w') : ListL w l e w' := by
  subst hl
  obtain ⟨rfl, hb⟩ := h
  exact ⟨none, 0, rfl, .inl rfl, hb⟩
theorem NilP.own {w w' : World} {l : List Int} {e : Ending} (hl : l = []) (h : NilP w e w') : OwnL w l e w' := by
  subst hl
  obtain ⟨rfl, hb⟩ := h
  exact ⟨none, 0, rfl, OwnA.nil rfl, hb⟩
end Go.Proofs.Ytaapmpjkcddabaa
namespace Go.Proofs.Ytaapmpjkcddabaa
open Go.RowKit
theorem sBound (n m : Int) (w : World) : Calls Try.prog 6 #[.int .i64 n, .int .i64 m] w fun e w' => e = .returned (.int .i64 (mBound n m)) ∧ w = w' := by
  have I1 := in_c n 1 200 w
  have I2 := in_c m 1 200 w
  by_cases h1 : 1 ≤ n ∧ n ≤ 200
  · rw [decide_eq_true h1] at I1
    by_cases h2 : 1 ≤ m ∧ m ≤ 200
    · rw [decide_eq_true h2] at I2
      by_cases h3 : m < n
      · have HB : Hid (mBound n m = m * 1000000 * 1000000) := Lib.hid (by unfold mBound; rw [if_pos ⟨h1, h2⟩, Int.min_eq_right (by omega)])
        have d3 : decide (m < n) = true := decide_eq_true h3
        obtain ⟨m0, m1⟩ := h2
        clear h1
        go_enter Try.func6, Try.ntmps6
        go_wp2_with fail
        refine I1.mono ?_
        rintro e w' ⟨rfl, rfl⟩
        go_wp2_with fail
        refine I2.mono ?_
        rintro e w' ⟨rfl, rfl⟩
        go_wp2
        go_ret
        exact ⟨by rw [HB.out]; rfl, rfl⟩
      · have HB : Hid (mBound n m = n * 1000000 * 1000000) := Lib.hid (by unfold mBound; rw [if_pos ⟨h1, h2⟩, Int.min_eq_left (by omega)])
        have d3 : decide (m < n) = false := decide_eq_false h3
        obtain ⟨m0, m1⟩ := h1
        clear h2
        go_enter Try.func6, Try.ntmps6
        go_wp2_with fail
        refine I1.mono ?_
        rintro e w' ⟨rfl, rfl⟩
        go_wp2_with fail
        refine I2.mono ?_
        rintro e w' ⟨rfl, rfl⟩
        go_wp2
        go_ret
        exact ⟨by rw [HB.out]; rfl, rfl⟩
    · rw [decide_eq_false h2] at I2
      have HB : Hid (mBound n m = -1) := Lib.hid (if_neg fun h => h2 h.2)
      clear h1 h2
      go_enter Try.func6, Try.ntmps6
      go_wp2_with fail
      refine I1.mono ?_
      rintro e w' ⟨rfl, rfl⟩
      go_wp2_with fail
      refine I2.mono ?_
      rintro e w' ⟨rfl, rfl⟩
      go_wp2
      go_ret
      exact ⟨by rw [HB.out]; rfl, rfl⟩
  · rw [decide_eq_false h1] at I1
    have HB : Hid (mBound n m = -1) := Lib.hid (if_neg fun h => h1 h.1)
    clear h1 I2
    go_enter Try.func6, Try.ntmps6
    go_wp2_with fail
    refine I1.mono ?_
    rintro e w' ⟨rfl, rfl⟩
    go_wp2
    go_ret
    exact ⟨by rw [HB.out]; rfl, rfl⟩
/-- A byte of a text. -/
def bt (s : ByteArray) (j : Nat) : Int := ((s.data.toList.getD j 0).toNat : Int)
def DigOk (s : ByteArray) : Prop := (1 ≤ s.size ∧ s.size ≤ 300) ∧ (∀ j, j < s.size → 48 ≤ bt s j ∧ bt s j ≤ 57) ∧ (bt s 0 ≠ 48 ∨ s.size = 1)
theorem bt_get {s : ByteArray} {j : Nat} (h : j < s.size) : bt s j = ((s[j]'h).toNat : Int) := by
  unfold bt
  have h2 : j < s.data.toList.length := by simpa using h
  rw [List.getD_eq_getElem?_getD, List.getElem?_eq_getElem h2]
  simp
  rfl
open Classical in
noncomputable def mDigitsOk (s : ByteArray) : Bool := decide (DigOk s)
theorem dig_iff {s : ByteArray} : mDigitsOk s = true ↔ DigOk s := by unfold mDigitsOk; simp
theorem dig_not {s : ByteArray} : mDigitsOk s = false ↔ ¬ DigOk s := by unfold mDigitsOk; simp
set_option maxHeartbeats 1600000 in
theorem sDigitsOk (s : ByteArray) (w : World) (hs : s.size ≤ 1048576) : Calls Try.prog 8 #[.string s] w (SameB w (mDigitsOk s)) := by
  have I1 := in_c s.size 1 300 w
  by_cases h1 : 1 ≤ s.size ∧ s.size ≤ 300
  · rw [show decide (1 ≤ (s.size : Int) ∧ (s.size : Int) ≤ 300) = true from decide_eq_true (by omega)] at I1
    have HI := Lib.hid I1
    have HN : Hid (∀ k, k < s.size → ¬ (48 ≤ bt s k ∧ bt s k ≤ 57) → mDigitsOk s = false) := Lib.hid fun k hk h => dig_not.2 fun hd => h (hd.2.1 k hk)
    have HE : Hid ((∀ j, j < s.size → 48 ≤ bt s j ∧ bt s j ≤ 57) → ∀ B : Bool, (B = true ↔ (bt s 0 ≠ 48 ∨ s.size = 1)) → mDigitsOk s = B) := Lib.hid fun ha B hB => by
      cases B
      · exact dig_not.2 fun hd => by have := hB.2 hd.2.2; cases this
      · exact dig_iff.2 ⟨h1, ha, hB.1 rfl⟩
    clear I1
    go_enter Try.func8, Try.ntmps8
    go_wp2_with fail
    refine HI.out.mono ?_
    rintro e w' ⟨rfl, rfl⟩
    clear HI
    go_wp2_with fail
    go_loop [3] (fun i => ∃ k : Nat, i = .int .i64 k ∧ k ≤ s.size ∧ Hid (∀ j, j < k → 48 ≤ bt s j ∧ bt s j ≤ 57)) (fun i => s.size - (intOf i).toNat)
    case atStart => exact ⟨0, rfl, Nat.zero_le _, Lib.hid (fun j hj => by omega)⟩
    case round =>
      obtain ⟨k, rfl, hk, HA⟩ := hrel
      by_cases h2 : k < s.size
      · have hd1 : decide ((k : Int) < s.size) = true := decide_eq_true (by omega)
        have i1 : (0 : Int) ≤ (k : Int) ∧ (k : Int) < s.size := by omega
        have hb := bt_get h2
        by_cases hlo : (s[k].toNat : Int) < 48
        · have dlo : decide ((s[k].toNat : Int) < 48) = true := decide_eq_true hlo
          have HR := Lib.hid (HN.out k h2 (by omega))
          go_wp2
          go_ret
          exact ⟨by rw [HR.out]; rfl, rfl⟩
        · have dlo : decide ((s[k].toNat : Int) < 48) = false := decide_eq_false hlo
          by_cases hhi : 57 < (s[k].toNat : Int)
          · have dhi : decide (57 < (s[k].toNat : Int)) = true := decide_eq_true hhi
            have HR := Lib.hid (HN.out k h2 (by omega))
            go_wp2
            go_ret
            exact ⟨by rw [HR.out]; rfl, rfl⟩
          · have dhi : decide (57 < (s[k].toNat : Int)) = false := decide_eq_false hhi
            have HA2 : Hid (∀ j, j < k + 1 → 48 ≤ bt s j ∧ bt s j ≤ 57) := Lib.hid (fun j hj => by
              by_cases e : j = k
              · subst e; omega
              · exact HA.out j (by omega))
            clear HA hb
            go_wp2
            go_round
            case rel => exact ⟨k + 1, by go_num, by omega, HA2⟩
            case measure => simp [intOf]; omega
      · have hd1 : decide ((k : Int) < s.size) = false := decide_eq_false (by omega)
        obtain rfl : k = s.size := by omega
        have h0 : 0 < s.size := by omega
        have hb := bt_get h0
        have HE2 := Lib.hid (HE.out HA.out)
        clear HA HE HN
        by_cases hz : (s[0].toNat : Int) = 48
        · have dz : ((s[0].toNat : Int) != 48) = false := by simp [hz]
          by_cases h11 : s.size = 1
          · have d1 : ((s.size : Int) == 1) = true := by simp [h11]
            have HR := Lib.hid (HE2.out true ⟨fun _ => .inr h11, fun _ => rfl⟩)
            clear h11 hb hz
            go_wp2
            go_ret
            exact ⟨by rw [HR.out]; rfl, rfl⟩
          · have d1 : ((s.size : Int) == 1) = false := by rw [beq_eq_false_iff_ne]; omega
            have HR := Lib.hid (HE2.out false ⟨(fun h => by cases h), (fun h => by rcases h with h | h <;> omega)⟩)
            clear h11 hb hz
            go_wp2
            go_ret
            exact ⟨by rw [HR.out]; rfl, rfl⟩
        · have dz : ((s[0].toNat : Int) != 48) = true := by rw [bne_iff_ne]; exact hz
          have HR := Lib.hid (HE2.out true ⟨fun _ => .inl (by omega), fun _ => rfl⟩)
          clear hb hz
          go_wp2
          go_ret
          exact ⟨by rw [HR.out]; rfl, rfl⟩
  · rw [show decide (1 ≤ (s.size : Int) ∧ (s.size : Int) ≤ 300) = false from decide_eq_false (by omega)] at I1
    have HB := Lib.hid (dig_not.2 fun h : DigOk s => h1 h.1)
    clear h1
    go_enter Try.func8, Try.ntmps8
    go_wp2_with fail
    refine I1.mono ?_
    rintro e w' ⟨rfl, rfl⟩
    go_wp2
    go_ret
    exact ⟨by rw [HB.out]; rfl, rfl⟩
end Go.Proofs.Ytaapmpjkcddabaa
namespace Go.Proofs.Ytaapmpjkcddabaa
open Mth
/-- Field f has a root of order 2^k. -/
def hasK (f k : Int) : Prop := (0 ≤ f ∧ f ≤ 8) ∧ 0 ≤ k ∧ k ≤ T f
instance (f k : Int) : Decidable (hasK f k) := inferInstanceAs (Decidable ((0 ≤ f ∧ f ≤ 8) ∧ 0 ≤ k ∧ k ≤ T f))
end Go.Proofs.Ytaapmpjkcddabaa
namespace Go.Proofs.Ytaapmpjkcddabaa
/-- The number of the first n digits, the least first. -/
def dv (D : Nat → Int) (n : Nat) : Int := sumN (fun i => D i * 10 ^ i) n
def Dig (D : Nat → Int) (n : Nat) : Prop := ∀ i, i < n → 0 ≤ D i ∧ D i < 10
theorem pow10_pos (n : Nat) : (0 : Int) < 10 ^ n := by
  induction n with
  | zero => decide
  | succ n ih => rw [Int.pow_succ]; omega
theorem dv_bd {D : Nat → Int} {n : Nat} (h : Dig D n) : 0 ≤ dv D n ∧ dv D n < 10 ^ n := by
  induction n with
  | zero => exact ⟨Int.le_refl _, by show (0 : Int) < 10 ^ 0; decide⟩
  | succ n ih =>
    have i1 := ih fun i hi => h i (by omega)
    have i2 := h n (by omega)
    have hp := pow10_pos n
    have e : dv D (n + 1) = dv D n + D n * 10 ^ n := rfl
    have h1 : D n * 10 ^ n ≤ 9 * 10 ^ n := Int.mul_le_mul_of_nonneg_right (by omega) (by omega)
    have h0 : 0 ≤ D n * 10 ^ n := Int.mul_nonneg i2.1 (by omega)
    rw [e, Int.pow_succ]
    omega
/-- A numeral: at least one digit, and none ahead of it that is 0. -/
def Can (D : Nat → Int) (n : Nat) : Prop := Dig D n ∧ 1 ≤ n ∧ (n = 1 ∨ D (n - 1) ≠ 0)
theorem can_low {D : Nat → Int} {n : Nat} (h : Can D (n + 1)) (hn : n ≠ 0) : 10 ^ n ≤ dv D (n + 1) := by
  have b := dv_bd (D := D) (n := n) fun i hi => h.1 i (by omega)
  have hd := h.1 n (by omega)
  have hz : D n ≠ 0 := by
    rcases h.2.2 with h1 | h1
    · omega
    · exact h1
  have e : dv D (n + 1) = dv D n + D n * 10 ^ n := rfl
  have h1 : 1 * 10 ^ n ≤ D n * 10 ^ n := Int.mul_le_mul_of_nonneg_right (by omega) (by have := pow10_pos n; omega)
  omega
theorem pow10_mono {a b : Nat} (h : a ≤ b) : (10 : Int) ^ a ≤ 10 ^ b := by
  induction b with
  | zero => rw [show a = 0 by omega]; exact Int.le_refl _
  | succ b ih =>
    by_cases hb : a ≤ b
    · have := ih hb
      have := pow10_pos b
      rw [Int.pow_succ]
      omega
    · rw [show a = b + 1 by omega]; exact Int.le_refl _
/-- The shorter numeral is the lesser number. -/
theorem can_lt {D E : Nat → Int} {n m : Nat} (hD : Can D n) (hE : Can E m) (h : n < m) : dv D n < dv E m := by
  obtain ⟨k, rfl⟩ : ∃ k, m = k + 1 := ⟨m - 1, by omega⟩
  have b := dv_bd hD.1
  have l := can_low hE (by have := hD.2.1; omega)
  have := pow10_mono (show n ≤ k by omega)
  omega
/-- Of two numerals of one length the first place from the top that differs decides. -/
theorem dig_lt {D E : Nat → Int} : ∀ {n k : Nat}, k < n → Dig D n → Dig E n → (∀ i, k < i → i < n → D i = E i) → D k < E k → dv D n < dv E n
  | n + 1, k, hk, hD, hE, he, hlt => by
    have eD : dv D (n + 1) = dv D n + D n * 10 ^ n := rfl
    have eE : dv E (n + 1) = dv E n + E n * 10 ^ n := rfl
    by_cases hkn : k = n
    · subst hkn
      have bD := dv_bd (D := D) (n := k) fun i hi => hD i (by omega)
      have bE := dv_bd (D := E) (n := k) fun i hi => hE i (by omega)
      have h1 : (D k + 1) * 10 ^ k ≤ E k * 10 ^ k := Int.mul_le_mul_of_nonneg_right (by omega) (by have := pow10_pos k; omega)
      rw [Int.add_mul, Int.one_mul] at h1
      omega
    · have ih := dig_lt (D := D) (E := E) (n := n) (k := k) (by omega) (fun i hi => hD i (by omega)) (fun i hi => hE i (by omega)) (fun i h1 h2 => he i h1 (by omega)) hlt
      rw [eD, eE, he n (by omega) (by omega)]
      omega
/-- Carrying: after i places, what has been written, and what is carried. -/
def Carry (S B : Nat → Int) (i : Nat) (up : Int) : Prop := Dig B i ∧ 0 ≤ up ∧ dv B i + up * 10 ^ i = dv S i
theorem Carry.start (S B : Nat → Int) : Carry S B 0 0 := ⟨fun i hi => by omega, Int.le_refl _, rfl⟩
/-- Where nothing is carried any more, what was written has the number of all the sums. -/
theorem Carry.last {S B : Nat → Int} {i n : Nat} (h : Carry S B i 0) (hn : n ≤ i) (hz : ∀ j, n ≤ j → S j = 0) : dv B i = dv S n := by
  have := h.2.2
  rw [Int.zero_mul, Int.add_zero] at this
  rw [this]
  exact sumN_more hn fun j hj _ => by rw [hz j hj, Int.zero_mul]
end Go.Proofs.Ytaapmpjkcddabaa
namespace Go.Proofs.Ytaapmpjkcddabaa
open Go.RowKit
theorem iBound (n m : Int) (w : World) : Calls Try.prog 7 #[.int .i64 n, .int .i64 m] w fun e w' => e = .returned (.int .i64 (mBound n m)) ∧ w = w' := by
  rcases Int.lt_trichotomy n m with h | h | h
  · have d0 : decide (n < m) = true := decide_eq_true h
    have d0' : decide (m < n) = false := decide_eq_false (by omega)
    have HB1 : Hid (1 ≤ n → m ≤ 200 → mBound n m = n * 1000000 * 1000000) := Lib.hid fun h1 h2 => by unfold mBound; rw [if_pos (by omega), Int.min_eq_left (by omega)]
    have HB2 : Hid (¬ (1 ≤ n ∧ m ≤ 200) → mBound n m = -1) := Lib.hid fun h1 => by unfold mBound; rw [if_neg (by omega)]
    by_cases h1 : n < 1
    · have d1 : decide (n < 1) = true := decide_eq_true h1
      have HB := Lib.hid (HB2.out (by omega))
      go_enter Try.func7, Try.ntmps7
      go_wp2
      go_ret
      exact ⟨by rw [HB.out]; rfl, rfl⟩
    · have d1 : decide (n < 1) = false := decide_eq_false h1
      by_cases h2 : 200 < m
      · have d2 : decide (200 < m) = true := decide_eq_true h2
        have HB := Lib.hid (HB2.out (by omega))
        go_enter Try.func7, Try.ntmps7
        go_wp2
        go_ret
        exact ⟨by rw [HB.out]; rfl, rfl⟩
      · have d2 : decide (200 < m) = false := decide_eq_false h2
        have HB := Lib.hid (HB1.out (by omega) (by omega))
        go_enter Try.func7, Try.ntmps7
        go_wp2
        go_ret
        exact ⟨by rw [HB.out]; rfl, rfl⟩
  · subst h
    have HB1 : Hid (1 ≤ n → n ≤ 200 → mBound n n = n * 1000000 * 1000000) := Lib.hid fun h1 h2 => by unfold mBound; rw [if_pos (by omega), Int.min_eq_left (by omega)]
    have HB2 : Hid (¬ (1 ≤ n ∧ n ≤ 200) → mBound n n = -1) := Lib.hid fun h1 => by unfold mBound; rw [if_neg (by omega)]
    by_cases h1 : n < 1
    · have d1 : decide (n < 1) = true := decide_eq_true h1
      have HB := Lib.hid (HB2.out (by omega))
      go_enter Try.func7, Try.ntmps7
      go_wp2
      go_ret
      exact ⟨by rw [HB.out]; rfl, rfl⟩
    · have d1 : decide (n < 1) = false := decide_eq_false h1
      by_cases h2 : 200 < n
      · have d2 : decide (200 < n) = true := decide_eq_true h2
        have HB := Lib.hid (HB2.out (by omega))
        go_enter Try.func7, Try.ntmps7
        go_wp2
        go_ret
        exact ⟨by rw [HB.out]; rfl, rfl⟩
      · have d2 : decide (200 < n) = false := decide_eq_false h2
        have HB := Lib.hid (HB1.out (by omega) (by omega))
        go_enter Try.func7, Try.ntmps7
        go_wp2
        go_ret
        exact ⟨by rw [HB.out]; rfl, rfl⟩
  · have d0 : decide (m < n) = true := decide_eq_true h
    have d0' : decide (n < m) = false := decide_eq_false (by omega)
    have HB1 : Hid (1 ≤ m → n ≤ 200 → mBound n m = m * 1000000 * 1000000) := Lib.hid fun h1 h2 => by unfold mBound; rw [if_pos (by omega), Int.min_eq_right (by omega)]
    have HB2 : Hid (¬ (1 ≤ m ∧ n ≤ 200) → mBound n m = -1) := Lib.hid fun h1 => by unfold mBound; rw [if_neg (by omega)]
    by_cases h1 : m < 1
    · have d1 : decide (m < 1) = true := decide_eq_true h1
      have HB := Lib.hid (HB2.out (by omega))
      go_enter Try.func7, Try.ntmps7
      go_wp2
      go_ret
      exact ⟨by rw [HB.out]; rfl, rfl⟩
    · have d1 : decide (m < 1) = false := decide_eq_false h1
      by_cases h2 : 200 < n
      · have d2 : decide (200 < n) = true := decide_eq_true h2
        have HB := Lib.hid (HB2.out (by omega))
        go_enter Try.func7, Try.ntmps7
        go_wp2
        go_ret
        exact ⟨by rw [HB.out]; rfl, rfl⟩
      · have d2 : decide (200 < n) = false := decide_eq_false h2
        have HB := Lib.hid (HB1.out (by omega) (by omega))
        go_enter Try.func7, Try.ntmps7
        go_wp2
        go_ret
        exact ⟨by rw [HB.out]; rfl, rfl⟩
end Go.Proofs.Ytaapmpjkcddabaa
namespace Go.Proofs.Ytaapmpjkcddabaa
open Go.RowKit
/-- The digits of a text, the least first; zeros behind. -/
def digF (s : ByteArray) (j : Nat) : Int := if j < s.size then bt s (s.size - 1 - j) - 48 else 0
theorem digF_rev {s : ByteArray} {k : Nat} (h : k < s.size) : digF s (s.size - 1 - k) = bt s k - 48 := by
  unfold digF
  rw [if_pos (by omega), show s.size - 1 - (s.size - 1 - k) = k by omega]
/-- The number of a numeral. -/
def numV (s : ByteArray) : Int := dv (digF s) s.size
theorem DigOk.dig {s : ByteArray} (h : DigOk s) : Dig (digF s) s.size := fun i hi => by
  have := h.2.1 (s.size - 1 - i) (by omega)
  unfold digF
  rw [if_pos hi]
  omega
theorem DigOk.can {s : ByteArray} (h : DigOk s) : Can (digF s) s.size := by
  refine ⟨h.dig, h.1.1, ?_⟩
  rcases h.2.2 with h1 | h1
  · right
    have := digF_rev (s := s) (k := 0) (by have := h.1.1; omega)
    rw [Nat.sub_zero] at this
    rw [this]
    omega
  · exact .inl h1
end Go.Proofs.Ytaapmpjkcddabaa
namespace Go.Proofs.Ytaapmpjkcddabaa
open Go.RowKit
set_option maxHeartbeats 1600000 in
theorem iDigitsOk (s : ByteArray) (w : World) (hs : s.size ≤ 1048576) : Calls Try.prog 9 #[.string s] w (SameB w (mDigitsOk s)) := by
  by_cases h1 : 1 ≤ s.size ∧ s.size ≤ 300
  · have HN : Hid (∀ k, k < s.size → ¬ (48 ≤ bt s k ∧ bt s k ≤ 57) → mDigitsOk s = false) := Lib.hid fun k hk h => dig_not.2 fun hd => h (hd.2.1 k hk)
    have HE : Hid ((∀ j, j < s.size → 48 ≤ bt s j ∧ bt s j ≤ 57) → ∀ B : Bool, (B = true ↔ (bt s 0 ≠ 48 ∨ s.size = 1)) → mDigitsOk s = B) := Lib.hid fun ha B hB => by
      cases B
      · exact dig_not.2 fun hd => by have := hB.2 hd.2.2; cases this
      · exact dig_iff.2 ⟨h1, ha, hB.1 rfl⟩
    have z1 : decide ((s.size : Int) < 1) = false := decide_eq_false (by omega)
    have z2 : decide ((300 : Int) < s.size) = false := decide_eq_false (by omega)
    go_enter Try.func9, Try.ntmps9
    go_wp2_with fail
    go_loop [3, 14] (fun _ i => ∃ k : Nat, i = .int .i64 k ∧ k ≤ s.size ∧ Hid (∀ j, j < k → 48 ≤ bt s j ∧ bt s j ≤ 57)) (fun _ i => s.size - (intOf i).toNat)
    case atStart => exact ⟨0, rfl, Nat.zero_le _, Lib.hid (fun j hj => by omega)⟩
    case round =>
      obtain ⟨k, rfl, hk, HA⟩ := hrel
      by_cases h2 : k < s.size
      · have hd1 : decide ((k : Int) < s.size) = true := decide_eq_true (by omega)
        have i1 : (0 : Int) ≤ (k : Int) ∧ (k : Int) < s.size := by omega
        have hb := bt_get h2
        by_cases hlo : (s[k].toNat : Int) < 48
        · have dlo : decide ((s[k].toNat : Int) < 48) = true := decide_eq_true hlo
          have HR := Lib.hid (HN.out k h2 (by omega))
          go_wp2
          go_ret
          exact ⟨by rw [HR.out]; rfl, rfl⟩
        · have dlo : decide ((s[k].toNat : Int) < 48) = false := decide_eq_false hlo
          by_cases hhi : 57 < (s[k].toNat : Int)
          · have dhi : decide (57 < (s[k].toNat : Int)) = true := decide_eq_true hhi
            have HR := Lib.hid (HN.out k h2 (by omega))
            go_wp2
            go_ret
            exact ⟨by rw [HR.out]; rfl, rfl⟩
          · have dhi : decide (57 < (s[k].toNat : Int)) = false := decide_eq_false hhi
            have HA2 : Hid (∀ j, j < k + 1 → 48 ≤ bt s j ∧ bt s j ≤ 57) := Lib.hid (fun j hj => by
              by_cases e : j = k
              · subst e; omega
              · exact HA.out j (by omega))
            clear HA hb
            go_wp2
            go_round
            case rel => exact ⟨k + 1, by go_num, by omega, HA2⟩
            case measure => simp [intOf]; omega
      · have hd1 : decide ((k : Int) < s.size) = false := decide_eq_false (by omega)
        obtain rfl : k = s.size := by omega
        have h0 : 0 < s.size := by omega
        have hb := bt_get h0
        have HE2 := Lib.hid (HE.out HA.out)
        clear HA HE HN
        by_cases hz : (s[0].toNat : Int) = 48
        · have dz : ((s[0].toNat : Int) != 48) = false := by simp [hz]
          by_cases h11 : s.size = 1
          · have d1 : ((s.size : Int) == 1) = true := by simp [h11]
            have HR := Lib.hid (HE2.out true ⟨fun _ => .inr h11, fun _ => rfl⟩)
            clear h11 hb hz
            go_wp2
            go_ret
            exact ⟨by rw [HR.out]; rfl, rfl⟩
          · have d1 : ((s.size : Int) == 1) = false := by rw [beq_eq_false_iff_ne]; omega
            have HR := Lib.hid (HE2.out false ⟨(fun h => by cases h), (fun h => by rcases h with h | h <;> omega)⟩)
            clear h11 hb hz
            go_wp2
            go_ret
            exact ⟨by rw [HR.out]; rfl, rfl⟩
        · have dz : ((s[0].toNat : Int) != 48) = true := by rw [bne_iff_ne]; exact hz
          have HR := Lib.hid (HE2.out true ⟨fun _ => .inl (by omega), fun _ => rfl⟩)
          clear hb hz
          go_wp2
          go_ret
          exact ⟨by rw [HR.out]; rfl, rfl⟩
  · have HB := Lib.hid (dig_not.2 fun h : DigOk s => h1 h.1)
    by_cases h2 : s.size < 1
    · have z1 : decide ((s.size : Int) < 1) = true := decide_eq_true (by omega)
      clear h1 h2
      go_enter Try.func9, Try.ntmps9
      go_wp2
      go_ret
      exact ⟨by rw [HB.out]; rfl, rfl⟩
    · have z1 : decide ((s.size : Int) < 1) = false := decide_eq_false (by omega)
      have z2 : decide ((300 : Int) < s.size) = true := decide_eq_true (by omega)
      clear h1 h2
      go_enter Try.func9, Try.ntmps9
      go_wp2
      go_ret
      exact ⟨by rw [HB.out]; rfl, rfl⟩
end Go.Proofs.Ytaapmpjkcddabaa
namespace Go.Proofs.Ytaapmpjkcddabaa
open Go.RowKit
/-- Where two texts of one length first differ. -/
theorem less_at : ∀ (l m : List UInt8), l.length = m.length → Op.bytesLess l m = true → ∃ k, k < l.length ∧ (∀ j, j < k → l.getD j 0 = m.getD j 0) ∧ (l.getD k 0).toNat < (m.getD k 0).toNat
  | [], [], _, h => by simp [Op.bytesLess] at h
  | [], _ :: _, h, _ => by simp at h
  | _ :: _, [], h, _ => by simp at h
  | a :: x, b :: y, h, hl => by
    rw [Op.bytesLess] at hl
    by_cases h1 : a < b
    · exact ⟨0, by simp, fun j hj => by omega, by simpa using UInt8.lt_iff_toNat_lt.1 h1⟩
    · by_cases h2 : a = b
      · simp [h2] at hl
        obtain ⟨k, hk, hj, hlt⟩ := less_at x y (by simpa using h) hl
        refine ⟨k + 1, by simpa using hk, fun j hj2 => ?_, by simpa using hlt⟩
        cases j with
        | zero => simpa using h2
        | succ j => simpa using hj j (by omega)
      · simp [h1, h2] at hl
theorem less_tri : ∀ (l m : List UInt8), l.length = m.length → Op.bytesLess l m = false → l = m ∨ Op.bytesLess m l = true
  | [], [], _, _ => .inl rfl
  | [], _ :: _, h, _ => by simp at h
  | _ :: _, [], h, _ => by simp at h
  | a :: x, b :: y, h, hl => by
    rw [Op.bytesLess] at hl ⊢
    by_cases h2 : a = b
    · subst h2
      simp at hl
      rcases less_tri x y (by simpa using h) hl with h3 | h3
      · exact .inl (by rw [h3])
      · exact .inr (by simp [h3])
    · have h1 : ¬ a < b := by
        intro h1
        simp [h1] at hl
      have h3 : b < a := by
        have e : a.toNat ≠ b.toNat := fun e => h2 (UInt8.toNat_inj.1 e)
        have h4 : ¬ a.toNat < b.toNat := fun h => h1 (UInt8.lt_iff_toNat_lt.2 h)
        exact UInt8.lt_iff_toNat_lt.2 (by omega)
      exact .inr (by simp [h3])
theorem bt_list (s : ByteArray) (j : Nat) : bt s j = ((s.toList.getD j 0).toNat : Int) := by
  rw [ByteArray.toList_eq]
  rfl
theorem len_list (s : ByteArray) : s.toList.length = s.size := by
  rw [ByteArray.toList_eq]
  simp
theorem num_less {a b : ByteArray} (ha : DigOk a) (hb : DigOk b) (h : a.size = b.size) (hl : Op.bytesLess a.toList b.toList = true) : numV a < numV b := by
  obtain ⟨k, hk, hj, hlt⟩ := less_at _ _ (by rw [len_list, len_list, h]) hl
  rw [len_list] at hk
  have e1 := digF_rev hk
  have e2 := digF_rev (s := b) (k := k) (by omega)
  rw [← h] at e2
  rw [bt_list] at e1 e2
  have hd := hb.dig
  rw [← h] at hd
  have := dig_lt (D := digF a) (E := digF b) (n := a.size) (k := a.size - 1 - k) (by omega) ha.dig hd (fun i h1 h2 => by
    have f1 := digF_rev (s := a) (k := a.size - 1 - i) (by omega)
    have f2 := digF_rev (s := b) (k := a.size - 1 - i) (by omega)
    rw [← h] at f2
    rw [bt_list, show a.size - 1 - (a.size - 1 - i) = i by omega] at f1 f2
    rw [f1, f2, hj _ (by omega)]) (by omega)
  unfold numV
  rw [← h]
  exact this
open Classical in
noncomputable def mCompareText (a b : ByteArray) : Int := if DigOk a ∧ DigOk b then (if numV a < numV b then -1 else if numV a = numV b then 0 else 1) else -2
theorem cmp_lt {a b : ByteArray} (ha : DigOk a) (hb : DigOk b) (h : numV a < numV b) : mCompareText a b = -1 := by
  unfold mCompareText
  rw [if_pos ⟨ha, hb⟩, if_pos h]
theorem cmp_gt {a b : ByteArray} (ha : DigOk a) (hb : DigOk b) (h : numV b < numV a) : mCompareText a b = 1 := by
  unfold mCompareText
  rw [if_pos ⟨ha, hb⟩, if_neg (by omega), if_neg (by omega)]
theorem cmp_eq {a b : ByteArray} (ha : DigOk a) (hb : DigOk b) (h : a.toList = b.toList) : mCompareText a b = 0 := by
  have e : a = b := by
    rw [ByteArray.toList_eq, ByteArray.toList_eq] at h
    exact ByteArray.ext (Array.toList_inj.1 h)
  unfold mCompareText
  rw [if_pos ⟨ha, hb⟩, e, if_neg (by omega), if_pos rfl]
set_option maxRecDepth 100000 in
set_option maxHeartbeats 1600000 in
theorem sCompareText_on (a b : ByteArray) (w : World) (ha : DigOk a) (hb : DigOk b) :
    Calls Try.prog 10 #[.string a, .string b] w (IntP w (mCompareText a b)) := by
  have HSA := ha.1
  have HSB := hb.1
  have G1 := sDigitsOk a w (by omega)
  rw [dig_iff.2 ha] at G1
  have G2 := sDigitsOk b w (by omega)
  rw [dig_iff.2 hb] at G2
  have HA := Lib.hid ha
  have HB := Lib.hid hb
  clear ha hb
  have fin : Hid (∀ x, mCompareText a b = x → IntP w (mCompareText a b) (.returned (.int .i64 x)) w) := Lib.hid fun x h => ⟨by rw [h], Below.refl _ _⟩
  rcases Nat.lt_trichotomy a.size b.size with h | h | h
  · have HR := Lib.hid (cmp_lt HA.out HB.out (can_lt HA.out.can HB.out.can h))
    have hd : decide ((a.size : Int) < b.size) = true := decide_eq_true (by omega)
    go_enter Try.func10, Try.ntmps10
    go_wp2_with fail
    refine G1.mono ?_
    rintro e w' ⟨rfl, rfl⟩
    go_wp2_with fail
    refine G2.mono ?_
    rintro e w' ⟨rfl, rfl⟩
    go_wp2
    go_ret
    exact fin.out _ HR.out
  · cases hl : Op.bytesLess a.toList b.toList with
    | true =>
      have HR := Lib.hid (cmp_lt HA.out HB.out (num_less HA.out HB.out h hl))
      go_enter Try.func10, Try.ntmps10
      go_wp2_with fail
      refine G1.mono ?_
      rintro e w' ⟨rfl, rfl⟩
      go_wp2_with fail
      refine G2.mono ?_
      rintro e w' ⟨rfl, rfl⟩
      go_wp2
      go_ret
      exact fin.out _ HR.out
    | false =>
      cases hq : (a.toList == b.toList) with
      | true =>
        have HR := Lib.hid (cmp_eq HA.out HB.out (beq_iff_eq.1 hq))
        go_enter Try.func10, Try.ntmps10
        go_wp2_with fail
        refine G1.mono ?_
        rintro e w' ⟨rfl, rfl⟩
        go_wp2_with fail
        refine G2.mono ?_
        rintro e w' ⟨rfl, rfl⟩
        go_wp2
        go_ret
        exact fin.out _ HR.out
      | false =>
        have HR := Lib.hid (cmp_gt HA.out HB.out (num_less HB.out HA.out h.symm ((less_tri _ _ (by rw [len_list, len_list, h]) hl).resolve_left (beq_eq_false_iff_ne.1 hq))))
        go_enter Try.func10, Try.ntmps10
        go_wp2_with fail
        refine G1.mono ?_
        rintro e w' ⟨rfl, rfl⟩
        go_wp2_with fail
        refine G2.mono ?_
        rintro e w' ⟨rfl, rfl⟩
        go_wp2
        go_ret
        exact fin.out _ HR.out
  · have HR := Lib.hid (cmp_gt HA.out HB.out (can_lt HB.out.can HA.out.can h))
    have hd : decide ((a.size : Int) < b.size) = false := decide_eq_false (by omega)
    have hd2 : ((a.size : Int) == b.size) = false := by rw [beq_eq_false_iff_ne]; omega
    have hq : (a.toList == b.toList) = false := beq_eq_false_iff_ne.2 fun e => by
      have := congrArg List.length e
      rw [len_list, len_list] at this
      omega
    go_enter Try.func10, Try.ntmps10
    go_wp2_with fail
    refine G1.mono ?_
    rintro e w' ⟨rfl, rfl⟩
    go_wp2_with fail
    refine G2.mono ?_
    rintro e w' ⟨rfl, rfl⟩
    go_wp2
    go_ret
    exact fin.out _ HR.out
theorem sCompareText (a b : ByteArray) (w : World) (hna : a.size ≤ 1048576) (hnb : b.size ≤ 1048576) :
    Calls Try.prog 10 #[.string a, .string b] w (IntP w (mCompareText a b)) := by
  by_cases h : DigOk a ∧ DigOk b
  · exact sCompareText_on a b w h.1 h.2
  · have HR : Hid (mCompareText a b = -2) := Lib.hid (by unfold mCompareText; rw [if_neg h])
    have fin : Hid (∀ x, mCompareText a b = x → IntP w (mCompareText a b) (.returned (.int .i64 x)) w) := Lib.hid fun x h => ⟨by rw [h], Below.refl _ _⟩
    have G1 := sDigitsOk a w hna
    have G2 := sDigitsOk b w hnb
    by_cases ha : DigOk a
    · have hb : ¬ DigOk b := fun hb => h ⟨ha, hb⟩
      rw [dig_iff.2 ha] at G1
      rw [dig_not.2 hb] at G2
      clear ha hb h hna hnb
      go_enter Try.func10, Try.ntmps10
      go_wp2_with fail
      refine G1.mono ?_
      rintro e w' ⟨rfl, rfl⟩
      go_wp2_with fail
      refine G2.mono ?_
      rintro e w' ⟨rfl, rfl⟩
      go_wp2
      go_ret
      exact fin.out _ HR.out
    · rw [dig_not.2 ha] at G1
      clear ha h hna hnb
      go_enter Try.func10, Try.ntmps10
      go_wp2_with fail
      refine G1.mono ?_
      rintro e w' ⟨rfl, rfl⟩
      go_wp2
      go_ret
      exact fin.out _ HR.out
end Go.Proofs.Ytaapmpjkcddabaa
namespace Go.Proofs.Ytaapmpjkcddabaa
open Go.RowKit
def sgnI (x y : Int) : Int := if x < y then -1 else if y < x then 1 else 0
theorem nanI (x : Int) (w : World) : Calls Try.prog 16 #[.int .i64 x] w (SameB w false) := by
  go_enter Try.func16, Try.ntmps16
  go_wp2
  go_ret
  exact ⟨by simp, rfl⟩
theorem nanS (x : ByteArray) (w : World) : Calls Try.prog 17 #[.string x] w (SameB w false) := by
  go_enter Try.func17, Try.ntmps17
  go_wp2
  go_ret
  exact ⟨by simp, rfl⟩
theorem cmpI (x y : Int) (w : World) : Calls Try.prog 14 #[.int .i64 x, .int .i64 y] w fun e w' => e = .returned (.int .i64 (sgnI x y)) ∧ w = w' := by
  rcases Int.lt_trichotomy x y with h | h | h
  · have HR : Hid (sgnI x y = -1) := Lib.hid (if_pos h)
    have d : decide (x < y) = true := decide_eq_true h
    go_enter Try.func14, Try.ntmps14
    go_wp2_with fail
    refine (nanI x w).mono ?_
    rintro e w' ⟨rfl, rfl⟩
    go_wp2_with fail
    refine (nanI y w).mono ?_
    rintro e w' ⟨rfl, rfl⟩
    go_wp2
    go_ret
    exact ⟨by rw [HR.out]; rfl, rfl⟩
  · subst h
    have HR : Hid (sgnI x x = 0) := Lib.hid (by unfold sgnI; rw [if_neg (by omega), if_neg (by omega)])
    go_enter Try.func14, Try.ntmps14
    go_wp2_with fail
    refine (nanI x w).mono ?_
    rintro e w' ⟨rfl, rfl⟩
    go_wp2_with fail
    refine (nanI x w).mono ?_
    rintro e w' ⟨rfl, rfl⟩
    go_wp2
    go_ret
    exact ⟨by rw [HR.out]; rfl, rfl⟩
  · have HR : Hid (sgnI x y = 1) := Lib.hid (by unfold sgnI; rw [if_neg (by omega), if_pos h])
    have d : decide (x < y) = false := decide_eq_false (by omega)
    have d2 : decide (y < x) = true := decide_eq_true h
    go_enter Try.func14, Try.ntmps14
    go_wp2_with fail
    refine (nanI x w).mono ?_
    rintro e w' ⟨rfl, rfl⟩
    go_wp2_with fail
    refine (nanI y w).mono ?_
    rintro e w' ⟨rfl, rfl⟩
    go_wp2
    go_ret
    exact ⟨by rw [HR.out]; rfl, rfl⟩
def sgnB (p q : Bool) : Int := if p then -1 else if q then 0 else 1
theorem cmpS (x y : ByteArray) (w : World) : Calls Try.prog 15 #[.string x, .string y] w fun e w' => e = .returned (.int .i64 (sgnB (Op.bytesLess x.toList y.toList) (x.toList == y.toList))) ∧ w = w' := by
  cases h1 : Op.bytesLess x.toList y.toList with
  | true =>
    go_enter Try.func15, Try.ntmps15
    go_wp2_with fail
    refine (nanS x w).mono ?_
    rintro e w' ⟨rfl, rfl⟩
    go_wp2_with fail
    refine (nanS y w).mono ?_
    rintro e w' ⟨rfl, rfl⟩
    go_wp2
    go_ret
    exact ⟨rfl, rfl⟩
  | false =>
    cases h2 : (x.toList == y.toList) with
    | true =>
      go_enter Try.func15, Try.ntmps15
      go_wp2_with fail
      refine (nanS x w).mono ?_
      rintro e w' ⟨rfl, rfl⟩
      go_wp2_with fail
      refine (nanS y w).mono ?_
      rintro e w' ⟨rfl, rfl⟩
      go_wp2
      go_ret
      exact ⟨rfl, rfl⟩
    | false =>
      go_enter Try.func15, Try.ntmps15
      go_wp2_with fail
      refine (nanS x w).mono ?_
      rintro e w' ⟨rfl, rfl⟩
      go_wp2_with fail
      refine (nanS y w).mono ?_
      rintro e w' ⟨rfl, rfl⟩
      go_wp2
      go_ret
      exact ⟨rfl, rfl⟩
theorem orI (x y : Int) (b : Nat) (w : World) (hx : w.cell? ⟨b, 0, none⟩ = some (.int .i64 x)) (hy : w.cell? ⟨b, 1, none⟩ = some (.int .i64 y)) : Calls Try.prog 13 #[.slice (some ⟨b, 0, none⟩) 2 2] w fun e w' => e = .returned (.int .i64 (if x = 0 then y else x)) ∧ w = w' := by
  by_cases h1 : x = 0
  · subst h1
    rw [if_pos rfl]
    by_cases h2 : y = 0
    · subst h2
      go_enter Try.func13, Try.ntmps13
      go_wp2
      refine wp_loop_rounds 3 ?_
      rw [rounds_succ]
      go_wp2
      rw [rounds_succ]
      go_wp2
      rw [rounds_succ]
      go_wp2
      go_ret
      exact ⟨rfl, rfl⟩
    · have d : (y != 0) = true := by simpa using h2
      go_enter Try.func13, Try.ntmps13
      go_wp2
      refine wp_loop_rounds 2 ?_
      rw [rounds_succ]
      go_wp2
      rw [rounds_succ]
      go_wp2
      go_ret
      exact ⟨rfl, rfl⟩
  · have d : (x != 0) = true := by simpa using h1
    rw [if_neg h1]
    go_enter Try.func13, Try.ntmps13
    go_wp2
    refine wp_loop_rounds 1 ?_
    rw [rounds_succ]
    go_wp2
    go_ret
    exact ⟨rfl, rfl⟩
theorem cmp_all {a b : ByteArray} (ha : DigOk a) (hb : DigOk b) : (if sgnI (a.size : Int) b.size = 0 then sgnB (Op.bytesLess a.toList b.toList) (a.toList == b.toList) else sgnI (a.size : Int) b.size) = mCompareText a b := by
  rcases Nat.lt_trichotomy a.size b.size with h | h | h
  · have e : sgnI (a.size : Int) b.size = -1 := if_pos (by omega)
    rw [e, if_neg (by omega), cmp_lt ha hb (can_lt ha.can hb.can h)]
  · have e : sgnI (a.size : Int) b.size = 0 := by unfold sgnI; rw [if_neg (by omega), if_neg (by omega)]
    rw [e, if_pos rfl]
    cases h1 : Op.bytesLess a.toList b.toList with
    | true => exact (cmp_lt ha hb (num_less ha hb h h1)).symm
    | false =>
      cases h2 : (a.toList == b.toList) with
      | true => exact (cmp_eq ha hb (beq_iff_eq.1 h2)).symm
      | false =>
        rcases less_tri _ _ (by rw [len_list, len_list, h]) h1 with h3 | h3
        · rw [beq_iff_eq.2 h3] at h2; cases h2
        · exact (cmp_gt ha hb (num_less hb ha h.symm h3)).symm
  · have e : sgnI (a.size : Int) b.size = 1 := by unfold sgnI; rw [if_neg (by omega), if_pos (by omega)]
    rw [e, if_neg (by omega), cmp_gt ha hb (can_lt hb.can ha.can h)]
theorem iCompareText (a b : ByteArray) (w : World) (hna : a.size ≤ 1048576) (hnb : b.size ≤ 1048576) :
    Calls Try.prog 11 #[.string a, .string b] w (IntP w (mCompareText a b)) := by
  have G1 := iDigitsOk a w hna
  have G2 := iDigitsOk b w hnb
  by_cases ha : DigOk a
  · rw [dig_iff.2 ha] at G1
    by_cases hb : DigOk b
    · rw [dig_iff.2 hb] at G2
      have HR := Lib.hid (cmp_all ha hb)
      have C1 := Lib.hid (cmpI a.size b.size w)
      have C2 := Lib.hid (cmpS a b w)
      have HO : Hid (∀ x y : Int, Calls Try.prog 13 #[.slice (some ⟨w.heap.size, 0, none⟩) 2 2] (w.alloc (.cells #[.int .i64 x, .int .i64 y] 3)) fun e w' => e = .returned (.int .i64 (if x = 0 then y else x)) ∧ w.alloc (.cells #[.int .i64 x, .int .i64 y] 3) = w') := Lib.hid fun x y => orI x y _ _ (by unfold World.cell? World.alloc; simp) (by unfold World.cell? World.alloc; simp)
      have HB : Hid (∀ o, Below w.heap.size w (w.alloc o)) := Lib.hid fun o => (Below.refl _ _).alloc (Nat.le_refl _) o
      clear ha hb
      generalize sgnI (a.size : Int) b.size = X at *
      generalize sgnB (Op.bytesLess a.toList b.toList) (a.toList == b.toList) = Y at *
      go_enter Try.func11, Try.ntmps11
      go_wp2_with fail
      refine G1.mono ?_
      rintro e w' ⟨rfl, rfl⟩
      go_wp2_with fail
      refine G2.mono ?_
      rintro e w' ⟨rfl, rfl⟩
      go_wp2_with fail
      refine C1.out.mono ?_
      rintro e w' ⟨rfl, rfl⟩
      go_wp2_with fail
      refine C2.out.mono ?_
      rintro e w' ⟨rfl, rfl⟩
      go_wp2_with fail
      refine (HO.out X Y).mono ?_
      rintro e w' ⟨rfl, rfl⟩
      rw [HR.out]
      go_wp2
      go_ret
      exact ⟨rfl, HB.out _⟩
    · rw [dig_not.2 hb] at G2
      have HR : Hid (mCompareText a b = -2) := Lib.hid (by unfold mCompareText; rw [if_neg fun h => hb h.2])
      clear ha hb
      go_enter Try.func11, Try.ntmps11
      go_wp2_with fail
      refine G1.mono ?_
      rintro e w' ⟨rfl, rfl⟩
      go_wp2_with fail
      refine G2.mono ?_
      rintro e w' ⟨rfl, rfl⟩
      go_wp2
      go_ret
      exact ⟨by rw [HR.out]; rfl, Below.refl _ _⟩
  · rw [dig_not.2 ha] at G1
    have HR : Hid (mCompareText a b = -2) := Lib.hid (by unfold mCompareText; rw [if_neg fun h => ha h.1])
    clear ha G2
    go_enter Try.func11, Try.ntmps11
    go_wp2_with fail
    refine G1.mono ?_
    rintro e w' ⟨rfl, rfl⟩
    go_wp2
    go_ret
    exact ⟨by rw [HR.out]; rfl, Below.refl _ _⟩
end Go.Proofs.Ytaapmpjkcddabaa
