/-
  Texts of the proofs of this seat, joined (part 1).
-/
import Derived.Test.YtfocdlkophdfoaaDoorRows
import Derived.WalkKit
import Derived.WalkSpells
import Derived.WalkLawsBesides
import Derived.Lib.Hide
import Derived.Shelf.Abstract
import Derived.Test.YtfocdlkophdfoaaDoorCards
import Derived.Test.YtfocdlkophdfoaaDoorTie
import Derived.ProofKit
import Derived.OpenShut
import Derived.Deep.Strs
import Derived.Deep.DeepHandedRow
import Derived.Lib.LaidTab
import Derived.JoinedOf
import Derived.KernelRfl
import Derived.Deep.QuietTactic
import Derived.BigQuiet
import Derived.Maps.AppendAt
import Derived.Deep.AppendLies
import Derived.Deep.OwnRows
import Derived.Laws.CopyOwn
import Derived.StillTailTactics
import Derived.Deep.RegionHeld3
namespace Go.Proofs.YtfocdlkophdfoaaDoor
namespace Mth

theorem mulm {a b c d p : Nat} (h1 : a % p = c % p) (h2 : b % p = d % p) : (a * b) % p = (c * d) % p := by
  rw [Nat.mul_mod, h1, h2, ← Nat.mul_mod]
theorem powm {a c p : Nat} (k : Nat) (h1 : a % p = c % p) : a ^ k % p = c ^ k % p := by
  rw [Nat.pow_mod, h1, ← Nat.pow_mod]
theorem pow_one_mod {a p : Nat} (k : Nat) (hp : 1 < p) (h : a % p = 1) : a ^ k % p = 1 := by
  have := powm (c := 1) k (show a % p = 1 % p by rw [h, Nat.mod_eq_of_lt hp])
  rw [this, Nat.one_pow, Nat.mod_eq_of_lt hp]

theorem pow_gcd {g p : Nat} (hp : 1 < p) (a b : Nat) (ha : g ^ a % p = 1) (hb : g ^ b % p = 1) : g ^ (Nat.gcd a b) % p = 1 := by
  induction a, b using Nat.gcd.induction with
  | H0 n => simpa using hb
  | H1 m n hm ih =>
    rw [Nat.gcd_rec]
    refine ih ?_ ha
    have e : g ^ n % p = (g ^ (n % m)) % p := by
      conv => lhs; rw [← Nat.div_add_mod n m, Nat.pow_add, Nat.pow_mul]
      rw [Nat.mul_mod, pow_one_mod (n / m) hp ha, Nat.one_mul, Nat.mod_mod]
    rw [← e]; exact hb

def prod (l : List Nat) : Nat := l.foldr (· * ·) 1
def Pr (q : Nat) : Prop := 1 < q ∧ ∀ d, d ≤ q → d ∣ q → d = 1 ∨ d = q
instance (q : Nat) : Decidable (Pr q) := inferInstanceAs (Decidable (1 < q ∧ ∀ d, d ≤ q → d ∣ q → d = 1 ∨ d = q))
theorem Pr.coprime {q c : Nat} (h : Pr q) (hc : ¬ q ∣ c) : Nat.Coprime q c := by
  have hd : Nat.gcd q c ∣ q := Nat.gcd_dvd_left q c
  have hle : Nat.gcd q c ≤ q := Nat.le_of_dvd (by have := h.1; omega) hd
  rcases h.2 _ hle hd with h1 | h1
  · exact h1
  · exact absurd (h1 ▸ Nat.gcd_dvd_right q c) hc
theorem prime_in (l : List Nat) (hl : ∀ q, q ∈ l → Pr q) (c : Nat) (hc : c ∣ prod l) (h1 : c ≠ 1) : ∃ q, q ∈ l ∧ q ∣ c := by
  induction l with
  | nil => exact absurd (Nat.dvd_one.1 hc) h1
  | cons q l ih =>
    by_cases hq : q ∣ c
    · exact ⟨q, List.mem_cons_self, hq⟩
    · have hco := (hl q List.mem_cons_self).coprime hq
      have : c ∣ prod l := Nat.Coprime.dvd_of_dvd_mul_left hco.symm hc
      obtain ⟨r, hr, hrc⟩ := ih (fun q h => hl q (List.mem_cons_of_mem _ h)) this
      exact ⟨r, List.mem_cons_of_mem _ hr, hrc⟩

theorem surj (n : Nat) : ∀ (f : Nat → Nat), (∀ i, i < n → f i < n) → (∀ i j, i < n → j < n → f i = f j → i = j) → ∀ y, y < n → ∃ i, i < n ∧ f i = y := by
  induction n with
  | zero => intro f _ _ y hy; omega
  | succ n ih =>
    intro f hf inj y hy
    let h := fun i => if f i = n then f n else f i
    have hh : ∀ i, i < n → h i < n := by
      intro i hi
      show (if f i = n then f n else f i) < n
      have a := hf i (by omega); have b := hf n (by omega)
      split
      · rename_i e
        have : f n ≠ n := fun e2 => by have := inj i n (by omega) (by omega) (e.trans e2.symm); omega
        omega
      · omega
    have hi : ∀ i j, i < n → j < n → h i = h j → i = j := by
      intro i j hi hj e
      have e' : (if f i = n then f n else f i) = (if f j = n then f n else f j) := e
      split at e' <;> split at e'
      · rename_i a b; exact inj i j (by omega) (by omega) (a.trans b.symm)
      · have := inj n j (by omega) (by omega) e'; omega
      · have := inj i n (by omega) (by omega) e'; omega
      · exact inj i j (by omega) (by omega) e'
    have ihs := ih h hh hi
    by_cases hy2 : y < n
    · obtain ⟨i, hi2, e⟩ := ihs y hy2
      have e' : (if f i = n then f n else f i) = y := e
      split at e'
      · exact ⟨n, by omega, e'⟩
      · exact ⟨i, by omega, e'⟩
    · have hyn : y = n := by omega
      subst hyn
      by_cases hex : ∃ i, i < y + 1 ∧ f i = y
      · exact hex
      · exfalso
        have hne : ∀ i, i < y + 1 → f i ≠ y := fun i hi e => hex ⟨i, hi, e⟩
        have hlt : f y < y := by have := hf y (by omega); have := hne y (by omega); omega
        obtain ⟨i, hi2, e⟩ := ihs (f y) hlt
        have e' : (if f i = y then f y else f i) = f y := e
        rw [if_neg (hne i (by omega))] at e'
        have := inj i y (by omega) (by omega) e'; omega

/-- A field: p and a number of order p - 1. -/
structure Fld (p g : Nat) : Prop where
  two : 2 < p
  one : g ^ (p - 1) % p = 1
  ord : ∀ m, g ^ m % p = 1 → (p - 1) ∣ m

theorem Fld.make {p g : Nat} (l : List Nat) (two : 2 < p) (one : g ^ (p - 1) % p = 1) (hl : ∀ q, q ∈ l → Pr q) (hp : prod l = p - 1) (hq : ∀ q, q ∈ l → g ^ ((p - 1) / q) % p ≠ 1) : Fld p g := by
  refine ⟨two, one, fun m hm => ?_⟩
  have he := pow_gcd (by omega) m (p - 1) hm one
  have hd : Nat.gcd m (p - 1) ∣ p - 1 := Nat.gcd_dvd_right _ _
  by_cases hc : (p - 1) / Nat.gcd m (p - 1) = 1
  · have : p - 1 = Nat.gcd m (p - 1) := by have := Nat.div_mul_cancel hd; rw [hc] at this; omega
    rw [this]; exact Nat.gcd_dvd_left _ _
  · exfalso
    obtain ⟨q, hql, hqc⟩ := prime_in l hl _ (by rw [hp]; exact Nat.div_dvd_of_dvd hd) hc
    apply hq q hql
    obtain ⟨k, hk⟩ := hqc
    have h2 : p - 1 = q * (k * Nat.gcd m (p - 1)) := by
      rw [← Nat.mul_assoc, ← hk]; exact (Nat.div_mul_cancel hd).symm
    have hq0 : 0 < q := by have := (hl q hql).1; omega
    have h3 : (p - 1) / q = k * Nat.gcd m (p - 1) := Nat.div_eq_of_eq_mul_right hq0 h2
    rw [h3, Nat.mul_comm, Nat.pow_mul]
    exact pow_one_mod k (by omega) he

variable {p g : Nat}
theorem Fld.nz (h : Fld p g) (i : Nat) : g ^ i % p ≠ 0 := by
  intro e
  have h1 : (g ^ i * g ^ (i * (p - 2))) % p = 1 := by
    rw [← Nat.pow_add, show i + i * (p - 2) = (p - 1) * i by
      have := h.two
      obtain ⟨k, rfl⟩ : ∃ k, p = k + 3 := ⟨p - 3, by omega⟩
      show i + i * (k + 1) = (k + 2) * i
      rw [Nat.mul_comm (k + 2) i, Nat.mul_add, Nat.mul_add]; omega, Nat.pow_mul]
    exact pow_one_mod i (by have := h.two; omega) h.one
  rw [Nat.mul_mod, e, Nat.zero_mul, Nat.zero_mod] at h1
  omega
theorem Fld.inj (h : Fld p g) {i j : Nat} (hi : i < p - 1) (hj : j < p - 1) (e : g ^ i % p = g ^ j % p) : i = j := by
  have key : ∀ i j, i < p - 1 → j < p - 1 → g ^ i % p = g ^ j % p → i ≤ j → i = j := by
    intro i j hi hj e hle
    have h2 : (g ^ j * g ^ (p - 1 - i)) % p = 1 := by
      rw [← mulm (c := g ^ j) (d := g ^ (p - 1 - i)) e rfl, ← Nat.pow_add, show i + (p - 1 - i) = p - 1 by omega]
      exact h.one
    rw [← Nat.pow_add] at h2
    have h3 := h.ord _ h2
    rw [show j + (p - 1 - i) = (j - i) + (p - 1) by omega] at h3
    have h4 : p - 1 ∣ j - i := (Nat.dvd_add_left (Nat.dvd_refl _)).1 h3
    have := Nat.eq_zero_of_dvd_of_lt h4 (by omega)
    omega
  rcases Nat.le_total i j with hl | hl
  · exact key i j hi hj e hl
  · exact (key j i hj hi e.symm hl).symm
theorem Fld.log (h : Fld p g) {x : Nat} (h0 : 0 < x) (h1 : x < p) : ∃ i, g ^ i % p = x := by
  have hp := h.two
  obtain ⟨i, _, e⟩ := surj (p - 1) (fun i => g ^ i % p - 1)
    (fun i _ => by have := Nat.mod_lt (g ^ i) (show 0 < p by omega); show _ - 1 < _; omega)
    (fun i j hi hj e => h.inj hi hj (by
      have a := h.nz i; have b := h.nz j
      have e' : g ^ i % p - 1 = g ^ j % p - 1 := e
      omega)) (x - 1) (by omega)
  have e' : g ^ i % p - 1 = x - 1 := e
  have := h.nz i
  exact ⟨i, by omega⟩
theorem Fld.fermat (h : Fld p g) {x : Nat} (hx : x % p ≠ 0) : x ^ (p - 1) % p = 1 := by
  have hp := h.two
  obtain ⟨i, e⟩ := h.log (x := x % p) (by omega) (Nat.mod_lt _ (by omega))
  have e2 : x % p = g ^ i % p := e.symm
  rw [powm (p - 1) e2, ← Nat.pow_mul, Nat.mul_comm, Nat.pow_mul]
  exact pow_one_mod i (by omega) h.one
theorem Fld.mul_nz (h : Fld p g) {x y : Nat} (hx : x % p ≠ 0) (hy : y % p ≠ 0) : (x * y) % p ≠ 0 := by
  have hp := h.two
  obtain ⟨i, e⟩ := h.log (x := x % p) (by omega) (Nat.mod_lt _ (by omega))
  obtain ⟨j, e2⟩ := h.log (x := y % p) (by omega) (Nat.mod_lt _ (by omega))
  rw [mulm e.symm e2.symm, ← Nat.pow_add]
  exact h.nz _
theorem Fld.pow_nz (h : Fld p g) {x : Nat} (k : Nat) (hx : x % p ≠ 0) : x ^ k % p ≠ 0 := by
  have hp := h.two
  induction k with
  | zero => rw [Nat.pow_zero, Nat.mod_eq_of_lt (by omega)]; omega
  | succ k ih => rw [Nat.pow_succ]; exact h.mul_nz ih hx
/-- Exponents count modulo p - 1. -/
theorem Fld.pow_mod (h : Fld p g) {x : Nat} (k : Nat) (hx : x % p ≠ 0) : x ^ (k % (p - 1)) % p = x ^ k % p := by
  have hp := h.two
  conv => rhs; rw [← Nat.div_add_mod k (p - 1), Nat.pow_add, Nat.pow_mul]
  rw [Nat.mul_mod, pow_one_mod (k / (p - 1)) (by omega) (h.fermat hx), Nat.one_mul, Nat.mod_mod]
theorem Fld.cancel (h : Fld p g) {x a b : Nat} (hx : x % p ≠ 0) (e : (x * a) % p = (x * b) % p) : a % p = b % p := by
  have hp := h.two
  have i1 : (x ^ (p - 2) * x) % p = 1 := by
    rw [← Nat.pow_succ, show (p - 2).succ = p - 1 by omega]; exact h.fermat hx
  have e2 := mulm (a := x ^ (p - 2)) (c := x ^ (p - 2)) rfl e
  rw [← Nat.mul_assoc, ← Nat.mul_assoc] at e2
  have f : ∀ c, (x ^ (p - 2) * x * c) % p = c % p := fun c => by
    rw [Nat.mul_mod, i1, Nat.one_mul, Nat.mod_mod]
  rw [f, f] at e2; exact e2
theorem Fld.roots (h : Fld p g) {s r : Nat} (hs : s < p) (hr : r < p) (e : (s * s) % p = (r * r) % p) : s = r ∨ s + r = p := by
  have hp := h.two
  have key : ∀ s r, s < p → r < s → (s * s) % p = (r * r) % p → s + r = p := by
    intro s r hs hr e
    by_cases hz : (s + r) % p = 0
    · obtain ⟨k, hk⟩ := Nat.dvd_of_mod_eq_zero hz
      have : k = 1 := by
        rcases k with _ | _ | k
        · omega
        · rfl
        · have := Nat.mul_le_mul_left p (show 2 ≤ k + 1 + 1 by omega); omega
      subst this; omega
    · exfalso
      apply h.mul_nz (x := s - r) (y := s + r) (by rw [Nat.mod_eq_of_lt (by omega)]; omega) hz
      obtain ⟨d, rfl⟩ : ∃ d, s = r + d := ⟨s - r, by omega⟩
      rw [Nat.add_sub_cancel_left]
      have e1 : (r + d) * (r + d) = r * r + d * (r + d + r) := by simp [Nat.mul_add, Nat.mul_comm]; omega
      rw [e1] at e
      have h2 := Nat.sub_mod_eq_zero_of_mod_eq e
      rw [Nat.add_sub_cancel_left] at h2
      exact h2
  rcases Nat.lt_trichotomy s r with hl | hl | hl
  · right; have := key r s hr hl e.symm; omega
  · left; exact hl
  · right; exact key s r hs hl e
theorem Fld.sqrt1 (h : Fld p g) {y : Nat} (e : (y * y) % p = 1) : y % p = 1 ∨ y % p = p - 1 := by
  have hp := h.two
  have := h.roots (s := y % p) (r := 1) (Nat.mod_lt _ (by omega)) (by omega) (by rw [← Nat.mul_mod, e, Nat.one_mul, Nat.mod_eq_of_lt (by omega)])
  omega
theorem Fld.order (h : Fld p g) {x : Nat} (hx : x % p ≠ 0) : ∃ o, 0 < o ∧ o ∣ p - 1 ∧ ∀ m, x ^ m % p = 1 ↔ o ∣ m := by
  have hp := h.two
  obtain ⟨i, e⟩ := h.log (x := x % p) (by omega) (Nat.mod_lt _ (by omega))
  have hg0 : 0 < Nat.gcd i (p - 1) := Nat.gcd_pos_of_pos_right _ (by omega)
  have hgd := Nat.gcd_dvd_right i (p - 1)
  have hgi := Nat.gcd_dvd_left i (p - 1)
  refine ⟨(p - 1) / Nat.gcd i (p - 1), Nat.div_pos (Nat.le_of_dvd (by omega) hgd) hg0, Nat.div_dvd_of_dvd hgd, fun m => ?_⟩
  have e2 : x ^ m % p = g ^ (i * m) % p := by rw [powm m e.symm, Nat.pow_mul]
  rw [e2]
  constructor
  · intro h1
    have h2 := h.ord _ h1
    have hco : Nat.Coprime ((p - 1) / Nat.gcd i (p - 1)) (i / Nat.gcd i (p - 1)) := by
      have := Nat.coprime_div_gcd_div_gcd hg0; exact this.symm
    apply hco.dvd_of_dvd_mul_left
    apply Nat.dvd_of_mul_dvd_mul_left hg0
    rw [← Nat.mul_assoc, Nat.mul_div_cancel' hgd, Nat.mul_div_cancel' hgi]
    exact h2
  · rintro ⟨c, rfl⟩
    have : p - 1 ∣ i * ((p - 1) / Nat.gcd i (p - 1) * c) := by
      obtain ⟨a, ha⟩ := hgi
      have gen : ∀ d a n, d ∣ n → d * a * (n / d * c) = n * (a * c) := fun d a n hd => by
        rw [show d * a * (n / d * c) = (d * (n / d)) * (a * c) by simp only [Nat.mul_assoc, Nat.mul_left_comm], Nat.mul_div_cancel' hd]
      exact ⟨a * c, (congrArg (· * ((p - 1) / Nat.gcd i (p - 1) * c)) ha).trans (gen _ a _ hgd)⟩
    obtain ⟨c', hc'⟩ := this
    rw [hc', Nat.pow_mul]
    exact pow_one_mod c' (by omega) h.one
/-- Fast powers, to be reckoned by the kernel. -/
def fpow (p : Nat) : Nat → Nat → Nat → Nat → Nat
  | 0, _, _, r => r
  | n + 1, x, e, r => fpow p n (x * x % p) (e / 2) (if e % 2 = 1 then r * x % p else r)
theorem half_even {p r x e y : Nat} (h : e % 2 = 0) (hy : y % p = x * x % p) : (r * y ^ (e / 2)) % p = (r * x ^ e) % p := by
  refine mulm rfl ?_
  conv => rhs; rw [← Nat.div_add_mod e 2, h, Nat.add_zero, Nat.pow_mul, Nat.pow_two]
  exact powm _ hy
theorem half_odd {p r x e y s : Nat} (h : e % 2 = 1) (hy : y % p = x * x % p) (hs : s % p = r * x % p) : (s * y ^ (e / 2)) % p = (r * x ^ e) % p := by
  conv => rhs; rw [← Nat.div_add_mod e 2, h, Nat.pow_succ, Nat.pow_mul, Nat.pow_two, Nat.mul_comm ((x * x) ^ (e / 2)) x, ← Nat.mul_assoc]
  exact mulm hs (powm _ hy)
theorem fpow_eq (p : Nat) : ∀ n x e r, e < 2 ^ n → fpow p n x e r % p = (r * x ^ e) % p := by
  intro n
  induction n with
  | zero => intro x e r h; have : e = 0 := by simpa using h
            subst this; simp [fpow]
  | succ n ih =>
    intro x e r h
    show fpow p n (x * x % p) (e / 2) (if e % 2 = 1 then r * x % p else r) % p = _
    rw [ih _ _ _ (by rw [Nat.pow_succ] at h; omega)]
    split
    · rename_i h1; exact half_odd h1 (by simp) (by simp)
    · exact half_even (by omega) (by simp)
theorem fpow_one {p x e n : Nat} (h : e < 2 ^ n) : fpow p n x e 1 % p = x ^ e % p := by rw [fpow_eq p n x e 1 h, Nat.one_mul]

def pN : Nat → Nat
  | 0 => 17 | 1 => 97 | 2 => 193 | 3 => 257 | 4 => 7681 | 5 => 12289 | 6 => 998244353 | 7 => 469762049 | 8 => 1004535809 | _ => 0
def gN : Nat → Nat
  | 0 => 3 | 1 => 5 | 2 => 5 | 3 => 3 | 4 => 17 | 5 => 11 | 6 => 3 | 7 => 3 | 8 => 3 | _ => 0
def tN : Nat → Nat
  | 0 => 4 | 1 => 5 | 2 => 6 | 3 => 8 | 4 => 9 | 5 => 12 | 6 => 23 | 7 => 26 | 8 => 21 | _ => 0
def oN : Nat → List Nat
  | 0 => [] | 1 => [3] | 2 => [3] | 3 => [] | 4 => [3, 5] | 5 => [3] | 6 => [7, 17] | 7 => [7] | 8 => [479] | _ => []
def facs (f : Nat) : List Nat := List.replicate (tN f) 2 ++ oN f
theorem pr_small : Pr 2 ∧ Pr 3 ∧ Pr 5 ∧ Pr 7 ∧ Pr 17 ∧ Pr 479 := by decide +kernel
theorem facs_pr (f : Nat) : ∀ q, q ∈ facs f → Pr q := by
  obtain ⟨h2, h3, h5, h7, h17, h479⟩ := pr_small
  intro q hq
  rcases List.mem_append.1 hq with h | h
  · have := List.eq_of_mem_replicate h; subst this; exact h2
  · unfold oN at h
    split at h <;> simp at h
    all_goals (first | (subst h; assumption) | (rcases h with rfl | rfl <;> assumption))
theorem facs_prod (f : Nat) (hf : f < 9) : prod (facs f) = pN f - 1 := by
  have : ∀ f, f < 9 → prod (facs f) = pN f - 1 := by decide +kernel
  exact this f hf
theorem fld_facts : ∀ f, f < 9 → (2 < pN f ∧ fpow (pN f) 30 (gN f) (pN f - 1) 1 % pN f = 1 ∧ (∀ q, q ∈ facs f → fpow (pN f) 30 (gN f) ((pN f - 1) / q) 1 % pN f ≠ 1) ∧ pN f - 1 < 2 ^ 30) := by decide +kernel
theorem fld (f : Nat) (hf : f < 9) : Fld (pN f) (gN f) := by
  obtain ⟨h2, h1, hq, hb⟩ := fld_facts f hf
  refine Fld.make (facs f) h2 ?_ (facs_pr f) (facs_prod f hf) ?_
  · rw [fpow_one hb] at h1; exact h1
  · intro q hql
    have := hq q hql
    rw [fpow_one (Nat.lt_of_le_of_lt (Nat.div_le_self _ _) hb)] at this
    exact this
end Mth
end Go.Proofs.YtfocdlkophdfoaaDoor
namespace Go.Proofs.YtfocdlkophdfoaaDoor
open Mth

def P (f : Int) : Int := if 0 ≤ f then (pN f.toNat : Int) else 0
def G (f : Int) : Int := if 0 ≤ f then (gN f.toNat : Int) else 0
def T (f : Int) : Int := if 0 ≤ f ∧ f ≤ 8 then (tN f.toNat : Int) else -1
theorem nine {f : Int} (h0 : 0 ≤ f) (h8 : f ≤ 8) : f = 0 ∨ f = 1 ∨ f = 2 ∨ f = 3 ∨ f = 4 ∨ f = 5 ∨ f = 6 ∨ f = 7 ∨ f = 8 := by omega
theorem P_bd {f : Int} (h0 : 0 ≤ f) (h8 : f ≤ 8) : 17 ≤ P f ∧ P f ≤ 1004535809 := by
  rcases nine h0 h8 with rfl | rfl | rfl | rfl | rfl | rfl | rfl | rfl | rfl <;> decide
theorem P_nat {f : Int} (h0 : 0 ≤ f) : P f = (pN f.toNat : Int) := by unfold P; rw [if_pos h0]
theorem P_toNat {f : Int} (h0 : 0 ≤ f) : (P f).toNat = pN f.toNat := by rw [P_nat h0]; rfl
theorem T_bd {f : Int} (h0 : 0 ≤ f) (h8 : f ≤ 8) : 4 ≤ T f ∧ T f ≤ 26 := by
  rcases nine h0 h8 with rfl | rfl | rfl | rfl | rfl | rfl | rfl | rfl | rfl <;> decide
theorem P_off {f : Int} (h : f < 0 ∨ 8 < f) : P f = 0 := by
  unfold P
  split
  · obtain ⟨n, hn⟩ : ∃ n, f.toNat = n + 9 := ⟨f.toNat - 9, by omega⟩
    rw [hn]; rfl
  · rfl
theorem T_off {f : Int} (h : f < 0 ∨ 8 < f) : T f = -1 := by
  unfold T; rw [if_neg (by omega)]

/-- The remainder that is not negative. -/
def RS (x m : Int) : Int := x % m
theorem RS_bd {x m : Int} (h : 0 < m) : 0 ≤ RS x m ∧ RS x m < m := ⟨Int.emod_nonneg _ (by omega), Int.emod_lt_of_pos _ h⟩
theorem RS_self {x m : Int} (h0 : 0 ≤ x) (h1 : x < m) : RS x m = x := Int.emod_eq_of_lt h0 h1
theorem tmod_emod (x m : Int) : (x.tmod m) % m = x % m := by
  conv => rhs; rw [← Int.tmod_add_mul_tdiv x m]
  rw [Int.add_mul_emod_self_left]
theorem rs_pos {x m : Int} (hm : 0 < m) (h : 0 ≤ x.tmod m) : x.tmod m = RS x m := by
  have := Int.tmod_lt_of_pos x hm
  rw [RS, ← tmod_emod, Int.emod_eq_of_lt h this]
theorem rs_neg {x m : Int} (hm : 0 < m) (h : x.tmod m < 0) : x.tmod m + m = RS x m := by
  have := Int.lt_tmod_of_pos x hm
  rw [RS, ← tmod_emod, ← Int.add_emod_right, Int.emod_eq_of_lt (by omega) (by omega)]
theorem RS_mul (a b m : Int) : RS (RS a m * RS b m) m = RS (a * b) m := by unfold RS; exact (Int.mul_emod a b m).symm
theorem RS_add (a b m : Int) : RS (RS a m + RS b m) m = RS (a + b) m := by unfold RS; exact (Int.add_emod a b m).symm
theorem RS_RS (a m : Int) : RS (RS a m) m = RS a m := by unfold RS; exact Int.emod_emod_of_dvd a (Int.dvd_refl m)
theorem prod_bd {a b f : Int} (h0 : 0 ≤ f) (h8 : f ≤ 8) (ha : 0 ≤ a) (ha2 : a < P f) (hb : 0 ≤ b) (hb2 : b < P f) : 0 ≤ a * b ∧ a * b ≤ 1009092190767134464 := by
  have hp := P_bd h0 h8
  refine ⟨Int.mul_nonneg ha hb, ?_⟩
  have h1 : a * b ≤ a * 1004535808 := Int.mul_le_mul_of_nonneg_left (by omega) ha
  omega

/-- Powers: x^e as an element. -/
def PW (m x e : Int) : Int := ((x.toNat ^ e.toNat % m.toNat : Nat) : Int)
theorem PW_bd {m x e : Int} (h : 0 < m) : 0 ≤ PW m x e ∧ PW m x e < m := by
  unfold PW
  have := Nat.mod_lt (x.toNat ^ e.toNat) (show 0 < m.toNat by omega)
  omega
/-- A loop's state: r·x^e is x0^e0. -/
def PWat (m x0 e0 x e r : Int) : Prop := (r.toNat * x.toNat ^ e.toNat) % m.toNat = x0.toNat ^ e0.toNat % m.toNat
theorem PWat_start (m x e : Int) : PWat m x e x e 1 := by unfold PWat; simp
theorem toNat_RS {m : Int} (hm : 0 < m) {a b : Int} (ha : 0 ≤ a) (hb : 0 ≤ b) : (RS (a * b) m).toNat = a.toNat * b.toNat % m.toNat := by
  obtain ⟨a, rfl⟩ := Int.eq_ofNat_of_zero_le ha
  obtain ⟨b, rfl⟩ := Int.eq_ofNat_of_zero_le hb
  obtain ⟨m, rfl⟩ := Int.eq_ofNat_of_zero_le (Int.le_of_lt hm)
  unfold RS
  rw [← Int.natCast_mul, ← Int.natCast_emod]; rfl
theorem PWat_even {m x0 e0 x e r : Int} (hm : 0 < m) (hx : 0 ≤ x) (he : 0 ≤ e) (h2 : e % 2 = 0) (h : PWat m x0 e0 x e r) : PWat m x0 e0 (RS (x * x) m) (e / 2) r := by
  unfold PWat at *
  rw [toNat_RS hm hx hx, show (e / 2).toNat = e.toNat / 2 by omega, half_even (by omega) (Nat.mod_mod _ _), h]
theorem PWat_odd {m x0 e0 x e r : Int} (hm : 0 < m) (hx : 0 ≤ x) (hr : 0 ≤ r) (he : 0 ≤ e) (h2 : e % 2 = 1) (h : PWat m x0 e0 x e r) : PWat m x0 e0 (RS (x * x) m) (e / 2) (RS (r * x) m) := by
  unfold PWat at *
  rw [toNat_RS hm hx hx, toNat_RS hm hr hx, show (e / 2).toNat = e.toNat / 2 by omega, half_odd (by omega) (Nat.mod_mod _ _) (Nat.mod_mod _ _), h]
theorem PWat_end {m x0 e0 x r : Int} (hr : 0 ≤ r) (hr2 : r < m) (h : PWat m x0 e0 x 0 r) : r = PW m x0 e0 := by
  unfold PWat at h; unfold PW
  rw [← h]
  simp
  rw [Int.emod_eq_of_lt (by omega) (by omega)]; omega

def pow0 (e : Int) : Int := if e < 0 then -1 else if e = 0 then 1 else 0
def mReduce (f x : Int) : Int := if 0 ≤ f ∧ f ≤ 8 then RS x (P f) else -1
def mAdd (f a b : Int) : Int := if 0 ≤ f ∧ f ≤ 8 then RS (a + b) (P f) else -1
def mMul (f a b : Int) : Int := if 0 ≤ f ∧ f ≤ 8 then RS (a * b) (P f) else -1
def mPower (f a e : Int) : Int := if 0 ≤ f ∧ f ≤ 8 then (if RS a (P f) = 0 then pow0 e else PW (P f) (RS a (P f)) (RS e (P f - 1))) else -1
end Go.Proofs.YtfocdlkophdfoaaDoor
namespace Go.Proofs.YtfocdlkophdfoaaDoor
open Go.RowKit

/-- The world holds the table of fields. -/
def Tab (w : World) : Prop := ∀ n : Int, 0 ≤ n → n ≤ 8 →
  w.cell? ⟨0, n.toNat * 3, none⟩ = some (.int .i64 (P n)) ∧ w.cell? ⟨0, n.toNat * 3 + 1, none⟩ = some (.int .i64 (G n)) ∧ w.cell? ⟨0, n.toNat * 3 + 2, none⟩ = some (.int .i64 (T n))
theorem Tab.keep {w w' : World} (h : Tab w) (hk : ∀ o, w'.cell? ⟨0, o, none⟩ = w.cell? ⟨0, o, none⟩) : Tab w' := by
  intro n h0 h8
  rw [hk, hk, hk]; exact h n h0 h8

theorem ret_int {k : IntKind} {a b : Int} (h : a = b) : Ending.returned (.int k a) = .returned (.int k b) := by rw [h]

theorem prime_c (n : Int) (w : World) (ht : Tab w) (h0 : 0 ≤ n) (h8 : n ≤ 8) : Calls Tryd.prog 55 #[.int .i64 n] w fun e w' => e = .returned (.int .i64 (P n)) ∧ w = w' := by
  have hc := (ht n h0 h8).1
  go_enter Tryd.func55, Tryd.ntmps55
  go_wp2
  go_ret
  exact ⟨rfl, rfl⟩
theorem twoPower_c (n : Int) (w : World) (ht : Tab w) (h0 : 0 ≤ n) (h8 : n ≤ 8) : Calls Tryd.prog 65 #[.int .i64 n] w fun e w' => e = .returned (.int .i64 (T n)) ∧ w = w' := by
  have hc := (ht n h0 h8).2.2
  go_enter Tryd.func65, Tryd.ntmps65
  go_wp2
  go_ret
  exact ⟨rfl, rfl⟩
theorem known_yes (n : Int) (w : World) (h0 : 0 ≤ n) (h8 : n ≤ 8) : Calls Tryd.prog 54 #[.int .i64 n] w fun e w' => e = .returned (.bool true) ∧ w = w' := by
  go_enter Tryd.func54, Tryd.ntmps54
  go_wp2
  go_ret
  exact ⟨by simp [*], rfl⟩
theorem known_no (n : Int) (w : World) (h : n < 0 ∨ 8 < n) : Calls Tryd.prog 54 #[.int .i64 n] w fun e w' => e = .returned (.bool false) ∧ w = w' := by
  rcases h with h | h
  · have hd : decide (0 ≤ n) = false := by simp; omega
    go_enter Tryd.func54, Tryd.ntmps54
    go_wp2
    go_ret
    exact ⟨by simp [*], rfl⟩
  · have hd : decide (0 ≤ n) = true := by simp; omega
    have hd2 : decide (n ≤ 8) = false := by simp; omega
    go_enter Tryd.func54, Tryd.ntmps54
    go_wp2
    go_ret
    exact ⟨by simp [*], rfl⟩
theorem residue_c (x m : Int) (w : World) (hm : 0 < m) (hm2 : m ≤ 2000000000) : Calls Tryd.prog 58 #[.int .i64 x, .int .i64 m] w fun e w' => e = .returned (.int .i64 (RS x m)) ∧ w = w' := by
  have b1 := Int.lt_tmod_of_pos x hm
  have b2 := Int.tmod_lt_of_pos x hm
  go_enter Tryd.func58, Tryd.ntmps58
  go_wp2
  · go_ret
    exact ⟨ret_int (rs_neg hm ‹_›), rfl⟩
  · go_ret
    exact ⟨ret_int (rs_pos hm ‹_›), rfl⟩
theorem reduce_c (n x : Int) (w : World) (ht : Tab w) (h0 : 0 ≤ n) (h8 : n ≤ 8) : Calls Tryd.prog 37 #[.int .i64 n, .int .i64 x] w fun e w' => e = .returned (.int .i64 (RS x (P n))) ∧ w = w' := by
  have hp := P_bd h0 h8
  go_enter Tryd.func37, Tryd.ntmps37
  go_wp2_with fail
  refine (prime_c n w ht h0 h8).mono ?_
  rintro e w' ⟨rfl, rfl⟩
  go_wp2_with fail
  refine (residue_c x (P n) w (by omega) (by omega)).mono ?_
  rintro e w' ⟨rfl, rfl⟩
  go_wp2
  go_ret
  exact ⟨rfl, rfl⟩
end Go.Proofs.YtfocdlkophdfoaaDoor
namespace Go.Proofs.YtfocdlkophdfoaaDoor
open Go.ChangeShapes Go.WideShapes Go.ChangeAt Go.RowKit

theorem own : ownKnob Tryd.prog.godebug = none := by kernel_rfl
theorem gTab : Tryd.prog.globalNamed "loop.example/g00710/impl.fieldTable" = some 0 := by kernel_rfl
theorem gTabType : (Tryd.prog.globals[0]?).map (·.type) = some 71 := by kernel_rfl
theorem cells60 : Tryd.prog.cellsOf 71 = 27 := by kernel_rfl
theorem cells59 : Tryd.prog.cellsOf 70 = 3 := by kernel_rfl
theorem cells3 : Tryd.prog.cellsOf 3 = 1 := by kernel_rfl
theorem cells4 : Tryd.prog.cellsOf 4 = 1 := by kernel_rfl
theorem cells5 : Tryd.prog.cellsOf 5 = 1 := by kernel_rfl
def tabCells : Array Value := #[.int .i64 17, .int .i64 3, .int .i64 4, .int .i64 97, .int .i64 5, .int .i64 5, .int .i64 193, .int .i64 5, .int .i64 6, .int .i64 257, .int .i64 3, .int .i64 8, .int .i64 7681, .int .i64 17, .int .i64 9, .int .i64 12289, .int .i64 11, .int .i64 12, .int .i64 998244353, .int .i64 3, .int .i64 23, .int .i64 469762049, .int .i64 3, .int .i64 26, .int .i64 1004535809, .int .i64 3, .int .i64 21]
set_option maxRecDepth 100000 in
theorem trod3 {H : Type} {enc : TypeId × Value → H} {w : World} {base : Nat} {spare : Nat → Bool} {held : Bool} {fuel : Nat} {c : List Value} {a b d : Int} {ps : List MemPlace}
    (h : DataW.trod enc Tryd.prog w base spare held fuel 70 c = some (.agg [.lit (.int .i64 a), .lit (.int .i64 b), .lit (.int .i64 d)], ps)) : c = [.int .i64 a, .int .i64 b, .int .i64 d] := by
  obtain ⟨y0, y1, y2, n, e, hl, h0, h1, h2⟩ := Deep.trod_struct3 Tryd.underlying70 h
  rw [cells59] at hl
  match c, hl with
  | [x, y, z], _ =>
    simp only [cells3] at h0 h1 h2
    obtain ⟨a', e0, rfl, _⟩ := DataW.trod_int Tryd.underlying3 h0
    obtain ⟨b', e1, rfl, _⟩ := DataW.trod_int Tryd.underlying3 h1
    obtain ⟨d', e2, rfl, _⟩ := DataW.trod_int Tryd.underlying3 h2
    simp at e e0 e1 e2
    obtain ⟨⟨rfl, rfl, rfl⟩, _⟩ := e
    rw [e0, e1, e2]
theorem cut3 {l a : List Value} (h : l.take 3 = a) : l = a ++ l.drop 3 := by rw [← h, List.take_append_drop]
set_option maxRecDepth 100000 in
theorem table_cells {W : World} {fuel : Nat} {cs : Array Value} {p : List MemPlace}
    (h : DataW.trod (fun _ => ()) Tryd.prog W 0 (fun _ => true) false fuel 71 cs.toList = some (Rows.laid_loop_example_g00710_impl_fieldTable, p)) : cs = tabCells := by
  obtain ⟨xs, m, _, e, hl, hn, hx⟩ := DataW.trod_array Tryd.underlying71 h
  rw [cells60] at hl
  simp only [cells59] at hx
  unfold Rows.laid_loop_example_g00710_impl_fieldTable at e
  simp only [Prod.mk.injEq, DataW.agg.injEq] at e
  have e1 := e.1
  match xs, hn with
  | [x0, x1, x2, x3, x4, x5, x6, x7, x8], _ =>
    simp only [List.map_cons, List.map_nil, List.cons.injEq, and_true] at e1
    obtain ⟨f0, f1, f2, f3, f4, f5, f6, f7, f8⟩ := e1
    have g0 := cut3 (trod3 (ps := x0.2) ((hx 0 (by decide)).trans (by show some x0 = _; rw [f0])))
    have g1 := cut3 (trod3 (ps := x1.2) ((hx 1 (by decide)).trans (by show some x1 = _; rw [f1])))
    have g2 := cut3 (trod3 (ps := x2.2) ((hx 2 (by decide)).trans (by show some x2 = _; rw [f2])))
    have g3 := cut3 (trod3 (ps := x3.2) ((hx 3 (by decide)).trans (by show some x3 = _; rw [f3])))
    have g4 := cut3 (trod3 (ps := x4.2) ((hx 4 (by decide)).trans (by show some x4 = _; rw [f4])))
    have g5 := cut3 (trod3 (ps := x5.2) ((hx 5 (by decide)).trans (by show some x5 = _; rw [f5])))
    have g6 := cut3 (trod3 (ps := x6.2) ((hx 6 (by decide)).trans (by show some x6 = _; rw [f6])))
    have g7 := cut3 (trod3 (ps := x7.2) ((hx 7 (by decide)).trans (by show some x7 = _; rw [f7])))
    have g8 := cut3 (trod3 (ps := x8.2) ((hx 8 (by decide)).trans (by show some x8 = _; rw [f8])))
    simp only [List.drop_drop, Nat.zero_mul, List.drop_zero, Nat.one_mul] at g0 g1 g2 g3 g4 g5 g6 g7 g8
    have ez : List.drop (8 * 3 + 3) cs.toList = [] := List.drop_of_length_le (by rw [hl]; decide)
    apply Array.toList_inj.1
    rw [g0, g1, g2, g3, g4, g5, g6, g7, g8, ez]
    rfl
theorem table_var {W : World} (h : laidMetH Tryd.prog [("loop.example/g00710/impl.fieldTable", Rows.laid_loop_example_g00710_impl_fieldTable)] W) : W.var? Tryd.prog "loop.example/g00710/impl.fieldTable" = some tabCells := by
  have h' : laidMet Tryd.prog [("loop.example/g00710/impl.fieldTable", Rows.laid_loop_example_g00710_impl_fieldTable)] W := h
  obtain ⟨ps, ⟨g, t, cs, fuel, p, q, h1, h2, h3, h4, _⟩, _⟩ := h'
  obtain rfl : 0 = g := Option.some.inj (gTab.symm.trans h1)
  obtain rfl : 71 = t := Option.some.inj (gTabType.symm.trans h2)
  rw [h3, table_cells h4]
theorem var_cell {W : World} (h : W.var? Tryd.prog "loop.example/g00710/impl.fieldTable" = some tabCells) (i : Nat) : W.cell? ⟨0, i, none⟩ = tabCells[i]? := by
  simp only [World.var?, gTab, Option.bind_some] at h
  unfold World.cell?
  split at h
  · rename_i cs _ _ e
    cases h
    simp [e]
  · cases h
theorem tab_of {W : World} (h : W.var? Tryd.prog "loop.example/g00710/impl.fieldTable" = some tabCells) : Tab W := by
  intro n h0 h8
  simp only [var_cell h]
  rcases nine h0 h8 with rfl | rfl | rfl | rfl | rfl | rfl | rfl | rfl | rfl <;> exact ⟨rfl, rfl, rfl⟩
theorem var_size {W : World} (h : W.var? Tryd.prog "loop.example/g00710/impl.fieldTable" = some tabCells) : 0 < W.heap.size := by
  simp only [World.var?, gTab, Option.bind_some] at h
  split at h
  · rename_i e
    exact (Array.getElem?_eq_some_iff.1 e).1
  · cases h
theorem tab_trod {H : Type} (enc : TypeId × Value → H) (W : World) (sp : Nat → Bool) : DataW.trod enc Tryd.prog W 0 sp true 8 71 tabCells.toList = some (Rows.laid_loop_example_g00710_impl_fieldTable, []) := by kernel_rfl
theorem tab_vars {H : Type} (enc : TypeId × Value → H) {W : World} (sp : Nat → Bool) (h : W.var? Tryd.prog "loop.example/g00710/impl.fieldTable" = some tabCells) :
    DataW.TrodVars enc Tryd.prog W sp ["loop.example/g00710/impl.fieldTable"] [Rows.laid_loop_example_g00710_impl_fieldTable] (MemPlace.row ⟨0, 0, none⟩ 27 ++ []) :=
  trodVars_mk1 gTab gTabType h (tab_trod enc W sp)
/-- A world for the witness: the settled one, the table (block 0) holding what its initialiser lays. -/
noncomputable def laidWorld (os : Os) : World :=
  { World.holding Tryd.prog os ⟨#[], #[], []⟩ with heap := (World.holding Tryd.prog os ⟨#[], #[], []⟩).heap.modify 0 fun
      | .cells _ t frozen => .cells tabCells t frozen
      | o => o }
theorem below_var {W W' : World} (hb : Below W.heap.size W W') (h : W.var? Tryd.prog "loop.example/g00710/impl.fieldTable" = some tabCells) : W'.var? Tryd.prog "loop.example/g00710/impl.fieldTable" = some tabCells :=
  var?_below hb gTab (var_size h) h
end Go.Proofs.YtfocdlkophdfoaaDoor
namespace Go.Proofs.YtfocdlkophdfoaaDoor
set_option maxRecDepth 100000
theorem both {a b : Bool} (h : a = true) (k : b = true) : (a && b) = true := by rw [h, k]; rfl
theorem f_laidOut : laidOutB Tryd.prog = true := by kernel_rfl
theorem f_mapsRowed : mapsRowed Tryd.prog = true := by kernel_rfl
theorem f_stops : (Tryd.prog.stops == []) = true := by kernel_rfl
theorem f_knobs : (Tryd.prog.stopKnobs == []) = true := by kernel_rfl
theorem f_keys : (Rows.fnPartsRow.plainKeys == Tryd.prog.plainKeys) = true := by kernel_rfl
theorem f_heard : Tryd.prog.stopsHeard = true := by kernel_rfl
theorem f_looks : false = Tryd.prog.looks [] := by kernel_rfl
def headSigns : List Char := [Char.ofNat 104, Char.ofNat 97, Char.ofNat 114, Char.ofNat 110, Char.ofNat 101, Char.ofNat 115, Char.ofNat 115, Char.ofNat 32, Char.ofNat 55, Char.ofNat 56, Char.ofNat 100, Char.ofNat 50, Char.ofNat 51, Char.ofNat 101, Char.ofNat 52, Char.ofNat 57, Char.ofNat 51, Char.ofNat 99, Char.ofNat 54, Char.ofNat 49, Char.ofNat 52, Char.ofNat 56, Char.ofNat 101, Char.ofNat 54, Char.ofNat 56, Char.ofNat 97, Char.ofNat 57, Char.ofNat 48, Char.ofNat 97, Char.ofNat 100, Char.ofNat 48, Char.ofNat 53, Char.ofNat 55, Char.ofNat 102, Char.ofNat 50, Char.ofNat 97, Char.ofNat 101, Char.ofNat 101, Char.ofNat 56, Char.ofNat 97, Char.ofNat 102, Char.ofNat 97, Char.ofNat 50, Char.ofNat 102, Char.ofNat 99, Char.ofNat 50, Char.ofNat 55, Char.ofNat 57, Char.ofNat 52, Char.ofNat 101, Char.ofNat 56, Char.ofNat 49, Char.ofNat 54, Char.ofNat 57, Char.ofNat 102, Char.ofNat 49, Char.ofNat 50, Char.ofNat 49, Char.ofNat 50, Char.ofNat 49, Char.ofNat 49, Char.ofNat 99, Char.ofNat 49, Char.ofNat 52, Char.ofNat 57, Char.ofNat 102, Char.ofNat 48, Char.ofNat 100, Char.ofNat 54, Char.ofNat 99, Char.ofNat 100, Char.ofNat 102, Char.ofNat 32, Char.ofNat 99, Char.ofNat 117, Char.ofNat 116, Char.ofNat 32, Char.ofNat 97, Char.ofNat 116, Char.ofNat 32, Char.ofNat 108, Char.ofNat 111, Char.ofNat 111, Char.ofNat 112, Char.ofNat 46, Char.ofNat 101, Char.ofNat 120, Char.ofNat 97, Char.ofNat 109, Char.ofNat 112, Char.ofNat 108, Char.ofNat 101, Char.ofNat 47, Char.ofNat 103, Char.ofNat 48, Char.ofNat 48, Char.ofNat 55, Char.ofNat 49, Char.ofNat 48, Char.ofNat 47, Char.ofNat 108, Char.ofNat 97, Char.ofNat 119, Char.ofNat 115, Char.ofNat 46, Char.ofNat 70, Char.ofNat 110, Char.ofNat 80, Char.ofNat 97, Char.ofNat 114, Char.ofNat 116, Char.ofNat 115, Char.ofNat 32, Char.ofNat 108, Char.ofNat 111, Char.ofNat 111, Char.ofNat 112, Char.ofNat 46, Char.ofNat 101, Char.ofNat 120, Char.ofNat 97, Char.ofNat 109, Char.ofNat 112, Char.ofNat 108, Char.ofNat 101, Char.ofNat 47, Char.ofNat 103, Char.ofNat 48, Char.ofNat 48, Char.ofNat 55, Char.ofNat 49, Char.ofNat 48, Char.ofNat 47, Char.ofNat 108, Char.ofNat 97, Char.ofNat 119, Char.ofNat 115, Char.ofNat 46, Char.ofNat 70, Char.ofNat 110, Char.ofNat 69, Char.ofNat 120, Char.ofNat 97, Char.ofNat 99, Char.ofNat 116, Char.ofNat 82, Char.ofNat 101, Char.ofNat 106, Char.ofNat 111, Char.ofNat 105, Char.ofNat 110]
theorem init_is : Tryd.prog.initOrder = String.ofList headSigns := by kernel_rfl
theorem init_list : Tryd.prog.initOrder.toList = headSigns := by rw [init_is]; exact String.toList_ofList
theorem ws_word (a : List Char) (h : ∀ c, c ∈ a → c ≠ Char.ofNat 32) (r : List Char) : wordsSigns (a ++ Char.ofNat 32 :: r) = a :: wordsSigns r := by
  induction a with
  | nil => rfl
  | cons c a ih =>
    have hc : c ≠ Char.ofNat 32 := h c List.mem_cons_self
    have ih' := ih (fun c hc => h c (List.mem_cons_of_mem _ hc))
    show wordsSigns (c :: (a ++ Char.ofNat 32 :: r)) = (c :: a) :: wordsSigns r
    generalize wordsSigns r = t at *
    rw [wordsSigns, ih']
    intro e; exact hc e
def headA : List Char := headSigns.take 7
def headB : List Char := (headSigns.drop 8).take 64
def headC : List Char := (headSigns.drop 73).take 3
def headRest : List Char := headSigns.drop 77
theorem head_split : headSigns = headA ++ Char.ofNat 32 :: (headB ++ Char.ofNat 32 :: (headC ++ Char.ofNat 32 :: headRest)) := by kernel_rfl
theorem head_words : wordsSigns Tryd.prog.initOrder.toList = headA :: headB :: headC :: wordsSigns headRest := by
  rw [init_list, head_split, ws_word _ (by decide +kernel), ws_word _ (by decide +kernel), ws_word _ (by decide +kernel)]
theorem sum_is : "78d23e493c6148e68a90ad057f2aee8afa2fc2794e8169f121211c149f0d6cdf" = String.ofList headB := by kernel_rfl
theorem sum_list : "78d23e493c6148e68a90ad057f2aee8afa2fc2794e8169f121211c149f0d6cdf".toList = headB := by rw [sum_is]; exact String.toList_ofList
theorem behind_of (R : List (List Char)) : behindMainWord (headA :: headB :: headC :: R) = headC :: R := by kernel_rfl
theorem strip_of (R : List (List Char)) : stripLifts liftWords (headC :: R) = ([], headC :: R) := by kernel_rfl
section
variable {P : Program} {R : List (List Char)} (hw : wordsSigns P.initOrder.toList = headA :: headB :: headC :: R)
include hw
theorem main_gen : P.mainIs = some (true, headB) := by
  unfold Program.mainIs
  rw [hw]
  kernel_rfl
theorem lifts_gen : P.headLifts = [] := by
  unfold Program.headLifts
  rw [hw, behind_of, strip_of]
  kernel_rfl
theorem final_gen : P.liftsFinal = false := by
  unfold Program.liftsFinal
  rw [lifts_gen hw, hw, behind_of]
  kernel_rfl
theorem make_gen : P.make = some .cut := by
  unfold Program.make
  rw [lifts_gen hw, hw, behind_of]
  kernel_rfl
theorem enter_gen (hl : P.laysLater = false) (hr : P.bearsReflect = false) (hd : P.doorFits [] = true) : P.mayEnter = true := by
  unfold Program.mayEnter
  rw [hw, behind_of]
  dsimp only
  rw [strip_of, hl, hr]
  dsimp only
  rw [hd]
  kernel_rfl
end
theorem f_main : Tryd.prog.mainIs = some (true, "78d23e493c6148e68a90ad057f2aee8afa2fc2794e8169f121211c149f0d6cdf".toList) := (main_gen head_words).trans (congrArg (fun l => some (true, l)) sum_list.symm)
theorem f_lays : Tryd.prog.laysLater = false := by kernel_rfl
theorem f_refl : Tryd.prog.bearsReflect = false := by kernel_rfl
theorem f_door : Tryd.prog.doorFits [] = true := by kernel_rfl
theorem f_enter : Tryd.prog.mayEnter = true := enter_gen head_words f_lays f_refl f_door
theorem f_lifts : (Rows.fnPartsRow.lifted == Tryd.prog.liftsFinal) = true := by
  rw [final_gen head_words]
  kernel_rfl
theorem f_make : (Tryd.prog.make == some Rows.fnPartsRow.make) = true := by
  rw [make_gen head_words]
  kernel_rfl
end Go.Proofs.YtfocdlkophdfoaaDoor
namespace Go.Proofs.YtfocdlkophdfoaaDoor
open Go.RowKit
theorem iModulus (f : Int) (w : World) (ht : Tab w) : Calls Tryd.prog 32 #[.int .i64 f] w fun e w' => e = .returned (.int .i64 (P f)) ∧ w = w' := by
  by_cases hk : 0 ≤ f ∧ f ≤ 8
  · obtain ⟨h0, h8⟩ := hk
    go_enter Tryd.func32, Tryd.ntmps32
    go_wp2_with fail
    refine (known_yes f w h0 h8).mono ?_
    rintro e w' ⟨rfl, rfl⟩
    go_wp2_with fail
    refine (prime_c f w ht h0 h8).mono ?_
    rintro e w' ⟨rfl, rfl⟩
    go_wp2
    go_ret
    exact ⟨rfl, rfl⟩
  · have H := Lib.hid (P_off (f := f) (by omega))
    go_enter Tryd.func32, Tryd.ntmps32
    go_wp2_with fail
    refine (known_no f w (by omega)).mono ?_
    rintro e w' ⟨rfl, rfl⟩
    go_wp2
    go_ret
    exact ⟨ret_int H.out.symm, rfl⟩
theorem iTwoPower (f : Int) (w : World) (ht : Tab w) : Calls Tryd.prog 64 #[.int .i64 f] w fun e w' => e = .returned (.int .i64 (T f)) ∧ w = w' := by
  by_cases hk : 0 ≤ f ∧ f ≤ 8
  · obtain ⟨h0, h8⟩ := hk
    go_enter Tryd.func64, Tryd.ntmps64
    go_wp2_with fail
    refine (known_yes f w h0 h8).mono ?_
    rintro e w' ⟨rfl, rfl⟩
    go_wp2_with fail
    refine (twoPower_c f w ht h0 h8).mono ?_
    rintro e w' ⟨rfl, rfl⟩
    go_wp2
    go_ret
    exact ⟨rfl, rfl⟩
  · have H := Lib.hid (T_off (f := f) (by omega))
    go_enter Tryd.func64, Tryd.ntmps64
    go_wp2_with fail
    refine (known_no f w (by omega)).mono ?_
    rintro e w' ⟨rfl, rfl⟩
    go_wp2
    go_ret
    exact ⟨ret_int H.out.symm, rfl⟩
theorem sModulus (f : Int) (w : World) : Calls Tryd.prog 10 #[.int .i64 f] w fun e w' => e = .returned (.int .i64 (P f)) ∧ w = w' := by
  by_cases hk : 0 ≤ f ∧ f ≤ 8
  · obtain ⟨h0, h8⟩ := hk
    rcases nine h0 h8 with rfl | rfl | rfl | rfl | rfl | rfl | rfl | rfl | rfl
    all_goals
      go_enter Tryd.func10, Tryd.ntmps10
      go_wp2
      go_ret
      exact ⟨ret_int (by decide), rfl⟩
  · have H := Lib.hid (P_off (f := f) (by omega))
    have e0 : (f == 0) = false := by simp; omega
    have e1 : (f == 1) = false := by simp; omega
    have e2 : (f == 2) = false := by simp; omega
    have e3 : (f == 3) = false := by simp; omega
    have e4 : (f == 4) = false := by simp; omega
    have e5 : (f == 5) = false := by simp; omega
    have e6 : (f == 6) = false := by simp; omega
    have e7 : (f == 7) = false := by simp; omega
    have e8 : (f == 8) = false := by simp; omega
    go_enter Tryd.func10, Tryd.ntmps10
    go_wp2
    go_ret
    exact ⟨ret_int H.out.symm, rfl⟩
theorem sReduce (f x : Int) (w : World) : Calls Tryd.prog 59 #[.int .i64 f, .int .i64 x] w fun e w' => e = .returned (.int .i64 (mReduce f x)) ∧ w = w' := by
  by_cases hk : 0 ≤ f ∧ f ≤ 8
  · have H := Lib.hid (show mReduce f x = _ from if_pos hk)
    obtain ⟨h0, h8⟩ := hk
    have hp := P_bd h0 h8
    have b1 := Int.lt_tmod_of_pos x (show 0 < P f by omega)
    have b2 := Int.tmod_lt_of_pos x (show 0 < P f by omega)
    have hz : (P f == 0) = false := by simp; omega
    go_enter Tryd.func59, Tryd.ntmps59
    go_wp2_with fail
    refine (sModulus f w).mono ?_
    rintro e w' ⟨rfl, rfl⟩
    go_wp2
    · go_ret
      exact ⟨ret_int ((rs_neg (by omega) ‹_›).trans H.out.symm), rfl⟩
    · go_ret
      exact ⟨ret_int ((rs_pos (by omega) ‹_›).trans H.out.symm), rfl⟩
  · have H := Lib.hid (show mReduce f x = _ from if_neg hk)
    have hz : (P f == 0) = true := by simp [P_off (f := f) (by omega)]
    go_enter Tryd.func59, Tryd.ntmps59
    go_wp2_with fail
    refine (sModulus f w).mono ?_
    rintro e w' ⟨rfl, rfl⟩
    go_wp2
    go_ret
    exact ⟨ret_int H.out.symm, rfl⟩
theorem sAdd (f a b : Int) (w : World) : Calls Tryd.prog 39 #[.int .i64 f, .int .i64 a, .int .i64 b] w fun e w' => e = .returned (.int .i64 (mAdd f a b)) ∧ w = w' := by
  by_cases hk : 0 ≤ f ∧ f ≤ 8
  · have H := Lib.hid (show mAdd f a b = _ from if_pos hk)
    have Ra := Lib.hid (show mReduce f a = _ from if_pos hk)
    have Rb := Lib.hid (show mReduce f b = _ from if_pos hk)
    have Rc := Lib.hid (show mReduce f (RS a (P f) + RS b (P f)) = _ from if_pos hk)
    obtain ⟨h0, h8⟩ := hk
    have hp := P_bd h0 h8
    have ba := RS_bd (x := a) (m := P f) (by omega)
    have bb := RS_bd (x := b) (m := P f) (by omega)
    have hz : (P f == 0) = false := by simp; omega
    go_enter Tryd.func39, Tryd.ntmps39
    go_wp2_with fail
    refine (sModulus f w).mono ?_
    rintro e w' ⟨rfl, rfl⟩
    go_wp2_with fail
    refine (sReduce f a w).mono ?_
    rintro e w' ⟨rfl, rfl⟩
    rw [Ra.out]
    go_wp2_with fail
    refine (sReduce f b w).mono ?_
    rintro e w' ⟨rfl, rfl⟩
    rw [Rb.out]
    go_wp2_with fail
    refine (sReduce f (RS a (P f) + RS b (P f)) w).mono ?_
    rintro e w' ⟨rfl, rfl⟩
    go_wp2
    go_ret
    exact ⟨ret_int ((Rc.out.trans (RS_add a b (P f))).trans H.out.symm), rfl⟩
  · have H := Lib.hid (show mAdd f a b = _ from if_neg hk)
    have hz : (P f == 0) = true := by simp [P_off (f := f) (by omega)]
    go_enter Tryd.func39, Tryd.ntmps39
    go_wp2_with fail
    refine (sModulus f w).mono ?_
    rintro e w' ⟨rfl, rfl⟩
    go_wp2
    go_ret
    exact ⟨ret_int H.out.symm, rfl⟩
theorem sMul (f a b : Int) (w : World) : Calls Tryd.prog 40 #[.int .i64 f, .int .i64 a, .int .i64 b] w fun e w' => e = .returned (.int .i64 (mMul f a b)) ∧ w = w' := by
  by_cases hk : 0 ≤ f ∧ f ≤ 8
  · have H := Lib.hid (show mMul f a b = _ from if_pos hk)
    have Ra := Lib.hid (show mReduce f a = _ from if_pos hk)
    have Rb := Lib.hid (show mReduce f b = _ from if_pos hk)
    have Rc := Lib.hid (show mReduce f (RS a (P f) * RS b (P f)) = _ from if_pos hk)
    obtain ⟨h0, h8⟩ := hk
    have hp := P_bd h0 h8
    have ba := RS_bd (x := a) (m := P f) (by omega)
    have bb := RS_bd (x := b) (m := P f) (by omega)
    have hz : (P f == 0) = false := by simp; omega
    obtain ⟨q1, q2⟩ := prod_bd h0 h8 ba.1 ba.2 bb.1 bb.2
    go_enter Tryd.func40, Tryd.ntmps40
    go_wp2_with fail
    refine (sModulus f w).mono ?_
    rintro e w' ⟨rfl, rfl⟩
    go_wp2_with fail
    refine (sReduce f a w).mono ?_
    rintro e w' ⟨rfl, rfl⟩
    rw [Ra.out]
    go_wp2_with fail
    refine (sReduce f b w).mono ?_
    rintro e w' ⟨rfl, rfl⟩
    rw [Rb.out]
    go_wp2_with fail
    refine (sReduce f (RS a (P f) * RS b (P f)) w).mono ?_
    rintro e w' ⟨rfl, rfl⟩
    go_wp2
    go_ret
    exact ⟨ret_int ((Rc.out.trans (RS_mul a b (P f))).trans H.out.symm), rfl⟩
  · have H := Lib.hid (show mMul f a b = _ from if_neg hk)
    have hz : (P f == 0) = true := by simp [P_off (f := f) (by omega)]
    go_enter Tryd.func40, Tryd.ntmps40
    go_wp2_with fail
    refine (sModulus f w).mono ?_
    rintro e w' ⟨rfl, rfl⟩
    go_wp2
    go_ret
    exact ⟨ret_int H.out.symm, rfl⟩
end Go.Proofs.YtfocdlkophdfoaaDoor
namespace Go.Proofs.YtfocdlkophdfoaaDoor
open Go.RowKit
theorem vint {k : IntKind} {a b : Int} (h : a = b) : Value.int k a = .int k b := by rw [h]
theorem tm_pos {x m : Int} (h : 0 ≤ x) : x.tmod m = RS x m := Int.tmod_eq_emod_of_nonneg h
set_option maxHeartbeats 800000 in
theorem sPower (f a e : Int) (w : World) : Calls Tryd.prog 41 #[.int .i64 f, .int .i64 a, .int .i64 e] w fun e' w' => e' = .returned (.int .i64 (mPower f a e)) ∧ w = w' := by
  by_cases hk : 0 ≤ f ∧ f ≤ 8
  · have H := Lib.hid (show mPower f a e = _ from if_pos hk)
    have Ra := Lib.hid (show mReduce f a = _ from if_pos hk)
    obtain ⟨h0, h8⟩ := hk
    have hp := P_bd h0 h8
    have ba := RS_bd (x := a) (m := P f) (by omega)
    have be := RS_bd (x := e) (m := P f - 1) (by omega)
    have hpz : (P f == 0) = false := by simp; omega
    by_cases hz : RS a (P f) = 0
    · have H2 := Lib.hid (H.out.trans (if_pos hz))
      have hb : (RS a (P f) == 0) = true := by simpa using hz
      clear hz
      by_cases e1 : e = 0
      · subst e1
        go_enter Tryd.func41, Tryd.ntmps41
        go_wp2_with fail
        refine (sModulus f w).mono ?_
        rintro e w' ⟨rfl, rfl⟩
        go_wp2_with fail
        refine (sReduce f a w).mono ?_
        rintro e w' ⟨rfl, rfl⟩
        rw [Ra.out]
        go_wp2
        go_ret
        exact ⟨ret_int (H2.out.trans (by decide)).symm, rfl⟩
      · have e2 : (e == 0) = false := by simpa using e1
        by_cases e3 : e < 0
        · have H3 := Lib.hid (H2.out.trans (show pow0 e = -1 from if_pos e3))
          clear e1
          go_enter Tryd.func41, Tryd.ntmps41
          go_wp2_with fail
          refine (sModulus f w).mono ?_
          rintro e w' ⟨rfl, rfl⟩
          go_wp2_with fail
          refine (sReduce f a w).mono ?_
          rintro e w' ⟨rfl, rfl⟩
          rw [Ra.out]
          go_wp2
          go_ret
          exact ⟨ret_int H3.out.symm, rfl⟩
        · have H3 := Lib.hid (H2.out.trans (show pow0 e = 0 by unfold pow0; rw [if_neg e3, if_neg e1]))
          clear e1
          go_enter Tryd.func41, Tryd.ntmps41
          go_wp2_with fail
          refine (sModulus f w).mono ?_
          rintro e w' ⟨rfl, rfl⟩
          go_wp2_with fail
          refine (sReduce f a w).mono ?_
          rintro e w' ⟨rfl, rfl⟩
          rw [Ra.out]
          go_wp2
          go_ret
          exact ⟨ret_int H3.out.symm, rfl⟩
    · have H2 := Lib.hid (H.out.trans (if_neg hz))
      have hb : (RS a (P f) == 0) = false := by simpa using hz
      clear hz
      have b1 := Int.lt_tmod_of_pos e (show 0 < P f - 1 by omega)
      have b2 := Int.tmod_lt_of_pos e (show 0 < P f - 1 by omega)
      have hs : (e.tmod (P f - 1) < 0 ∧ Hid (e.tmod (P f - 1) + P f - 1 = RS e (P f - 1))) ∨ (0 ≤ e.tmod (P f - 1) ∧ Hid (e.tmod (P f - 1) = RS e (P f - 1))) := by
        by_cases h : e.tmod (P f - 1) < 0
        · exact .inl ⟨h, Lib.hid (by have := rs_neg (show 0 < P f - 1 by omega) h; omega)⟩
        · exact .inr ⟨by omega, Lib.hid (rs_pos (by omega) (by omega))⟩
      rcases hs with ⟨hs, HS⟩ | ⟨hs, HS⟩
      all_goals
        go_enter Tryd.func41, Tryd.ntmps41
        go_wp2_with fail
        refine (sModulus f w).mono ?_
        rintro e w' ⟨rfl, rfl⟩
        go_wp2_with fail
        refine (sReduce f a w).mono ?_
        rintro e w' ⟨rfl, rfl⟩
        rw [Ra.out]
        go_wp2_with fail
        go_loop [8, 9, 10] (fun u v r => ∃ x k s : Int, u = .int .i64 x ∧ v = .int .i64 k ∧ r = .int .i64 s ∧ 0 ≤ x ∧ x < P f ∧ 0 ≤ k ∧ k ≤ 2000000000 ∧ 0 ≤ s ∧ s < P f ∧ PWat (P f) (RS a (P f)) (RS e (P f - 1)) x k s) (fun _ v _ => (intOf v).toNat)
        case atStart => exact ⟨RS a (P f), RS e (P f - 1), 1, rfl, vint HS.out, rfl, ba.1, ba.2, be.1, by omega, by omega, by omega, PWat_start _ _ _⟩
        case round =>
          obtain ⟨x, k, s, rfl, rfl, rfl, x0, x1, k0, k1, s0, s1, hat⟩ := hrel
          clear hs HS b1 b2
          by_cases hk : 0 < k
          · have bx := RS_bd (x := x * x) (m := P f) (by omega)
            have q1 := prod_bd h0 h8 x0 x1 x0 x1
            have q2 := prod_bd h0 h8 s0 s1 x0 x1
            by_cases h2 : k % 2 = 1
            · have h3 := PWat_odd (by omega) x0 s0 k0 h2 hat
              have bs := RS_bd (x := s * x) (m := P f) (by omega)
              have e2 : (k % 2 == 1) = true := by simp [h2]
              clear h2
              go_wp2
              go_round
              case rel => exact ⟨RS (x * x) (P f), _, RS (s * x) (P f), vint (by first | rfl | exact tm_pos q1.1), rfl, vint (by first | rfl | exact tm_pos q2.1), bx.1, bx.2, by omega, by omega, bs.1, bs.2, h3⟩
              case measure => simp [intOf]; omega
            · have h3 := PWat_even (by omega) x0 k0 (by omega) hat
              have e2 : (k % 2 == 1) = false := by simp [h2]
              clear h2
              go_wp2
              go_round
              case rel => exact ⟨RS (x * x) (P f), _, _, vint (by first | rfl | exact tm_pos q1.1), rfl, rfl, bx.1, bx.2, by omega, by omega, s0, s1, h3⟩
              case measure => simp [intOf]; omega
          · obtain rfl : k = 0 := by omega
            have h3 := PWat_end s0 s1 hat
            have H3 := Lib.hid (h3.trans H2.out.symm)
            clear h3
            go_wp2
            go_ret
            exact ⟨ret_int H3.out, rfl⟩
  · have H := Lib.hid (show mPower f a e = _ from if_neg hk)
    have hz : (P f == 0) = true := by simp [P_off (f := f) (by omega)]
    go_enter Tryd.func41, Tryd.ntmps41
    go_wp2_with fail
    refine (sModulus f w).mono ?_
    rintro e w' ⟨rfl, rfl⟩
    go_wp2
    go_ret
    exact ⟨ret_int H.out.symm, rfl⟩
/-- What is left of P - 1 after k halvings. -/
def halves (f : Int) (k : Nat) : Int := (P f - 1) / 2 ^ k
theorem halves_facts : ∀ f, f < 9 → ∀ k, k ≤ 26 → (k < Mth.tN f → ((Mth.pN f - 1) / 2 ^ k) % 2 = 0) ∧ (k = Mth.tN f → ((Mth.pN f - 1) / 2 ^ k) % 2 = 1) := by decide +kernel
theorem halves_nat {f : Int} (h0 : 0 ≤ f) (h8 : f ≤ 8) (k : Nat) : halves f k = (((Mth.pN f.toNat - 1) / 2 ^ k : Nat) : Int) := by
  unfold halves
  have hp := P_bd h0 h8
  rw [P_nat h0] at *
  rw [show ((Mth.pN f.toNat : Int) - 1) = ((Mth.pN f.toNat - 1 : Nat) : Int) by omega, Int.natCast_ediv]; simp
theorem halves_bd {f : Int} (h0 : 0 ≤ f) (h8 : f ≤ 8) (k : Nat) : 0 ≤ halves f k ∧ halves f k ≤ 1004535809 := by
  have hp := P_bd h0 h8
  have hn := P_nat h0
  rw [halves_nat h0 h8]
  have := Nat.div_le_self (Mth.pN f.toNat - 1) (2 ^ k)
  generalize (Mth.pN f.toNat - 1) / 2 ^ k = d at *
  omega
theorem halves_succ {f : Int} (h0 : 0 ≤ f) (h8 : f ≤ 8) (k : Nat) : halves f k / 2 = halves f (k + 1) := by
  rw [halves_nat h0 h8, halves_nat h0 h8, Nat.pow_succ, ← Nat.div_div_eq_div_mul]; omega
theorem T_nat {f : Int} (h0 : 0 ≤ f) (h8 : f ≤ 8) : T f = (Mth.tN f.toNat : Int) := by unfold T; rw [if_pos ⟨h0, h8⟩]
theorem halves_even {f : Int} (h0 : 0 ≤ f) (h8 : f ≤ 8) {k : Nat} (h : (k : Int) < T f) : halves f k % 2 = 0 := by
  have ht := T_bd h0 h8
  have hn := T_nat h0 h8
  have := (halves_facts f.toNat (by omega) k (by omega)).1 (by omega)
  rw [halves_nat h0 h8]; omega
theorem halves_odd {f : Int} (h0 : 0 ≤ f) (h8 : f ≤ 8) {k : Nat} (h : (k : Int) = T f) : halves f k % 2 = 1 := by
  have ht := T_bd h0 h8
  have hn := T_nat h0 h8
  have := (halves_facts f.toNat (by omega) k (by omega)).2 (by omega)
  rw [halves_nat h0 h8]; omega
set_option maxHeartbeats 400000 in
theorem sTwoPower (f : Int) (w : World) : Calls Tryd.prog 46 #[.int .i64 f] w fun e' w' => e' = .returned (.int .i64 (T f)) ∧ w = w' := by
  by_cases hk : 0 ≤ f ∧ f ≤ 8
  · obtain ⟨h0, h8⟩ := hk
    have hp := P_bd h0 h8
    have ht := T_bd h0 h8
    have hpz : (P f == 0) = false := by simp; omega
    go_enter Tryd.func46, Tryd.ntmps46
    go_wp2_with fail
    refine (sModulus f w).mono ?_
    rintro e w' ⟨rfl, rfl⟩
    go_wp2_with fail
    go_loop [4, 5] (fun u v => ∃ k : Nat, u = .int .i64 k ∧ v = .int .i64 (halves f k) ∧ (k : Int) ≤ T f) (fun u _ => (T f - intOf u).toNat)
    case atStart => exact ⟨0, rfl, vint (by unfold halves; simp), by omega⟩
    case round =>
      obtain ⟨k, rfl, rfl, hk⟩ := hrel
      have hb := halves_bd h0 h8 k
      by_cases hlt : (k : Int) < T f
      · have e2 : (halves f k % 2 == 0) = true := by simp [halves_even h0 h8 hlt]
        have HS := Lib.hid (halves_succ h0 h8 k)
        go_wp2
        go_round
        case rel => exact ⟨k + 1, by go_num, vint HS.out, by omega⟩
        case measure => simp [intOf]; omega
      · have he : (k : Int) = T f := by omega
        have e2 : (halves f k % 2 == 0) = false := by simp [halves_odd h0 h8 he]
        have HE := Lib.hid he
        clear he
        go_wp2
        go_ret
        exact ⟨ret_int HE.out, rfl⟩
  · have H := Lib.hid (T_off (f := f) (by omega))
    have hz : (P f == 0) = true := by simp [P_off (f := f) (by omega)]
    go_enter Tryd.func46, Tryd.ntmps46
    go_wp2_with fail
    refine (sModulus f w).mono ?_
    rintro e w' ⟨rfl, rfl⟩
    go_wp2
    go_ret
    exact ⟨ret_int H.out.symm, rfl⟩
end Go.Proofs.YtfocdlkophdfoaaDoor
namespace Go.Proofs.YtfocdlkophdfoaaDoor
open Mth
def two (k : Int) : Int := 2 ^ k.toNat
section
variable {f : Int} (h0 : 0 ≤ f) (h8 : f ≤ 8)
include h0 h8
theorem fldf : Fld (P f).toNat (gN f.toNat) := by rw [P_toNat h0]; exact fld _ (by omega)
/-- In numbers: p and the residues. -/
theorem RS_nat {a b : Int} (ha : 0 ≤ a) (hb : 0 ≤ b) : RS (a * b) (P f) = ((a.toNat * b.toNat % (P f).toNat : Nat) : Int) := by
  have hp := P_bd h0 h8
  have := toNat_RS (m := P f) (by omega) ha hb
  have hb2 := RS_bd (x := a * b) (m := P f) (by omega)
  omega
end
theorem two_nat {k : Int} (_hk : 0 ≤ k) : two k = ((2 ^ k.toNat : Nat) : Int) := by unfold two; simp
theorem two_bd {k : Int} (hk : 0 ≤ k) (h2 : k ≤ 26) : 1 ≤ two k ∧ two k ≤ 67108864 := by
  rw [two_nat hk]
  have a : 2 ^ k.toNat ≤ 2 ^ 26 := Nat.pow_le_pow_right (by omega) (by omega)
  have b : 0 < 2 ^ k.toNat := Nat.pow_pos (by omega)
  have : (2 : Nat) ^ 26 = 67108864 := by decide
  omega
namespace Mth
variable {p g : Nat}
theorem Fld.half (h : Fld p g) (ho : p % 2 = 1) : g ^ ((p - 1) / 2) % p = p - 1 := by
  have hp := h.two
  have e : (g ^ ((p - 1) / 2) * g ^ ((p - 1) / 2)) % p = 1 := by
    rw [← Nat.pow_add, show (p - 1) / 2 + (p - 1) / 2 = p - 1 by omega]; exact h.one
  rcases h.sqrt1 e with h1 | h1
  · exfalso
    have := Nat.le_of_dvd (by omega) (h.ord _ h1); omega
  · exact h1
theorem neg_sq (hp : 2 < p) : ((p - 1) * (p - 1)) % p = 1 := by
  obtain ⟨k, rfl⟩ : ∃ k, p = k + 2 := ⟨p - 2, by omega⟩
  have : (k + 2 - 1) * (k + 2 - 1) = 1 + (k + 2) * k := by
    show (k + 1) * (k + 1) = _
    simp [Nat.mul_add, Nat.mul_comm]; omega
  rw [this, Nat.add_mul_mod_self_left, Nat.mod_eq_of_lt (by omega)]
theorem pow2 (e k : Nat) : e ^ (2 ^ (k + 1)) = e ^ (2 ^ k) * e ^ (2 ^ k) := by
  rw [Nat.pow_succ, Nat.pow_mul, Nat.pow_two]
theorem pow2' (e k : Nat) : e ^ (2 ^ (k + 1)) = (e * e) ^ (2 ^ k) := by
  rw [Nat.pow_succ, Nat.mul_comm, Nat.pow_mul, Nat.pow_two]
/-- The state of the program's loop. -/
structure Sq (p a r e s k : Nat) : Prop where
  rr : (r * r) % p = (a * e) % p
  ee : e ^ (2 ^ k) % p = 1
  ss : s ^ (2 ^ k) % p = p - 1
theorem Sq.ss' {a r e s k : Nat} (h : Sq p a r e s (k + 1)) : (s * s % p) ^ (2 ^ k) % p = p - 1 := by
  rw [powm (c := s * s) _ (Nat.mod_mod _ _), ← pow2', h.ss]
theorem Sq.no {a r e s k : Nat} (hf : Fld p g) (h : Sq p a r e s (k + 1)) (h1 : e ^ (2 ^ k) % p ≠ 1) : Sq p a (r * s % p) (e * (s * s % p) % p) (s * s % p) k := by
  have hp := hf.two
  have e1 : e ^ (2 ^ k) % p = p - 1 := by
    rcases hf.sqrt1 (y := e ^ (2 ^ k)) (by rw [← pow2]; exact h.ee) with h2 | h2
    · exact absurd h2 h1
    · exact h2
  refine ⟨?_, ?_, h.ss'⟩
  · have a1 : (r * s % p * (r * s % p)) % p = (r * r * (s * s)) % p := by
      rw [← Nat.mul_mod, show r * s * (r * s) = r * r * (s * s) by simp only [Nat.mul_assoc, Nat.mul_left_comm]]
    have a2 : (a * (e * (s * s % p) % p)) % p = (a * e * (s * s)) % p := by
      rw [mulm (a := a) (c := a) rfl (Nat.mod_mod _ _), Nat.mul_assoc]
      exact mulm rfl (mulm rfl (Nat.mod_mod _ _))
    rw [a1, a2]; exact mulm h.rr rfl
  · rw [powm (c := e * (s * s % p)) _ (Nat.mod_mod _ _), Nat.mul_pow]
    rw [Nat.mul_mod, e1, h.ss', neg_sq hp]
theorem Sq.last {a r e s : Nat} (h : Sq p a r e s 0) : (r * r) % p = a % p := by
  have e1 : e % p = 1 := by simpa using h.ee
  rw [h.rr, Nat.mul_mod, e1, Nat.mul_one, Nat.mod_mod]
/-- The start, where a^((p-1)/2) is 1. -/
theorem Sq.first {a t o : Nat} (h : Fld p g) (ho : p % 2 = 1) (ht : 0 < t) (hto : p - 1 = 2 ^ t * o) (hodd : o % 2 = 1) (ha : a ^ ((p - 1) / 2) % p = 1) :
    Sq p a (a ^ ((o + 1) / 2) % p) (a ^ o % p) (g ^ o % p) (t - 1) := by
  have hh : o * 2 ^ (t - 1) = (p - 1) / 2 := by
    rw [hto]
    obtain ⟨u, rfl⟩ : ∃ u, t = u + 1 := ⟨t - 1, by omega⟩
    rw [Nat.pow_succ, Nat.add_sub_cancel, show 2 ^ u * 2 * o = o * 2 ^ u * 2 by rw [Nat.mul_comm, ← Nat.mul_assoc], Nat.mul_div_cancel _ (by omega)]
  refine ⟨?_, ?_, ?_⟩
  · rw [← Nat.mul_mod, ← Nat.pow_add, show (o + 1) / 2 + (o + 1) / 2 = o + 1 by omega, mulm (a := a) (c := a) rfl (Nat.mod_mod _ _), Nat.pow_succ, Nat.mul_comm]
  · rw [powm (c := a ^ o) _ (Nat.mod_mod _ _), ← Nat.pow_mul, hh, ha]
  · rw [powm (c := g ^ o) _ (Nat.mod_mod _ _), ← Nat.pow_mul, hh, h.half ho]
end Mth
theorem PW_toNat {f : Int} (x e : Int) : (PW (P f) x e).toNat = x.toNat ^ e.toNat % (P f).toNat := by
  unfold PW; exact Int.toNat_natCast _
namespace Mth
variable {p g : Nat}
theorem Fld.inv_pow (h : Fld p g) {z : Nat} (hz : z % p ≠ 0) {e k : Nat} (hd : (p - 1) ∣ e + k) : (z ^ e * z ^ k) % p = 1 := by
  obtain ⟨c, hc⟩ := hd
  rw [← Nat.pow_add, hc, Nat.pow_mul]
  exact pow_one_mod c (by have := h.two; omega) (h.fermat hz)
end Mth
theorem PW_nz {f x e : Int} (h0 : 0 ≤ f) (h8 : f ≤ 8) (hx0 : 0 < x) (hx : x < P f) : PW (P f) x e ≠ 0 := by
  have hp := P_bd h0 h8
  have := (fldf h0 h8).pow_nz (x := x.toNat) e.toNat (by rw [Nat.mod_eq_of_lt (by omega)]; omega)
  unfold PW; omega
/-- z^(-k), as Power gives it. -/
theorem inv_at {f z k : Int} (h0 : 0 ≤ f) (h8 : f ≤ 8) (z0 : 0 < z) (z1 : z < P f) (k0 : 0 ≤ k) : ((mPower f z (-k)).toNat * z.toNat ^ k.toNat) % (P f).toNat = 1 ∧ 0 < mPower f z (-k) ∧ mPower f z (-k) < P f := by
  have hp := P_bd h0 h8
  have hz : RS z (P f) = z := RS_self (by omega) z1
  have e : mPower f z (-k) = PW (P f) z (RS (-k) (P f - 1)) := by unfold mPower; rw [if_pos ⟨h0, h8⟩, hz, if_neg (by omega)]
  have hb := PW_bd (m := P f) (x := z) (e := RS (-k) (P f - 1)) (by omega)
  have hn := PW_nz (e := RS (-k) (P f - 1)) h0 h8 z0 z1
  rw [e]
  refine ⟨?_, by omega, hb.2⟩
  rw [PW_toNat, mulm (Nat.mod_mod _ _) rfl]
  refine (fldf h0 h8).inv_pow (by rw [Nat.mod_eq_of_lt (by omega)]; omega) ?_
  have hd : (P f - 1) ∣ RS (-k) (P f - 1) + k := by
    refine Int.dvd_of_emod_eq_zero ?_
    unfold RS
    rw [Int.emod_add_emod, Int.add_left_neg, Int.zero_emod]
  have hb2 := RS_bd (x := -k) (m := P f - 1) (by omega)
  have : (((P f).toNat - 1 : Nat) : Int) ∣ (((RS (-k) (P f - 1)).toNat + k.toNat : Nat) : Int) := by
    rw [show (((P f).toNat - 1 : Nat) : Int) = P f - 1 by omega, show (((RS (-k) (P f - 1)).toNat + k.toNat : Nat) : Int) = RS (-k) (P f - 1) + k by omega]; exact hd
  exact Int.natCast_dvd_natCast.1 this
end Go.Proofs.YtfocdlkophdfoaaDoor
namespace Go.Proofs.YtfocdlkophdfoaaDoor
open Mth
/-- Field f has a root of order 2^k. -/
def hasK (f k : Int) : Prop := (0 ≤ f ∧ f ≤ 8) ∧ 0 ≤ k ∧ k ≤ T f
instance (f k : Int) : Decidable (hasK f k) := inferInstanceAs (Decidable ((0 ≤ f ∧ f ≤ 8) ∧ 0 ≤ k ∧ k ≤ T f))
theorem hasK_iff (f k : Int) : hasK f k ↔ 0 ≤ k ∧ k ≤ T f := by
  constructor
  · exact fun h => h.2
  · intro h
    refine ⟨?_, h⟩
    by_cases hf : 0 ≤ f ∧ f ≤ 8
    · exact hf
    · have := T_off (f := f) (by omega); omega
theorem T_le (f : Int) : T f ≤ 26 := by
  by_cases hf : 0 ≤ f ∧ f ≤ 8
  · exact (T_bd hf.1 hf.2).2
  · rw [T_off (f := f) (by omega)]; omega
def mRoot (f k : Int) : Int := if hasK f k then PW (P f) (G f) ((P f - 1) / 2 ^ k.toNat) else -1
/-- The sum of the first n powers of z. -/
def gS (z : Nat) : Nat → Nat
  | 0 => 0
  | n + 1 => gS z n + z ^ n
/-- Logarithms. -/
def mLog (n : Int) : Int := if n = 1 then 0 else if n = 2 then 1 else if n = 4 then 2 else if n = 8 then 3 else if n = 16 then 4 else if n = 32 then 5 else if n = 64 then 6 else if n = 128 then 7 else if n = 256 then 8 else if n = 512 then 9 else -1
theorem ten {k : Nat} (h : k ≤ 9) : k = 0 ∨ k = 1 ∨ k = 2 ∨ k = 3 ∨ k = 4 ∨ k = 5 ∨ k = 6 ∨ k = 7 ∨ k = 8 ∨ k = 9 := by omega
theorem log_at {k : Nat} (h : k ≤ 9) : mLog (2 ^ k) = k := by
  rcases ten h with rfl | rfl | rfl | rfl | rfl | rfl | rfl | rfl | rfl | rfl <;> decide
theorem log_off {n : Int} (h : ∀ k : Nat, k ≤ 9 → n ≠ 2 ^ k) : mLog n = -1 := by
  have h0 := h 0 (by omega); have h1 := h 1 (by omega); have h2 := h 2 (by omega); have h3 := h 3 (by omega); have h4 := h 4 (by omega)
  have h5 := h 5 (by omega); have h6 := h 6 (by omega); have h7 := h 7 (by omega); have h8 := h 8 (by omega); have h9 := h 9 (by omega)
  simp at h0 h1 h2 h3 h4 h5 h6 h7 h8 h9
  simp [mLog, h0, h1, h2, h3, h4, h5, h6, h7, h8, h9]
theorem log_cases (n : Int) : (∃ k : Nat, k ≤ 9 ∧ n = 2 ^ k ∧ mLog n = k) ∨ ((∀ k : Nat, k ≤ 9 → n ≠ 2 ^ k) ∧ mLog n = -1) := by
  by_cases h : ∃ k : Nat, k ≤ 9 ∧ n = 2 ^ k
  · obtain ⟨k, hk, rfl⟩ := h
    exact .inl ⟨k, hk, rfl, log_at hk⟩
  · have h2 : ∀ k : Nat, k ≤ 9 → n ≠ 2 ^ k := fun k hk e => h ⟨k, hk, e⟩
    exact .inr ⟨h2, log_off h2⟩
/-- The first j bits of x, the lowest first. -/
def rv (x : Nat) : Nat → Nat
  | 0 => 0
  | j + 1 => 2 * rv x j + x / 2 ^ j % 2
end Go.Proofs.YtfocdlkophdfoaaDoor
namespace Go.Proofs.YtfocdlkophdfoaaDoor
open Go.RowKit
theorem in_yes (x a b : Int) (w : World) (h0 : a ≤ x) (h1 : x ≤ b) : Calls Tryd.prog 26 #[.int .i64 x, .int .i64 a, .int .i64 b] w fun e w' => e = .returned (.bool true) ∧ w = w' := by
  go_enter Tryd.func26, Tryd.ntmps26
  go_wp2
  go_ret
  exact ⟨by simp [*], rfl⟩
theorem in_no (x a b : Int) (w : World) (h : x < a ∨ b < x) : Calls Tryd.prog 26 #[.int .i64 x, .int .i64 a, .int .i64 b] w fun e w' => e = .returned (.bool false) ∧ w = w' := by
  by_cases h0 : a ≤ x
  · have hd : decide (a ≤ x) = true := by simpa using h0
    have hd2 : decide (x ≤ b) = false := by simp; omega
    go_enter Tryd.func26, Tryd.ntmps26
    go_wp2
    go_ret
    exact ⟨by simp [*], rfl⟩
  · have hd : decide (a ≤ x) = false := by simpa using h0
    go_enter Tryd.func26, Tryd.ntmps26
    go_wp2
    go_ret
    exact ⟨by simp [*], rfl⟩
theorem hasRoot_yes (f k : Int) (w : World) (ht : Tab w) (h : hasK f k) : Calls Tryd.prog 61 #[.int .i64 f, .int .i64 k] w fun e w' => e = .returned (.bool true) ∧ w = w' := by
  obtain ⟨_, k0, k1⟩ := h
  have hd : decide (0 ≤ k) = true := by simpa using k0
  have hd2 : decide (k ≤ T f) = true := by simpa using k1
  go_enter Tryd.func61, Tryd.ntmps61
  go_wp2_with fail
  refine (iTwoPower f w ht).mono ?_
  rintro e w' ⟨rfl, rfl⟩
  go_wp2
  go_ret
  exact ⟨by simp [*], rfl⟩
theorem hasRoot_no (f k : Int) (w : World) (ht : Tab w) (h : ¬ hasK f k) : Calls Tryd.prog 61 #[.int .i64 f, .int .i64 k] w fun e w' => e = .returned (.bool false) ∧ w = w' := by
  rw [hasK_iff] at h
  by_cases k0 : 0 ≤ k
  · have hd : decide (0 ≤ k) = true := by simpa using k0
    have hd2 : decide (k ≤ T f) = false := by simp; omega
    go_enter Tryd.func61, Tryd.ntmps61
    go_wp2_with fail
    refine (iTwoPower f w ht).mono ?_
    rintro e w' ⟨rfl, rfl⟩
    go_wp2
    go_ret
    exact ⟨by simp [*], rfl⟩
  · have hd : decide (0 ≤ k) = false := by simpa using k0
    go_enter Tryd.func61, Tryd.ntmps61
    go_wp2
    go_ret
    exact ⟨by simp, rfl⟩
theorem hasRoots_yes (f k : Int) (w : World) (ht : Tab w) (h : hasK f k) (k9 : k ≤ 9) : Calls Tryd.prog 51 #[.int .i64 f, .int .i64 k] w fun e w' => e = .returned (.bool true) ∧ w = w' := by
  have hd : decide (k ≤ 9) = true := by simpa using k9
  go_enter Tryd.func51, Tryd.ntmps51
  go_wp2_with fail
  refine (hasRoot_yes f k w ht h).mono ?_
  rintro e w' ⟨rfl, rfl⟩
  go_wp2
  go_ret
  exact ⟨by simp [*], rfl⟩
theorem hasRoots_no (f k : Int) (w : World) (ht : Tab w) (h : ¬ (hasK f k ∧ k ≤ 9)) : Calls Tryd.prog 51 #[.int .i64 f, .int .i64 k] w fun e w' => e = .returned (.bool false) ∧ w = w' := by
  by_cases hk : hasK f k
  · have hd : decide (k ≤ 9) = false := by simp; exact Int.not_le.1 (fun h9 => h ⟨hk, h9⟩)
    go_enter Tryd.func51, Tryd.ntmps51
    go_wp2_with fail
    refine (hasRoot_yes f k w ht hk).mono ?_
    rintro e w' ⟨rfl, rfl⟩
    go_wp2
    go_ret
    exact ⟨by simp [*], rfl⟩
  · go_enter Tryd.func51, Tryd.ntmps51
    go_wp2_with fail
    refine (hasRoot_no f k w ht hk).mono ?_
    rintro e w' ⟨rfl, rfl⟩
    go_wp2
    go_ret
    exact ⟨by simp [*], rfl⟩
theorem shl_at {k : Int} (h0 : 0 ≤ k) (h : k ≤ 26) : wrap64 (2 ^ k.toNat) = two k := by
  have := two_bd h0 h
  exact IntWalk.wrap64_in _ (by unfold two at this; omega)
end Go.Proofs.YtfocdlkophdfoaaDoor
namespace Go.Proofs.YtfocdlkophdfoaaDoor
open Go.RowKit
theorem and_le (x : Int) (m : Nat) (hm : m ≤ 1073741823) : 0 ≤ bits .and .i64 x m ∧ bits .and .i64 x m ≤ m := by
  unfold bits
  show 0 ≤ IntKind.i64.wrap ((BitVec.ofInt 64 x &&& BitVec.ofInt 64 m).toNat : Int) ∧ IntKind.i64.wrap ((BitVec.ofInt 64 x &&& BitVec.ofInt 64 m).toNat : Int) ≤ m
  have h1 : (BitVec.ofInt 64 x &&& BitVec.ofInt 64 m).toNat ≤ m := by
    rw [BitVec.toNat_and]
    refine Nat.le_trans Nat.and_le_right ?_
    rw [BitVec.toNat_ofInt]
    have : ((m : Int) % ((2 ^ 64 : Nat) : Int)).toNat = m := by
      rw [Int.emod_eq_of_lt (by omega) (by omega)]; rfl
    omega
  rw [IntWalk.i64_in _ (by omega)]
  omega
/-- The bytes that a cursor reads, apart from its own block. -/
def Bytes (w : World) (g : Nat) (a : Option Addr) (len : Nat) : Prop :=
  len ≤ 1099511627776 ∧ (len = 0 ∨ ∃ b off, a = some ⟨b, off, none⟩ ∧ b < g ∧ b < w.heap.size ∧ ∀ j, j < len → ∃ n : Int, 0 ≤ n ∧ n < 256 ∧ w.cell? ⟨b, off + j, none⟩ = some (.int .u8 n))
def CurAt (g : Nat) (w : World) (a : Option Addr) (len cap : Nat) (i h : Int) : Prop :=
  w.cell? ⟨g, 0, none⟩ = some (.slice a len cap) ∧ w.cell? ⟨g, 1, none⟩ = some (.int .i64 i) ∧ w.cell? ⟨g, 2, none⟩ = some (.int .i64 h) ∧
  w.frozen? ⟨g, 1, none⟩ = false ∧ w.frozen? ⟨g, 2, none⟩ = false ∧ 0 ≤ i ∧ i ≤ len ∧ g < w.heap.size ∧ Bytes w g a len
def Cur (g : Nat) (w : World) : Prop := ∃ a len cap i h, CurAt g w a len cap i h
theorem Bytes.keep {w w' : World} {g : Nat} {a : Option Addr} {len : Nat} (h : Bytes w g a len) (hg : w.grownBy w' (some g)) : Bytes w' g a len := by
  refine ⟨h.1, h.2.imp id ?_⟩
  rintro ⟨b, off, e, hne, hlt, hb⟩
  refine ⟨b, off, e, hne, Nat.lt_of_lt_of_le hlt hg.size, fun j hj => ?_⟩
  obtain ⟨n, n0, n1, hc⟩ := hb j hj
  exact ⟨n, n0, n1, hg.cell hc (fun e => by injection e with e; have e : b = g := e; omega)⟩
def DrawInt (g : Nat) (w : World) (Q : Int → Prop) (e : Ending) (w' : World) : Prop := ∃ n, Q n ∧ e = .returned (.int .i64 n) ∧ w.grownBy w' (some g) ∧ Cur g w'
theorem grown_drewN {w w' : World} {row : Option Nat} (h : w.grownBy w' row) (n : Nat) : w.grownBy (w'.drewN n) row := ⟨h.os, h.tape, h.output, h.size, h.block⟩
theorem grown_set {w w' : World} {g : Nat} (h : w.grownBy w' (some g)) (o : Nat) (v : Value) : w.grownBy (w'.setCell ⟨g, o, none⟩ v) (some g) :=
  ⟨h.os, h.tape, h.output, by simpa [World.setCell] using h.size, fun i hi hne => (Below.heap_setCell w' _ v i (fun e => hne (by rw [e]))).trans (h.block i hi hne)⟩
theorem cur_step {w w' : World} {g : Nat} {a : Option Addr} {len cap : Nat} {i : Int} (hby : Bytes w g a len) (hgs : g < w.heap.size) (hg : w.grownBy w' (some g)) (h0 : w'.cell? ⟨g, 0, none⟩ = some (.slice a len cap)) (h1 : w'.cell? ⟨g, 1, none⟩ = some (.int .i64 i)) (h2 : ∃ h, w'.cell? ⟨g, 2, none⟩ = some (.int .i64 h))
    (f1 : w'.frozen? ⟨g, 1, none⟩ = false) (f2 : w'.frozen? ⟨g, 2, none⟩ = false) (i0 : 0 ≤ i) (i1 : i ≤ len) : Cur g w' :=
  h2.elim fun h h2 => ⟨a, len, cap, i, h, h0, h1, h2, f1, f2, i0, i1, Nat.lt_of_lt_of_le hgs hg.size, hby.keep hg⟩
set_option maxRecDepth 100000 in
set_option maxHeartbeats 800000 in
theorem byte_in (g b off len cap : Nat) (i h n : Int) (w : World) (hg0 : w.cell? ⟨g, 0, none⟩ = some (.slice (some ⟨b, off, none⟩) len cap)) (hg1 : w.cell? ⟨g, 1, none⟩ = some (.int .i64 i)) (hg2 : w.cell? ⟨g, 2, none⟩ = some (.int .i64 h))
    (hf1 : w.frozen? ⟨g, 1, none⟩ = false) (hf2 : w.frozen? ⟨g, 2, none⟩ = false) (i0 : 0 ≤ i) (i1 : i < len) (hl : len ≤ 1099511627776) (hne : b ≠ g) (hb : w.cell? ⟨b, off + i.toNat, none⟩ = some (.int .u8 n)) (n0 : 0 ≤ n) (n1 : n < 256)
    (hby : Hid (Bytes w g (some ⟨b, off, none⟩) len)) (hgs : g < w.heap.size) :
    Calls Tryd.prog 48 #[.pointer (some ⟨g, 0, none⟩)] w (DrawInt g w (fun n => 0 ≤ n ∧ n < 256)) := by
  go_enter Tryd.func48, Tryd.ntmps48
  go_wp2
  go_quiet (fail)
  go_wp2
  go_quiet (fail)
  go_wp2
  go_quiet (fail)
  go_wp2
  go_ret
  refine ⟨_, ⟨(and_le _ 255 (by omega)).1, Int.lt_of_le_of_lt (and_le _ 255 (by omega)).2 (by omega)⟩, rfl, ?_, ?_⟩
  · (repeat (first | exact World.grownBy.refl _ _ | refine grown_drewN ?_ _ | refine grown_set ?_ _ _))
  · refine cur_step (cap := cap) hby.out hgs (i := i + 1) ?_ ?_ ?_ ?_ ?_ ?_ (by omega) (by omega)
    · (repeat (first | exact World.grownBy.refl _ _ | refine grown_drewN ?_ _ | refine grown_set ?_ _ _))
    · simp [go_sem, hg0]
    · simp [go_sem, hg1]
    · exact ⟨_, by simp [go_sem, hg2]; rfl⟩
    · simp [hf1]
    · simp [hf2]
set_option maxRecDepth 100000 in
set_option maxHeartbeats 800000 in
theorem byte_out (g len cap : Nat) (a : Option Addr) (h : Int) (w : World) (hg0 : w.cell? ⟨g, 0, none⟩ = some (.slice a len cap)) (hg1 : w.cell? ⟨g, 1, none⟩ = some (.int .i64 len)) (hg2 : w.cell? ⟨g, 2, none⟩ = some (.int .i64 h))
    (hf1 : w.frozen? ⟨g, 1, none⟩ = false) (hf2 : w.frozen? ⟨g, 2, none⟩ = false) (hl : len ≤ 1099511627776)
    (hby : Hid (Bytes w g a len)) (hgs : g < w.heap.size) :
    Calls Tryd.prog 48 #[.pointer (some ⟨g, 0, none⟩)] w (DrawInt g w (fun n => 0 ≤ n ∧ n < 256)) := by
  have hd : decide (len < len) = false := by simp
  go_enter Tryd.func48, Tryd.ntmps48
  go_wp2
  go_quiet (fail)
  go_wp2
  go_quiet (fail)
  go_wp2
  go_ret
  refine ⟨_, ⟨(and_le _ 255 (by omega)).1, Int.lt_of_le_of_lt (and_le _ 255 (by omega)).2 (by omega)⟩, rfl, ?_, ?_⟩
  · (repeat (first | exact World.grownBy.refl _ _ | refine grown_drewN ?_ _ | refine grown_set ?_ _ _))
  · refine cur_step (cap := cap) hby.out hgs (i := len) ?_ ?_ ?_ ?_ ?_ ?_ (by omega) (by omega)
    · (repeat (first | exact World.grownBy.refl _ _ | refine grown_drewN ?_ _ | refine grown_set ?_ _ _))
    · simp [go_sem, hg0]
    · simp [go_sem, hg1]
    · exact ⟨_, by simp [go_sem, hg2]; rfl⟩
    · simp [hf1]
    · simp [hf2]
theorem byte_c (g : Nat) (w : World) (hc : Cur g w) : Calls Tryd.prog 48 #[.pointer (some ⟨g, 0, none⟩)] w (DrawInt g w (fun n => 0 ≤ n ∧ n < 256)) := by
  obtain ⟨a, len, cap, i, h, hg0, hg1, hg2, hf1, hf2, i0, i1, hgs, hby⟩ := hc
  by_cases hi : i < len
  · rcases hby.2 with hz | ⟨b, off, rfl, hne, hlt, hb⟩
    · omega
    · obtain ⟨n, n0, n1, hcell⟩ := hb i.toNat (by omega)
      exact byte_in g b off len cap i h n w hg0 hg1 hg2 hf1 hf2 i0 hi hby.1 (by omega) hcell n0 n1 hby hgs
  · obtain rfl : i = len := by omega
    exact byte_out g len cap a h w hg0 hg1 hg2 hf1 hf2 hby.1 hby hgs
end Go.Proofs.YtfocdlkophdfoaaDoor
namespace Go.Proofs.YtfocdlkophdfoaaDoor
open Go.RowKit
theorem mod_bd {x n : Int} (hn : 0 < n) : 0 ≤ x % n ∧ x % n < n := ⟨Int.emod_nonneg _ (by omega), Int.emod_lt_of_pos _ hn⟩
set_option maxHeartbeats 400000 in
theorem below_c (g : Nat) (n : Int) (w : World) (hc : Cur g w) (n0 : 0 < n) (n1 : n ≤ 16777216) : Calls Tryd.prog 23 #[.pointer (some ⟨g, 0, none⟩), .int .i64 n] w (DrawInt g w (fun r => 0 ≤ r ∧ r < n)) := by
  by_cases hn : n ≤ 256
  · go_enter Tryd.func23, Tryd.ntmps23
    go_wp2_with fail
    refine (byte_c g w hc).mono ?_
    rintro e w1 ⟨x, ⟨x0, x1⟩, rfl, g1, c1⟩
    go_wp2
    go_ret
    exact ⟨_, mod_bd n0, rfl, g1, c1⟩
  · go_enter Tryd.func23, Tryd.ntmps23
    go_wp2_with fail
    refine (byte_c g w hc).mono ?_
    rintro e w1 ⟨x, ⟨x0, x1⟩, rfl, g1, c1⟩
    go_wp2_with fail
    refine (byte_c g w1 c1).mono ?_
    rintro e w2 ⟨y, ⟨y0, y1⟩, rfl, g2, c2⟩
    go_wp2_with fail
    refine (byte_c g w2 c2).mono ?_
    rintro e w3 ⟨z, ⟨z0, z1⟩, rfl, g3, c3⟩
    go_wp2
    go_ret
    exact ⟨_, mod_bd n0, rfl, (g1.trans g2).trans g3, c3⟩
def DrawBool (g : Nat) (w : World) (e : Ending) (w' : World) : Prop := ∃ b : Bool, e = .returned (.bool b) ∧ w.grownBy w' (some g) ∧ Cur g w'
theorem once_c (g : Nat) (n : Int) (w : World) (hc : Cur g w) (n0 : 0 < n) (n1 : n ≤ 16777216) : Calls Tryd.prog 47 #[.pointer (some ⟨g, 0, none⟩), .int .i64 n] w (DrawBool g w) := by
  go_enter Tryd.func47, Tryd.ntmps47
  go_wp2_with fail
  refine (below_c g n w hc n0 n1).mono ?_
  rintro e w1 ⟨x, ⟨x0, x1⟩, rfl, g1, c1⟩
  go_wp2
  go_ret
  exact ⟨_, rfl, g1, c1⟩
/-- A short list of integers in a block of its own. -/
def Ints (Q : Int → Prop) (w : World) (g lb len : Nat) : Prop := lb ≠ g ∧ ∀ j : Nat, j < len → ∃ n : Int, w.cell? ⟨lb, j, none⟩ = some (.int .i64 n) ∧ Q n
set_option maxHeartbeats 400000 in
theorem pick_c (Q : Int → Prop) (g lb len cap : Nat) (w : World) (hc : Cur g w) (l0 : 0 < len) (l1 : len ≤ 100) (hl : Ints Q w g lb len) : Calls Tryd.prog 22 #[.pointer (some ⟨g, 0, none⟩), .slice (some ⟨lb, 0, none⟩) len cap] w (DrawInt g w Q) := by
  go_enter Tryd.func22, Tryd.ntmps22
  go_wp2_with fail
  refine (below_c g len w hc (by omega) (by omega)).mono ?_
  rintro e w1 ⟨x, ⟨x0, x1⟩, rfl, g1, c1⟩
  obtain ⟨n, hn, hq⟩ := hl.2 x.toNat (by omega)
  have HQ := Lib.hid hq
  clear hq
  have hn1 : w1.cell? ⟨lb, x.toNat, none⟩ = some (.int .i64 n) := g1.cell hn (fun e => by injection e with e; exact hl.1 e)
  go_wp2
  go_ret
  exact ⟨_, HQ.out, rfl, g1, c1⟩
theorem Cur.alloc {g : Nat} {w : World} (h : Cur g w) (o : Obj) : Cur g (w.alloc o) := by
  obtain ⟨a, len, cap, i, hh, h0, h1, h2, f1, f2, i0, i1, hgs, hby⟩ := h
  have hg := World.grownBy_alloc w o none
  have c : ∀ k v, w.cell? ⟨g, k, none⟩ = some v → (w.alloc o).cell? ⟨g, k, none⟩ = some v := fun k v hv => hg.cell hv (by simp)
  have fz : ∀ k, (w.alloc o).frozen? ⟨g, k, none⟩ = w.frozen? ⟨g, k, none⟩ := fun k => hg.frozen_far ⟨g, k, none⟩ hgs (by simp)
  exact ⟨a, len, cap, i, hh, c _ _ h0, c _ _ h1, c _ _ h2, (fz _).trans f1, (fz _).trans f2, i0, i1, Nat.lt_of_lt_of_le hgs hg.size, hby.keep (World.grownBy_alloc w o (some g))⟩
theorem Cur.other {g : Nat} {w w' : World} {row : Option Nat} (h : Cur g w) (hg : w.grownBy w' row) (hr : ∀ k, row = some k → g < k) : Cur g w' := by
  obtain ⟨a, len, cap, i, hh, h0, h1, h2, f1, f2, i0, i1, hgs, hby⟩ := h
  have ne : ∀ b, b ≤ g → some b ≠ row := fun b hb e => by have := hr b e.symm; omega
  have c : ∀ k v, w.cell? ⟨g, k, none⟩ = some v → w'.cell? ⟨g, k, none⟩ = some v := fun k v hv => hg.cell hv (ne g (Nat.le_refl _))
  have fz : ∀ k, w'.frozen? ⟨g, k, none⟩ = w.frozen? ⟨g, k, none⟩ := fun k => hg.frozen_far ⟨g, k, none⟩ hgs (ne g (Nat.le_refl _))
  refine ⟨a, len, cap, i, hh, c _ _ h0, c _ _ h1, c _ _ h2, (fz _).trans f1, (fz _).trans f2, i0, i1, Nat.lt_of_lt_of_le hgs hg.size, hby.1, hby.2.imp id ?_⟩
  rintro ⟨b, off, e, hne, hlt, hb⟩
  refine ⟨b, off, e, hne, Nat.lt_of_lt_of_le hlt hg.size, fun j hj => ?_⟩
  obtain ⟨n, n0, n1, hc⟩ := hb j hj
  exact ⟨n, n0, n1, hg.cell hc (ne b (by omega))⟩
theorem Cur.lt {g : Nat} {w : World} (h : Cur g w) : g < w.heap.size := by
  obtain ⟨a, len, cap, i, hh, h0, h1, h2, f1, f2, i0, i1, hgs, hby⟩ := h
  exact hgs
theorem ints_alloc (Q : Int → Prop) {w : World} {g : Nat} (hg : g < w.heap.size) (cs : Array Value) (t : TypeId) (h : ∀ j, j < cs.size → ∃ n : Int, cs[j]? = some (.int .i64 n) ∧ Q n) : Ints Q (w.alloc (.cells cs t)) g w.heap.size cs.size := by
  refine ⟨by omega, fun j hj => ?_⟩
  obtain ⟨n, hn, hq⟩ := h j hj
  refine ⟨n, ?_, hq⟩
  unfold World.cell? World.alloc
  simp [hn]
set_option maxHeartbeats 400000 in
theorem field_c (g : Nat) (w : World) (hc : Cur g w) : Calls Tryd.prog 44 #[.pointer (some ⟨g, 0, none⟩)] w (DrawInt g w (fun _ => True)) := by
  go_enter Tryd.func44, Tryd.ntmps44
  go_wp2_with fail
  refine (once_c g 20 w hc (by omega) (by omega)).mono ?_
  rintro e w1 ⟨b, rfl, g1, c1⟩
  cases b
  · go_wp2_with fail
    refine (below_c g 9 w1 c1 (by omega) (by omega)).mono ?_
    rintro e w2 ⟨x, ⟨x0, x1⟩, rfl, g2, c2⟩
    go_wp2
    go_ret
    exact ⟨_, trivial, rfl, g1.trans g2, c2⟩
  · go_wp2_with fail
    refine (pick_c (fun _ => True) g w1.heap.size 3 3 _ (c1.alloc _) (by omega) (by omega) (ints_alloc (fun _ => True) c1.lt #[.int .i64 (-1), .int .i64 9, .int .i64 100] 3 (fun j hj => by
      have h3 : j = 0 ∨ j = 1 ∨ j = 2 := by have : j < 3 := hj; omega
      rcases h3 with rfl | rfl | rfl <;> exact ⟨_, rfl, trivial⟩))).mono ?_
    rintro e w2 ⟨x, _, rfl, g2, c2⟩
    go_wp2
    go_ret
    exact ⟨_, trivial, rfl, (g1.trans (World.grownBy_alloc _ _ _)).trans g2, c2⟩
set_option maxHeartbeats 800000 in
theorem element_c (g : Nat) (f : Int) (w : World) (hc : Cur g w) : Calls Tryd.prog 63 #[.pointer (some ⟨g, 0, none⟩), .int .i64 f] w (DrawInt g w (fun _ => True)) := by
  by_cases hk : 0 ≤ f ∧ f ≤ 8
  · have hp := P_bd hk.1 hk.2
    have hz : (P f == 0) = false := by simp; omega
    clear hk
    go_enter Tryd.func63, Tryd.ntmps63
    go_wp2_with fail
    refine (sModulus f w).mono ?_
    rintro e w' ⟨rfl, rfl⟩
    go_wp2_with fail
    refine (below_c g 6 w hc (by omega) (by omega)).mono ?_
    rintro e w1 ⟨x, ⟨x0, x1⟩, rfl, g1, c1⟩
    by_cases h0 : x = 0
    · subst h0
      go_wp2_with fail
      refine (below_c g 3 w1 c1 (by omega) (by omega)).mono ?_
      rintro e w2 ⟨y, ⟨y0, y1⟩, rfl, g2, c2⟩
      go_wp2
      go_ret
      exact ⟨_, trivial, rfl, g1.trans g2, c2⟩
    · have b0 : (x == 0) = false := by simpa using h0
      by_cases h1 : x = 1
      · subst h1
        go_wp2_with fail
        refine (below_c g 3 w1 c1 (by omega) (by omega)).mono ?_
        rintro e w2 ⟨y, ⟨y0, y1⟩, rfl, g2, c2⟩
        go_wp2
        go_ret
        exact ⟨_, trivial, rfl, g1.trans g2, c2⟩
      · have b1 : (x == 1) = false := by simpa using h1
        by_cases h2 : x = 2
        · subst h2
          go_wp2_with fail
          refine (below_c g 16777216 w1 c1 (by omega) (by omega)).mono ?_
          rintro e w2 ⟨y, ⟨y0, y1⟩, rfl, g2, c2⟩
          go_wp2_with fail
          refine (below_c g 256 w2 c2 (by omega) (by omega)).mono ?_
          rintro e w3 ⟨z, ⟨z0, z1⟩, rfl, g3, c3⟩
          go_wp2
          go_ret
          exact ⟨_, trivial, rfl, (g1.trans g2).trans g3, c3⟩
        · have b2 : (x == 2) = false := by simpa using h2
          clear h0 h1 h2
          go_wp2_with fail
          refine (below_c g 30 w1 c1 (by omega) (by omega)).mono ?_
          rintro e w2 ⟨y, ⟨y0, y1⟩, rfl, g2, c2⟩
          go_wp2
          go_ret
          exact ⟨_, trivial, rfl, g1.trans g2, c2⟩
  · have hz : (P f == 0) = true := by simp [P_off (f := f) (by omega)]
    go_enter Tryd.func63, Tryd.ntmps63
    go_wp2_with fail
    refine (sModulus f w).mono ?_
    rintro e w' ⟨rfl, rfl⟩
    go_wp2_with fail
    refine (below_c g 50 w hc (by omega) (by omega)).mono ?_
    rintro e w1 ⟨x, ⟨x0, x1⟩, rfl, g1, c1⟩
    go_wp2
    go_ret
    exact ⟨_, trivial, rfl, g1, c1⟩
end Go.Proofs.YtfocdlkophdfoaaDoor
namespace Go.Proofs.YtfocdlkophdfoaaDoor
open Go.RowKit
def NewP (w : World) (e : Ending) (w' : World) : Prop := e = .returned (.pointer (some ⟨w.heap.size, 0, none⟩)) ∧ Below w.heap.size w w' ∧ Cur w.heap.size w'
theorem new_end {w : World} {a : Option Addr} {len cap : Nat} {h : Int} (hby : Bytes w w.heap.size a len) : Below w.heap.size w (w.alloc (.cells #[.slice a len cap, .int .i64 0, .int .i64 h] 67)) ∧ Cur w.heap.size (w.alloc (.cells #[.slice a len cap, .int .i64 0, .int .i64 h] 67)) := by
  refine ⟨(Below.refl _ _).alloc (Nat.le_refl _) _, a, len, cap, 0, h, ?_, ?_, ?_, ?_, ?_, by omega, by omega, by simp, hby.keep (World.grownBy_alloc w _ _)⟩
  · rw [World.cell?_alloc_at _ _ _ _ rfl]; rfl
  · rw [World.cell?_alloc_at _ _ _ _ rfl]; rfl
  · rw [World.cell?_alloc_at _ _ _ _ rfl]; rfl
  · exact World.frozen?_alloc_at _ _ _ _ rfl
  · exact World.frozen?_alloc_at _ _ _ _ rfl
set_option maxHeartbeats 800000 in
theorem new_some (b off len cap : Nat) (w : World) (hl : len ≤ 1099511627776) (hb : ∀ j, j < len → ∃ n : Int, 0 ≤ n ∧ n < 256 ∧ w.cell? ⟨b, off + j, none⟩ = some (.int .u8 n)) (hby : Hid (Bytes w w.heap.size (some ⟨b, off, none⟩) len)) :
    Calls Tryd.prog 43 #[.slice (some ⟨b, off, none⟩) len cap] w (NewP w) := by
  have HB := Lib.hid hb
  clear hb
  go_enter Tryd.func43, Tryd.ntmps43
  go_wp2_with fail
  go_loop [3, 4] (fun u v => ∃ (k : Nat) (h : Int), u = .int .i64 h ∧ v = .int .i64 k ∧ k ≤ len) (fun _ v => len - (intOf v).toNat)
  case atStart => exact ⟨0, _, rfl, rfl, Nat.zero_le _⟩
  case round =>
    obtain ⟨k, h, rfl, rfl, hk⟩ := hrel
    by_cases h1 : k < len
    · by_cases h2 : (k : Int) < 4000
      · obtain ⟨n, n0, n1, hc⟩ := HB.out k h1
        go_wp2
        go_round
        case rel => exact ⟨k + 1, _, rfl, by go_num, by omega⟩
        case measure => simp [intOf]; omega
      · have hd : decide ((k : Int) < 4000) = false := by simpa using h2
        go_wp2
        go_ret
        exact ⟨rfl, new_end hby.out⟩
    · have hd : decide (k < len) = false := by simpa using h1
      go_wp2
      go_ret
      exact ⟨rfl, new_end hby.out⟩
set_option maxHeartbeats 800000 in
theorem new_none (a : Option Addr) (cap : Nat) (w : World) (hby : Hid (Bytes w w.heap.size a 0)) : Calls Tryd.prog 43 #[.slice a 0 cap] w (NewP w) := by
  go_enter Tryd.func43, Tryd.ntmps43
  go_wp2
  refine wp_loop_rounds 1 ?_
  rw [rounds_succ]
  go_wp2
  go_ret
  exact ⟨rfl, new_end hby.out⟩
/-- A slice value whose bytes can be read. -/
def Code (w : World) (a : Option Addr) (len : Nat) : Prop := Bytes w w.heap.size a len
theorem new_c (a : Option Addr) (len cap : Nat) (w : World) (hc : Code w a len) : Calls Tryd.prog 43 #[.slice a len cap] w (NewP w) := by
  rcases hc.2 with rfl | ⟨b, off, rfl, hne, hlt, hb⟩
  · exact new_none a cap w hc
  · exact new_some b off len cap w hc.1 hb hc
theorem Code.keep {w w' : World} {a : Option Addr} {len : Nat} (h : Code w a len) (hb : Below w.heap.size w w') : Code w' a len := by
  refine ⟨h.1, h.2.imp id ?_⟩
  rintro ⟨b, off, e, hne, hlt, hbb⟩
  have hs := hb.size
  refine ⟨b, off, e, by omega, by omega, fun j hj => ?_⟩
  obtain ⟨n, n0, n1, hcell⟩ := hbb j hj
  exact ⟨n, n0, n1, (hb.cell (p := ⟨b, off + j, none⟩) hlt).trans hcell⟩
theorem big_no (a : Option Addr) (len cap : Nat) (w : World) (hl : len ≤ 1048576) : Calls Tryd.prog 5 #[.slice a len cap] w fun e w' => e = .returned (.bool false) ∧ w = w' := by
  have hd : decide ((1048576 : Int) < len) = false := by simp; omega
  go_enter Tryd.func5, Tryd.ntmps5
  go_wp2
  go_ret
  exact ⟨by simp, rfl⟩
theorem big_yes (a : Option Addr) (len cap : Nat) (w : World) (hl : 1048576 < len) : Calls Tryd.prog 5 #[.slice a len cap] w fun e w' => e = .returned (.bool true) ∧ w = w' := by
  have hd : decide ((1048576 : Int) < len) = true := by simp; omega
  go_enter Tryd.func5, Tryd.ntmps5
  go_wp2
  go_ret
  exact ⟨by simp, rfl⟩
theorem info3 : (Tryd.prog.info? 3).map (fun i => (i.zero, i.size, i.bytes)) = some (some (.int .i64 0), 1, 8) := by kernel_rfl
theorem own_ge {w : World} {base : Nat} {e : TypeId} {size : Nat} {v : Value} {n : Nat} {xs : List Value} (h : w.ownsRow base e size v n xs) : ∀ k, v.ownBlock = some k → base ≤ k := by
  intro k hk
  rcases h.2 with ⟨rfl, _⟩ | ⟨g, cap, cur, rfl, hg, _⟩
  · cases hk
  · cases hk; exact hg
theorem below_of_grown {w w1 w2 : World} (hb : Below w.heap.size w w1) (hg : w1.grownBy w2 (some w.heap.size)) : Below w.heap.size w w2 :=
  ⟨hg.os.trans hb.os, hg.tape.trans hb.tape, hg.output.trans hb.output, Nat.le_trans hb.size hg.size, fun k hk => (hg.block k (Nat.lt_of_lt_of_le hk hb.size) (fun e => by injection e with e; omega)).trans (hb.block k hk)⟩
/-- What the walk is told of a slice of integers that came in. -/
def IsRow (k : IntKind) (w : World) (a : Option Addr) (len cap : Nat) (zs : List Int) : Prop :=
  (a = none ∧ len = 0 ∧ cap = 0 ∧ zs = []) ∨
  ∃ x, a = some x ∧ len ≤ cap ∧ cap ≤ maxLen ∧ zs.length = cap ∧ (∀ i, i < zs.length → w.cell? (x.add i) = some (.int k (zs.getD i 0))) ∧ ∀ n ∈ zs, (Lit.int k n).wf = true
theorem cell_some {w : World} {x : Addr} {v : Value} (h : w.cell? x = some v) : x.spot = none ∧ x.block < w.heap.size := by
  unfold World.cell? at h
  split at h
  · rename_i hh
    refine ⟨?_, (Array.getElem?_eq_some_iff.1 hh).1⟩
    split at h
    · cases h
    · rename_i hs; simpa using hs
  · cases h
theorem add_at (b off j : Nat) : (⟨b, off, none⟩ : Addr).add j = ⟨b, off + j, none⟩ := by
  unfold Addr.add
  split
  · rename_i h; simp_all
  · rfl
theorem code_of_row {w : World} {a : Option Addr} {len cap : Nat} {zs : List Int} (h : IsRow .u8 w a len cap zs) (hl : len ≤ 1099511627776) : Code w a len := by
  refine ⟨hl, ?_⟩
  by_cases h0 : len = 0
  · exact .inl h0
  · refine .inr ?_
    rcases h with ⟨_, h, _⟩ | ⟨x, rfl, hc, _, hz, hcell, hwf⟩
    · exact absurd h h0
    · have hs := cell_some (hcell 0 (by omega))
      obtain ⟨b, off, sp⟩ := x
      obtain ⟨hs1, hs2⟩ := hs
      have hs3 : sp = none := hs1
      subst hs3
      refine ⟨b, off, rfl, hs2, hs2, fun j hj => ?_⟩
      · have hj2 : j < zs.length := by omega
        have hm : zs.getD j 0 ∈ zs := by simp [List.getD, hj2]
        have hw := hwf _ hm
        have hb := bounds_u8 hw
        exact ⟨zs.getD j 0, hb.1, by omega, by rw [← add_at]; exact hcell j hj2⟩
theorem Tab.below {w w' : World} (h : Tab w) (hb : Below w.heap.size w w') : Tab w' := by
  have h0 := (cell_some (h 0 (by omega) (by omega)).1).2
  exact h.keep fun o => hb.cell (p := ⟨0, o, none⟩) h0
theorem below_step {w w1 w2 : World} (h1 : Below w.heap.size w w1) (h2 : Below w1.heap.size w1 w2) : Below w.heap.size w w2 := h1.trans (h2.mono h1.size)
end Go.Proofs.YtfocdlkophdfoaaDoor
namespace Go.Proofs.YtfocdlkophdfoaaDoor
open Go.RowKit
/-- A slice of n integers that can be read: F j at j. -/
def Src (w : World) (a : Option Addr) (n : Nat) (F : Nat → Int) : Prop :=
  n = 0 ∨ ∃ b off, a = some ⟨b, off, none⟩ ∧ b < w.heap.size ∧ ∀ j, j < n → w.cell? ⟨b, off + j, none⟩ = some (.int .i64 (F j))
theorem Src.keep {w w' : World} {a : Option Addr} {n : Nat} {F : Nat → Int} (h : Src w a n F) (hb : Below w.heap.size w w') : Src w' a n F := by
  refine h.imp id ?_
  rintro ⟨b, off, e, hlt, hc⟩
  exact ⟨b, off, e, Nat.lt_of_lt_of_le hlt hb.size, fun j hj => (hb.cell (p := ⟨b, off + j, none⟩) hlt).trans (hc j hj)⟩
/-- A block of the call's own: n integers, F j at j. -/
def Own (w : World) (g n : Nat) (F : Nat → Int) : Prop := w.rowIs g 3 n (fun j => .int .i64 (F j))
theorem Own.src {w : World} {g n : Nat} {F : Nat → Int} (h : Own w g n F) : Src w (some ⟨g, 0, none⟩) n F :=
  .inr ⟨g, 0, rfl, h.lt, fun j hj => by rw [Nat.zero_add]; exact h.cell hj⟩
theorem Own.keep {w w' : World} {g n : Nat} {F : Nat → Int} (h : Own w g n F) (hb : Below w.heap.size w w') : Own w' g n F := World.rowIs.of_block h (hb.block g h.lt)
theorem below_drewN {B : Nat} {a w : World} (h : Below B a w) (n : Nat) : Below B a (w.drewN n) := ⟨h.os, h.tape, h.output, h.size, h.block⟩
theorem quiet_left {P : Program} {f : FuncId} {args : Array Value} {w : World} {n : Nat} {v : Value}
    (h : Calls P f args (w.drewN n) fun e w' => e = .returned v ∧ w.drewN n = w') : Calls P f args (w.drewN n) fun e w'' => e = .returned v ∧ ∃ m, w'' = w.drewN m :=
  h.mono fun _ _ ⟨he, hm⟩ => ⟨he, n, hm.symm⟩
def CopyP (w : World) (n : Nat) (F : Nat → Int) (e : Ending) (w' : World) : Prop := e = .returned (.slice (some ⟨w.heap.size, 0, none⟩) n n) ∧ Own w' w.heap.size n F ∧ Below w.heap.size w w'
theorem copy_set {w wr : World} {n k : Nat} {F : Nat → Int} (h : Own wr w.heap.size n (fun j => if j < k then F j else 0)) : Own (wr.setCell ⟨w.heap.size, k, none⟩ (.int .i64 (F k))) w.heap.size n (fun j => if j < k + 1 then F j else 0) := by
  refine (World.rowIs.set h k (.int .i64 (F k))).congr fun j _ => ?_
  by_cases h1 : j = k
  · subst h1; simp
  · by_cases h2 : j < k
    · simp [h1, h2, show j < k + 1 by omega]
    · simp [h1, h2, show ¬ j < k + 1 by omega]
set_option maxHeartbeats 800000 in
theorem toInt_some (b off n cap : Nat) (F : Nat → Int) (w : World) (hn : n ≤ 1048576) (hlt : b < w.heap.size) (hc : ∀ j, j < n → w.cell? ⟨b, off + j, none⟩ = some (.int .i64 (F j))) :
    Calls Tryd.prog 42 #[.slice (some ⟨b, off, none⟩) n cap] w (CopyP w n F) := by
  have HC := Lib.hid hc
  clear hc
  have hmk := run_make_row' (P := Tryd.prog) 24 3 (.int .i64 0) 8 Tryd.underlying24 info3 rfl .i64 .i64 n (by omega) (by omega)
  go_enter Tryd.func42, Tryd.ntmps42
  go_wp2_with fail
  clear hmk
  go_loopw [4] (fun i wr => ∃ k : Nat, i = .int .i64 k ∧ k ≤ n ∧ Own wr w.heap.size n (fun j => if j < k then F j else 0) ∧ Below w.heap.size w wr) (fun i _ => n - (intOf i).toNat)
  case atStart =>
    refine ⟨0, rfl, Nat.zero_le _, ?_, (Below.refl _ _).alloc (Nat.le_refl _) _⟩
    exact (World.rowIs_made w (.int .i64 0) n 3).congr fun j _ => by simp
  case round =>
    obtain ⟨k, rfl, hk, ho, hb⟩ := hrel
    by_cases h1 : k < n
    · have c1 : wr.cell? ⟨b, off + k, none⟩ = some (.int .i64 (F k)) := (hb.cell (p := ⟨b, off + k, none⟩) hlt).trans (HC.out k h1)
      have c2 := World.rowIs.cell ho h1
      have c3 := World.rowIs.frozen ho k
      go_wp2
      go_roundw
      case rel => exact ⟨k + 1, by go_num, by omega, copy_set ho, hb.setCell (Nat.le_refl _) _⟩
      case measure => simp [intOf]; omega
    · have hd : decide (k < n) = false := by simpa using h1
      obtain rfl : k = n := by omega
      go_wp2
      go_ret
      exact ⟨rfl, World.rowIs.congr ho (fun j hj => by simp [hj]), hb⟩
theorem toInt_none (a : Option Addr) (cap : Nat) (F : Nat → Int) (w : World) : Calls Tryd.prog 42 #[.slice a 0 cap] w (CopyP w 0 F) := by
  have hmk : ∀ w : World, (Instr.makeSlice 24 (.int .i64 0) (.int .i64 0)).run Tryd.prog w = .ok (.slice (some ⟨w.heap.size, 0, none⟩) 0 0) (w.alloc (.cells (madeCells #[.int .i64 0] 0) 3)) :=
    run_make_row' (P := Tryd.prog) 24 3 (.int .i64 0) 8 Tryd.underlying24 info3 rfl .i64 .i64 0 (by omega) (by omega)
  go_enter Tryd.func42, Tryd.ntmps42
  go_wp2
  refine wp_loop_rounds 1 ?_
  rw [rounds_succ]
  go_wp2
  go_ret
  exact ⟨rfl, (World.rowIs_made w (.int .i64 0) 0 3).congr (fun j hj => by omega), (Below.refl _ _).alloc (Nat.le_refl _) _⟩
theorem toInt_c (a : Option Addr) (n cap : Nat) (F : Nat → Int) (w : World) (hn : n ≤ 1048576) (hs : Src w a n F) : Calls Tryd.prog 42 #[.slice a n cap] w (CopyP w n F) := by
  rcases hs with rfl | ⟨b, off, rfl, hlt, hc⟩
  · exact toInt_none a cap F w
  · exact toInt_some b off n cap F w hn hlt hc
def TrueP (w : World) (e : Ending) (w' : World) : Prop := e = .returned (.bool true) ∧ Below w.heap.size w w'
set_option maxHeartbeats 800000 in
theorem eq_some (b off b2 off2 n cap cap2 : Nat) (F : Nat → Int) (w : World) (hn : n ≤ 1048576) (hlt : b < w.heap.size) (hlt2 : b2 < w.heap.size) (hc : ∀ j, j < n → w.cell? ⟨b, off + j, none⟩ = some (.int .i64 (F j))) (hc2 : ∀ j, j < n → w.cell? ⟨b2, off2 + j, none⟩ = some (.int .i64 (F j))) :
    Calls Tryd.prog 16 #[.slice (some ⟨b, off, none⟩) n cap, .slice (some ⟨b2, off2, none⟩) n cap2] w (TrueP w) := by
  have HC := Lib.hid hc
  have HC2 := Lib.hid hc2
  clear hc hc2
  go_enter Tryd.func16, Tryd.ntmps16
  go_wp2_with fail
  go_loopw [5] (fun i wr => ∃ k : Nat, i = .int .i64 k ∧ k ≤ n ∧ Below w.heap.size w wr) (fun i _ => n - (intOf i).toNat)
  case atStart => exact ⟨0, rfl, Nat.zero_le _, Below.refl _ _⟩
  case round =>
    obtain ⟨k, rfl, hk, hb⟩ := hrel
    by_cases h1 : k < n
    · have c1 : wr.cell? ⟨b, off + k, none⟩ = some (.int .i64 (F k)) := (hb.cell (p := ⟨b, off + k, none⟩) hlt).trans (HC.out k h1)
      have c2 : wr.cell? ⟨b2, off2 + k, none⟩ = some (.int .i64 (F k)) := (hb.cell (p := ⟨b2, off2 + k, none⟩) hlt2).trans (HC2.out k h1)
      go_wp2
      go_quiet (fail)
      go_wp2
      go_roundw
      case rel => exact ⟨k + 1, by go_num, by omega, below_drewN hb _⟩
      case measure => simp [intOf]; omega
    · have hd : decide (k < n) = false := by simpa using h1
      go_wp2
      go_ret
      exact ⟨rfl, hb⟩
theorem eq_none (a a2 : Option Addr) (cap cap2 : Nat) (w : World) : Calls Tryd.prog 16 #[.slice a 0 cap, .slice a2 0 cap2] w (TrueP w) := by
  go_enter Tryd.func16, Tryd.ntmps16
  go_wp2
  refine wp_loop_rounds 1 ?_
  rw [rounds_succ]
  go_wp2
  go_ret
  exact ⟨rfl, Below.refl _ _⟩
theorem eq_c (a a2 : Option Addr) (n cap cap2 : Nat) (F : Nat → Int) (w : World) (hn : n ≤ 1048576) (hs : Src w a n F) (hs2 : Src w a2 n F) : Calls Tryd.prog 16 #[.slice a n cap, .slice a2 n cap2] w (TrueP w) := by
  rcases hs with rfl | ⟨b, off, rfl, hlt, hc⟩
  · exact eq_none a a2 cap cap2 w
  · rcases hs2 with rfl | ⟨b2, off2, rfl, hlt2, hc2⟩
    · exact eq_none _ a2 cap cap2 w
    · exact eq_some b off b2 off2 n cap cap2 F w hn hlt hlt2 hc hc2
theorem src_of_row {w : World} {a : Option Addr} {len cap : Nat} {zs : List Int} (h : IsRow .i64 w a len cap zs) : Src w a len (fun j => zs.getD j 0) := by
  by_cases h0 : len = 0
  · exact .inl h0
  · refine .inr ?_
    rcases h with ⟨_, h, _⟩ | ⟨x, rfl, hc, _, hz, hcell, hwf⟩
    · exact absurd h h0
    · have hs := cell_some (hcell 0 (by omega))
      obtain ⟨b, off, sp⟩ := x
      obtain ⟨hs1, hs2⟩ := hs
      have hs3 : sp = none := hs1
      subst hs3
      exact ⟨b, off, rfl, hs2, fun j hj => by rw [← add_at]; exact hcell j (by omega)⟩
end Go.Proofs.YtfocdlkophdfoaaDoor
namespace Go.Proofs.YtfocdlkophdfoaaDoor
open Mth
def invF (f z : Int) : Int := if RS z (P f) = 0 then 0 else mPower f z (-1)
def prodF (f : Int) (Z : Nat → Int) : Nat → Int
  | 0 => 1
  | k + 1 => if RS (Z k) (P f) = 0 then prodF f Z k else RS (prodF f Z k * RS (Z k) (P f)) (P f)
section
variable {f : Int} (h0 : 0 ≤ f) (h8 : f ≤ 8)
include h0 h8
theorem RS_mul_pos {a b : Int} (a0 : 0 < a) (a1 : a < P f) (b0 : 0 < b) (b1 : b < P f) : 0 < RS (a * b) (P f) ∧ RS (a * b) (P f) < P f := by
  have hp := P_bd h0 h8
  have hb := RS_bd (x := a * b) (m := P f) (by omega)
  have hn := (fldf h0 h8).mul_nz (x := a.toNat) (y := b.toNat) (by rw [Nat.mod_eq_of_lt (by omega)]; omega) (by rw [Nat.mod_eq_of_lt (by omega)]; omega)
  rw [RS_nat h0 h8 (by omega) (by omega)] at *
  omega
theorem prodF_bd (Z : Nat → Int) (k : Nat) : 0 < prodF f Z k ∧ prodF f Z k < P f := by
  have hp := P_bd h0 h8
  induction k with
  | zero => exact ⟨by show (0 : Int) < 1; omega, by show (1 : Int) < _; omega⟩
  | succ k ih =>
    rw [prodF]
    split
    · exact ih
    · rename_i hz
      have hb := RS_bd (x := Z k) (m := P f) (by omega)
      exact RS_mul_pos h0 h8 ih.1 ih.2 (by omega) hb.2
theorem inv_one {z : Int} (hz : RS z (P f) ≠ 0) : RS (mPower f z (-1) * RS z (P f)) (P f) = 1 ∧ 0 < mPower f z (-1) ∧ mPower f z (-1) < P f := by
  have hp := P_bd h0 h8
  have ba := RS_bd (x := z) (m := P f) (by omega)
  have e : mPower f z (-1) = mPower f (RS z (P f)) (-1) := by unfold mPower; rw [RS_RS]
  obtain ⟨h1, i0, i1⟩ := inv_at (z := RS z (P f)) (k := 1) h0 h8 (by omega) ba.2 (by omega)
  rw [← e] at h1 i0 i1
  refine ⟨?_, i0, i1⟩
  rw [RS_nat h0 h8 (by omega) ba.1]
  rw [show (1 : Int).toNat = 1 from rfl, Nat.pow_one] at h1
  omega
/-- The way back: b times the product of the first k is 1. -/
theorem back_first {x : Int} (x0 : 0 < x) (x1 : x < P f) : RS (PW (P f) x (P f - 2) * x) (P f) = 1 := by
  have hp := P_bd h0 h8
  rw [RS_nat h0 h8 (PW_bd (by omega)).1 (by omega), PW_toNat, mulm (Nat.mod_mod _ _) rfl, ← Nat.pow_succ, show (P f - 2).toNat.succ = (P f).toNat - 1 by omega,
    (fldf h0 h8).fermat (by rw [Nat.mod_eq_of_lt (by omega)]; omega)]
  rfl
end
theorem back_no {f : Int} {Z : Nat → Int} {k : Nat} {b : Int} (hz : RS (Z k) (P f) = 0) (h : RS (b * prodF f Z (k + 1)) (P f) = 1) : RS (b * prodF f Z k) (P f) = 1 ∧ invF f (Z k) = 0 := by
  rw [prodF, if_pos hz] at h
  exact ⟨h, if_pos hz⟩
end Go.Proofs.YtfocdlkophdfoaaDoor
namespace Go.Proofs.YtfocdlkophdfoaaDoor
open Go.RowKit
theorem own_step {wr : World} {g n k : Nat} {F : Nat → Int} (h : Own wr g n (fun j => if j < k then F j else 0)) : Own (wr.setCell ⟨g, k, none⟩ (.int .i64 (F k))) g n (fun j => if j < k + 1 then F j else 0) := by
  refine (World.rowIs.set h k (.int .i64 (F k))).congr fun j _ => ?_
  by_cases h1 : j = k
  · subst h1; simp
  · by_cases h2 : j < k
    · simp [h1, h2, show j < k + 1 by omega]
    · simp [h1, h2, show ¬ j < k + 1 by omega]
theorem own_other {wr : World} {g g2 n k : Nat} {F : Nat → Int} {v : Value} (h : Own wr g n F) (hne : g ≠ g2) : Own (wr.setCell ⟨g2, k, none⟩ v) g n F := World.rowIs.setOther h (a := ⟨g2, k, none⟩) hne v
/-- The state of the way back. -/
def Back (f : Int) (Z : Nat → Int) (w wr : World) (n : Nat) (i b : Int) : Prop :=
  RS (b * prodF f Z (i + 1).toNat) (P f) = 1 ∧ Own wr w.heap.size n (fun j => if (j : Int) ≤ i then RS (Z j) (P f) else invF f (Z j)) ∧ Own wr (w.heap.size + 1) n (fun j => prodF f Z j) ∧ Below w.heap.size w wr
theorem Back.no {f : Int} {Z : Nat → Int} {w wr : World} {n k : Nat} {b : Int} (h : Back f Z w wr n k b) (hz : RS (Z k) (P f) = 0) : Back f Z w wr n (k - 1) b := by
  obtain ⟨h1, h2, h3, h4⟩ := h
  rw [show ((k : Int) + 1).toNat = k + 1 by omega] at h1
  obtain ⟨e1, e2⟩ := back_no hz h1
  refine ⟨by rw [show ((k : Int) - 1 + 1).toNat = k by omega]; exact e1, ?_, h3, h4⟩
  refine World.rowIs.congr h2 fun j _ => ?_
  by_cases hj : j = k
  · subst hj; simp [hz, e2]
  · by_cases hj2 : (j : Int) ≤ k
    · simp [hj2, show (j : Int) ≤ (k : Int) - 1 by omega]
    · simp [hj2, show ¬ (j : Int) ≤ (k : Int) - 1 by omega]
/-- The state of the way forth. -/
def Forth (f : Int) (Z : Nat → Int) (w wr : World) (n k : Nat) : Prop :=
  Own wr w.heap.size n (fun j => if j < k then RS (Z j) (P f) else 0) ∧ Own wr (w.heap.size + 1) n (fun j => if j < k then prodF f Z j else 0) ∧ Below w.heap.size w wr
theorem Forth.back {f : Int} (h0 : 0 ≤ f) (h8 : f ≤ 8) {Z : Nat → Int} {w wr : World} {n : Nat} (h : Forth f Z w wr n n) : Back f Z w wr n ((n : Int) - 1) (PW (P f) (prodF f Z n) (P f - 2)) := by
  have hb := prodF_bd h0 h8 Z n
  refine ⟨by rw [show ((n : Int) - 1 + 1).toNat = n by omega]; exact back_first h0 h8 hb.1 hb.2, World.rowIs.congr h.1 fun j hj => ?_, World.rowIs.congr h.2.1 fun j hj => ?_, h.2.2⟩
  · simp [hj, show (j : Int) ≤ (n : Int) - 1 by omega]
  · simp [hj]
/-- Marks: k, k + 1, .. -/
def MarkP (w : World) (g n : Nat) (k : Int) (e : Ending) (w' : World) : Prop := e = .returned (.int .i64 (k + n)) ∧ Own w' g n (fun j => k + j) ∧ w.grownBy w' (some g)
set_option maxHeartbeats 800000 in
theorem mark_c (g n cap : Nat) (F : Nat → Int) (k : Int) (w : World) (hn : n ≤ 1048576) (k0 : 0 ≤ k) (k1 : k ≤ 1000000000) (ho : Own w g n F) : Calls Tryd.prog 19 #[.slice (some ⟨g, 0, none⟩) n cap, .int .i64 k] w (MarkP w g n k) := by
  go_enter Tryd.func19, Tryd.ntmps19
  go_wp2_with fail
  go_loopw [1, 5] (fun u i wr => ∃ j : Nat, i = .int .i64 j ∧ u = .int .i64 (k + j) ∧ j ≤ n ∧ Own wr g n (fun x => if x < j then k + x else F x) ∧ w.grownBy wr (some g)) (fun _ i _ => n - (intOf i).toNat)
  case atStart => exact ⟨0, rfl, by simp, Nat.zero_le _, World.rowIs.congr ho (fun x _ => by simp), World.grownBy.refl _ _⟩
  case round =>
    obtain ⟨j, rfl, rfl, hj, ho2, hg⟩ := hrel
    by_cases h1 : j < n
    · have c2 := World.rowIs.cell ho2 h1
      have c3 := World.rowIs.frozen ho2 j
      have HS : Hid (Own (wr.setCell ⟨g, j, none⟩ (.int .i64 (k + j))) g n (fun x => if x < j + 1 then k + x else F x)) := Lib.hid (by
        refine (World.rowIs.set ho2 j (.int .i64 (k + j))).congr fun x _ => ?_
        by_cases hx : x = j
        · subst hx; simp
        · by_cases hx2 : x < j
          · simp [hx, hx2, show x < j + 1 by omega]
          · simp [hx, hx2, show ¬ x < j + 1 by omega])
      have HG := Lib.hid (grown_set hg j (.int .i64 (k + j)))
      clear ho2 hg
      go_wp2
      go_roundw
      case rel => exact ⟨j + 1, by go_num, vint (by omega), by omega, HS.out, HG.out⟩
      case measure => simp [intOf]; omega
    · have hd : decide (j < n) = false := by simpa using h1
      obtain rfl : j = n := by omega
      have HS := Lib.hid ho2
      have HG := Lib.hid hg
      clear ho2 hg
      go_wp2
      go_ret
      exact ⟨rfl, World.rowIs.congr HS.out (fun x hx => by simp [hx]), HG.out⟩
theorem mark_nil (k : Int) (w : World) : Calls Tryd.prog 19 #[.slice none 0 0, .int .i64 k] w fun e w' => e = .returned (.int .i64 k) ∧ w = w' := by
  go_enter Tryd.func19, Tryd.ntmps19
  go_wp2
  refine wp_loop_rounds 1 ?_
  rw [rounds_succ]
  go_wp2
  go_ret
  exact ⟨rfl, rfl⟩
set_option maxHeartbeats 800000 in
theorem held_c (g n cap : Nat) (k : Int) (w : World) (hn : n ≤ 1048576) (k0 : 0 ≤ k) (k1 : k ≤ 1000000000) (ho : Own w g n (fun j => k + j)) : Calls Tryd.prog 20 #[.slice (some ⟨g, 0, none⟩) n cap, .int .i64 k] w fun e w' => e = .returned (.int .i64 (k + n)) ∧ w = w' := by
  go_enter Tryd.func20, Tryd.ntmps20
  go_wp2_with fail
  go_loop [1, 5] (fun u i => ∃ j : Nat, i = .int .i64 j ∧ u = .int .i64 (k + j) ∧ j ≤ n) (fun _ i => n - (intOf i).toNat)
  case atStart => exact ⟨0, rfl, by simp, Nat.zero_le _⟩
  case round =>
    obtain ⟨j, rfl, rfl, hj⟩ := hrel
    by_cases h1 : j < n
    · have c2 := World.rowIs.cell ho h1
      have hd : ((k + j : Int) != k + j) = false := by simp
      go_wp2
      go_round
      case rel => exact ⟨j + 1, by go_num, vint (by omega), by omega⟩
      case measure => simp [intOf]; omega
    · have hd : decide (j < n) = false := by simpa using h1
      obtain rfl : j = n := by omega
      go_wp2
      go_ret
      exact ⟨rfl, rfl⟩
theorem held_nil (k : Int) (w : World) : Calls Tryd.prog 20 #[.slice none 0 0, .int .i64 k] w fun e w' => e = .returned (.int .i64 k) ∧ w = w' := by
  go_enter Tryd.func20, Tryd.ntmps20
  go_wp2
  refine wp_loop_rounds 1 ?_
  rw [rounds_succ]
  go_wp2
  go_ret
  exact ⟨rfl, rfl⟩
end Go.Proofs.YtfocdlkophdfoaaDoor
namespace Go.Proofs.YtfocdlkophdfoaaDoor
open Go.RowKit
def xsF (F : Nat → Int) (k : Nat) : List Value := (List.range k).map fun j => .int .i64 (F j)
theorem xsF_succ (F : Nat → Int) (k : Nat) : xsF F k ++ [.int .i64 (F k)] = xsF F (k + 1) := by simp [xsF, List.range_succ]
theorem xsF_congr {F G : Nat → Int} {k : Nat} (h : ∀ j, j < k → F j = G j) : xsF F k = xsF G k := by
  unfold xsF
  refine List.map_congr_left fun j hj => ?_
  rw [h j (List.mem_range.1 hj)]
theorem own_empty (w : World) (F : Nat → Int) : (w.alloc (.cells #[] 3)).ownsRow w.heap.size 3 1 (.slice (some ⟨w.heap.size, 0, none⟩) 0 0) 0 (xsF F 0) :=
  ⟨rfl, .inr ⟨w.heap.size, 0, #[], rfl, Nat.le_refl _, by unfold World.alloc; simp, by omega, by unfold maxLen; omega, rfl, rfl⟩⟩
theorem src_of_owns {w' : World} {base : Nat} {v : Value} {n : Nat} {F : Nat → Int} (h : w'.ownsRow base 3 1 v n (xsF F n)) : ∃ a cap, v = .slice a n cap ∧ Src w' a n F := by
  obtain ⟨hl, h⟩ := h
  rcases h with ⟨rfl, rfl⟩ | ⟨g, cap, cur, rfl, hg, hh, hc, hm, hs, ht⟩
  · exact ⟨none, 0, rfl, .inl rfl⟩
  · refine ⟨_, _, rfl, .inr ⟨g, 0, rfl, (Array.getElem?_eq_some_iff.1 hh).1, fun j hj => ?_⟩⟩
    have hx : (xsF F n)[j]? = some (.int .i64 (F j)) := by simp [xsF, hj]
    have hcur : cur.toList[j]? = some (.int .i64 (F j)) := by
      rw [← ht, List.getElem?_take_of_lt (by omega)] at hx; exact hx
    unfold World.cell?
    rw [hh]
    simp
    simpa using hcur
/-- A list of n integers. -/
def ListP (w : World) (n : Nat) (F : Nat → Int) (e : Ending) (w' : World) : Prop := ∃ a cap, e = .returned (.slice a n cap) ∧ Src w' a n F ∧ Below w.heap.size w w'
set_option maxHeartbeats 1600000 in
theorem cp_some (b off n cap : Nat) (F : Nat → Int) (w : World) (hn : n ≤ 1048576) (hlt : b < w.heap.size) (hc : ∀ j, j < n → w.cell? ⟨b, off + j, none⟩ = some (.int .i64 (F j))) :
    Calls Tryd.prog 9 #[.slice (some ⟨b, off, none⟩) n cap] w (ListP w n F) := by
  have HC := Lib.hid hc
  clear hc
  obtain ⟨i0, hi, hz0, hz1, hz2⟩ := info_parts info3
  have HI := Lib.hid hi
  have HZ0 := Lib.hid hz0
  have HZ1 := Lib.hid hz1
  have HZ2 := Lib.hid hz2
  clear hi hz0 hz1 hz2
  go_enter Tryd.func9, Tryd.ntmps9
  go_wp2_with fail
  go_loopw [3, 4] (fun v i wr => ∃ k : Nat, i = .int .i64 k ∧ k ≤ n ∧ wr.ownsRow w.heap.size 3 1 v k (xsF F k) ∧ Below w.heap.size w wr) (fun _ i _ => n - (intOf i).toNat)
  case atStart => exact ⟨0, rfl, Nat.zero_le _, own_empty w F, (Below.refl _ _).alloc (Nat.le_refl _) _⟩
  case round =>
    obtain ⟨k, rfl, hk, hown, hnx⟩ := hrel
    by_cases h1 : k < n
    · have hc2 : wr.cell? ⟨b, off + k, none⟩ = some (.int .i64 (F k)) := (hnx.cell (p := ⟨b, off + k, none⟩) hlt).trans (HC.out k h1)
      have hs := hnx.size
      go_wp2_with (at_builtin; refine wpList_append_own _ rfl _ _ 24 rfl w.heap.size 3 i0 (.int .i64 0) 1 8 Tryd.underlying24 HI.out HZ0.out HZ1.out HZ2.out rfl (by decide) _ _ _ rfl (hown.alloc _) ⟨wr.heap.size, 0, none⟩ 1 1 [.int .i64 (F k)] rfl rfl ?c1 ?c2 ?c3 ?c4 ?c5 ?_)
      case c1 => exact cell_one_new _ _ _
      case c2 => intro u hu; simp at hu; subst hu; rfl
      case c3 => unfold maxLen; omega
      case c4 => omega
      case c5 => simp; omega
      intro v' w1 hown' hgrow _
      have hbel : Below w.heap.size w w1 := (hnx.alloc hs _).grown hgrow (by simp; omega) (own_ge hown)
      rw [xsF_succ] at hown'
      clear hgrow hown hc2
      go_wp2
      go_roundw
      case rel => exact ⟨k + 1, by go_num, by omega, hown', hbel⟩
      case measure => simp [intOf]; omega
    · have hd : decide (k < n) = false := by simpa using h1
      obtain rfl : k = n := by omega
      obtain ⟨a', cap', hv, hsrc⟩ := src_of_owns hown
      have HV := Lib.hid hv
      clear hv
      go_wp2
      go_ret
      exact ⟨a', cap', by rw [← HV.out]; rfl, hsrc, hnx⟩
theorem cp_none (a : Option Addr) (cap : Nat) (F : Nat → Int) (w : World) : Calls Tryd.prog 9 #[.slice a 0 cap] w (ListP w 0 F) := by
  go_enter Tryd.func9, Tryd.ntmps9
  go_wp2
  refine wp_loop_rounds 1 ?_
  rw [rounds_succ]
  go_wp2
  go_ret
  exact ⟨_, _, rfl, .inl rfl, (Below.refl _ _).alloc (Nat.le_refl _) _⟩
theorem cp_c (a : Option Addr) (n cap : Nat) (F : Nat → Int) (w : World) (hn : n ≤ 1048576) (hs : Src w a n F) : Calls Tryd.prog 9 #[.slice a n cap] w (ListP w n F) := by
  rcases hs with rfl | ⟨b, off, rfl, hlt, hc⟩
  · exact cp_none a cap F w
  · exact cp_some b off n cap F w hn hlt hc
end Go.Proofs.YtfocdlkophdfoaaDoor
namespace Go.Proofs.YtfocdlkophdfoaaDoor
open Mth

/-- The length without the zeros at the end. -/
def cutN (F : Nat → Int) : Nat → Nat
  | 0 => 0
  | n + 1 => if F n = 0 then cutN F n else n + 1
theorem cutN_le (F : Nat → Int) (n : Nat) : cutN F n ≤ n := by
  induction n with
  | zero => exact Nat.le_refl _
  | succ n ih => unfold cutN; split <;> omega
theorem cutN_top (F : Nat → Int) (n : Nat) : cutN F n = 0 ∨ F (cutN F n - 1) ≠ 0 := by
  induction n with
  | zero => exact .inl rfl
  | succ n ih =>
    unfold cutN
    split
    · exact ih
    · rename_i h; exact .inr h
theorem cutN_zero (F : Nat → Int) (n j : Nat) (h : cutN F n ≤ j) (hj : j < n) : F j = 0 := by
  induction n with
  | zero => omega
  | succ n ih =>
    unfold cutN at h
    split at h
    · rename_i h0
      by_cases e : j = n
      · rw [e]; exact h0
      · exact ih h (by omega)
    · omega
theorem cutN_full {F : Nat → Int} {n : Nat} (h : n = 0 ∨ F (n - 1) ≠ 0) : cutN F n = n := by
  cases n with
  | zero => rfl
  | succ n =>
    unfold cutN
    rcases h with h | h
    · omega
    · rw [if_neg (show ¬ F n = 0 from h)]
/-- The coefficients of a list, with zeros behind it. -/
def lf (l : List Int) : Nat → Int := fun j => l.getD j 0
def tab (n : Nat) (F : Nat → Int) : List Int := (List.range n).map F
theorem tab_len (n : Nat) (F : Nat → Int) : (tab n F).length = n := by simp [tab]
theorem lf_tab (n : Nat) (F : Nat → Int) (j : Nat) : lf (tab n F) j = if j < n then F j else 0 := by
  unfold lf tab
  rw [List.getD_eq_getElem?_getD]
  by_cases h : j < n
  · simp [h]
  · rw [List.getElem?_eq_none (by simp; omega), if_neg h]; rfl
theorem lf_out (l : List Int) {j : Nat} (h : l.length ≤ j) : lf l j = 0 := by
  unfold lf
  rw [List.getD_eq_getElem?_getD, List.getElem?_eq_none h]; rfl
theorem list_ext {a b : List Int} (hl : a.length = b.length) (h : ∀ j, j < a.length → lf a j = lf b j) : a = b := by
  apply List.ext_getElem hl
  intro j h1 h2
  have := h j h1
  unfold lf at this
  rw [List.getD_eq_getElem?_getD, List.getD_eq_getElem?_getD, List.getElem?_eq_getElem h1, List.getElem?_eq_getElem h2] at this
  exact this
def cutL (n : Nat) (F : Nat → Int) : List Int := tab (cutN F n) F
theorem cutL_len (n : Nat) (F : Nat → Int) : (cutL n F).length = cutN F n := tab_len _ _
theorem lf_cutL (n : Nat) (F : Nat → Int) (j : Nat) : lf (cutL n F) j = if j < n then F j else 0 := by
  unfold cutL
  rw [lf_tab]
  have := cutN_le F n
  by_cases h1 : j < cutN F n
  · rw [if_pos h1, if_pos (by omega)]
  · rw [if_neg h1]
    by_cases h2 : j < n
    · rw [if_pos h2, cutN_zero F n j (by omega) h2]
    · rw [if_neg h2]
/-- Elements of the field, the last of them not 0. -/
def Pol (f : Int) (l : List Int) : Prop := (∀ j, 0 ≤ lf l j ∧ lf l j < P f) ∧ (l.length = 0 ∨ lf l (l.length - 1) ≠ 0)
theorem Pol.cut {f : Int} {n : Nat} {F : Nat → Int} (hp : 0 < P f) (h : ∀ j, j < n → 0 ≤ F j ∧ F j < P f) : Pol f (cutL n F) := by
  refine ⟨fun j => ?_, ?_⟩
  · rw [lf_cutL]
    split
    · rename_i hj; exact h j hj
    · omega
  · rw [cutL_len]
    have := cutN_le F n
    rcases cutN_top F n with h1 | h1
    · exact .inl h1
    · by_cases h0 : cutN F n = 0
      · exact .inl h0
      · right
        rw [lf_cutL, if_pos (by omega)]; exact h1
theorem Pol.nil {f : Int} (hp : 0 < P f) : Pol f [] := ⟨fun j => by rw [lf_out [] (Nat.zero_le _)]; omega, .inl rfl⟩
theorem Pol.full {f : Int} {l : List Int} (h : Pol f l) : cutN (lf l) l.length = l.length := cutN_full h.2
/-- Polynomials with the same coefficients are one. -/
theorem Pol.eq {f : Int} {a b : List Int} (ha : Pol f a) (hb : Pol f b) (h : ∀ j, lf a j % P f = lf b j % P f) : a = b := by
  have e : ∀ j, lf a j = lf b j := fun j => by
    have h1 := ha.1 j
    have h2 := hb.1 j
    have := h j
    rw [Int.emod_eq_of_lt h1.1 h1.2, Int.emod_eq_of_lt h2.1 h2.2] at this
    exact this
  have hl : a.length = b.length := by
    rcases Nat.lt_trichotomy a.length b.length with hlt | hlt | hlt
    · rcases hb.2 with h0 | h0
      · omega
      · rw [← e, lf_out a (by omega)] at h0; exact absurd rfl h0
    · exact hlt
    · rcases ha.2 with h0 | h0
      · omega
      · rw [e, lf_out b (by omega)] at h0; exact absurd rfl h0
  exact list_ext hl (fun j _ => e j)
/-- Sums of the first n terms. -/
def sumN (f : Nat → Int) : Nat → Int
  | 0 => 0
  | n + 1 => sumN f n + f n
theorem sumN_first (f : Nat → Int) (n : Nat) : sumN f (n + 1) = f 0 + sumN (fun i => f (i + 1)) n := by
  induction n with
  | zero => simp [sumN]
  | succ n ih => rw [sumN, ih, sumN]; omega
theorem sumN_congr {f g : Nat → Int} {n : Nat} (h : ∀ i, i < n → f i = g i) : sumN f n = sumN g n := by
  induction n with
  | zero => rfl
  | succ n ih => rw [sumN, sumN, ih (fun i hi => h i (by omega)), h n (by omega)]
theorem sumN_more {f : Nat → Int} {n m : Nat} (hnm : n ≤ m) (h : ∀ i, n ≤ i → i < m → f i = 0) : sumN f m = sumN f n := by
  induction m with
  | zero => rw [show n = 0 by omega]
  | succ m ih =>
    by_cases e : n = m + 1
    · rw [e]
    · rw [sumN, h m (by omega) (by omega), ih (by omega) (fun i h1 h2 => h i h1 (by omega))]; omega

/-- Products of series. -/
def tl (A : Nat → Int) : Nat → Int := fun j => A (j + 1)
def cv : Nat → (Nat → Int) → (Nat → Int) → Int
  | 0, A, B => A 0 * B 0
  | k + 1, A, B => A 0 * B (k + 1) + cv k (tl A) B
def mulS (A B : Nat → Int) : Nat → Int := fun k => cv k A B
theorem cv_congr {k : Nat} : ∀ {A A' B B' : Nat → Int}, (∀ j, j ≤ k → A j = A' j) → (∀ j, j ≤ k → B j = B' j) → cv k A B = cv k A' B' := by
  induction k with
  | zero => intro A A' B B' ha hb; simp only [cv]; rw [ha 0 (by omega), hb 0 (by omega)]
  | succ k ih =>
    intro A A' B B' ha hb
    simp only [cv]
    rw [ha 0 (by omega), hb (k + 1) (by omega), ih (A := tl A) (A' := tl A') (fun j hj => ha (j + 1) (by omega)) (fun j hj => hb j (by omega))]
theorem cv_add_l (k : Nat) : ∀ A A' B : Nat → Int, cv k (fun j => A j + A' j) B = cv k A B + cv k A' B := by
  induction k with
  | zero => intro A A' B; simp only [cv]; exact Int.add_mul _ _ _
  | succ k ih =>
    intro A A' B
    simp only [cv]
    have := ih (tl A) (tl A') B
    have e : tl (fun j => A j + A' j) = fun j => tl A j + tl A' j := rfl
    rw [e, this, Int.add_mul]; omega
theorem cv_smul_l (k : Nat) : ∀ (c : Int) (A B : Nat → Int), cv k (fun j => c * A j) B = c * cv k A B := by
  induction k with
  | zero => intro c A B; simp only [cv]; exact Int.mul_assoc _ _ _
  | succ k ih =>
    intro c A B
    simp only [cv]
    have := ih c (tl A) B
    have e : tl (fun j => c * A j) = fun j => c * tl A j := rfl
    rw [e, this, Int.mul_add, Int.mul_assoc]
theorem cv_right (k : Nat) : ∀ A B : Nat → Int, cv (k + 1) A B = A (k + 1) * B 0 + cv k A (tl B) := by
  induction k with
  | zero => intro A B; simp only [cv, tl]; omega
  | succ k ih =>
    intro A B
    have h1 : cv (k + 2) A B = A 0 * B (k + 2) + cv (k + 1) (tl A) B := rfl
    have h2 : cv (k + 1) A (tl B) = A 0 * B (k + 2) + cv k (tl A) (tl B) := rfl
    rw [h1, ih (tl A) B, h2]
    show _ + (A (k + 2) * B 0 + _) = A (k + 2) * B 0 + _
    omega
theorem cv_comm (k : Nat) : ∀ A B : Nat → Int, cv k A B = cv k B A := by
  induction k with
  | zero => intro A B; exact Int.mul_comm _ _
  | succ k ih =>
    intro A B
    rw [cv_right]
    simp only [cv]
    rw [ih A (tl B), Int.mul_comm]
theorem cv_add_r (k : Nat) (A B B' : Nat → Int) : cv k A (fun j => B j + B' j) = cv k A B + cv k A B' := by
  rw [cv_comm, cv_add_l, cv_comm k B, cv_comm k B']
theorem cv_assoc (k : Nat) : ∀ A B C : Nat → Int, cv k (mulS A B) C = cv k A (mulS B C) := by
  induction k with
  | zero => intro A B C; simp only [cv, mulS]; exact Int.mul_assoc _ _ _
  | succ k ih =>
    intro A B C
    have h1 : cv (k + 1) (mulS A B) C = A 0 * B 0 * C (k + 1) + cv k (tl (mulS A B)) C := rfl
    have h2 : tl (mulS A B) = fun j => A 0 * tl B j + mulS (tl A) B j := rfl
    have h3 : cv (k + 1) A (mulS B C) = A 0 * (B 0 * C (k + 1) + cv k (tl B) C) + cv k (tl A) (mulS B C) := rfl
    rw [h1, h2, cv_add_l, cv_smul_l, ih (tl A) B C, h3, Int.mul_add, Int.mul_assoc]; omega
theorem cv_sum (k : Nat) : ∀ A B : Nat → Int, cv k A B = sumN (fun i => A i * B (k - i)) (k + 1) := by
  induction k with
  | zero => intro A B; simp [cv, sumN]
  | succ k ih =>
    intro A B
    rw [sumN_first]
    simp only [cv]
    rw [ih (tl A) B]
    congr 1
    exact sumN_congr fun i _ => by rw [Nat.add_sub_add_right]; rfl
/-- The part of a product's coefficient that the first i coefficients of A give. -/
def cpar (A B : Nat → Int) (k i : Nat) : Int := sumN (fun j => if j ≤ k then A j * B (k - j) else 0) i
theorem cpar_succ (A B : Nat → Int) (k i : Nat) : cpar A B k (i + 1) = cpar A B k i + (if i ≤ k then A i * B (k - i) else 0) := rfl
theorem cpar_end {A B : Nat → Int} {n : Nat} (k : Nat) (h : ∀ j, n ≤ j → A j = 0) : cpar A B k n = cv k A B := by
  rw [cv_sum]
  unfold cpar
  have e1 : sumN (fun i => A i * B (k - i)) (k + 1) = sumN (fun j => if j ≤ k then A j * B (k - j) else 0) (k + 1) := sumN_congr fun i hi => by simp [show i ≤ k by omega]
  rw [e1]
  rcases Nat.le_total n (k + 1) with hl | hl
  · exact (sumN_more hl (fun i h1 h2 => by simp [h i h1])).symm
  · exact sumN_more hl (fun i h1 h2 => by simp [show ¬ i ≤ k by omega])
theorem cv_zero_l {k : Nat} {A B : Nat → Int} (h : ∀ j, j ≤ k → A j = 0) : cv k A B = 0 := by
  rw [cv_congr (A' := fun _ => 0 * 0) (B' := B) (fun j hj => by rw [h j hj]; rfl) (fun _ _ => rfl), cv_smul_l]; simp
/-- Beyond both supports a product vanishes; at the top it is the product of the tops. -/
theorem cv_out {A B : Nat → Int} {n m k : Nat} (ha : ∀ j, n ≤ j → A j = 0) (hb : ∀ j, m ≤ j → B j = 0) (hk : n + m ≤ k + 1) : cv k A B = 0 := by
  rw [cv_sum]
  rw [sumN_more (n := 0) (Nat.zero_le _)]
  · rfl
  · intro i _ hi
    by_cases h1 : n ≤ i
    · rw [ha i h1, Int.zero_mul]
    · rw [hb (k - i) (by omega), Int.mul_zero]
theorem cv_top {A B : Nat → Int} {n m : Nat} (ha : ∀ j, n + 1 ≤ j → A j = 0) (hb : ∀ j, m + 1 ≤ j → B j = 0) : cv (n + m) A B = A n * B m := by
  rw [← cpar_end (n + m) ha, cpar_succ, if_pos (by omega), Nat.add_sub_cancel_left]
  have : cpar A B (n + m) n = 0 := by
    unfold cpar
    rw [sumN_more (n := 0) (Nat.zero_le _)]
    · rfl
    · intro i _ hi
      rw [if_pos (by omega), hb _ (by omega), Int.mul_zero]
  rw [this]; omega
theorem cv_mod {p : Int} (k : Nat) : ∀ {A A' B B' : Nat → Int}, (∀ j, A j % p = A' j % p) → (∀ j, B j % p = B' j % p) → cv k A B % p = cv k A' B' % p := by
  induction k with
  | zero =>
    intro A A' B B' ha hb
    simp only [cv]
    rw [Int.mul_emod, ha, hb, ← Int.mul_emod]
  | succ k ih =>
    intro A A' B B' ha hb
    simp only [cv]
    rw [Int.add_emod, ih (A := tl A) (A' := tl A') (fun j => ha (j + 1)) hb, Int.mul_emod, ha 0, hb (k + 1), ← Int.mul_emod, ← Int.add_emod]
end Go.Proofs.YtfocdlkophdfoaaDoor
namespace Go.Proofs.YtfocdlkophdfoaaDoor
open Mth

theorem mul_nz {f : Int} (h0 : 0 ≤ f) (h8 : f ≤ 8) {x y : Int} (hx : x % P f ≠ 0) (hy : y % P f ≠ 0) : (x * y) % P f ≠ 0 := by
  have hp := P_bd h0 h8
  have bx := RS_bd (x := x) (m := P f) (by omega)
  have by' := RS_bd (x := y) (m := P f) (by omega)
  unfold RS at bx by'
  have := RS_mul_pos h0 h8 (a := x % P f) (b := y % P f) (by omega) bx.2 (by omega) by'.2
  unfold RS at this
  rw [Int.mul_emod]
  omega
def FinS (A : Nat → Int) : Prop := ∃ n, ∀ j, n ≤ j → A j = 0
theorem FinS.lf (l : List Int) : FinS (lf l) := ⟨l.length, fun _ h => lf_out l h⟩
theorem FinS.zero : FinS (fun _ => 0) := ⟨0, fun _ _ => rfl⟩
theorem FinS.add {A B : Nat → Int} (ha : FinS A) (hb : FinS B) : FinS (fun j => A j + B j) := by
  obtain ⟨n, hn⟩ := ha; obtain ⟨m, hm⟩ := hb
  exact ⟨n + m, fun j hj => by show A j + B j = 0; rw [hn j (by omega), hm j (by omega)]; rfl⟩
theorem FinS.smul {A : Nat → Int} (c : Int) (ha : FinS A) : FinS (fun j => c * A j) := by
  obtain ⟨n, hn⟩ := ha
  exact ⟨n, fun j hj => by show c * A j = 0; rw [hn j hj, Int.mul_zero]⟩
theorem FinS.mul {A B : Nat → Int} (ha : FinS A) (hb : FinS B) : FinS (mulS A B) := by
  obtain ⟨n, hn⟩ := ha; obtain ⟨m, hm⟩ := hb
  exact ⟨n + m, fun j hj => cv_out hn hm (by omega)⟩

theorem emod_add_congr {p a b c d : Int} (h1 : a % p = b % p) (h2 : c % p = d % p) : (a + c) % p = (b + d) % p := by rw [Int.add_emod, h1, h2, ← Int.add_emod]
theorem emod_mul_congr {p a b c d : Int} (h1 : a % p = b % p) (h2 : c % p = d % p) : (a * c) % p = (b * d) % p := by rw [Int.mul_emod, h1, h2, ← Int.mul_emod]
theorem emod_zero_of_sub {p a b : Int} (h : a % p = b % p) : (a - b) % p = 0 := by rw [Int.sub_emod, h]; simp

/-- A multiple of a polynomial without coefficients from its degree on is zero. -/
theorem div_zero {f : Int} (h0 : 0 ≤ f) (h8 : f ≤ 8) {b : List Int} (hb : Pol f b) (hne : b.length ≠ 0) {Q : Nat → Int} (hQ : FinS Q) (h : ∀ k, b.length ≤ k + 1 → cv k Q (lf b) % P f = 0) : ∀ j, Q j % P f = 0 := by
  have hp := P_bd h0 h8
  obtain ⟨N, hN⟩ := hQ
  have key : ∀ t j, N ≤ j + t → Q j % P f = 0 := by
    intro t
    induction t with
    | zero => intro j hj; rw [hN j (by omega)]; simp
    | succ t ih =>
      intro j hj
      by_cases hjt : N ≤ j + t
      · exact ih j hjt
      · have hz : ∀ i, j + 1 ≤ i → (fun i => Q i % P f) i = 0 := fun i hi => ih i (by omega)
        have hbz : ∀ i, (b.length - 1) + 1 ≤ i → lf b i = 0 := fun i hi => lf_out b (by omega)
        have ht := cv_top hz hbz
        have hc := h (j + (b.length - 1)) (by omega)
        rw [cv_mod (A' := fun i => Q i % P f) (B' := lf b) _ (fun i => by simp) (fun _ => rfl), ht] at hc
        by_cases hq : Q j % P f = 0
        · exact hq
        · exfalso
          have hbt : lf b (b.length - 1) % P f ≠ 0 := by
            have h1 := hb.1 (b.length - 1)
            rw [Int.emod_eq_of_lt h1.1 h1.2]
            rcases hb.2 with h2 | h2
            · exact absurd h2 hne
            · exact h2
          exact mul_nz h0 h8 (by simpa using hq) hbt hc
  intro j
  exact key N j (by omega)

/-- Congruent modulo the polynomial b, over the field. -/
def Cg (f : Int) (b : List Int) (A A' : Nat → Int) : Prop := ∃ C, FinS C ∧ ∀ j, A j % P f = (cv j C (lf b) + A' j) % P f
theorem Cg.of {f : Int} {b : List Int} {A A' : Nat → Int} (h : ∀ j, A j % P f = A' j % P f) : Cg f b A A' := ⟨fun _ => 0, FinS.zero, fun j => by rw [h j, cv_zero_l (fun _ _ => rfl)]; simp⟩
theorem Cg.refl {f : Int} {b : List Int} {A : Nat → Int} : Cg f b A A := Cg.of fun _ => rfl
theorem Cg.symm {f : Int} {b : List Int} {A A' : Nat → Int} (h : Cg f b A A') : Cg f b A' A := by
  obtain ⟨C, hC, h⟩ := h
  refine ⟨fun j => (-1) * C j, hC.smul _, fun j => ?_⟩
  rw [cv_smul_l]
  have e := emod_add_congr (p := P f) (a := (-1) * cv j C (lf b)) rfl (h j)
  rw [e]; congr 1; omega
theorem Cg.trans {f : Int} {b : List Int} {A A' A'' : Nat → Int} (h : Cg f b A A') (k : Cg f b A' A'') : Cg f b A A'' := by
  obtain ⟨C, hC, h⟩ := h; obtain ⟨D, hD, k⟩ := k
  refine ⟨fun j => C j + D j, hC.add hD, fun j => ?_⟩
  rw [cv_add_l, h j]
  have e := emod_add_congr (p := P f) (a := cv j C (lf b)) rfl (k j)
  rw [e]; congr 1; omega
theorem Cg.mul {f : Int} {b : List Int} {A A' B B' : Nat → Int} (hA' : FinS A') (hB : FinS B) (h : Cg f b A A') (k : Cg f b B B') : Cg f b (mulS A B) (mulS A' B') := by
  obtain ⟨C, hC, h⟩ := h; obtain ⟨D, hD, k⟩ := k
  refine ⟨fun j => mulS C B j + mulS A' D j, (hC.mul hB).add (hA'.mul hD), fun j => ?_⟩
  have e1 : mulS A B j % P f = (mulS (mulS C (lf b)) B j + mulS A' B j) % P f := by
    show cv j A B % P f = _
    rw [cv_mod (A' := fun j => mulS C (lf b) j + A' j) (B' := B) j h (fun _ => rfl), cv_add_l]; rfl
  have e2 : mulS A' B j % P f = (mulS A' (mulS D (lf b)) j + mulS A' B' j) % P f := by
    show cv j A' B % P f = _
    rw [cv_mod (A' := A') (B' := fun j => mulS D (lf b) j + B' j) j (fun _ => rfl) k, cv_add_r]; rfl
  have e3 : mulS (mulS C (lf b)) B j = cv j (mulS C B) (lf b) := by
    show cv j (mulS C (lf b)) B = _
    rw [cv_assoc, cv_assoc]
    exact cv_congr (fun _ _ => rfl) (fun i _ => cv_comm i _ _)
  have e4 : mulS A' (mulS D (lf b)) j = cv j (mulS A' D) (lf b) := (cv_assoc j _ _ _).symm
  rw [e1, cv_add_l, emod_add_congr (p := P f) (a := mulS (mulS C (lf b)) B j) rfl e2, e3, e4]
  congr 1
  omega
/-- Two short polynomials that are congruent are one. -/
theorem Cg.short {f : Int} (h0 : 0 ≤ f) (h8 : f ≤ 8) {b r s : List Int} (hb : Pol f b) (hr : Pol f r) (hs : Pol f s) (lr : r.length < b.length) (ls : s.length < b.length) (h : Cg f b (lf r) (lf s)) : r = s := by
  obtain ⟨C, hC, h⟩ := h
  have hz := div_zero h0 h8 hb (by omega) hC (fun k hk => by
    have := h k
    rw [lf_out r (by omega), lf_out s (by omega), Int.add_zero] at this
    rw [← this]; simp)
  refine hr.eq hs fun j => ?_
  rw [h j, Int.add_emod, cv_mod (A' := fun _ => 0) (B' := lf b) j (fun i => by rw [hz i]; simp) (fun _ => rfl), cv_zero_l (fun _ _ => rfl)]; simp
def IsRem (f : Int) (A : Nat → Int) (b r : List Int) : Prop := Pol f r ∧ r.length < b.length ∧ Cg f b A (lf r)
theorem IsRem.unique {f : Int} (h0 : 0 ≤ f) (h8 : f ≤ 8) {A A' : Nat → Int} {b r s : List Int} (hb : Pol f b) (hr : IsRem f A b r) (hs : IsRem f A' b s) (h : Cg f b A A') : r = s :=
  Cg.short h0 h8 hb hr.1 hs.1 hr.2.1 hs.2.1 (hr.2.2.symm.trans (h.trans hs.2.2))
/-- The state of a division: n is where the rest ends. -/
def DivAt (f : Int) (A : Nat → Int) (b : List Int) (n : Nat) (Q R : Nat → Int) : Prop :=
  (∀ j, A j % P f = (cv j Q (lf b) + R j) % P f) ∧ (∀ j, 0 ≤ R j ∧ R j < P f) ∧ (∀ j, 0 ≤ Q j ∧ Q j < P f) ∧ (∀ j, n ≤ j → R j = 0) ∧ (∀ j, j + b.length ≤ n → Q j = 0) ∧ FinS Q
theorem DivAt.start {f : Int} {a b : List Int} (ha : Pol f a) (hp : 0 < P f) : DivAt f (lf a) b a.length (fun _ => 0) (lf a) :=
  ⟨fun j => by rw [cv_zero_l (fun _ _ => rfl)]; simp, ha.1, fun _ => ⟨Int.le_refl _, hp⟩, fun _ h => lf_out a h, fun _ _ => rfl, FinS.zero⟩
theorem DivAt.congr {f : Int} {A : Nat → Int} {b : List Int} {n : Nat} {Q Q' R R' : Nat → Int} (h : DivAt f A b n Q R) (hQ : ∀ j, Q j = Q' j) (hR : ∀ j, R j = R' j) : DivAt f A b n Q' R' := by
  obtain rfl : Q = Q' := funext hQ
  obtain rfl : R = R' := funext hR
  exact h
theorem sumN_single (g : Nat → Int) (s n : Nat) : sumN (fun i => if i = s then g i else 0) n = if s < n then g s else 0 := by
  induction n with
  | zero => simp [sumN]
  | succ n ih =>
    rw [sumN, ih]
    by_cases h : n = s
    · subst h; simp
    · by_cases h2 : s < n
      · simp [h, h2, show s < n + 1 by omega]
      · simp [h, h2, show ¬ s < n + 1 by omega]
theorem cv_mono (k s : Nat) (m : Int) (B : Nat → Int) : cv k (fun j => if j = s then m else 0) B = if s ≤ k then m * B (k - s) else 0 := by
  rw [cv_sum, sumN_congr (g := fun i => if i = s then m * B (k - i) else 0) (fun i _ => by split <;> simp), sumN_single (fun i => m * B (k - i))]
  by_cases h : s ≤ k
  · simp [h, show s < k + 1 by omega]
  · simp [h, show ¬ s < k + 1 by omega]
/-- Quotient and remainder. -/
def DivP (f : Int) (a b q r : List Int) : Prop := Pol f q ∧ Pol f r ∧ r.length < b.length ∧ ∀ j, lf a j % P f = (cv j (lf q) (lf b) + lf r j) % P f
theorem DivP.unique {f : Int} (h0 : 0 ≤ f) (h8 : f ≤ 8) {a b q r q' r' : List Int} (hb : Pol f b) (h : DivP f a b q r) (k : DivP f a b q' r') : q = q' ∧ r = r' := by
  obtain ⟨h1, h2, h3, h4⟩ := h
  obtain ⟨k1, k2, k3, k4⟩ := k
  have er : r = r' := IsRem.unique h0 h8 hb (A := lf a) (A' := lf a) ⟨h2, h3, lf q, FinS.lf q, h4⟩ ⟨k2, k3, lf q', FinS.lf q', k4⟩ Cg.refl
  refine ⟨?_, er⟩
  subst er
  have hz := div_zero h0 h8 hb (by omega) (Q := fun j => lf q j + (-1) * lf q' j) ((FinS.lf q).add ((FinS.lf q').smul _)) (fun k _ => by
    rw [cv_add_l, cv_smul_l]
    have e := emod_zero_of_sub ((h4 k).symm.trans (k4 k))
    rw [← e]; congr 1; omega)
  refine h1.eq k1 fun j => ?_
  have := hz j
  have e : lf q j = (lf q j + (-1) * lf q' j) + lf q' j := by omega
  rw [e, Int.add_emod, this]; simp
end Go.Proofs.YtfocdlkophdfoaaDoor
namespace Go.Proofs.YtfocdlkophdfoaaDoor
open Mth

def mulL (f : Int) (a b : List Int) : List Int := cutL (a.length + b.length - 1) fun k => RS (cv k (lf a) (lf b)) (P f)
theorem lf_mulL (f : Int) (a b : List Int) (k : Nat) : lf (mulL f a b) k = cv k (lf a) (lf b) % P f := by
  unfold mulL
  rw [lf_cutL]
  split
  · rfl
  · rw [cv_out (fun j h => lf_out a h) (fun j h => lf_out b h) (by omega)]; simp
/-- Powers of series. -/
def oneS : Nat → Int := fun j => if j = 0 then 1 else 0
def powS (A : Nat → Int) : Nat → (Nat → Int)
  | 0 => oneS
  | k + 1 => mulS (powS A k) A
theorem FinS.one : FinS oneS := ⟨1, fun j hj => by unfold oneS; rw [if_neg (by omega)]⟩
theorem FinS.pow {A : Nat → Int} (h : FinS A) (k : Nat) : FinS (powS A k) := by
  induction k with
  | zero => exact FinS.one
  | succ k ih => exact ih.mul h
theorem one_mul (A : Nat → Int) : mulS oneS A = A := by
  funext k
  show cv k oneS A = A k
  have := cv_mono k 0 1 A
  rw [if_pos (Nat.zero_le _), Int.one_mul, Nat.sub_zero] at this
  exact this
theorem mul_commS (A B : Nat → Int) : mulS A B = mulS B A := funext fun k => cv_comm k A B
theorem mul_assocS (A B C : Nat → Int) : mulS (mulS A B) C = mulS A (mulS B C) := funext fun k => cv_assoc k A B C
theorem pow_addS (A : Nat → Int) (m n : Nat) : powS A (m + n) = mulS (powS A m) (powS A n) := by
  induction n with
  | zero => show powS A m = mulS (powS A m) oneS; rw [mul_commS, one_mul]
  | succ n ih => show mulS (powS A (m + n)) A = mulS (powS A m) (mulS (powS A n) A); rw [ih, mul_assocS]
/-- The state of the loop: r s^e is a^e0, modulo m. -/
def PowAt (f : Int) (m : List Int) (A : Nat → Int) (e0 e : Nat) (r s : List Int) : Prop := (Pol f r ∧ r.length < m.length) ∧ (Pol f s ∧ s.length < m.length) ∧ Cg f m (mulS (lf r) (powS (lf s) e)) (powS A e0)
theorem Cg.pow {f : Int} {b : List Int} {A A' : Nat → Int} (hA : FinS A) (hA' : FinS A') (h : Cg f b A A') (k : Nat) : Cg f b (powS A k) (powS A' k) := by
  induction k with
  | zero => exact Cg.refl
  | succ k ih => exact Cg.mul (hA'.pow k) hA ih h
theorem lf_mulL_cg (f : Int) (m a b : List Int) : Cg f m (lf (mulL f a b)) (mulS (lf a) (lf b)) := Cg.of fun j => by rw [lf_mulL]; simp [mulS]
/-- a^e modulo m. -/
def IsPow (f : Int) (a : List Int) (e : Nat) (m r : List Int) : Prop := IsRem f (powS (lf a) e) m r
theorem PowAt.last {f : Int} {m r s a : List Int} {e0 : Nat} (h : PowAt f m (lf a) e0 0 r s) : IsPow f a e0 m r := by
  obtain ⟨h1, h2, h3⟩ := h
  refine ⟨h1.1, h1.2, ?_⟩
  have e : mulS (lf r) (powS (lf s) 0) = lf r := by show mulS (lf r) oneS = _; rw [mul_commS, one_mul]
  rw [e] at h3
  exact h3.symm
theorem PowAt.first {f : Int} {m r s a : List Int} {e0 : Nat} (hr : IsRem f oneS m r) (hs : IsRem f (lf a) m s) : PowAt f m (lf a) e0 e0 r s := by
  refine ⟨⟨hr.1, hr.2.1⟩, ⟨hs.1, hs.2.1⟩, ?_⟩
  have := Cg.mul FinS.one ((FinS.lf s).pow e0) hr.2.2.symm (Cg.pow (FinS.lf s) (FinS.lf a) hs.2.2.symm e0)
  rw [one_mul] at this
  exact this
theorem IsPow.unique {f : Int} (h0 : 0 ≤ f) (h8 : f ≤ 8) {a m r r' : List Int} {e : Nat} (hm : Pol f m) (h : IsPow f a e m r) (k : IsPow f a e m r') : r = r' := IsRem.unique h0 h8 hm h k Cg.refl
/-- One more factor. -/
theorem IsPow.succ {f : Int} (h0 : 0 ≤ f) (h8 : f ≤ 8) {a m x y r : List Int} {e : Nat} (hm : Pol f m) (hx : IsPow f a e m x) (hy : IsPow f a (e + 1) m y) (hr : IsRem f (lf (mulL f x a)) m r) : r = y := by
  refine IsRem.unique h0 h8 hm hr hy ?_
  refine (lf_mulL_cg f m x a).trans ?_
  show Cg f m _ (mulS (powS (lf a) e) (lf a))
  exact Cg.mul ((FinS.lf a).pow e) (FinS.lf a) hx.2.2.symm Cg.refl

theorem sumN_mul (c : Int) (g : Nat → Int) (n : Nat) : sumN (fun i => c * g i) n = c * sumN g n := by
  induction n with
  | zero => simp [sumN]
  | succ n ih => rw [sumN, sumN, ih, Int.mul_add]
theorem sumN_add (g h : Nat → Int) (n : Nat) : sumN (fun i => g i + h i) n = sumN g n + sumN h n := by
  induction n with
  | zero => simp [sumN]
  | succ n ih => rw [sumN, sumN, sumN, ih]; omega
end Go.Proofs.YtfocdlkophdfoaaDoor
namespace Go.Proofs.YtfocdlkophdfoaaDoor
open Go.RowKit
/-- A list in memory of its own, made at B or later: nil, or a whole block. -/
def OwnA (w : World) (B : Nat) (a : Option Addr) (l : List Int) (cap : Nat) : Prop :=
  (a = none ∧ cap = 0 ∧ l.length = 0) ∨ ∃ g, a = some ⟨g, 0, none⟩ ∧ cap = l.length ∧ B ≤ g ∧ Own w g l.length (lf l)
theorem OwnA.src {w : World} {B : Nat} {a : Option Addr} {l : List Int} {cap : Nat} (h : OwnA w B a l cap) : Src w a l.length (lf l) := by
  rcases h with ⟨_, _, h⟩ | ⟨g, rfl, _, _, h⟩
  · exact .inl h
  · exact h.src
theorem OwnA.keep {w w' : World} {B : Nat} {a : Option Addr} {l : List Int} {cap : Nat} (h : OwnA w B a l cap) (hb : Below w.heap.size w w') : OwnA w' B a l cap := by
  rcases h with h | ⟨g, h1, h2, h3, h4⟩
  · exact .inl h
  · exact .inr ⟨g, h1, h2, h3, h4.keep hb⟩
theorem OwnA.low {w : World} {B B' : Nat} {a : Option Addr} {l : List Int} {cap : Nat} (h : OwnA w B a l cap) (hB : B' ≤ B) : OwnA w B' a l cap := by
  rcases h with h | ⟨g, h1, h2, h3, h4⟩
  · exact .inl h
  · exact .inr ⟨g, h1, h2, Nat.le_trans hB h3, h4⟩
/-- Its block, if it has one, lies below B. -/
def Lies (a : Option Addr) (B : Nat) : Prop := ∀ x, a = some x → x.block < B
theorem OwnA.lies {w : World} {B : Nat} {a : Option Addr} {l : List Int} {cap : Nat} (h : OwnA w B a l cap) : Lies a w.heap.size := by
  intro x hx
  rcases h with ⟨h1, _⟩ | ⟨g, h1, _, _, h4⟩
  · rw [h1] at hx; cases hx
  · rw [h1] at hx; cases hx; exact h4.lt
theorem Lies.mono {a : Option Addr} {B B' : Nat} (h : Lies a B) (hB : B ≤ B') : Lies a B' := fun x hx => Nat.lt_of_lt_of_le (h x hx) hB
/-- The world has grown, and written at most into the block of a. -/
def Grow (w w' : World) (a : Option Addr) : Prop := w = w' ∨ ∃ g, a = some ⟨g, 0, none⟩ ∧ w.grownBy w' (some g)
theorem OwnA.after {w w' : World} {B cap : Nat} {a a2 : Option Addr} {l : List Int} (h : OwnA w B a2 l cap) (hg : Grow w w' a) (hl : Lies a B) : OwnA w' B a2 l cap := by
  rcases hg with rfl | ⟨g, rfl, hg⟩
  · exact h
  · have := hl _ rfl
    rcases h with h | ⟨g2, h1, h2, h3, h4⟩
    · exact .inl h
    · refine .inr ⟨g2, h1, h2, h3, World.rowIs.of_block h4 (hg.block g2 h4.lt (fun e => ?_))⟩
      injection e with e
      have : g < B := this
      omega
theorem Grow.below {u w w' : World} {B0 B cap : Nat} {a : Option Addr} {l : List Int} (hg : Grow w w' a) (ho : OwnA w B a l cap) (hB : B0 ≤ B) (hb : Below B0 u w) (hs : B0 ≤ w.heap.size) : Below B0 u w' := by
  rcases hg with rfl | ⟨g, rfl, hg⟩
  · exact hb
  · rcases ho with ⟨h, _⟩ | ⟨g2, h1, h2, h3, h4⟩
    · cases h
    · cases h1
      exact hb.grown hg hs (fun k hk => by injection hk with hk; omega)
theorem Grow.size {w w' : World} {a : Option Addr} (hg : Grow w w' a) : w.heap.size ≤ w'.heap.size := by
  rcases hg with rfl | ⟨g, rfl, hg⟩
  · exact Nat.le_refl _
  · exact hg.size
def ListL (w : World) (l : List Int) (e : Ending) (w' : World) : Prop := ∃ a cap, e = .returned (.slice a l.length cap) ∧ Src w' a l.length (lf l) ∧ Below w.heap.size w w'
def OwnL (w : World) (l : List Int) (e : Ending) (w' : World) : Prop := ∃ a cap, e = .returned (.slice a l.length cap) ∧ OwnA w' w.heap.size a l cap ∧ Below w.heap.size w w'
theorem OwnL.list {w w' : World} {l : List Int} {e : Ending} (h : OwnL w l e w') : ListL w l e w' := by
  obtain ⟨a, cap, h1, h2, h3⟩ := h
  exact ⟨a, cap, h1, h2.src, h3⟩
/-- A mark in a block that lies further on leaves it. -/
theorem OwnA.before {w w' : World} {B B2 cap cap2 : Nat} {a a2 : Option Addr} {l l2 : List Int} (h : OwnA w B a l cap) (hg : Grow w w' a2) (h2 : OwnA w B2 a2 l2 cap2) (hl : Lies a B2) : OwnA w' B a l cap := by
  rcases hg with rfl | ⟨g, rfl, hg⟩
  · exact h
  · rcases h with h | ⟨g1, rfl, h12, h13, h14⟩
    · exact .inl h
    · rcases h2 with ⟨h2, _⟩ | ⟨g2, h21, h22, h23, h24⟩
      · cases h2
      · cases h21
        have : g1 < B2 := hl _ rfl
        refine .inr ⟨g1, rfl, h12, h13, World.rowIs.of_block h14 (hg.block g1 h14.lt (fun e => ?_))⟩
        injection e with e
        omega
def ListLB (w : World) (l : List Int) (b : Bool) (e : Ending) (w' : World) : Prop := ∃ a cap, e = .returned (.tuple #[.slice a l.length cap, .bool b]) ∧ Src w' a l.length (lf l) ∧ Below w.heap.size w w'
def OwnLB (w : World) (l : List Int) (b : Bool) (e : Ending) (w' : World) : Prop := ∃ a cap, e = .returned (.tuple #[.slice a l.length cap, .bool b]) ∧ OwnA w' w.heap.size a l cap ∧ Below w.heap.size w w'
theorem OwnA.nil {w : World} {B : Nat} {l : List Int} (h : l.length = 0) : OwnA w B none l 0 := .inl ⟨rfl, rfl, h⟩
theorem own_congr {w : World} {g n m : Nat} {F G : Nat → Int} (h : Own w g n F) (hn : n = m) (e : ∀ j, j < n → F j = G j) : Own w g m G := by
  subst hn
  exact World.rowIs.congr h fun j hj => by rw [e j hj]
/-- A block of n integers is the list of its first n. -/
theorem OwnA.of {w : World} {g n B : Nat} {F : Nat → Int} {l : List Int} (h : Own w g n F) (hn : n = l.length) (hB : B ≤ g) (e : ∀ j, j < n → F j = lf l j) : OwnA w B (some ⟨g, 0, none⟩) l n :=
  .inr ⟨g, rfl, hn, hB, own_congr h hn e⟩
theorem below_up {B : Nat} {a w w' : World} (h : Below B a w) (h2 : Below w.heap.size w w') (hB : B ≤ w.heap.size) : Below B a w' := h.trans (h2.mono hB)
theorem cp_l (a : Option Addr) (l : List Int) (cap : Nat) (w : World) (hn : l.length ≤ 1048576) (hs : Src w a l.length (lf l)) : Calls Tryd.prog 9 #[.slice a l.length cap] w (ListL w l) := cp_c a l.length cap (lf l) w hn hs
theorem eq_l (a a2 : Option Addr) (l : List Int) (cap cap2 : Nat) (w : World) (hn : l.length ≤ 1048576) (hs : Src w a l.length (lf l)) (hs2 : Src w a2 l.length (lf l)) : Calls Tryd.prog 16 #[.slice a l.length cap, .slice a2 l.length cap2] w (TrueP w) :=
  eq_c a a2 l.length cap cap2 (lf l) w hn hs hs2
/-- k, k + 1, .. -/
def marks (k : Int) (n : Nat) : List Int := tab n fun j => k + j
theorem marks_len (k : Int) (n : Nat) : (marks k n).length = n := tab_len _ _
def MarkL (w : World) (B : Nat) (a : Option Addr) (n cap : Nat) (k : Int) (e : Ending) (w' : World) : Prop := e = .returned (.int .i64 (k + n)) ∧ OwnA w' B a (marks k n) cap ∧ Grow w w' a
theorem mark_l (B : Nat) (a : Option Addr) (l : List Int) (cap : Nat) (k : Int) (w : World) (hn : l.length ≤ 1048576) (k0 : 0 ≤ k) (k1 : k ≤ 1000000000) (ho : OwnA w B a l cap) : Calls Tryd.prog 19 #[.slice a l.length cap, .int .i64 k] w (MarkL w B a l.length cap k) := by
  rcases ho with ⟨rfl, rfl, hz⟩ | ⟨g, rfl, rfl, hB, h⟩
  · rw [hz]
    refine (mark_nil k w).mono ?_
    rintro e w' ⟨rfl, rfl⟩
    exact ⟨by simp, .inl ⟨rfl, rfl, by rw [marks_len]⟩, .inl rfl⟩
  · refine (mark_c g l.length l.length (lf l) k w hn k0 k1 h).mono ?_
    rintro e w' ⟨rfl, h2, h3⟩
    exact ⟨rfl, OwnA.of h2 (marks_len k _).symm hB (fun j hj => by unfold marks; rw [lf_tab, if_pos hj]), .inr ⟨g, rfl, h3⟩⟩
theorem held_l (B : Nat) (a : Option Addr) (n cap : Nat) (k : Int) (w : World) (hn : n ≤ 1048576) (k0 : 0 ≤ k) (k1 : k ≤ 1000000000) (ho : OwnA w B a (marks k n) cap) : Calls Tryd.prog 20 #[.slice a n cap, .int .i64 k] w fun e w' => e = .returned (.int .i64 (k + n)) ∧ w = w' := by
  rcases ho with ⟨rfl, rfl, hz⟩ | ⟨g, rfl, rfl, hB, h⟩
  · rw [marks_len] at hz
    rw [hz]
    refine (held_nil k w).mono ?_
    rintro e w' ⟨rfl, rfl⟩
    exact ⟨by simp, rfl⟩
  · rw [marks_len] at h
    exact held_c g n _ k w hn k0 k1 (own_congr h rfl (fun j hj => by unfold marks; rw [lf_tab, if_pos hj]))
/-- The row of a law's argument. -/
theorem row_list {w : World} {a : Option Addr} {len cap : Nat} {zs : List Int} (h : IsRow .i64 w a len cap zs) : ∃ l : List Int, l.length = len ∧ Src w a l.length (lf l) := by
  refine ⟨tab len (fun j => zs.getD j 0), tab_len _ _, ?_⟩
  have hs := src_of_row h
  rw [tab_len]
  refine hs.imp id ?_
  rintro ⟨b, off, e, hlt, hc⟩
  exact ⟨b, off, e, hlt, fun j hj => by rw [hc j hj, lf_tab, if_pos hj]⟩
end Go.Proofs.YtfocdlkophdfoaaDoor
namespace Go.Proofs.YtfocdlkophdfoaaDoor
open Mth
def Dv (f : Int) (g : List Int) (A : Nat → Int) : Prop := Cg f g A (fun _ => 0)
theorem Dv.zero {f : Int} (_h0 : 0 ≤ f) (_h8 : f ≤ 8) {g : List Int} {A : Nat → Int} (h : ∀ j, A j = 0) : Dv f g A := Cg.of fun j => by rw [h j]
end Go.Proofs.YtfocdlkophdfoaaDoor
namespace Go.Proofs.YtfocdlkophdfoaaDoor
open Go.RowKit
theorem made_n (n : Nat) (hn : n ≤ 1048576) (w : World) : (Instr.makeSlice 24 (.int .i64 (n : Int)) (.int .i64 (n : Int))).run Tryd.prog w = .ok (.slice (some ⟨w.heap.size, 0, none⟩) n n) (w.alloc (.cells (madeCells #[.int .i64 0] n) 3)) :=
  run_make_row' (P := Tryd.prog) 24 3 (.int .i64 0) 8 Tryd.underlying24 info3 rfl .i64 .i64 n (by omega) (by omega) w
/-- A list in a new block of its very size. -/
def OwnG (w : World) (l : List Int) (e : Ending) (w' : World) : Prop := ∃ g, e = .returned (.slice (some ⟨g, 0, none⟩) l.length l.length) ∧ w.heap.size ≤ g ∧ Own w' g l.length (lf l) ∧ Below w.heap.size w w'
theorem OwnG.own {w w' : World} {l : List Int} {e : Ending} (h : OwnG w l e w') : OwnL w l e w' := by
  obtain ⟨g, rfl, hg, ho, hb⟩ := h
  exact ⟨_, _, rfl, .inr ⟨g, rfl, rfl, hg, ho⟩, hb⟩
theorem OwnG.of_own {w w' : World} {g n : Nat} {F : Nat → Int} {l : List Int} (h : Own w' g n F) (hn : n = l.length) (hB : w.heap.size ≤ g) (e : ∀ j, j < n → F j = lf l j) (hb : Below w.heap.size w w') : OwnG w l (.returned (.slice (some ⟨g, 0, none⟩) n n)) w' := by
  subst hn
  exact ⟨g, rfl, hB, own_congr h rfl e, hb⟩
end Go.Proofs.YtfocdlkophdfoaaDoor
namespace Go.Proofs.YtfocdlkophdfoaaDoor
open Go.RowKit
def SameB (w : World) (b : Bool) (e : Ending) (w' : World) : Prop := e = .returned (.bool b) ∧ w = w'
/-- All numbers of the list are elements. -/
def AllIn (f : Int) (l : List Int) : Prop := ∀ j, j < l.length → 0 ≤ lf l j ∧ lf l j < P f
theorem hasX_c (f x : Int) (w : World) (ht : Tab w) (h0 : 0 ≤ f) (h8 : f ≤ 8) : Calls Tryd.prog 62 #[.int .i64 f, .int .i64 x] w (SameB w (decide (0 ≤ x ∧ x < P f))) := by
  by_cases h1 : 0 ≤ x
  · have HD : Hid (decide (0 ≤ x ∧ x < P f) = decide (x < P f)) := Lib.hid (by simp [h1])
    have hd1 : decide (0 ≤ x) = true := by simpa using h1
    go_enter Tryd.func62, Tryd.ntmps62
    go_wp2_with fail
    refine (prime_c f w ht h0 h8).mono ?_
    rintro e w' ⟨rfl, rfl⟩
    go_wp2
    go_ret
    exact ⟨by rw [HD.out]; rfl, rfl⟩
  · have HD : Hid (decide (0 ≤ x ∧ x < P f) = false) := Lib.hid (by simp [h1])
    have hd1 : decide (0 ≤ x) = false := by simpa using h1
    go_enter Tryd.func62, Tryd.ntmps62
    go_wp2
    go_ret
    exact ⟨rfl, rfl⟩
set_option maxRecDepth 100000 in
set_option maxHeartbeats 1600000 in
theorem hasAll_some (f : Int) (b off n cap : Nat) (F : Nat → Int) (B : Bool) (w : World) (ht : Tab w) (h0 : 0 ≤ f) (h8 : f ≤ 8) (hn : n ≤ 1048576) (hc : ∀ j, j < n → w.cell? ⟨b, off + j, none⟩ = some (.int .i64 (F j)))
    (HN : Hid (∀ k, k < n → F k < 0 ∨ P f ≤ F k → B = false)) (HY : Hid ((∀ j, j < n → 0 ≤ F j ∧ F j < P f) → B = true)) :
    Calls Tryd.prog 53 #[.int .i64 f, .slice (some ⟨b, off, none⟩) n cap] w (SameB w B) := by
  have HC := Lib.hid hc
  clear hc
  have hp := P_bd h0 h8
  go_enter Tryd.func53, Tryd.ntmps53
  go_wp2_with fail
  go_loop [6, 9] (fun _ i => ∃ k : Nat, i = .int .i64 k ∧ k ≤ n ∧ Hid (∀ j, j < k → 0 ≤ F j ∧ F j < P f)) (fun _ i => n - (intOf i).toNat)
  case atStart => exact ⟨0, rfl, Nat.zero_le _, Lib.hid (fun j hj => by omega)⟩
  case round =>
    obtain ⟨k, rfl, hk, HA⟩ := hrel
    by_cases h1 : k < n
    · have c1 : w.cell? ⟨b, off + k, none⟩ = some (.int .i64 (F k)) := HC.out k h1
      have hd1 : decide ((k : Int) < n) = true := by simp; omega
      by_cases h2 : 0 ≤ F k ∧ F k < P f
      · have HX : Hid (Calls Tryd.prog 62 #[.int .i64 f, .int .i64 (F k)] w (SameB w true)) := Lib.hid (by
          have := hasX_c f (F k) w ht h0 h8
          rwa [decide_eq_true h2] at this)
        have HA2 : Hid (∀ j, j < k + 1 → 0 ≤ F j ∧ F j < P f) := Lib.hid (fun j hj => by
          by_cases e : j = k
          · subst e; omega
          · exact HA.out j (by omega))
        clear HA h2
        go_wp2_with fail
        refine HX.out.mono ?_
        rintro e w' ⟨rfl, rfl⟩
        go_wp2
        go_round
        case rel => exact ⟨k + 1, by go_num, by omega, HA2⟩
        case measure => simp [intOf]; omega
      · have HX : Hid (Calls Tryd.prog 62 #[.int .i64 f, .int .i64 (F k)] w (SameB w false)) := Lib.hid (by
          have := hasX_c f (F k) w ht h0 h8
          rwa [decide_eq_false h2] at this)
        have HB := Lib.hid (HN.out k h1 (by omega))
        clear h2
        go_wp2_with fail
        refine HX.out.mono ?_
        rintro e w' ⟨rfl, rfl⟩
        go_wp2
        go_ret
        exact ⟨by rw [HB.out]; rfl, rfl⟩
    · have hd1 : decide ((k : Int) < n) = false := by simp; omega
      obtain rfl : k = n := by omega
      have HB := Lib.hid (HY.out HA.out)
      go_wp2
      go_ret
      exact ⟨by rw [HB.out]; rfl, rfl⟩
theorem hasAll_none (f : Int) (a : Option Addr) (cap : Nat) (w : World) : Calls Tryd.prog 53 #[.int .i64 f, .slice a 0 cap] w (SameB w true) := by
  go_enter Tryd.func53, Tryd.ntmps53
  go_wp2_with fail
  refine wp_loop_rounds 1 ?_
  rw [rounds_succ]
  go_wp2
  go_ret
  exact ⟨rfl, rfl⟩
theorem hasAll_c (f : Int) (a : Option Addr) (l : List Int) (cap : Nat) (w : World) (ht : Tab w) (h0 : 0 ≤ f) (h8 : f ≤ 8) (hn : l.length ≤ 1048576) (hs : Src w a l.length (lf l)) (B : Bool) (hB : B = true ↔ AllIn f l) : Calls Tryd.prog 53 #[.int .i64 f, .slice a l.length cap] w (SameB w B) := by
  rcases hs with h | ⟨b, off, rfl, hlt, hc⟩
  · have : B = true := hB.2 fun j hj => by omega
    rw [this, h]
    exact hasAll_none f a cap w
  · refine hasAll_some f b off l.length cap (lf l) B w ht h0 h8 hn hc (Lib.hid fun k hk hbad => ?_) (Lib.hid fun h => hB.2 h)
    rw [← Bool.not_eq_true]
    intro hb
    have := hB.1 hb k hk
    omega
theorem in_c (x lo hi : Int) (w : World) : Calls Tryd.prog 26 #[.int .i64 x, .int .i64 lo, .int .i64 hi] w (SameB w (decide (lo ≤ x ∧ x ≤ hi))) := by
  by_cases h1 : lo ≤ x
  · by_cases h2 : x ≤ hi
    · go_enter Tryd.func26, Tryd.ntmps26
      go_wp2
      go_ret
      exact ⟨by simp [h1, h2], rfl⟩
    · have hd : decide (x ≤ hi) = false := by simpa using h2
      go_enter Tryd.func26, Tryd.ntmps26
      go_wp2
      go_ret
      exact ⟨by simp, rfl⟩
  · have hd : decide (lo ≤ x) = false := by simpa using h1
    go_enter Tryd.func26, Tryd.ntmps26
    go_wp2
    go_ret
    exact ⟨by simp, rfl⟩
/-- Whether all are elements. -/
def elemsB (f : Int) (n : Nat) (F : Nat → Int) (B : Bool) : Prop := (B = true → ∀ j, j < n → 0 ≤ F j ∧ F j < P f) ∧ (B = false → ∃ k, k < n ∧ (F k < 0 ∨ P f ≤ F k))
def ElemsP (w : World) (f : Int) (n : Nat) (F : Nat → Int) (e : Ending) (w' : World) : Prop := ∃ B, elemsB f n F B ∧ e = .returned (.bool B) ∧ w = w'
set_option maxRecDepth 100000 in
set_option maxHeartbeats 1600000 in
theorem elements_some (f : Int) (b off n cap : Nat) (F : Nat → Int) (w : World) (h0 : 0 ≤ f) (h8 : f ≤ 8) (hn : n ≤ 1048576) (hc : ∀ j, j < n → w.cell? ⟨b, off + j, none⟩ = some (.int .i64 (F j))) :
    Calls Tryd.prog 50 #[.int .i64 f, .slice (some ⟨b, off, none⟩) n cap] w (ElemsP w f n F) := by
  have HC := Lib.hid hc
  clear hc
  have hp := P_bd h0 h8
  have hz : (P f == 0) = false := by simp; omega
  go_enter Tryd.func50, Tryd.ntmps50
  go_wp2_with fail
  refine (sModulus f w).mono ?_
  rintro e w' ⟨rfl, rfl⟩
  go_wp2_with fail
  go_loop [6] (fun i => ∃ k : Nat, i = .int .i64 k ∧ k ≤ n ∧ Hid (∀ j, j < k → 0 ≤ F j ∧ F j < P f)) (fun i => n - (intOf i).toNat)
  case atStart => exact ⟨0, rfl, Nat.zero_le _, Lib.hid (fun j hj => by omega)⟩
  case round =>
    obtain ⟨k, rfl, hk, HA⟩ := hrel
    by_cases h1 : k < n
    · have c1 : w.cell? ⟨b, off + k, none⟩ = some (.int .i64 (F k)) := HC.out k h1
      by_cases h2 : 0 ≤ F k ∧ F k ≤ P f - 1
      · have HD : Hid (decide (0 ≤ F k ∧ F k ≤ P f - 1) = true) := Lib.hid (by simp; omega)
        have HA2 : Hid (∀ j, j < k + 1 → 0 ≤ F j ∧ F j < P f) := Lib.hid (fun j hj => by
          by_cases e : j = k
          · subst e; omega
          · exact HA.out j (by omega))
        clear HA
        go_wp2_with fail
        refine (in_c (F k) 0 (P f - 1) w).mono ?_
        rintro e w' ⟨rfl, rfl⟩
        rw [HD.out]
        go_wp2
        go_round
        case rel => exact ⟨k + 1, by go_num, by omega, HA2⟩
        case measure => simp [intOf]; omega
      · have HD : Hid (decide (0 ≤ F k ∧ F k ≤ P f - 1) = false) := Lib.hid (by simp; omega)
        have HE : Hid (∃ k, k < n ∧ (F k < 0 ∨ P f ≤ F k)) := Lib.hid ⟨k, h1, by omega⟩
        go_wp2_with fail
        refine (in_c (F k) 0 (P f - 1) w).mono ?_
        rintro e w' ⟨rfl, rfl⟩
        rw [HD.out]
        go_wp2
        go_ret
        exact ⟨false, ⟨(fun h => by cases h), fun _ => HE.out⟩, rfl, rfl⟩
    · have hd : decide (k < n) = false := by simpa using h1
      obtain rfl : k = n := by omega
      go_wp2
      go_ret
      exact ⟨true, ⟨fun _ => HA.out, fun h => by cases h⟩, rfl, rfl⟩
theorem elements_none (f : Int) (a : Option Addr) (cap : Nat) (F : Nat → Int) (w : World) (h0 : 0 ≤ f) (h8 : f ≤ 8) :
    Calls Tryd.prog 50 #[.int .i64 f, .slice a 0 cap] w (ElemsP w f 0 F) := by
  have hp := P_bd h0 h8
  have hz : (P f == 0) = false := by simp; omega
  go_enter Tryd.func50, Tryd.ntmps50
  go_wp2_with fail
  refine (sModulus f w).mono ?_
  rintro e w' ⟨rfl, rfl⟩
  go_wp2_with fail
  refine wp_loop_rounds 1 ?_
  rw [rounds_succ]
  go_wp2
  go_ret
  exact ⟨true, ⟨fun _ j hj => by omega, fun h => by cases h⟩, rfl, rfl⟩
theorem elements_c (f : Int) (a : Option Addr) (n cap : Nat) (F : Nat → Int) (w : World) (h0 : 0 ≤ f) (h8 : f ≤ 8) (hn : n ≤ 1048576) (hs : Src w a n F) :
    Calls Tryd.prog 50 #[.int .i64 f, .slice a n cap] w (ElemsP w f n F) := by
  rcases hs with rfl | ⟨b, off, rfl, hlt, hc⟩
  · exact elements_none f a cap F w h0 h8
  · exact elements_some f b off n cap F w h0 h8 hn hc
end Go.Proofs.YtfocdlkophdfoaaDoor
namespace Go.Proofs.YtfocdlkophdfoaaDoor
open Go.RowKit
theorem src_of_owns2 {w' : World} {base : Nat} {v : Value} {n : Nat} {F : Nat → Int} (h : w'.ownsRow base 3 1 v n (xsF F n)) : ∃ a cap, v = .slice a n cap ∧ n ≤ cap ∧ Src w' a n F := by
  obtain ⟨a, cap, hv, hs⟩ := src_of_owns h
  refine ⟨a, cap, hv, ?_, hs⟩
  obtain ⟨hl, h⟩ := h
  rcases h with ⟨h1, h2⟩ | ⟨g, cap', cur, h1, hg, hh, hc, hm, hs, ht⟩
  · rw [hv] at h1; cases h1; exact Nat.le_refl _
  · rw [hv] at h1; cases h1; exact hc
/-- A list that the call made, in a row of its own that may have room. -/
def OwnsL (w : World) (l : List Int) (e : Ending) (w' : World) : Prop := ∃ v, e = .returned v ∧ w'.ownsRow w.heap.size 3 1 v l.length (xsF (lf l) l.length) ∧ Below w.heap.size w w'
theorem OwnsL.list {w w' : World} {l : List Int} {e : Ending} (h : OwnsL w l e w') : ListL w l e w' := by
  obtain ⟨v, rfl, ho, hb⟩ := h
  obtain ⟨a, cap, rfl, _, hs⟩ := src_of_owns2 ho
  exact ⟨a, cap, rfl, hs, hb⟩
set_option maxHeartbeats 1600000 in
theorem copy_some (b off n cap : Nat) (F : Nat → Int) (w : World) (hn : n ≤ 1048576) (hlt : b < w.heap.size) (hc : ∀ j, j < n → w.cell? ⟨b, off + j, none⟩ = some (.int .i64 (F j))) :
    Calls Tryd.prog 27 #[.slice (some ⟨b, off, none⟩) n cap] w fun e w' => ∃ v, e = .returned v ∧ w'.ownsRow w.heap.size 3 1 v n (xsF F n) ∧ Below w.heap.size w w' := by
  have HC := Lib.hid hc
  clear hc
  obtain ⟨i0, hi, hz0, hz1, hz2⟩ := info_parts info3
  have HI := Lib.hid hi
  have HZ0 := Lib.hid hz0
  have HZ1 := Lib.hid hz1
  have HZ2 := Lib.hid hz2
  clear hi hz0 hz1 hz2
  go_enter Tryd.func27, Tryd.ntmps27
  go_wp2_with fail
  go_loopw [3, 4] (fun v i wr => ∃ k : Nat, i = .int .i64 k ∧ k ≤ n ∧ wr.ownsRow w.heap.size 3 1 v k (xsF F k) ∧ Below w.heap.size w wr) (fun _ i _ => n - (intOf i).toNat)
  case atStart => exact ⟨0, rfl, Nat.zero_le _, own_empty w F, (Below.refl _ _).alloc (Nat.le_refl _) _⟩
  case round =>
    obtain ⟨k, rfl, hk, hown, hnx⟩ := hrel
    by_cases h1 : k < n
    · have hc2 : wr.cell? ⟨b, off + k, none⟩ = some (.int .i64 (F k)) := (hnx.cell (p := ⟨b, off + k, none⟩) hlt).trans (HC.out k h1)
      have hs := hnx.size
      go_wp2_with (at_builtin; refine wpList_append_own _ rfl _ _ 24 rfl w.heap.size 3 i0 (.int .i64 0) 1 8 Tryd.underlying24 HI.out HZ0.out HZ1.out HZ2.out rfl (by decide) _ _ _ rfl (hown.alloc _) ⟨wr.heap.size, 0, none⟩ 1 1 [.int .i64 (F k)] rfl rfl ?c1 ?c2 ?c3 ?c4 ?c5 ?_)
      case c1 => exact cell_one_new _ _ _
      case c2 => intro u hu; simp at hu; subst hu; rfl
      case c3 => unfold maxLen; omega
      case c4 => omega
      case c5 => simp; omega
      intro v' w1 hown' hgrow _
      have hbel : Below w.heap.size w w1 := (hnx.alloc hs _).grown hgrow (by simp; omega) (own_ge hown)
      rw [xsF_succ] at hown'
      clear hgrow hown hc2
      go_wp2
      go_roundw
      case rel => exact ⟨k + 1, by go_num, by omega, hown', hbel⟩
      case measure => simp [intOf]; omega
    · have hd : decide (k < n) = false := by simpa using h1
      obtain rfl : k = n := by omega
      have HO := Lib.hid hown
      clear hown
      go_wp2
      go_ret
      exact ⟨_, rfl, HO.out, hnx⟩
theorem copy_none (a : Option Addr) (cap : Nat) (F : Nat → Int) (w : World) : Calls Tryd.prog 27 #[.slice a 0 cap] w fun e w' => ∃ v, e = .returned v ∧ w'.ownsRow w.heap.size 3 1 v 0 (xsF F 0) ∧ Below w.heap.size w w' := by
  go_enter Tryd.func27, Tryd.ntmps27
  go_wp2
  refine wp_loop_rounds 1 ?_
  rw [rounds_succ]
  go_wp2
  go_ret
  exact ⟨_, rfl, own_empty w F, (Below.refl _ _).alloc (Nat.le_refl _) _⟩
theorem copy_c (a : Option Addr) (n cap : Nat) (F : Nat → Int) (w : World) (hn : n ≤ 1048576) (hs : Src w a n F) : Calls Tryd.prog 27 #[.slice a n cap] w fun e w' => ∃ v, e = .returned v ∧ w'.ownsRow w.heap.size 3 1 v n (xsF F n) ∧ Below w.heap.size w w' := by
  rcases hs with rfl | ⟨b, off, rfl, hlt, hc⟩
  · exact copy_none a cap F w
  · exact copy_some b off n cap F w hn hlt hc
end Go.Proofs.YtfocdlkophdfoaaDoor
namespace Go.Proofs.YtfocdlkophdfoaaDoor
open Go.RowKit
theorem two_cast (k : Nat) : two (k : Int) = 2 ^ k := rfl
theorem log_two {k : Nat} (h : k ≤ 9) : mLog (two k) = k := log_at h
theorem shl_nat {k : Nat} (h : k ≤ 26) : wrap64 (2 ^ k) = two (k : Int) := by
  have := two_bd (k := (k : Int)) (by omega) (by omega)
  exact IntWalk.wrap64_in _ (by rw [two_cast] at this; omega)
set_option maxHeartbeats 400000 in
theorem sLogOf (n : Int) (w : World) : Calls Tryd.prog 49 #[.int .i64 n] w fun e w' => e = .returned (.int .i64 (mLog n)) ∧ w = w' := by
  go_enter Tryd.func49, Tryd.ntmps49
  go_wp2_with fail
  go_loop [3] (fun v => ∃ k : Nat, v = .int .i64 k ∧ k ≤ 10 ∧ Hid (∀ j : Nat, j < k → n ≠ two j)) (fun v => 10 - (intOf v).toNat)
  case atStart => exact ⟨0, rfl, by omega, Lib.hid (fun j hj => by omega)⟩
  case round =>
    obtain ⟨k, rfl, hk, H⟩ := hrel
    by_cases h9 : k ≤ 9
    · have ek := shl_nat (k := k) (by omega)
      by_cases he : n = two k
      · have e1 : (n == two k) = true := by simpa using he
        have HL : Hid (mLog n = k) := Lib.hid (by rw [he]; exact log_two h9)
        clear he
        go_wp2
        go_ret
        exact ⟨ret_int HL.out.symm, rfl⟩
      · have e1 : (n == two k) = false := by simpa using he
        have H2 : Hid (∀ j : Nat, j < k + 1 → n ≠ two j) := Lib.hid (fun j hj => by
          by_cases hjk : j = k
          · subst hjk; exact he
          · exact H.out j (by omega))
        clear he
        go_wp2
        go_round
        case rel => exact ⟨k + 1, by go_num, by omega, H2⟩
        case measure => simp [intOf]; omega
    · obtain rfl : k = 10 := by omega
      have HL : Hid (mLog n = -1) := Lib.hid (log_off (fun j hj => H.out j (by omega)))
      go_wp2
      go_ret
      exact ⟨ret_int HL.out.symm, rfl⟩
set_option maxHeartbeats 400000 in
theorem iLogOf (n : Int) (w : World) : Calls Tryd.prog 52 #[.int .i64 n] w fun e w' => e = .returned (.int .i64 (mLog n)) ∧ w = w' := by
  go_enter Tryd.func52, Tryd.ntmps52
  go_wp2_with fail
  go_loop [3, 4] (fun _ v => ∃ k : Nat, v = .int .i64 k ∧ k ≤ 10 ∧ Hid (∀ j : Nat, j < k → n ≠ two j)) (fun _ v => 10 - (intOf v).toNat)
  case atStart => exact ⟨0, rfl, by omega, Lib.hid (fun j hj => by omega)⟩
  case round =>
    obtain ⟨k, rfl, hk, H⟩ := hrel
    by_cases h9 : k ≤ 9
    · have ek := shl_nat (k := k) (by omega)
      by_cases he : n = two k
      · have e1 : (n == two k) = true := by simpa using he
        have HL : Hid (mLog n = k) := Lib.hid (by rw [he]; exact log_two h9)
        clear he
        go_wp2
        go_ret
        exact ⟨ret_int HL.out.symm, rfl⟩
      · have e1 : (n == two k) = false := by simpa using he
        have H2 : Hid (∀ j : Nat, j < k + 1 → n ≠ two j) := Lib.hid (fun j hj => by
          by_cases hjk : j = k
          · subst hjk; exact he
          · exact H.out j (by omega))
        clear he
        go_wp2
        go_round
        case rel => exact ⟨k + 1, by go_num, by omega, H2⟩
        case measure => simp [intOf]; omega
    · obtain rfl : k = 10 := by omega
      have HL : Hid (mLog n = -1) := Lib.hid (log_off (fun j hj => H.out j (by omega)))
      go_wp2
      go_ret
      exact ⟨ret_int HL.out.symm, rfl⟩
end Go.Proofs.YtfocdlkophdfoaaDoor
namespace Go.Proofs.YtfocdlkophdfoaaDoor
open Mth
theorem sumN_mod {p : Int} {f g : Nat → Int} {n : Nat} (h : ∀ i, i < n → f i % p = g i % p) : sumN f n % p = sumN g n % p := by
  induction n with
  | zero => rfl
  | succ n ih => rw [sumN, sumN]; exact emod_add_congr (ih fun i hi => h i (by omega)) (h n (by omega))
theorem one_p {f : Int} (h0 : 0 ≤ f) (h8 : f ≤ 8) : (1 : Int) % P f = 1 := by
  have := P_bd h0 h8
  exact Int.emod_eq_of_lt (by omega) (by omega)
/-- w is a root of order n in field f, v its inverse. -/
structure Rt (f : Int) (w v : Int) (n : Nat) : Prop where
  h0 : 0 ≤ f
  h8 : f ≤ 8
  n0 : 0 < n
  ord : ∀ m, w ^ m % P f = 1 % P f ↔ n ∣ m
  inv : (w * v) % P f = 1 % P f
theorem Rt.full {f w v : Int} {n : Nat} (h : Rt f w v n) : w ^ n % P f = 1 % P f := (h.ord n).2 (Nat.dvd_refl n)
/-- The transform, unreduced. -/
def ftF (w : Int) (n : Nat) (A : Nat → Int) (i : Nat) : Int := sumN (fun j => A j * w ^ (i * j)) n
end Go.Proofs.YtfocdlkophdfoaaDoor
namespace Go.Proofs.YtfocdlkophdfoaaDoor
open Mth
/-- Half way round is -1. -/
theorem Rt.half {f w v : Int} {m : Nat} (h : Rt f w v (m + m)) : (w ^ m + 1) % P f = 0 := by
  have m0 : 0 < m := by have := h.n0; omega
  refine Classical.byContradiction fun hs => ?_
  have h1 : (w ^ m - 1) % P f ≠ 0 := fun e => by
    have : w ^ m % P f = 1 % P f := by
      have := emod_add_congr (p := P f) (a := w ^ m - 1) (b := 0) (c := 1) (d := 1) (by rw [e]; simp) rfl
      rwa [Int.sub_add_cancel, Int.zero_add] at this
    have := Nat.le_of_dvd m0 ((h.ord m).1 this)
    omega
  have := mul_nz h.h0 h.h8 h1 hs
  refine this ?_
  have e : (w ^ m - 1) * (w ^ m + 1) = w ^ (m + m) - 1 := by
    rw [Int.pow_add, Int.mul_add, Int.sub_mul, Int.sub_mul]
    omega
  rw [e]
  exact emod_zero_of_sub h.full
/-- After s levels: each block of 2^s is the transform of every 2^(k-s)-th number of X. -/
def Lev (f w : Int) (k s : Nat) (X V : Nat → Int) : Prop :=
  ∀ b t, b < 2 ^ (k - s) → t < 2 ^ s → V (b * 2 ^ s + t) % P f = sumN (fun u => X (rv b (k - s) + u * 2 ^ (k - s)) * w ^ (t * (u * 2 ^ (k - s)))) (2 ^ s) % P f
theorem Lev.start {f w : Int} {k : Nat} {X V : Nat → Int} (h : ∀ j, j < 2 ^ k → V j % P f = X (rv j k) % P f) : Lev f w k 0 X V := by
  intro b t hb ht
  have : t = 0 := by have : t < 1 := ht; omega
  subst this
  rw [Nat.sub_zero] at hb ⊢
  rw [show b * 2 ^ 0 + 0 = b by simp, h b hb]
  show _ = (sumN _ 0 + X (rv b k + 0 * 2 ^ k) * w ^ (0 * (0 * 2 ^ k))) % P f
  simp [sumN]
/-- All levels: the transform. -/
theorem Lev.last {f w : Int} {k : Nat} {X V : Nat → Int} (h : Lev f w k k X V) {t : Nat} (ht : t < 2 ^ k) : V t % P f = ftF w (2 ^ k) X t % P f := by
  have := h 0 t (by simp) ht
  rw [Nat.sub_self, Nat.zero_mul, Nat.zero_add] at this
  rw [this]
  unfold ftF
  congr 1
  exact sumN_congr fun u _ => by simp [rv]
end Go.Proofs.YtfocdlkophdfoaaDoor
namespace Go.Proofs.YtfocdlkophdfoaaDoor
open Mth
def VecOk (f : Int) (l : List Int) : Prop := (0 ≤ mLog l.length ∧ mLog l.length ≤ T f) ∧ ∀ j, j < l.length → 0 ≤ lf l j ∧ lf l j < P f
def TwoOk (f : Int) (a b : List Int) : Prop := a.length = b.length ∧ VecOk f a ∧ VecOk f b
open Classical in
noncomputable def mVectorOk (f : Int) (l : List Int) : Bool := decide (VecOk f l)
/-- The log of a vector. -/
theorem VecOk.log {f : Int} {l : List Int} (h : VecOk f l) : ∃ k : Nat, k ≤ 9 ∧ l.length = 2 ^ k ∧ mLog l.length = k ∧ hasK f k := by
  rcases log_cases (l.length : Int) with ⟨k, hk, hn, hl⟩ | ⟨_, hl⟩
  · refine ⟨k, hk, ?_, hl, (hasK_iff f k).2 ⟨by omega, by have := h.1.2; omega⟩⟩
    have e : ((2 ^ k : Nat) : Int) = 2 ^ k := by rw [Int.natCast_pow]; rfl
    omega
  · have := h.1.1
    omega
theorem VecOk.f08 {f : Int} {l : List Int} (h : VecOk f l) : 0 ≤ f ∧ f ≤ 8 := by
  obtain ⟨k, _, _, _, hk⟩ := h.log
  exact hk.1
theorem VecOk.pos {f : Int} {l : List Int} (h : VecOk f l) : 0 < l.length ∧ l.length ≤ 512 := by
  obtain ⟨k, hk, hn, _, _⟩ := h.log
  have : 2 ^ k ≤ 2 ^ 9 := Nat.pow_le_pow_right (by omega) hk
  have h0 : 0 < 2 ^ k := Nat.pow_pos (by omega)
  omega
theorem VecOk.lt {f : Int} {l : List Int} (h : VecOk f l) (j : Nat) : 0 ≤ lf l j ∧ lf l j < P f := by
  have h08 := h.f08
  have hp := P_bd h08.1 h08.2
  by_cases hj : j < l.length
  · exact h.2 j hj
  · rw [lf_out l (by omega)]; omega
/-- A list of the same length whose numbers are reduced is a vector. -/
theorem VecOk.tab {f : Int} {l : List Int} (h : VecOk f l) {n : Nat} (hn : n = l.length) (F : Nat → Int) (hF : ∀ j, j < n → 0 ≤ F j ∧ F j < P f) : VecOk f (tab n F) := by
  subst hn
  refine ⟨by rw [tab_len]; exact h.1, fun j hj => ?_⟩
  rw [tab_len] at hj
  rw [lf_tab, if_pos hj]
  exact hF j hj
end Go.Proofs.YtfocdlkophdfoaaDoor
namespace Go.Proofs.YtfocdlkophdfoaaDoor
open Go.RowKit
def NilP (w : World) (e : Ending) (w' : World) : Prop := e = .returned (.slice none 0 0) ∧ Below w.heap.size w w'
theorem NilP.list {w w' : World} {l : List Int} {e : Ending} (hl : l = []) (h : NilP w e w') : ListL w l e w' := by
  subst hl
  obtain ⟨rfl, hb⟩ := h
  exact ⟨none, 0, rfl, .inl rfl, hb⟩
theorem NilP.own {w w' : World} {l : List Int} {e : Ending} (hl : l = []) (h : NilP w e w') : OwnL w l e w' := by
  subst hl
  obtain ⟨rfl, hb⟩ := h
  exact ⟨none, 0, rfl, OwnA.nil rfl, hb⟩
end Go.Proofs.YtfocdlkophdfoaaDoor
namespace Go.Proofs.YtfocdlkophdfoaaDoor
open Go.RowKit
def upd (Q : Nat → Int) (s : Nat) (m : Int) : Nat → Int := fun j => if j = s then m else Q j
end Go.Proofs.YtfocdlkophdfoaaDoor
namespace Go.Proofs.YtfocdlkophdfoaaDoor
open Go.RowKit
/-- A row with room: the first n cells are known. -/
def OwnV (w : World) (g n cap : Nat) (F : Nat → Int) : Prop := ∃ V, w.rowIs g 3 cap V ∧ n ≤ cap ∧ ∀ j, j < n → V j = .int .i64 (F j)
theorem OwnV.cell {w : World} {g n cap : Nat} {F : Nat → Int} (h : OwnV w g n cap F) {j : Nat} (hj : j < n) : w.cell? ⟨g, j, none⟩ = some (.int .i64 (F j)) := by
  obtain ⟨V, h1, h2, h3⟩ := h
  rw [← h3 j hj]
  exact World.rowIs.cell h1 (by omega)
theorem OwnV.frozen {w : World} {g n cap : Nat} {F : Nat → Int} (h : OwnV w g n cap F) (j : Nat) : w.frozen? ⟨g, j, none⟩ = false := by
  obtain ⟨V, h1, h2, h3⟩ := h
  exact World.rowIs.frozen h1 j
theorem OwnV.lt {w : World} {g n cap : Nat} {F : Nat → Int} (h : OwnV w g n cap F) : g < w.heap.size := by
  obtain ⟨V, h1, _⟩ := h
  exact World.rowIs.lt h1
theorem OwnV.set {w : World} {g n cap s : Nat} {F : Nat → Int} {x : Int} (h : OwnV w g n cap F) : OwnV (w.setCell ⟨g, s, none⟩ (.int .i64 x)) g n cap (upd F s x) := by
  obtain ⟨V, h1, h2, h3⟩ := h
  refine ⟨_, World.rowIs.set h1 s (.int .i64 x), h2, fun j hj => ?_⟩
  unfold upd
  by_cases e : j = s
  · simp [e]
  · simp [e, h3 j hj]
theorem OwnV.other {w : World} {g g2 n cap s : Nat} {F : Nat → Int} {v : Value} (h : OwnV w g n cap F) (hne : g ≠ g2) : OwnV (w.setCell ⟨g2, s, none⟩ v) g n cap F := by
  obtain ⟨V, h1, h2, h3⟩ := h
  exact ⟨V, World.rowIs.setOther h1 (a := ⟨g2, s, none⟩) hne v, h2, h3⟩
theorem OwnV.keep {w w' : World} {g n cap : Nat} {F : Nat → Int} (h : OwnV w g n cap F) (hb : Below w.heap.size w w') : OwnV w' g n cap F := by
  obtain ⟨V, h1, h2, h3⟩ := h
  exact ⟨V, World.rowIs.of_block h1 (hb.block g (World.rowIs.lt h1)), h2, h3⟩
theorem OwnV.congr {w : World} {g n cap : Nat} {F G : Nat → Int} (h : OwnV w g n cap F) (e : ∀ j, j < n → F j = G j) : OwnV w g n cap G := by
  obtain ⟨V, h1, h2, h3⟩ := h
  exact ⟨V, h1, h2, fun j hj => by rw [h3 j hj, e j hj]⟩
theorem OwnV.src {w : World} {g n cap : Nat} {F : Nat → Int} (h : OwnV w g n cap F) : Src w (some ⟨g, 0, none⟩) n F :=
  .inr ⟨g, 0, rfl, h.lt, fun j hj => by rw [Nat.zero_add]; exact h.cell hj⟩
theorem OwnV.of_owns {w : World} {base n : Nat} {v : Value} {F : Nat → Int} (h : w.ownsRow base 3 1 v n (xsF F n)) (hn : n ≠ 0) : ∃ g cap, v = .slice (some ⟨g, 0, none⟩) n cap ∧ base ≤ g ∧ OwnV w g n cap F := by
  obtain ⟨hl, h⟩ := h
  rcases h with ⟨h1, h2⟩ | ⟨g, cap, cur, h1, hg, hh, hc, hm, hs, ht⟩
  · exact absurd h2 hn
  · refine ⟨g, cap, h1, hg, fun j => (cur[j]?).getD .nilIface, ⟨cur, hh, by omega, fun j hj => ?_⟩, hc, fun j hj => ?_⟩
    · have : j < cur.size := by omega
      simp [this]
    · have hx : (xsF F n)[j]? = some (.int .i64 (F j)) := by simp [xsF, hj]
      rw [← ht, List.getElem?_take_of_lt (by omega)] at hx
      have : cur[j]? = some (.int .i64 (F j)) := by simpa using hx
      show (cur[j]?).getD .nilIface = _
      rw [this]; rfl
end Go.Proofs.YtfocdlkophdfoaaDoor
namespace Go.Proofs.YtfocdlkophdfoaaDoor
open Go.RowKit
def NilB (w : World) (e : Ending) (w' : World) : Prop := e = .returned (.tuple #[.slice none 0 0, .bool false]) ∧ Below w.heap.size w w'
theorem NilB.list {w w' : World} {l : List Int} {b : Bool} {e : Ending} (hl : l = []) (hb : b = false) (h : NilB w e w') : ListLB w l b e w' := by
  subst hl; subst hb
  obtain ⟨rfl, hb⟩ := h
  exact ⟨none, 0, rfl, .inl rfl, hb⟩
theorem NilB.own {w w' : World} {l : List Int} {b : Bool} {e : Ending} (hl : l = []) (hb : b = false) (h : NilB w e w') : OwnLB w l b e w' := by
  subst hl; subst hb
  obtain ⟨rfl, hb⟩ := h
  exact ⟨none, 0, rfl, OwnA.nil rfl, hb⟩
theorem pow_congr {p x y : Int} (h : x % p = y % p) (k : Nat) : x ^ k % p = y ^ k % p := by
  induction k with
  | zero => rw [Int.pow_zero, Int.pow_zero]
  | succ k ih => rw [Int.pow_succ, Int.pow_succ]; exact emod_mul_congr ih h
theorem power_nat {f : Int} (h0 : 0 ≤ f) (h8 : f ≤ 8) (x : Int) (k : Nat) : mPower f x k = RS (x ^ k) (P f) := by
  have hp := P_bd h0 h8
  unfold mPower
  rw [if_pos ⟨h0, h8⟩]
  by_cases hz : RS x (P f) = 0
  · rw [if_pos hz]
    unfold pow0
    have e0 : x % P f = 0 % P f := by rw [show x % P f = 0 from hz]; simp
    cases k with
    | zero => simp [RS]; exact (Int.emod_eq_of_lt (by omega) (by omega)).symm
    | succ k =>
      rw [if_neg (by omega), if_neg (by omega)]
      unfold RS
      rw [pow_congr e0 (k + 1), Int.pow_succ, Int.mul_zero]; simp
  · rw [if_neg hz]
    have bd := RS_bd (x := x) (m := P f) (by omega)
    have e1 : ((RS x (P f)).toNat : Int) = RS x (P f) := Int.toNat_of_nonneg bd.1
    have e2 : ((P f).toNat : Int) = P f := Int.toNat_of_nonneg (by omega)
    have hx : (RS x (P f)).toNat % (P f).toNat ≠ 0 := by rw [Nat.mod_eq_of_lt (by omega)]; omega
    have hm := (fldf h0 h8).pow_mod k hx
    unfold PW
    have e3 : (RS (k : Int) (P f - 1)).toNat = k % ((P f).toNat - 1) := by
      unfold RS
      rw [show P f - 1 = (((P f).toNat - 1 : Nat) : Int) by omega, ← Int.natCast_emod, Int.toNat_natCast]
    rw [e3, hm, Int.natCast_emod, Int.natCast_pow, e1, e2]
    unfold RS
    exact pow_congr (by simp) k
/-- Horner's sums. -/
def hz (f x : Int) (A : Nat → Int) (n : Nat) : Nat → Int
  | 0 => 0
  | t + 1 => RS (RS (hz f x A n t * x) (P f) + A (n - (t + 1))) (P f)
end Go.Proofs.YtfocdlkophdfoaaDoor
namespace Go.Proofs.YtfocdlkophdfoaaDoor
open Go.RowKit
set_option maxHeartbeats 800000 in
theorem sameZ_some (b off b2 off2 n cap cap2 : Nat) (F : Nat → Int) (w : World) (hn : n ≤ 1048576) (hlt : b < w.heap.size) (hlt2 : b2 < w.heap.size) (hc : ∀ j, j < n → w.cell? ⟨b, off + j, none⟩ = some (.int .i64 (F j))) (hc2 : ∀ j, j < n → w.cell? ⟨b2, off2 + j, none⟩ = some (.int .i64 (F j))) :
    Calls Tryd.prog 12 #[.slice (some ⟨b, off, none⟩) n cap, .slice (some ⟨b2, off2, none⟩) n cap2] w (TrueP w) := by
  have HC := Lib.hid hc
  have HC2 := Lib.hid hc2
  clear hc hc2
  go_enter Tryd.func12, Tryd.ntmps12
  go_wp2_with fail
  go_loopw [5] (fun i wr => ∃ k : Nat, i = .int .i64 k ∧ k ≤ n ∧ Below w.heap.size w wr) (fun i _ => n - (intOf i).toNat)
  case atStart => exact ⟨0, rfl, Nat.zero_le _, Below.refl _ _⟩
  case round =>
    obtain ⟨k, rfl, hk, hb⟩ := hrel
    by_cases h1 : k < n
    · have c1 : wr.cell? ⟨b, off + k, none⟩ = some (.int .i64 (F k)) := (hb.cell (p := ⟨b, off + k, none⟩) hlt).trans (HC.out k h1)
      have c2 : wr.cell? ⟨b2, off2 + k, none⟩ = some (.int .i64 (F k)) := (hb.cell (p := ⟨b2, off2 + k, none⟩) hlt2).trans (HC2.out k h1)
      go_wp2
      go_quiet (fail)
      go_wp2
      go_roundw
      case rel => exact ⟨k + 1, by go_num, by omega, below_drewN hb _⟩
      case measure => simp [intOf]; omega
    · have hd : decide (k < n) = false := by simpa using h1
      go_wp2
      go_ret
      exact ⟨rfl, hb⟩
theorem sameZ_none (a a2 : Option Addr) (cap cap2 : Nat) (w : World) : Calls Tryd.prog 12 #[.slice a 0 cap, .slice a2 0 cap2] w (TrueP w) := by
  go_enter Tryd.func12, Tryd.ntmps12
  go_wp2
  refine wp_loop_rounds 1 ?_
  rw [rounds_succ]
  go_wp2
  go_ret
  exact ⟨rfl, Below.refl _ _⟩
theorem sameZ (a a2 : Option Addr) (l : List Int) (cap cap2 : Nat) (w : World) (hn : l.length ≤ 1048576) (hs : Src w a l.length (lf l)) (hs2 : Src w a2 l.length (lf l)) : Calls Tryd.prog 12 #[.slice a l.length cap, .slice a2 l.length cap2] w (TrueP w) := by
  rcases hs with h | ⟨b, off, rfl, hlt, hc⟩
  · rw [h]; exact sameZ_none a a2 cap cap2 w
  · rcases hs2 with h | ⟨b2, off2, rfl, hlt2, hc2⟩
    · rw [h]; exact sameZ_none _ a2 cap cap2 w
    · exact sameZ_some b off b2 off2 l.length cap cap2 (lf l) w hn hlt hlt2 hc hc2
/-- The state of the loop that draws a list: the cursor's block is g. -/
def ZAt (g : Nat) (w wr : World) (v : Value) (k : Nat) : Prop := (∃ F, wr.ownsRow w.heap.size 3 1 v k (xsF F k)) ∧ Cur g wr ∧ w.grownBy wr (some g) ∧ w.heap.size ≤ wr.heap.size
theorem zxs_more (F : Nat → Int) (k : Nat) (x : Int) : xsF F k ++ [.int .i64 x] = xsF (fun j => if j < k then F j else x) (k + 1) := by
  rw [← xsF_succ, xsF_congr (F := F) (G := fun j => if j < k then F j else x) (fun j hj => by simp [hj])]
  simp
theorem zown_ne {wr : World} {B g : Nat} {v : Value} {k : Nat} {xs : List Value} (hB : g < B) (h : wr.ownsRow B 3 1 v k xs) : v.ownBlock = none ∨ v.ownBlock ≠ some g := by
  refine .inr fun e => ?_
  have := own_ge h g e
  omega
/-- Growth that writes only into a block made since is growth that writes only into g. -/
theorem grown_new {w w1 w2 : World} {g : Nat} {row : Option Nat} (h1 : w.grownBy w1 (some g)) (h2 : w1.grownBy w2 row) (hr : ∀ k, row = some k → w.heap.size ≤ k) : w.grownBy w2 (some g) :=
  ⟨h2.os.trans h1.os, h2.tape.trans h1.tape, h2.output.trans h1.output, Nat.le_trans h1.size h2.size, fun i hi hne => (h2.block i (Nat.lt_of_lt_of_le hi h1.size) (fun e => by have := hr i e.symm; omega)).trans (h1.block i hi hne)⟩
theorem zdraw_step {g : Nat} {w w1 w2 : World} {v v' : Value} {k : Nat} {x : Int} {F : Nat → Int} {o : Obj} (hB : g < w.heap.size) (g1 : w.grownBy w1 (some g)) (c1 : Cur g w1) (hown1 : w1.ownsRow w.heap.size 3 1 v k (xsF F k))
    (hown' : w2.ownsRow w.heap.size 3 1 v' (k + 1) (xsF F k ++ [.int .i64 x])) (hgrow : (w1.alloc o).grownBy w2 v.ownBlock) : ZAt g w w2 v' (k + 1) := by
  have hge := own_ge hown1
  have hg := grown_new (g1.trans (World.grownBy_alloc w1 o (some g))) hgrow hge
  exact ⟨⟨_, by rw [zxs_more] at hown'; exact hown'⟩, (c1.alloc o).other hgrow (fun r hr => by have := hge r hr; omega), hg, hg.size⟩
def ZRow (g : Nat) (w : World) (n : Nat) (e : Ending) (w' : World) : Prop := ∃ v, e = .returned v ∧ ZAt g w w' v n
set_option maxRecDepth 100000 in
set_option maxHeartbeats 1600000 in
theorem drawList_c (g : Nat) (f : Int) (n : Nat) (w : World) (hc : Cur g w) (hn : n ≤ 4096) : Calls Tryd.prog 60 #[.pointer (some ⟨g, 0, none⟩), .int .i64 f, .int .i64 n] w (ZRow g w n) := by
  obtain ⟨i0, hi, hz0, hz1, hz2⟩ := info_parts info3
  have HI := Lib.hid hi
  have HZ0 := Lib.hid hz0
  have HZ1 := Lib.hid hz1
  have HZ2 := Lib.hid hz2
  clear hi hz0 hz1 hz2
  have hB : g < w.heap.size := hc.lt
  go_enter Tryd.func60, Tryd.ntmps60
  go_wp2_with fail
  go_loopw [7, 8] (fun v i wr => ∃ k : Nat, i = .int .i64 k ∧ k ≤ n ∧ ZAt g w wr v k) (fun _ i _ => n - (intOf i).toNat)
  case atStart => exact ⟨0, rfl, by omega, ⟨fun _ => 0, own_empty w (fun _ => 0)⟩, hc.alloc _, World.grownBy_alloc _ _ _, by simp⟩
  case round =>
    obtain ⟨k, rfl, hk, ⟨F, hown⟩, hcur, hbel, hsz⟩ := hrel
    by_cases hlt : k < n
    · have hd : decide ((k : Int) < n) = true := decide_eq_true (by omega)
      go_wp2_with fail
      refine (element_c g f wr hcur).mono ?_
      rintro e w9 ⟨x9, _, rfl, g9, c9⟩
      have hown9 := hown.kept g9 (zown_ne hB hown)
      have hb9 := hbel.trans g9
      have hs9 : w.heap.size ≤ w9.heap.size := Nat.le_trans hsz g9.size
      clear hown hcur hbel g9
      go_wp2_with (at_builtin; refine wpList_append_own _ rfl _ _ 24 rfl w.heap.size 3 i0 (.int .i64 0) 1 8 Tryd.underlying24 HI.out HZ0.out HZ1.out HZ2.out rfl (by decide) _ _ _ rfl (hown9.alloc _) ⟨w9.heap.size, 0, none⟩ 1 1 [.int .i64 x9] rfl rfl ?c1 ?c2 ?c3 ?c4 ?c5 ?_)
      case c1 => exact cell_one_new _ _ _
      case c2 => intro u hu; simp at hu; subst hu; rfl
      case c3 => unfold maxLen; omega
      case c4 => omega
      case c5 => simp; omega
      intro v' w10 hown' hgrow _
      have hst := zdraw_step hB hb9 c9 hown9 hown' hgrow
      clear hgrow hown' hown9 c9 hb9
      go_wp2
      go_roundw
      case rel => exact ⟨k + 1, by go_num, by omega, hst⟩
      case measure => simp [intOf]; omega
    · have hd : decide ((k : Int) < n) = false := decide_eq_false (by omega)
      obtain rfl : k = n := by omega
      go_wp2
      go_ret
      exact ⟨_, rfl, ⟨F, hown⟩, hcur, hbel, hsz⟩
/-- A list apart from the cursor. -/
def SrcO (g : Nat) (w : World) (a : Option Addr) (n : Nat) (F : Nat → Int) : Prop :=
  n = 0 ∨ ∃ b off, a = some ⟨b, off, none⟩ ∧ b ≠ g ∧ b < w.heap.size ∧ ∀ j, j < n → w.cell? ⟨b, off + j, none⟩ = some (.int .i64 (F j))
theorem SrcO.src {g : Nat} {w : World} {a : Option Addr} {n : Nat} {F : Nat → Int} (h : SrcO g w a n F) : Src w a n F := by
  refine h.imp id ?_
  rintro ⟨b, off, e, _, hlt, hc⟩
  exact ⟨b, off, e, hlt, hc⟩
theorem SrcO.grown {g : Nat} {w w' : World} {a : Option Addr} {n : Nat} {F : Nat → Int} (h : SrcO g w a n F) (hg : w.grownBy w' (some g)) : SrcO g w' a n F := by
  refine h.imp id ?_
  rintro ⟨b, off, e, hne, hlt, hc⟩
  exact ⟨b, off, e, hne, Nat.lt_of_lt_of_le hlt hg.size, fun j hj => hg.cell (hc j hj) (fun e => by injection e with e; exact hne e)⟩
theorem SrcO.of {B g : Nat} {w : World} {v : Value} {n : Nat} {F : Nat → Int} (h : w.ownsRow B 3 1 v n (xsF F n)) (hB : g < B) : ∃ a cap, v = .slice a n cap ∧ n ≤ cap ∧ SrcO g w a n F := by
  by_cases hn : n = 0
  · obtain ⟨a, cap, hv, hc, _⟩ := src_of_owns2 h
    exact ⟨a, cap, hv, hc, .inl hn⟩
  · obtain ⟨g2, cap, hv, hg, ho⟩ := OwnV.of_owns h hn
    have hcap : n ≤ cap := by obtain ⟨_, _, h, _⟩ := ho; exact h
    exact ⟨_, cap, hv, hcap, .inr ⟨g2, 0, rfl, by omega, ho.lt, fun j hj => by rw [Nat.zero_add]; exact ho.cell hj⟩⟩
theorem Cur.below {g : Nat} {w w' : World} (h : Cur g w) (hb : Below w.heap.size w w') : Cur g w' :=
  h.other (row := none) ⟨hb.os, hb.tape, hb.output, hb.size, fun i hi _ => hb.block i hi⟩ (fun _ h => by cases h)
/-- The drawn list, in a row of the draw's own. -/
def ZPol (g : Nat) (w : World) (n : Nat) (e : Ending) (w' : World) : Prop := ∃ (l : List Int) (a : Option Addr) (cap : Nat), e = .returned (.slice a l.length cap) ∧ l.length ≤ n ∧ l.length ≤ cap ∧ SrcO g w' a l.length (lf l) ∧ Cur g w' ∧ w.grownBy w' (some g)
theorem ZPol.of {g : Nat} {w w' : World} {v : Value} {n : Nat} {l : List Int} (h : w'.ownsRow w.heap.size 3 1 v l.length (xsF (lf l) l.length)) (hB : g < w.heap.size) (hl : l.length ≤ n) (hc : Cur g w') (hg : w.grownBy w' (some g)) : ZPol g w n (.returned v) w' := by
  obtain ⟨a, cap, rfl, hcap, hs⟩ := SrcO.of h hB
  exact ⟨l, a, cap, rfl, hl, hcap, hs, hc, hg⟩
theorem lf_tabF (n : Nat) (F : Nat → Int) : xsF (lf (tab n F)) n = xsF F n := xsF_congr fun j hj => by rw [lf_tab, if_pos hj]
/-- The row, its last number written anew. -/
theorem owns_to_tab {w : World} {B n : Nat} {v : Value} {F : Nat → Int} (h : w.ownsRow B 3 1 v n (xsF F n)) : w.ownsRow B 3 1 v (tab n F).length (xsF (lf (tab n F)) (tab n F).length) := by
  rw [tab_len, lf_tabF]
  exact h
end Go.Proofs.YtfocdlkophdfoaaDoor
namespace Go.Proofs.YtfocdlkophdfoaaDoor
open Go.RowKit
theorem vok_iff {f : Int} {l : List Int} : mVectorOk f l = true ↔ VecOk f l := by unfold mVectorOk; simp
theorem vok_not {f : Int} {l : List Int} : mVectorOk f l = false ↔ ¬ VecOk f l := by unfold mVectorOk; simp
set_option maxHeartbeats 800000 in
theorem sVectorOk (f : Int) (a : Option Addr) (l : List Int) (cap : Nat) (w : World) (hn : l.length ≤ 1048576) (hs : Src w a l.length (lf l)) : Calls Tryd.prog 24 #[.int .i64 f, .slice a l.length cap] w (SameB w (mVectorOk f l)) := by
  have HL := Lib.hid (show mVectorOk f l = decide ((0 ≤ mLog l.length ∧ mLog l.length ≤ T f) ∧ ∀ j, j < l.length → 0 ≤ lf l j ∧ lf l j < P f) by unfold mVectorOk VecOk; congr)
  by_cases h0 : 0 ≤ mLog l.length
  · by_cases h1 : mLog l.length ≤ T f
    · have h08 : 0 ≤ f ∧ f ≤ 8 := by
        have := (hasK_iff f (mLog l.length)).2 ⟨h0, h1⟩
        exact this.1
      have HE := Lib.hid (elements_c f a l.length cap (lf l) w h08.1 h08.2 hn hs)
      have d0 : decide (0 ≤ mLog l.length) = true := decide_eq_true h0
      have d1 : decide (mLog l.length ≤ T f) = true := decide_eq_true h1
      have HB : Hid (∀ B, elemsB f l.length (lf l) B → mVectorOk f l = B) := Lib.hid fun B hB => by
        cases B
        · obtain ⟨k, hk, hbad⟩ := hB.2 rfl
          exact vok_not.2 fun h => by have := h.2 k hk; omega
        · exact vok_iff.2 ⟨⟨h0, h1⟩, hB.1 rfl⟩
      clear hs HL
      go_enter Tryd.func24, Tryd.ntmps24
      go_wp2_with fail
      refine (sLogOf l.length w).mono ?_
      rintro e w' ⟨rfl, rfl⟩
      go_wp2_with fail
      refine (sTwoPower f w).mono ?_
      rintro e w' ⟨rfl, rfl⟩
      go_wp2_with fail
      refine HE.out.mono ?_
      rintro e w' ⟨B, hB, rfl, rfl⟩
      have HB2 := Lib.hid (HB.out B hB)
      clear hB HE HB
      go_wp2
      go_ret
      exact ⟨by rw [HB2.out]; rfl, rfl⟩
    · have d0 : decide (0 ≤ mLog l.length) = true := decide_eq_true h0
      have d1 : decide (mLog l.length ≤ T f) = false := decide_eq_false h1
      have HB := Lib.hid (vok_not.2 fun h : VecOk f l => h1 h.1.2)
      clear hs HL
      go_enter Tryd.func24, Tryd.ntmps24
      go_wp2_with fail
      refine (sLogOf l.length w).mono ?_
      rintro e w' ⟨rfl, rfl⟩
      go_wp2_with fail
      refine (sTwoPower f w).mono ?_
      rintro e w' ⟨rfl, rfl⟩
      go_wp2
      go_ret
      exact ⟨by rw [HB.out]; rfl, rfl⟩
  · have d0 : decide (0 ≤ mLog l.length) = false := decide_eq_false h0
    have HB := Lib.hid (vok_not.2 fun h : VecOk f l => h0 h.1.1)
    clear hs HL
    go_enter Tryd.func24, Tryd.ntmps24
    go_wp2_with fail
    refine (sLogOf l.length w).mono ?_
    rintro e w' ⟨rfl, rfl⟩
    go_wp2
    go_ret
    exact ⟨by rw [HB.out]; rfl, rfl⟩
open Classical in
noncomputable def mTwo (f : Int) (a b : List Int) : Bool := decide (TwoOk f a b)
theorem two_iff {f : Int} {a b : List Int} : mTwo f a b = true ↔ TwoOk f a b := by unfold mTwo; simp
theorem two_not {f : Int} {a b : List Int} : mTwo f a b = false ↔ ¬ TwoOk f a b := by unfold mTwo; simp
theorem vec_some {w : World} {a : Option Addr} {n : Nat} {F : Nat → Int} (h : Src w a n F) (hn : 0 < n) : ∃ b off, a = some ⟨b, off, none⟩ ∧ b < w.heap.size ∧ ∀ j, j < n → w.cell? ⟨b, off + j, none⟩ = some (.int .i64 (F j)) := by
  rcases h with hz | h
  · omega
  · exact h
end Go.Proofs.YtfocdlkophdfoaaDoor
namespace Go.Proofs.YtfocdlkophdfoaaDoor
open Mth
/-- Within one level: the blocks below B done, and of block B the first j pairs. -/
def stDone (h B j t : Nat) : Prop := t < B * (2 * h) ∨ (t < B * (2 * h) + 2 * h ∧ t % (2 * h) % h < j)
instance (h B j t : Nat) : Decidable (stDone h B j t) := inferInstanceAs (Decidable (_ ∨ _))
end Go.Proofs.YtfocdlkophdfoaaDoor
namespace Go.Proofs.YtfocdlkophdfoaaDoor
open Mth
/-- 1, 0, 0, .. -/
def oneL (n : Nat) : List Int := tab n fun j => if j = 0 then 1 else 0
def OpenOk (f : Int) (l : List Int) : Prop := VecOk f l ∧ mLog l.length + 1 ≤ T f
def zL (f : Int) (l : List Int) : Int := mRoot f (mLog l.length + 1)
theorem OpenOk.has {f : Int} {l : List Int} (h : OpenOk f l) : hasK f (mLog l.length + 1) ∧ hasK f (mLog l.length) := by
  have h1 := h.1.1
  have h2 := h.2
  exact ⟨(hasK_iff _ _).2 ⟨by omega, h2⟩, (hasK_iff _ _).2 ⟨h1.1, h1.2⟩⟩
def okPart (f : Int) (l : List Int) (base count : Int) : Prop := VecOk f l ∧ (2 ≤ base ∧ base ≤ 65536) ∧ (1 ≤ count ∧ count ≤ 32) ∧ P f ≤ base ^ count.toNat
def digF8 (l : List Int) (base : Int) (d : Nat) : List Int := tab l.length fun i => lf l i / base ^ d % base
open Classical in
noncomputable def mDigitParts0 (f : Int) (l : List Int) (base count : Int) : List (List Int) := if okPart f l base count then (List.range count.toNat).map (digF8 l base) else []
open Classical in
noncomputable def mDigitParts1 (f : Int) (l : List Int) (base count : Int) : Bool := decide (okPart f l base count)
end Go.Proofs.YtfocdlkophdfoaaDoor
namespace Go.Proofs.YtfocdlkophdfoaaDoor
open Mth
theorem VecOk.pow2 {f : Int} {l : List Int} (h : VecOk f l) : ∃ k : Nat, l.length = 2 ^ k := by
  obtain ⟨k, _, hn, _, _⟩ := h.log
  exact ⟨k, hn⟩
theorem VecOk.one {f : Int} {l : List Int} (h : VecOk f l) : VecOk f (oneL l.length) := h.tab rfl _ fun _ _ => by
  have := P_bd h.f08.1 h.f08.2
  split <;> omega
theorem mod2 (a p : Int) : a % p % p = a % p := Int.emod_emod_of_dvd a (Int.dvd_refl p)
theorem OpenOk.to {f : Int} {l m : List Int} (h : OpenOk f l) (hm : VecOk f m) (hl : m.length = l.length) : OpenOk f m := ⟨hm, by rw [hl]; exact h.2⟩
end Go.Proofs.YtfocdlkophdfoaaDoor
namespace Go.Proofs.YtfocdlkophdfoaaDoor
open Mth
theorem pow_pos8 {b : Int} (hb : 2 ≤ b) (d : Nat) : 0 < b ^ d := Int.pow_pos (by omega)
theorem dig_step {b : Int} (hb : 2 ≤ b) (x : Int) (d : Nat) : x / b ^ d / b = x / b ^ (d + 1) := by
  rw [Int.pow_succ, Int.ediv_ediv_of_nonneg (by have := pow_pos8 hb d; omega)]
theorem dig_sum {b : Int} (hb : 2 ≤ b) (x : Int) : ∀ k : Nat, sumN (fun d => x / b ^ d % b * b ^ d) k = x % b ^ k
  | 0 => by rw [Int.pow_zero]; show (0 : Int) = x % 1; omega
  | k + 1 => by
    show sumN (fun d => x / b ^ d % b * b ^ d) k + x / b ^ k % b * b ^ k = _
    rw [dig_sum hb x k]
    have hp := pow_pos8 hb k
    have h1 := Int.emod_add_mul_ediv x (b ^ k)
    have h2 := Int.emod_add_mul_ediv (x / b ^ k) b
    have h3 := Int.emod_add_mul_ediv x (b ^ (k + 1))
    rw [dig_step hb] at h2
    have h4 : b ^ k * (x / b ^ k) = b ^ k * (x / b ^ k % b) + b ^ (k + 1) * (x / b ^ (k + 1)) := by
      conv => lhs; rw [← h2]
      rw [Int.mul_add, Int.pow_succ, Int.mul_assoc]
    rw [Int.mul_comm (x / b ^ k % b)]
    omega
/-- What is left behind d digits is nothing when the base's power is greater. -/
theorem dig_none {b x : Int} (hb : 2 ≤ b) (hx : 0 ≤ x) (k : Nat) : x / b ^ k = 0 ↔ x < b ^ k := by
  have hp := pow_pos8 hb k
  constructor
  · intro h
    have h1 := Int.emod_add_mul_ediv x (b ^ k)
    rw [h, Int.mul_zero] at h1
    have := Int.emod_lt_of_pos x hp
    omega
  · intro h
    exact Int.ediv_eq_zero_of_lt hx h
theorem digF8_len (l : List Int) (b : Int) (d : Nat) : (digF8 l b d).length = l.length := tab_len _ _
theorem lf_digF8 {l : List Int} {b : Int} {d i : Nat} (h : i < l.length) : lf (digF8 l b d) i = lf l i / b ^ d % b := by unfold digF8; rw [lf_tab, if_pos h]
def okJoin (f : Int) (ps : List (List Int)) (b : Int) : Prop := (2 ≤ b ∧ b ≤ 65536) ∧ (1 ≤ ps.length ∧ ps.length ≤ 32) ∧ ∀ d, d < ps.length → VecOk f (ps.getD d []) ∧ (ps.getD d []).length = (ps.getD 0 []).length
/-- What the parts from k on come to, at place i. -/
def joF (f : Int) (ps : List (List Int)) (b : Int) (i k : Nat) : Int := sumN (fun d => lf (ps.getD d []) i * b ^ d) k % P f
def joL (f : Int) (ps : List (List Int)) (b : Int) : List Int := tab (ps.getD 0 []).length fun i => joF f ps b i ps.length
open Classical in
noncomputable def mRejoin0 (f : Int) (ps : List (List Int)) (b : Int) : List Int := if okJoin f ps b then joL f ps b else []
open Classical in
noncomputable def mRejoin1 (f : Int) (ps : List (List Int)) (b : Int) : Bool := decide (okJoin f ps b)
/-- The same from the last part on: what the parts from k on come to, the base's power taken off. -/
def hoF (f : Int) (ps : List (List Int)) (b : Int) (i k : Nat) : Int := sumN (fun d => lf (ps.getD (k + d) []) i * b ^ d) (ps.length - k) % P f
theorem ho_end (f : Int) (ps : List (List Int)) (b : Int) (i : Nat) : hoF f ps b i ps.length = 0 := by
  unfold hoF
  rw [Nat.sub_self]
  exact Int.zero_emod _
theorem ho_start (f : Int) (ps : List (List Int)) (b : Int) (i : Nat) : hoF f ps b i 0 = joF f ps b i ps.length := by
  unfold hoF joF
  rw [Nat.sub_zero]
  congr 2
  funext d
  rw [Nat.zero_add]
theorem ho_step (f : Int) (ps : List (List Int)) (b : Int) (i : Nat) {k : Nat} (hk : k < ps.length) : RS (lf (ps.getD k []) i + RS b (P f) * hoF f ps b i (k + 1)) (P f) = hoF f ps b i k := by
  unfold hoF RS
  obtain ⟨m, hm⟩ : ∃ m, ps.length - k = m + 1 := ⟨ps.length - k - 1, by omega⟩
  rw [hm, show ps.length - (k + 1) = m by omega, sumN_first]
  refine emod_add_congr ?_ ?_
  · rw [Nat.add_zero, Int.pow_zero, Int.mul_one]
  · have e : sumN (fun d => lf (ps.getD (k + (d + 1)) []) i * b ^ (d + 1)) m = b * sumN (fun d => lf (ps.getD (k + 1 + d) []) i * b ^ d) m := by
      rw [← sumN_mul]
      refine sumN_congr fun d _ => ?_
      rw [show k + (d + 1) = k + 1 + d by omega, Int.pow_succ]
      simp only [Int.mul_assoc, Int.mul_comm]
    rw [e]
    exact emod_mul_congr (mod2 _ _) (mod2 _ _)
theorem part_get {l : List Int} {b : Int} {c d : Nat} (h : d < c) : (((List.range c).map (digF8 l b)).getD d []) = digF8 l b d := by
  rw [List.getD_eq_getElem?_getD, List.getElem?_map, List.getElem?_range h]; rfl
theorem parts_len (l : List Int) (b : Int) (c : Nat) : ((List.range c).map (digF8 l b)).length = c := by simp
/-- What FnParts asks: the digits, joined, are the vector. -/
theorem parts_back {f : Int} {l : List Int} {b c : Int} (h : okPart f l b c) : joL f ((List.range c.toNat).map (digF8 l b)) b = l := by
  obtain ⟨hv, hb, hc, hP⟩ := h
  unfold joL
  rw [parts_len, part_get (by omega), digF8_len]
  refine list_ext (tab_len _ _) fun i hi => ?_
  rw [tab_len] at hi
  rw [lf_tab, if_pos hi]
  unfold joF
  have e : sumN (fun d => lf (((List.range c.toNat).map (digF8 l b)).getD d []) i * b ^ d) c.toNat = lf l i := by
    rw [sumN_congr (g := fun d => lf l i / b ^ d % b * b ^ d) fun d hd => by rw [part_get hd, lf_digF8 hi], dig_sum hb.1]
    have := hv.lt i
    exact Int.emod_eq_of_lt this.1 (by omega)
  rw [e]
  have := hv.lt i
  exact Int.emod_eq_of_lt this.1 this.2
theorem digF8_bd {l : List Int} {b : Int} (hb : 2 ≤ b) (d i : Nat) : 0 ≤ lf (digF8 l b d) i ∧ lf (digF8 l b d) i < b := by
  by_cases h : i < l.length
  · rw [lf_digF8 h]
    exact ⟨Int.emod_nonneg _ (by omega), Int.emod_lt_of_pos _ (by omega)⟩
  · rw [lf_out _ (by rw [digF8_len]; omega)]; omega
end Go.Proofs.YtfocdlkophdfoaaDoor
namespace Go.Proofs.YtfocdlkophdfoaaDoor
open Go.RowKit
theorem OwnV.grown {g : Nat} {w w' : World} {g2 n cap : Nat} {F : Nat → Int} (h : OwnV w g2 n cap F) (hg : w.grownBy w' (some g)) (hne : g2 ≠ g) : OwnV w' g2 n cap F := by
  obtain ⟨V, h1, h2, h3⟩ := h
  have hlt := OwnV.lt ⟨V, h1, h2, h3⟩
  exact ⟨V, World.rowIs.of_block h1 (hg.block g2 hlt (fun e => by injection e with e; exact hne e)), h2, h3⟩
/-- A drawn list, whose row may still be written. -/
def ZVal (g : Nat) (w : World) (n : Nat) (v : Value) (w' : World) : Prop := ∃ l : List Int, l.length ≤ n ∧ (∃ B, g < B ∧ w.heap.size ≤ B ∧ w'.ownsRow B 3 1 v l.length (xsF (lf l) l.length)) ∧ Cur g w' ∧ w.grownBy w' (some g)
theorem ZVal.of {g : Nat} {w w' : World} {n : Nat} {v : Value} (hB : g < w.heap.size) (h : ZAt g w w' v n) : ZVal g w n v w' := by
  obtain ⟨⟨F, ho⟩, hc, hg, hs⟩ := h
  exact ⟨tab n F, by rw [tab_len]; exact Nat.le_refl _, ⟨w.heap.size, hB, Nat.le_refl _, owns_to_tab ho⟩, hc, hg⟩
theorem ZVal.grown {g : Nat} {w w1 w2 : World} {n : Nat} {v : Value} (h : ZVal g w n v w1) (hg : w1.grownBy w2 (some g)) (hc : Cur g w2) : ZVal g w n v w2 := by
  obtain ⟨l, hl, ⟨B, hB, hB2, ho⟩, _, hg1⟩ := h
  exact ⟨l, hl, ⟨B, hB, hB2, ho.kept hg (zown_ne hB ho)⟩, hc, hg1.trans hg⟩
theorem ZVal.pol {g : Nat} {w w1 : World} {n : Nat} {v : Value} (h : ZVal g w n v w1) : ZPol g w n (.returned v) w1 := by
  obtain ⟨l, hl, ⟨B, hB, hB2, ho⟩, hc, hg⟩ := h
  obtain ⟨a, cap, rfl, hcap, hs⟩ := SrcO.of ho hB
  exact ⟨l, a, cap, rfl, hl, hcap, hs, hc, hg⟩
/-- The value is a slice: empty, or a row that can be written. -/
theorem ZVal.cases {g : Nat} {w w1 : World} {n : Nat} {v : Value} (h : ZVal g w n v w1) : ∃ (l : List Int) (a : Option Addr) (cap : Nat), v = .slice a l.length cap ∧ l.length ≤ n ∧ (l.length = 0 ∨ ∃ g2, a = some ⟨g2, 0, none⟩ ∧ g2 ≠ g ∧ w.heap.size ≤ g2 ∧ OwnV w1 g2 l.length cap (lf l)) := by
  obtain ⟨l, hl, ⟨B, hB, hB2, ho⟩, hc, hg⟩ := h
  by_cases hz : l.length = 0
  · obtain ⟨a, cap, rfl, hcap, hs⟩ := SrcO.of ho hB
    exact ⟨l, a, cap, rfl, hl, .inl hz⟩
  · obtain ⟨g2, cap, rfl, hg2, ho2⟩ := OwnV.of_owns ho hz
    exact ⟨l, _, cap, rfl, hl, .inr ⟨g2, rfl, by omega, by omega, ho2⟩⟩
end Go.Proofs.YtfocdlkophdfoaaDoor
