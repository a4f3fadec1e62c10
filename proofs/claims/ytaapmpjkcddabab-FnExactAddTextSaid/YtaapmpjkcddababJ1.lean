/-
  Texts of the proofs of this seat, joined (part 1).
-/
import Derived.Test.YtaapmpjkcddababRows
import Derived.JoinedOf
import Derived.KernelRfl
import Derived.WalkKit
import Derived.WalkSpells
import Derived.WalkLawsBesides
import Derived.Lib.Hide
import Derived.Deep.QuietTactic
import Derived.BigQuiet
import Derived.Maps.AppendAt
import Derived.Deep.AppendLies
import Derived.OpenShut
import Derived.Deep.OwnRows
import Derived.Laws.CopyOwn
import Derived.StillTailTactics
import Derived.BigRegion
import Derived.Outline
import Derived.Deep.CutBlock
import Derived.Deep.CutRange
import Derived.Deep.RegionHeld3
import Derived.Laws.IdiomStrings
namespace Go.Proofs.Ytaapmpjkcddabab
set_option maxRecDepth 100000
theorem both {a b : Bool} (h : a = true) (k : b = true) : (a && b) = true := by rw [h, k]; rfl
theorem f_laidOut : laidOutB Try.prog = true := by kernel_rfl
theorem f_mapsRowed : mapsRowed Try.prog = true := by kernel_rfl
theorem f_stops : (Try.prog.stops == []) = true := by kernel_rfl
theorem f_knobs : (Try.prog.stopKnobs == []) = true := by kernel_rfl
theorem f_keys : (Rows.fnExactAddTextRow.plainKeys == Try.prog.plainKeys) = true := by kernel_rfl
theorem f_heard : Try.prog.stopsHeard = true := by kernel_rfl
def headSigns : List Char := [Char.ofNat 104, Char.ofNat 97, Char.ofNat 114, Char.ofNat 110, Char.ofNat 101, Char.ofNat 115, Char.ofNat 115, Char.ofNat 32, Char.ofNat 100, Char.ofNat 52, Char.ofNat 49, Char.ofNat 50, Char.ofNat 100, Char.ofNat 48, Char.ofNat 53, Char.ofNat 100, Char.ofNat 57, Char.ofNat 98, Char.ofNat 48, Char.ofNat 48, Char.ofNat 50, Char.ofNat 56, Char.ofNat 100, Char.ofNat 48, Char.ofNat 52, Char.ofNat 49, Char.ofNat 100, Char.ofNat 56, Char.ofNat 48, Char.ofNat 52, Char.ofNat 51, Char.ofNat 57, Char.ofNat 54, Char.ofNat 50, Char.ofNat 101, Char.ofNat 102, Char.ofNat 101, Char.ofNat 97, Char.ofNat 49, Char.ofNat 52, Char.ofNat 57, Char.ofNat 100, Char.ofNat 101, Char.ofNat 97, Char.ofNat 49, Char.ofNat 100, Char.ofNat 100, Char.ofNat 101, Char.ofNat 100, Char.ofNat 55, Char.ofNat 54, Char.ofNat 50, Char.ofNat 53, Char.ofNat 55, Char.ofNat 50, Char.ofNat 57, Char.ofNat 101, Char.ofNat 98, Char.ofNat 98, Char.ofNat 99, Char.ofNat 52, Char.ofNat 57, Char.ofNat 97, Char.ofNat 55, Char.ofNat 56, Char.ofNat 102, Char.ofNat 57, Char.ofNat 98, Char.ofNat 99, Char.ofNat 97, Char.ofNat 52, Char.ofNat 51, Char.ofNat 32, Char.ofNat 99, Char.ofNat 117, Char.ofNat 116, Char.ofNat 32, Char.ofNat 97, Char.ofNat 116, Char.ofNat 32, Char.ofNat 108, Char.ofNat 111, Char.ofNat 111, Char.ofNat 112, Char.ofNat 46, Char.ofNat 101, Char.ofNat 120, Char.ofNat 97, Char.ofNat 109, Char.ofNat 112, Char.ofNat 108, Char.ofNat 101, Char.ofNat 47, Char.ofNat 103, Char.ofNat 48, Char.ofNat 48, Char.ofNat 55, Char.ofNat 49, Char.ofNat 48, Char.ofNat 47, Char.ofNat 108, Char.ofNat 97, Char.ofNat 119, Char.ofNat 115, Char.ofNat 46, Char.ofNat 70, Char.ofNat 110, Char.ofNat 69, Char.ofNat 120, Char.ofNat 97, Char.ofNat 99, Char.ofNat 116, Char.ofNat 65, Char.ofNat 100, Char.ofNat 100, Char.ofNat 84, Char.ofNat 101, Char.ofNat 120, Char.ofNat 116]
theorem init_is : Try.prog.initOrder = String.ofList headSigns := by kernel_rfl
theorem init_list : Try.prog.initOrder.toList = headSigns := by rw [init_is]; exact String.toList_ofList
theorem ws_word (a : List Char) (h : ∀ c, c ∈ a → c ≠ Char.ofNat 32) (r : List Char) : wordsSigns (a ++ Char.ofNat 32 :: r) = a :: wordsSigns r := by
  induction a with
  | nil => rfl
  | cons c a ih =>
    have hc : c ≠ Char.ofNat 32 := h c List.mem_cons_self
    have ih' := ih (fun c hc => h c (List.mem_cons_of_mem _ hc))
    show wordsSigns (c :: (a ++ Char.ofNat 32 :: r)) = (c :: a) :: wordsSigns r
    generalize wordsSigns r = t at *
    rw [wordsSigns, ih']
    intro e; exact hc e
def headA : List Char := headSigns.take 7
def headB : List Char := (headSigns.drop 8).take 64
def headC : List Char := (headSigns.drop 73).take 3
def headRest : List Char := headSigns.drop 77
theorem head_split : headSigns = headA ++ Char.ofNat 32 :: (headB ++ Char.ofNat 32 :: (headC ++ Char.ofNat 32 :: headRest)) := by kernel_rfl
theorem head_words : wordsSigns Try.prog.initOrder.toList = headA :: headB :: headC :: wordsSigns headRest := by
  rw [init_list, head_split, ws_word _ (by decide +kernel), ws_word _ (by decide +kernel), ws_word _ (by decide +kernel)]
theorem sum_is : "d412d05d9b0028d041d8043962efea149dea1dded7625729ebbc49a78f9bca43" = String.ofList headB := by kernel_rfl
theorem sum_list : "d412d05d9b0028d041d8043962efea149dea1dded7625729ebbc49a78f9bca43".toList = headB := by rw [sum_is]; exact String.toList_ofList
theorem behind_of (R : List (List Char)) : behindMainWord (headA :: headB :: headC :: R) = headC :: R := by kernel_rfl
theorem strip_of (R : List (List Char)) : stripLifts liftWords (headC :: R) = ([], headC :: R) := by kernel_rfl
section
variable {P : Program} {R : List (List Char)} (hw : wordsSigns P.initOrder.toList = headA :: headB :: headC :: R)
include hw
theorem main_gen : P.mainIs = some (true, headB) := by
  unfold Program.mainIs
  rw [hw]
  kernel_rfl
theorem lifts_gen : P.headLifts = [] := by
  unfold Program.headLifts
  rw [hw, behind_of, strip_of]
  kernel_rfl
theorem final_gen : P.liftsFinal = false := by
  unfold Program.liftsFinal
  rw [lifts_gen hw, hw, behind_of]
  kernel_rfl
theorem make_gen : P.make = some .cut := by
  unfold Program.make
  rw [lifts_gen hw, hw, behind_of]
  kernel_rfl
theorem enter_gen (hl : P.laysLater = false) (hr : P.bearsReflect = false) (hd : P.doorFits [] = true) : P.mayEnter = true := by
  unfold Program.mayEnter
  rw [hw, behind_of]
  dsimp only
  rw [strip_of, hl, hr]
  dsimp only
  rw [hd]
  kernel_rfl
end
theorem f_lays : Try.prog.laysLater = false := by kernel_rfl
theorem f_refl : Try.prog.bearsReflect = false := by kernel_rfl
theorem f_door : Try.prog.doorFits [] = true := by kernel_rfl
theorem f_enter : Try.prog.mayEnter = true := enter_gen head_words f_lays f_refl f_door
theorem f_lifts : (Rows.fnExactAddTextRow.lifted == Try.prog.liftsFinal) = true := by
  rw [final_gen head_words]
  kernel_rfl
theorem f_make : (Try.prog.make == some Rows.fnExactAddTextRow.make) = true := by
  rw [make_gen head_words]
  kernel_rfl
end Go.Proofs.Ytaapmpjkcddabab
namespace Go.Proofs.Ytaapmpjkcddabab
namespace Mth

theorem mulm {a b c d p : Nat} (h1 : a % p = c % p) (h2 : b % p = d % p) : (a * b) % p = (c * d) % p := by
  rw [Nat.mul_mod, h1, h2, ← Nat.mul_mod]
theorem powm {a c p : Nat} (k : Nat) (h1 : a % p = c % p) : a ^ k % p = c ^ k % p := by
  rw [Nat.pow_mod, h1, ← Nat.pow_mod]
theorem pow_one_mod {a p : Nat} (k : Nat) (hp : 1 < p) (h : a % p = 1) : a ^ k % p = 1 := by
  have := powm (c := 1) k (show a % p = 1 % p by rw [h, Nat.mod_eq_of_lt hp])
  rw [this, Nat.one_pow, Nat.mod_eq_of_lt hp]

theorem pow_gcd {g p : Nat} (hp : 1 < p) (a b : Nat) (ha : g ^ a % p = 1) (hb : g ^ b % p = 1) : g ^ (Nat.gcd a b) % p = 1 := by
  induction a, b using Nat.gcd.induction with
  | H0 n => simpa using hb
  | H1 m n hm ih =>
    rw [Nat.gcd_rec]
    refine ih ?_ ha
    have e : g ^ n % p = (g ^ (n % m)) % p := by
      conv => lhs; rw [← Nat.div_add_mod n m, Nat.pow_add, Nat.pow_mul]
      rw [Nat.mul_mod, pow_one_mod (n / m) hp ha, Nat.one_mul, Nat.mod_mod]
    rw [← e]; exact hb

def prod (l : List Nat) : Nat := l.foldr (· * ·) 1
def Pr (q : Nat) : Prop := 1 < q ∧ ∀ d, d ≤ q → d ∣ q → d = 1 ∨ d = q
instance (q : Nat) : Decidable (Pr q) := inferInstanceAs (Decidable (1 < q ∧ ∀ d, d ≤ q → d ∣ q → d = 1 ∨ d = q))
theorem Pr.coprime {q c : Nat} (h : Pr q) (hc : ¬ q ∣ c) : Nat.Coprime q c := by
  have hd : Nat.gcd q c ∣ q := Nat.gcd_dvd_left q c
  have hle : Nat.gcd q c ≤ q := Nat.le_of_dvd (by have := h.1; omega) hd
  rcases h.2 _ hle hd with h1 | h1
  · exact h1
  · exact absurd (h1 ▸ Nat.gcd_dvd_right q c) hc
theorem prime_in (l : List Nat) (hl : ∀ q, q ∈ l → Pr q) (c : Nat) (hc : c ∣ prod l) (h1 : c ≠ 1) : ∃ q, q ∈ l ∧ q ∣ c := by
  induction l with
  | nil => exact absurd (Nat.dvd_one.1 hc) h1
  | cons q l ih =>
    by_cases hq : q ∣ c
    · exact ⟨q, List.mem_cons_self, hq⟩
    · have hco := (hl q List.mem_cons_self).coprime hq
      have : c ∣ prod l := Nat.Coprime.dvd_of_dvd_mul_left hco.symm hc
      obtain ⟨r, hr, hrc⟩ := ih (fun q h => hl q (List.mem_cons_of_mem _ h)) this
      exact ⟨r, List.mem_cons_of_mem _ hr, hrc⟩

theorem surj (n : Nat) : ∀ (f : Nat → Nat), (∀ i, i < n → f i < n) → (∀ i j, i < n → j < n → f i = f j → i = j) → ∀ y, y < n → ∃ i, i < n ∧ f i = y := by
  induction n with
  | zero => intro f _ _ y hy; omega
  | succ n ih =>
    intro f hf inj y hy
    let h := fun i => if f i = n then f n else f i
    have hh : ∀ i, i < n → h i < n := by
      intro i hi
      show (if f i = n then f n else f i) < n
      have a := hf i (by omega); have b := hf n (by omega)
      split
      · rename_i e
        have : f n ≠ n := fun e2 => by have := inj i n (by omega) (by omega) (e.trans e2.symm); omega
        omega
      · omega
    have hi : ∀ i j, i < n → j < n → h i = h j → i = j := by
      intro i j hi hj e
      have e' : (if f i = n then f n else f i) = (if f j = n then f n else f j) := e
      split at e' <;> split at e'
      · rename_i a b; exact inj i j (by omega) (by omega) (a.trans b.symm)
      · have := inj n j (by omega) (by omega) e'; omega
      · have := inj i n (by omega) (by omega) e'; omega
      · exact inj i j (by omega) (by omega) e'
    have ihs := ih h hh hi
    by_cases hy2 : y < n
    · obtain ⟨i, hi2, e⟩ := ihs y hy2
      have e' : (if f i = n then f n else f i) = y := e
      split at e'
      · exact ⟨n, by omega, e'⟩
      · exact ⟨i, by omega, e'⟩
    · have hyn : y = n := by omega
      subst hyn
      by_cases hex : ∃ i, i < y + 1 ∧ f i = y
      · exact hex
      · exfalso
        have hne : ∀ i, i < y + 1 → f i ≠ y := fun i hi e => hex ⟨i, hi, e⟩
        have hlt : f y < y := by have := hf y (by omega); have := hne y (by omega); omega
        obtain ⟨i, hi2, e⟩ := ihs (f y) hlt
        have e' : (if f i = y then f y else f i) = f y := e
        rw [if_neg (hne i (by omega))] at e'
        have := inj i y (by omega) (by omega) e'; omega

/-- A field: p and a number of order p - 1. -/
structure Fld (p g : Nat) : Prop where
  two : 2 < p
  one : g ^ (p - 1) % p = 1
  ord : ∀ m, g ^ m % p = 1 → (p - 1) ∣ m

theorem Fld.make {p g : Nat} (l : List Nat) (two : 2 < p) (one : g ^ (p - 1) % p = 1) (hl : ∀ q, q ∈ l → Pr q) (hp : prod l = p - 1) (hq : ∀ q, q ∈ l → g ^ ((p - 1) / q) % p ≠ 1) : Fld p g := by
  refine ⟨two, one, fun m hm => ?_⟩
  have he := pow_gcd (by omega) m (p - 1) hm one
  have hd : Nat.gcd m (p - 1) ∣ p - 1 := Nat.gcd_dvd_right _ _
  by_cases hc : (p - 1) / Nat.gcd m (p - 1) = 1
  · have : p - 1 = Nat.gcd m (p - 1) := by have := Nat.div_mul_cancel hd; rw [hc] at this; omega
    rw [this]; exact Nat.gcd_dvd_left _ _
  · exfalso
    obtain ⟨q, hql, hqc⟩ := prime_in l hl _ (by rw [hp]; exact Nat.div_dvd_of_dvd hd) hc
    apply hq q hql
    obtain ⟨k, hk⟩ := hqc
    have h2 : p - 1 = q * (k * Nat.gcd m (p - 1)) := by
      rw [← Nat.mul_assoc, ← hk]; exact (Nat.div_mul_cancel hd).symm
    have hq0 : 0 < q := by have := (hl q hql).1; omega
    have h3 : (p - 1) / q = k * Nat.gcd m (p - 1) := Nat.div_eq_of_eq_mul_right hq0 h2
    rw [h3, Nat.mul_comm, Nat.pow_mul]
    exact pow_one_mod k (by omega) he

variable {p g : Nat}
theorem Fld.nz (h : Fld p g) (i : Nat) : g ^ i % p ≠ 0 := by
  intro e
  have h1 : (g ^ i * g ^ (i * (p - 2))) % p = 1 := by
    rw [← Nat.pow_add, show i + i * (p - 2) = (p - 1) * i by
      have := h.two
      obtain ⟨k, rfl⟩ : ∃ k, p = k + 3 := ⟨p - 3, by omega⟩
      show i + i * (k + 1) = (k + 2) * i
      rw [Nat.mul_comm (k + 2) i, Nat.mul_add, Nat.mul_add]; omega, Nat.pow_mul]
    exact pow_one_mod i (by have := h.two; omega) h.one
  rw [Nat.mul_mod, e, Nat.zero_mul, Nat.zero_mod] at h1
  omega
theorem Fld.inj (h : Fld p g) {i j : Nat} (hi : i < p - 1) (hj : j < p - 1) (e : g ^ i % p = g ^ j % p) : i = j := by
  have key : ∀ i j, i < p - 1 → j < p - 1 → g ^ i % p = g ^ j % p → i ≤ j → i = j := by
    intro i j hi hj e hle
    have h2 : (g ^ j * g ^ (p - 1 - i)) % p = 1 := by
      rw [← mulm (c := g ^ j) (d := g ^ (p - 1 - i)) e rfl, ← Nat.pow_add, show i + (p - 1 - i) = p - 1 by omega]
      exact h.one
    rw [← Nat.pow_add] at h2
    have h3 := h.ord _ h2
    rw [show j + (p - 1 - i) = (j - i) + (p - 1) by omega] at h3
    have h4 : p - 1 ∣ j - i := (Nat.dvd_add_left (Nat.dvd_refl _)).1 h3
    have := Nat.eq_zero_of_dvd_of_lt h4 (by omega)
    omega
  rcases Nat.le_total i j with hl | hl
  · exact key i j hi hj e hl
  · exact (key j i hj hi e.symm hl).symm
theorem Fld.log (h : Fld p g) {x : Nat} (h0 : 0 < x) (h1 : x < p) : ∃ i, g ^ i % p = x := by
  have hp := h.two
  obtain ⟨i, _, e⟩ := surj (p - 1) (fun i => g ^ i % p - 1)
    (fun i _ => by have := Nat.mod_lt (g ^ i) (show 0 < p by omega); show _ - 1 < _; omega)
    (fun i j hi hj e => h.inj hi hj (by
      have a := h.nz i; have b := h.nz j
      have e' : g ^ i % p - 1 = g ^ j % p - 1 := e
      omega)) (x - 1) (by omega)
  have e' : g ^ i % p - 1 = x - 1 := e
  have := h.nz i
  exact ⟨i, by omega⟩
theorem Fld.fermat (h : Fld p g) {x : Nat} (hx : x % p ≠ 0) : x ^ (p - 1) % p = 1 := by
  have hp := h.two
  obtain ⟨i, e⟩ := h.log (x := x % p) (by omega) (Nat.mod_lt _ (by omega))
  have e2 : x % p = g ^ i % p := e.symm
  rw [powm (p - 1) e2, ← Nat.pow_mul, Nat.mul_comm, Nat.pow_mul]
  exact pow_one_mod i (by omega) h.one
theorem Fld.mul_nz (h : Fld p g) {x y : Nat} (hx : x % p ≠ 0) (hy : y % p ≠ 0) : (x * y) % p ≠ 0 := by
  have hp := h.two
  obtain ⟨i, e⟩ := h.log (x := x % p) (by omega) (Nat.mod_lt _ (by omega))
  obtain ⟨j, e2⟩ := h.log (x := y % p) (by omega) (Nat.mod_lt _ (by omega))
  rw [mulm e.symm e2.symm, ← Nat.pow_add]
  exact h.nz _
/-- Exponents count modulo p - 1. -/
theorem Fld.pow_mod (h : Fld p g) {x : Nat} (k : Nat) (hx : x % p ≠ 0) : x ^ (k % (p - 1)) % p = x ^ k % p := by
  have hp := h.two
  conv => rhs; rw [← Nat.div_add_mod k (p - 1), Nat.pow_add, Nat.pow_mul]
  rw [Nat.mul_mod, pow_one_mod (k / (p - 1)) (by omega) (h.fermat hx), Nat.one_mul, Nat.mod_mod]
theorem Fld.roots (h : Fld p g) {s r : Nat} (hs : s < p) (hr : r < p) (e : (s * s) % p = (r * r) % p) : s = r ∨ s + r = p := by
  have hp := h.two
  have key : ∀ s r, s < p → r < s → (s * s) % p = (r * r) % p → s + r = p := by
    intro s r hs hr e
    by_cases hz : (s + r) % p = 0
    · obtain ⟨k, hk⟩ := Nat.dvd_of_mod_eq_zero hz
      have : k = 1 := by
        rcases k with _ | _ | k
        · omega
        · rfl
        · have := Nat.mul_le_mul_left p (show 2 ≤ k + 1 + 1 by omega); omega
      subst this; omega
    · exfalso
      apply h.mul_nz (x := s - r) (y := s + r) (by rw [Nat.mod_eq_of_lt (by omega)]; omega) hz
      obtain ⟨d, rfl⟩ : ∃ d, s = r + d := ⟨s - r, by omega⟩
      rw [Nat.add_sub_cancel_left]
      have e1 : (r + d) * (r + d) = r * r + d * (r + d + r) := by simp [Nat.mul_add, Nat.mul_comm]; omega
      rw [e1] at e
      have h2 := Nat.sub_mod_eq_zero_of_mod_eq e
      rw [Nat.add_sub_cancel_left] at h2
      exact h2
  rcases Nat.lt_trichotomy s r with hl | hl | hl
  · right; have := key r s hr hl e.symm; omega
  · left; exact hl
  · right; exact key s r hs hl e
theorem Fld.sqrt1 (h : Fld p g) {y : Nat} (e : (y * y) % p = 1) : y % p = 1 ∨ y % p = p - 1 := by
  have hp := h.two
  have := h.roots (s := y % p) (r := 1) (Nat.mod_lt _ (by omega)) (by omega) (by rw [← Nat.mul_mod, e, Nat.one_mul, Nat.mod_eq_of_lt (by omega)])
  omega
theorem Fld.order (h : Fld p g) {x : Nat} (hx : x % p ≠ 0) : ∃ o, 0 < o ∧ o ∣ p - 1 ∧ ∀ m, x ^ m % p = 1 ↔ o ∣ m := by
  have hp := h.two
  obtain ⟨i, e⟩ := h.log (x := x % p) (by omega) (Nat.mod_lt _ (by omega))
  have hg0 : 0 < Nat.gcd i (p - 1) := Nat.gcd_pos_of_pos_right _ (by omega)
  have hgd := Nat.gcd_dvd_right i (p - 1)
  have hgi := Nat.gcd_dvd_left i (p - 1)
  refine ⟨(p - 1) / Nat.gcd i (p - 1), Nat.div_pos (Nat.le_of_dvd (by omega) hgd) hg0, Nat.div_dvd_of_dvd hgd, fun m => ?_⟩
  have e2 : x ^ m % p = g ^ (i * m) % p := by rw [powm m e.symm, Nat.pow_mul]
  rw [e2]
  constructor
  · intro h1
    have h2 := h.ord _ h1
    have hco : Nat.Coprime ((p - 1) / Nat.gcd i (p - 1)) (i / Nat.gcd i (p - 1)) := by
      have := Nat.coprime_div_gcd_div_gcd hg0; exact this.symm
    apply hco.dvd_of_dvd_mul_left
    apply Nat.dvd_of_mul_dvd_mul_left hg0
    rw [← Nat.mul_assoc, Nat.mul_div_cancel' hgd, Nat.mul_div_cancel' hgi]
    exact h2
  · rintro ⟨c, rfl⟩
    have : p - 1 ∣ i * ((p - 1) / Nat.gcd i (p - 1) * c) := by
      obtain ⟨a, ha⟩ := hgi
      have gen : ∀ d a n, d ∣ n → d * a * (n / d * c) = n * (a * c) := fun d a n hd => by
        rw [show d * a * (n / d * c) = (d * (n / d)) * (a * c) by simp only [Nat.mul_assoc, Nat.mul_left_comm], Nat.mul_div_cancel' hd]
      exact ⟨a * c, (congrArg (· * ((p - 1) / Nat.gcd i (p - 1) * c)) ha).trans (gen _ a _ hgd)⟩
    obtain ⟨c', hc'⟩ := this
    rw [hc', Nat.pow_mul]
    exact pow_one_mod c' (by omega) h.one
/-- Fast powers, to be reckoned by the kernel. -/
def fpow (p : Nat) : Nat → Nat → Nat → Nat → Nat
  | 0, _, _, r => r
  | n + 1, x, e, r => fpow p n (x * x % p) (e / 2) (if e % 2 = 1 then r * x % p else r)
theorem half_even {p r x e y : Nat} (h : e % 2 = 0) (hy : y % p = x * x % p) : (r * y ^ (e / 2)) % p = (r * x ^ e) % p := by
  refine mulm rfl ?_
  conv => rhs; rw [← Nat.div_add_mod e 2, h, Nat.add_zero, Nat.pow_mul, Nat.pow_two]
  exact powm _ hy
theorem half_odd {p r x e y s : Nat} (h : e % 2 = 1) (hy : y % p = x * x % p) (hs : s % p = r * x % p) : (s * y ^ (e / 2)) % p = (r * x ^ e) % p := by
  conv => rhs; rw [← Nat.div_add_mod e 2, h, Nat.pow_succ, Nat.pow_mul, Nat.pow_two, Nat.mul_comm ((x * x) ^ (e / 2)) x, ← Nat.mul_assoc]
  exact mulm hs (powm _ hy)
theorem fpow_eq (p : Nat) : ∀ n x e r, e < 2 ^ n → fpow p n x e r % p = (r * x ^ e) % p := by
  intro n
  induction n with
  | zero => intro x e r h; have : e = 0 := by simpa using h
            subst this; simp [fpow]
  | succ n ih =>
    intro x e r h
    show fpow p n (x * x % p) (e / 2) (if e % 2 = 1 then r * x % p else r) % p = _
    rw [ih _ _ _ (by rw [Nat.pow_succ] at h; omega)]
    split
    · rename_i h1; exact half_odd h1 (by simp) (by simp)
    · exact half_even (by omega) (by simp)
theorem fpow_one {p x e n : Nat} (h : e < 2 ^ n) : fpow p n x e 1 % p = x ^ e % p := by rw [fpow_eq p n x e 1 h, Nat.one_mul]

def pN : Nat → Nat
  | 0 => 17 | 1 => 97 | 2 => 193 | 3 => 257 | 4 => 7681 | 5 => 12289 | 6 => 998244353 | 7 => 469762049 | 8 => 1004535809 | _ => 0
def gN : Nat → Nat
  | 0 => 3 | 1 => 5 | 2 => 5 | 3 => 3 | 4 => 17 | 5 => 11 | 6 => 3 | 7 => 3 | 8 => 3 | _ => 0
def tN : Nat → Nat
  | 0 => 4 | 1 => 5 | 2 => 6 | 3 => 8 | 4 => 9 | 5 => 12 | 6 => 23 | 7 => 26 | 8 => 21 | _ => 0
def oN : Nat → List Nat
  | 0 => [] | 1 => [3] | 2 => [3] | 3 => [] | 4 => [3, 5] | 5 => [3] | 6 => [7, 17] | 7 => [7] | 8 => [479] | _ => []
def facs (f : Nat) : List Nat := List.replicate (tN f) 2 ++ oN f
theorem pr_small : Pr 2 ∧ Pr 3 ∧ Pr 5 ∧ Pr 7 ∧ Pr 17 ∧ Pr 479 := by decide +kernel
theorem facs_pr (f : Nat) : ∀ q, q ∈ facs f → Pr q := by
  obtain ⟨h2, h3, h5, h7, h17, h479⟩ := pr_small
  intro q hq
  rcases List.mem_append.1 hq with h | h
  · have := List.eq_of_mem_replicate h; subst this; exact h2
  · unfold oN at h
    split at h <;> simp at h
    all_goals (first | (subst h; assumption) | (rcases h with rfl | rfl <;> assumption))
theorem facs_prod (f : Nat) (hf : f < 9) : prod (facs f) = pN f - 1 := by
  have : ∀ f, f < 9 → prod (facs f) = pN f - 1 := by decide +kernel
  exact this f hf
theorem fld_facts : ∀ f, f < 9 → (2 < pN f ∧ fpow (pN f) 30 (gN f) (pN f - 1) 1 % pN f = 1 ∧ (∀ q, q ∈ facs f → fpow (pN f) 30 (gN f) ((pN f - 1) / q) 1 % pN f ≠ 1) ∧ pN f - 1 < 2 ^ 30) := by decide +kernel
theorem fld (f : Nat) (hf : f < 9) : Fld (pN f) (gN f) := by
  obtain ⟨h2, h1, hq, hb⟩ := fld_facts f hf
  refine Fld.make (facs f) h2 ?_ (facs_pr f) (facs_prod f hf) ?_
  · rw [fpow_one hb] at h1; exact h1
  · intro q hql
    have := hq q hql
    rw [fpow_one (Nat.lt_of_le_of_lt (Nat.div_le_self _ _) hb)] at this
    exact this
end Mth
end Go.Proofs.Ytaapmpjkcddabab
namespace Go.Proofs.Ytaapmpjkcddabab
open Mth

def P (f : Int) : Int := if 0 ≤ f then (pN f.toNat : Int) else 0
def G (f : Int) : Int := if 0 ≤ f then (gN f.toNat : Int) else 0
def T (f : Int) : Int := if 0 ≤ f ∧ f ≤ 8 then (tN f.toNat : Int) else -1
theorem nine {f : Int} (h0 : 0 ≤ f) (h8 : f ≤ 8) : f = 0 ∨ f = 1 ∨ f = 2 ∨ f = 3 ∨ f = 4 ∨ f = 5 ∨ f = 6 ∨ f = 7 ∨ f = 8 := by omega
theorem P_bd {f : Int} (h0 : 0 ≤ f) (h8 : f ≤ 8) : 17 ≤ P f ∧ P f ≤ 1004535809 := by
  rcases nine h0 h8 with rfl | rfl | rfl | rfl | rfl | rfl | rfl | rfl | rfl <;> decide
theorem P_nat {f : Int} (h0 : 0 ≤ f) : P f = (pN f.toNat : Int) := by unfold P; rw [if_pos h0]
theorem P_toNat {f : Int} (h0 : 0 ≤ f) : (P f).toNat = pN f.toNat := by rw [P_nat h0]; rfl
theorem T_off {f : Int} (h : f < 0 ∨ 8 < f) : T f = -1 := by
  unfold T; rw [if_neg (by omega)]

/-- The remainder that is not negative. -/
def RS (x m : Int) : Int := x % m
theorem RS_bd {x m : Int} (h : 0 < m) : 0 ≤ RS x m ∧ RS x m < m := ⟨Int.emod_nonneg _ (by omega), Int.emod_lt_of_pos _ h⟩
/-- Powers: x^e as an element. -/
def PW (m x e : Int) : Int := ((x.toNat ^ e.toNat % m.toNat : Nat) : Int)
theorem PW_bd {m x e : Int} (h : 0 < m) : 0 ≤ PW m x e ∧ PW m x e < m := by
  unfold PW
  have := Nat.mod_lt (x.toNat ^ e.toNat) (show 0 < m.toNat by omega)
  omega
theorem toNat_RS {m : Int} (hm : 0 < m) {a b : Int} (ha : 0 ≤ a) (hb : 0 ≤ b) : (RS (a * b) m).toNat = a.toNat * b.toNat % m.toNat := by
  obtain ⟨a, rfl⟩ := Int.eq_ofNat_of_zero_le ha
  obtain ⟨b, rfl⟩ := Int.eq_ofNat_of_zero_le hb
  obtain ⟨m, rfl⟩ := Int.eq_ofNat_of_zero_le (Int.le_of_lt hm)
  unfold RS
  rw [← Int.natCast_mul, ← Int.natCast_emod]; rfl
def pow0 (e : Int) : Int := if e < 0 then -1 else if e = 0 then 1 else 0
def mPower (f a e : Int) : Int := if 0 ≤ f ∧ f ≤ 8 then (if RS a (P f) = 0 then pow0 e else PW (P f) (RS a (P f)) (RS e (P f - 1))) else -1
end Go.Proofs.Ytaapmpjkcddabab
namespace Go.Proofs.Ytaapmpjkcddabab
open Go.RowKit

/-- The world holds the table of fields. -/
def Tab (w : World) : Prop := ∀ n : Int, 0 ≤ n → n ≤ 8 →
  w.cell? ⟨0, n.toNat * 3, none⟩ = some (.int .i64 (P n)) ∧ w.cell? ⟨0, n.toNat * 3 + 1, none⟩ = some (.int .i64 (G n)) ∧ w.cell? ⟨0, n.toNat * 3 + 2, none⟩ = some (.int .i64 (T n))
theorem Tab.keep {w w' : World} (h : Tab w) (hk : ∀ o, w'.cell? ⟨0, o, none⟩ = w.cell? ⟨0, o, none⟩) : Tab w' := by
  intro n h0 h8
  rw [hk, hk, hk]; exact h n h0 h8

end Go.Proofs.Ytaapmpjkcddabab
namespace Go.Proofs.Ytaapmpjkcddabab
open Go.RowKit
/-- The bytes that a cursor reads, apart from its own block. -/
def Bytes (w : World) (g : Nat) (a : Option Addr) (len : Nat) : Prop :=
  len ≤ 1099511627776 ∧ (len = 0 ∨ ∃ b off, a = some ⟨b, off, none⟩ ∧ b < g ∧ b < w.heap.size ∧ ∀ j, j < len → ∃ n : Int, 0 ≤ n ∧ n < 256 ∧ w.cell? ⟨b, off + j, none⟩ = some (.int .u8 n))
def CurAt (g : Nat) (w : World) (a : Option Addr) (len cap : Nat) (i h : Int) : Prop :=
  w.cell? ⟨g, 0, none⟩ = some (.slice a len cap) ∧ w.cell? ⟨g, 1, none⟩ = some (.int .i64 i) ∧ w.cell? ⟨g, 2, none⟩ = some (.int .i64 h) ∧
  w.frozen? ⟨g, 1, none⟩ = false ∧ w.frozen? ⟨g, 2, none⟩ = false ∧ 0 ≤ i ∧ i ≤ len ∧ g < w.heap.size ∧ Bytes w g a len
def Cur (g : Nat) (w : World) : Prop := ∃ a len cap i h, CurAt g w a len cap i h
theorem Bytes.keep {w w' : World} {g : Nat} {a : Option Addr} {len : Nat} (h : Bytes w g a len) (hg : w.grownBy w' (some g)) : Bytes w' g a len := by
  refine ⟨h.1, h.2.imp id ?_⟩
  rintro ⟨b, off, e, hne, hlt, hb⟩
  refine ⟨b, off, e, hne, Nat.lt_of_lt_of_le hlt hg.size, fun j hj => ?_⟩
  obtain ⟨n, n0, n1, hc⟩ := hb j hj
  exact ⟨n, n0, n1, hg.cell hc (fun e => by injection e with e; have e : b = g := e; omega)⟩
theorem grown_set {w w' : World} {g : Nat} (h : w.grownBy w' (some g)) (o : Nat) (v : Value) : w.grownBy (w'.setCell ⟨g, o, none⟩ v) (some g) :=
  ⟨h.os, h.tape, h.output, by simpa [World.setCell] using h.size, fun i hi hne => (Below.heap_setCell w' _ v i (fun e => hne (by rw [e]))).trans (h.block i hi hne)⟩
end Go.Proofs.Ytaapmpjkcddabab
namespace Go.Proofs.Ytaapmpjkcddabab
open Go.RowKit
theorem Cur.alloc {g : Nat} {w : World} (h : Cur g w) (o : Obj) : Cur g (w.alloc o) := by
  obtain ⟨a, len, cap, i, hh, h0, h1, h2, f1, f2, i0, i1, hgs, hby⟩ := h
  have hg := World.grownBy_alloc w o none
  have c : ∀ k v, w.cell? ⟨g, k, none⟩ = some v → (w.alloc o).cell? ⟨g, k, none⟩ = some v := fun k v hv => hg.cell hv (by simp)
  have fz : ∀ k, (w.alloc o).frozen? ⟨g, k, none⟩ = w.frozen? ⟨g, k, none⟩ := fun k => hg.frozen_far ⟨g, k, none⟩ hgs (by simp)
  exact ⟨a, len, cap, i, hh, c _ _ h0, c _ _ h1, c _ _ h2, (fz _).trans f1, (fz _).trans f2, i0, i1, Nat.lt_of_lt_of_le hgs hg.size, hby.keep (World.grownBy_alloc w o (some g))⟩
theorem Cur.lt {g : Nat} {w : World} (h : Cur g w) : g < w.heap.size := by
  obtain ⟨a, len, cap, i, hh, h0, h1, h2, f1, f2, i0, i1, hgs, hby⟩ := h
  exact hgs
end Go.Proofs.Ytaapmpjkcddabab
namespace Go.Proofs.Ytaapmpjkcddabab
open Go.RowKit
theorem vint {k : IntKind} {a b : Int} (h : a = b) : Value.int k a = .int k b := by rw [h]
end Go.Proofs.Ytaapmpjkcddabab
namespace Go.Proofs.Ytaapmpjkcddabab
open Go.RowKit
/-- A slice value whose bytes can be read. -/
def Code (w : World) (a : Option Addr) (len : Nat) : Prop := Bytes w w.heap.size a len
theorem Code.keep {w w' : World} {a : Option Addr} {len : Nat} (h : Code w a len) (hb : Below w.heap.size w w') : Code w' a len := by
  refine ⟨h.1, h.2.imp id ?_⟩
  rintro ⟨b, off, e, hne, hlt, hbb⟩
  have hs := hb.size
  refine ⟨b, off, e, by omega, by omega, fun j hj => ?_⟩
  obtain ⟨n, n0, n1, hcell⟩ := hbb j hj
  exact ⟨n, n0, n1, (hb.cell (p := ⟨b, off + j, none⟩) hlt).trans hcell⟩
theorem info5 : (Try.prog.info? 5).map (fun i => (i.zero, i.size, i.bytes)) = some (some (.int .u8 0), 1, 1) := by kernel_rfl
theorem info3 : (Try.prog.info? 3).map (fun i => (i.zero, i.size, i.bytes)) = some (some (.int .i64 0), 1, 8) := by kernel_rfl
theorem own_ge {w : World} {base : Nat} {e : TypeId} {size : Nat} {v : Value} {n : Nat} {xs : List Value} (h : w.ownsRow base e size v n xs) : ∀ k, v.ownBlock = some k → base ≤ k := by
  intro k hk
  rcases h.2 with ⟨rfl, _⟩ | ⟨g, cap, cur, rfl, hg, _⟩
  · cases hk
  · cases hk; exact hg
theorem cell_some {w : World} {x : Addr} {v : Value} (h : w.cell? x = some v) : x.spot = none ∧ x.block < w.heap.size := by
  unfold World.cell? at h
  split at h
  · rename_i hh
    refine ⟨?_, (Array.getElem?_eq_some_iff.1 hh).1⟩
    split at h
    · cases h
    · rename_i hs; simpa using hs
  · cases h
theorem add_at (b off j : Nat) : (⟨b, off, none⟩ : Addr).add j = ⟨b, off + j, none⟩ := by
  unfold Addr.add
  split
  · rename_i h; simp_all
  · rfl
theorem Tab.below {w w' : World} (h : Tab w) (hb : Below w.heap.size w w') : Tab w' := by
  have h0 := (cell_some (h 0 (by omega) (by omega)).1).2
  exact h.keep fun o => hb.cell (p := ⟨0, o, none⟩) h0
end Go.Proofs.Ytaapmpjkcddabab
namespace Go.Proofs.Ytaapmpjkcddabab
open Go.RowKit
/-- A slice of n integers that can be read: F j at j. -/
def Src (w : World) (a : Option Addr) (n : Nat) (F : Nat → Int) : Prop :=
  n = 0 ∨ ∃ b off, a = some ⟨b, off, none⟩ ∧ b < w.heap.size ∧ ∀ j, j < n → w.cell? ⟨b, off + j, none⟩ = some (.int .i64 (F j))
theorem Src.keep {w w' : World} {a : Option Addr} {n : Nat} {F : Nat → Int} (h : Src w a n F) (hb : Below w.heap.size w w') : Src w' a n F := by
  refine h.imp id ?_
  rintro ⟨b, off, e, hlt, hc⟩
  exact ⟨b, off, e, Nat.lt_of_lt_of_le hlt hb.size, fun j hj => (hb.cell (p := ⟨b, off + j, none⟩) hlt).trans (hc j hj)⟩
/-- A block of the call's own: n integers, F j at j. -/
def Own (w : World) (g n : Nat) (F : Nat → Int) : Prop := w.rowIs g 3 n (fun j => .int .i64 (F j))
theorem Own.src {w : World} {g n : Nat} {F : Nat → Int} (h : Own w g n F) : Src w (some ⟨g, 0, none⟩) n F :=
  .inr ⟨g, 0, rfl, h.lt, fun j hj => by rw [Nat.zero_add]; exact h.cell hj⟩
theorem Own.keep {w w' : World} {g n : Nat} {F : Nat → Int} (h : Own w g n F) (hb : Below w.heap.size w w') : Own w' g n F := World.rowIs.of_block h (hb.block g h.lt)
end Go.Proofs.Ytaapmpjkcddabab
namespace Go.Proofs.Ytaapmpjkcddabab
open Mth
def two (k : Int) : Int := 2 ^ k.toNat
section
variable {f : Int} (h0 : 0 ≤ f) (h8 : f ≤ 8)
include h0 h8
theorem fldf : Fld (P f).toNat (gN f.toNat) := by rw [P_toNat h0]; exact fld _ (by omega)
/-- In numbers: p and the residues. -/
theorem RS_nat {a b : Int} (ha : 0 ≤ a) (hb : 0 ≤ b) : RS (a * b) (P f) = ((a.toNat * b.toNat % (P f).toNat : Nat) : Int) := by
  have hp := P_bd h0 h8
  have := toNat_RS (m := P f) (by omega) ha hb
  have hb2 := RS_bd (x := a * b) (m := P f) (by omega)
  omega
end
namespace Mth
variable {p g : Nat}
theorem Fld.half (h : Fld p g) (ho : p % 2 = 1) : g ^ ((p - 1) / 2) % p = p - 1 := by
  have hp := h.two
  have e : (g ^ ((p - 1) / 2) * g ^ ((p - 1) / 2)) % p = 1 := by
    rw [← Nat.pow_add, show (p - 1) / 2 + (p - 1) / 2 = p - 1 by omega]; exact h.one
  rcases h.sqrt1 e with h1 | h1
  · exfalso
    have := Nat.le_of_dvd (by omega) (h.ord _ h1); omega
  · exact h1
theorem neg_sq (hp : 2 < p) : ((p - 1) * (p - 1)) % p = 1 := by
  obtain ⟨k, rfl⟩ : ∃ k, p = k + 2 := ⟨p - 2, by omega⟩
  have : (k + 2 - 1) * (k + 2 - 1) = 1 + (k + 2) * k := by
    show (k + 1) * (k + 1) = _
    simp [Nat.mul_add, Nat.mul_comm]; omega
  rw [this, Nat.add_mul_mod_self_left, Nat.mod_eq_of_lt (by omega)]
theorem pow2 (e k : Nat) : e ^ (2 ^ (k + 1)) = e ^ (2 ^ k) * e ^ (2 ^ k) := by
  rw [Nat.pow_succ, Nat.pow_mul, Nat.pow_two]
theorem pow2' (e k : Nat) : e ^ (2 ^ (k + 1)) = (e * e) ^ (2 ^ k) := by
  rw [Nat.pow_succ, Nat.mul_comm, Nat.pow_mul, Nat.pow_two]
/-- The state of the program's loop. -/
structure Sq (p a r e s k : Nat) : Prop where
  rr : (r * r) % p = (a * e) % p
  ee : e ^ (2 ^ k) % p = 1
  ss : s ^ (2 ^ k) % p = p - 1
theorem Sq.ss' {a r e s k : Nat} (h : Sq p a r e s (k + 1)) : (s * s % p) ^ (2 ^ k) % p = p - 1 := by
  rw [powm (c := s * s) _ (Nat.mod_mod _ _), ← pow2', h.ss]
theorem Sq.no {a r e s k : Nat} (hf : Fld p g) (h : Sq p a r e s (k + 1)) (h1 : e ^ (2 ^ k) % p ≠ 1) : Sq p a (r * s % p) (e * (s * s % p) % p) (s * s % p) k := by
  have hp := hf.two
  have e1 : e ^ (2 ^ k) % p = p - 1 := by
    rcases hf.sqrt1 (y := e ^ (2 ^ k)) (by rw [← pow2]; exact h.ee) with h2 | h2
    · exact absurd h2 h1
    · exact h2
  refine ⟨?_, ?_, h.ss'⟩
  · have a1 : (r * s % p * (r * s % p)) % p = (r * r * (s * s)) % p := by
      rw [← Nat.mul_mod, show r * s * (r * s) = r * r * (s * s) by simp only [Nat.mul_assoc, Nat.mul_left_comm]]
    have a2 : (a * (e * (s * s % p) % p)) % p = (a * e * (s * s)) % p := by
      rw [mulm (a := a) (c := a) rfl (Nat.mod_mod _ _), Nat.mul_assoc]
      exact mulm rfl (mulm rfl (Nat.mod_mod _ _))
    rw [a1, a2]; exact mulm h.rr rfl
  · rw [powm (c := e * (s * s % p)) _ (Nat.mod_mod _ _), Nat.mul_pow]
    rw [Nat.mul_mod, e1, h.ss', neg_sq hp]
theorem Sq.last {a r e s : Nat} (h : Sq p a r e s 0) : (r * r) % p = a % p := by
  have e1 : e % p = 1 := by simpa using h.ee
  rw [h.rr, Nat.mul_mod, e1, Nat.mul_one, Nat.mod_mod]
/-- The start, where a^((p-1)/2) is 1. -/
theorem Sq.first {a t o : Nat} (h : Fld p g) (ho : p % 2 = 1) (ht : 0 < t) (hto : p - 1 = 2 ^ t * o) (hodd : o % 2 = 1) (ha : a ^ ((p - 1) / 2) % p = 1) :
    Sq p a (a ^ ((o + 1) / 2) % p) (a ^ o % p) (g ^ o % p) (t - 1) := by
  have hh : o * 2 ^ (t - 1) = (p - 1) / 2 := by
    rw [hto]
    obtain ⟨u, rfl⟩ : ∃ u, t = u + 1 := ⟨t - 1, by omega⟩
    rw [Nat.pow_succ, Nat.add_sub_cancel, show 2 ^ u * 2 * o = o * 2 ^ u * 2 by rw [Nat.mul_comm, ← Nat.mul_assoc], Nat.mul_div_cancel _ (by omega)]
  refine ⟨?_, ?_, ?_⟩
  · rw [← Nat.mul_mod, ← Nat.pow_add, show (o + 1) / 2 + (o + 1) / 2 = o + 1 by omega, mulm (a := a) (c := a) rfl (Nat.mod_mod _ _), Nat.pow_succ, Nat.mul_comm]
  · rw [powm (c := a ^ o) _ (Nat.mod_mod _ _), ← Nat.pow_mul, hh, ha]
  · rw [powm (c := g ^ o) _ (Nat.mod_mod _ _), ← Nat.pow_mul, hh, h.half ho]
end Mth
theorem PW_toNat {f : Int} (x e : Int) : (PW (P f) x e).toNat = x.toNat ^ e.toNat % (P f).toNat := by
  unfold PW; exact Int.toNat_natCast _
namespace Mth
variable {p g : Nat}
end Mth
end Go.Proofs.Ytaapmpjkcddabab
namespace Go.Proofs.Ytaapmpjkcddabab
open Mth
def invF (f z : Int) : Int := if RS z (P f) = 0 then 0 else mPower f z (-1)
def prodF (f : Int) (Z : Nat → Int) : Nat → Int
  | 0 => 1
  | k + 1 => if RS (Z k) (P f) = 0 then prodF f Z k else RS (prodF f Z k * RS (Z k) (P f)) (P f)
section
variable {f : Int} (h0 : 0 ≤ f) (h8 : f ≤ 8)
include h0 h8
theorem RS_mul_pos {a b : Int} (a0 : 0 < a) (a1 : a < P f) (b0 : 0 < b) (b1 : b < P f) : 0 < RS (a * b) (P f) ∧ RS (a * b) (P f) < P f := by
  have hp := P_bd h0 h8
  have hb := RS_bd (x := a * b) (m := P f) (by omega)
  have hn := (fldf h0 h8).mul_nz (x := a.toNat) (y := b.toNat) (by rw [Nat.mod_eq_of_lt (by omega)]; omega) (by rw [Nat.mod_eq_of_lt (by omega)]; omega)
  rw [RS_nat h0 h8 (by omega) (by omega)] at *
  omega
theorem prodF_bd (Z : Nat → Int) (k : Nat) : 0 < prodF f Z k ∧ prodF f Z k < P f := by
  have hp := P_bd h0 h8
  induction k with
  | zero => exact ⟨by show (0 : Int) < 1; omega, by show (1 : Int) < _; omega⟩
  | succ k ih =>
    rw [prodF]
    split
    · exact ih
    · rename_i hz
      have hb := RS_bd (x := Z k) (m := P f) (by omega)
      exact RS_mul_pos h0 h8 ih.1 ih.2 (by omega) hb.2
/-- The way back: b times the product of the first k is 1. -/
theorem back_first {x : Int} (x0 : 0 < x) (x1 : x < P f) : RS (PW (P f) x (P f - 2) * x) (P f) = 1 := by
  have hp := P_bd h0 h8
  rw [RS_nat h0 h8 (PW_bd (by omega)).1 (by omega), PW_toNat, mulm (Nat.mod_mod _ _) rfl, ← Nat.pow_succ, show (P f - 2).toNat.succ = (P f).toNat - 1 by omega,
    (fldf h0 h8).fermat (by rw [Nat.mod_eq_of_lt (by omega)]; omega)]
  rfl
end
theorem back_no {f : Int} {Z : Nat → Int} {k : Nat} {b : Int} (hz : RS (Z k) (P f) = 0) (h : RS (b * prodF f Z (k + 1)) (P f) = 1) : RS (b * prodF f Z k) (P f) = 1 ∧ invF f (Z k) = 0 := by
  rw [prodF, if_pos hz] at h
  exact ⟨h, if_pos hz⟩
end Go.Proofs.Ytaapmpjkcddabab
namespace Go.Proofs.Ytaapmpjkcddabab
open Go.RowKit
theorem own_step {wr : World} {g n k : Nat} {F : Nat → Int} (h : Own wr g n (fun j => if j < k then F j else 0)) : Own (wr.setCell ⟨g, k, none⟩ (.int .i64 (F k))) g n (fun j => if j < k + 1 then F j else 0) := by
  refine (World.rowIs.set h k (.int .i64 (F k))).congr fun j _ => ?_
  by_cases h1 : j = k
  · subst h1; simp
  · by_cases h2 : j < k
    · simp [h1, h2, show j < k + 1 by omega]
    · simp [h1, h2, show ¬ j < k + 1 by omega]
theorem own_other {wr : World} {g g2 n k : Nat} {F : Nat → Int} {v : Value} (h : Own wr g n F) (hne : g ≠ g2) : Own (wr.setCell ⟨g2, k, none⟩ v) g n F := World.rowIs.setOther h (a := ⟨g2, k, none⟩) hne v
/-- The state of the way back. -/
def Back (f : Int) (Z : Nat → Int) (w wr : World) (n : Nat) (i b : Int) : Prop :=
  RS (b * prodF f Z (i + 1).toNat) (P f) = 1 ∧ Own wr w.heap.size n (fun j => if (j : Int) ≤ i then RS (Z j) (P f) else invF f (Z j)) ∧ Own wr (w.heap.size + 1) n (fun j => prodF f Z j) ∧ Below w.heap.size w wr
theorem Back.no {f : Int} {Z : Nat → Int} {w wr : World} {n k : Nat} {b : Int} (h : Back f Z w wr n k b) (hz : RS (Z k) (P f) = 0) : Back f Z w wr n (k - 1) b := by
  obtain ⟨h1, h2, h3, h4⟩ := h
  rw [show ((k : Int) + 1).toNat = k + 1 by omega] at h1
  obtain ⟨e1, e2⟩ := back_no hz h1
  refine ⟨by rw [show ((k : Int) - 1 + 1).toNat = k by omega]; exact e1, ?_, h3, h4⟩
  refine World.rowIs.congr h2 fun j _ => ?_
  by_cases hj : j = k
  · subst hj; simp [hz, e2]
  · by_cases hj2 : (j : Int) ≤ k
    · simp [hj2, show (j : Int) ≤ (k : Int) - 1 by omega]
    · simp [hj2, show ¬ (j : Int) ≤ (k : Int) - 1 by omega]
/-- The state of the way forth. -/
def Forth (f : Int) (Z : Nat → Int) (w wr : World) (n k : Nat) : Prop :=
  Own wr w.heap.size n (fun j => if j < k then RS (Z j) (P f) else 0) ∧ Own wr (w.heap.size + 1) n (fun j => if j < k then prodF f Z j else 0) ∧ Below w.heap.size w wr
theorem Forth.step {f : Int} {Z : Nat → Int} {w wr : World} {n k : Nat} (h : Forth f Z w wr n k) :
    Forth f Z w ((wr.setCell ⟨w.heap.size, k, none⟩ (.int .i64 (RS (Z k) (P f)))).setCell ⟨w.heap.size + 1, k, none⟩ (.int .i64 (prodF f Z k))) n (k + 1) := by
  obtain ⟨h1, h2, h3⟩ := h
  exact ⟨own_other (own_step (F := fun j => RS (Z j) (P f)) h1) (by omega), own_step (F := fun j => prodF f Z j) (own_other h2 (by omega)), (h3.setCell (Nat.le_refl _) _).setCell (Nat.le_succ _) _⟩
theorem Forth.back {f : Int} (h0 : 0 ≤ f) (h8 : f ≤ 8) {Z : Nat → Int} {w wr : World} {n : Nat} (h : Forth f Z w wr n n) : Back f Z w wr n ((n : Int) - 1) (PW (P f) (prodF f Z n) (P f - 2)) := by
  have hb := prodF_bd h0 h8 Z n
  refine ⟨by rw [show ((n : Int) - 1 + 1).toNat = n by omega]; exact back_first h0 h8 hb.1 hb.2, World.rowIs.congr h.1 fun j hj => ?_, World.rowIs.congr h.2.1 fun j hj => ?_, h.2.2⟩
  · simp [hj, show (j : Int) ≤ (n : Int) - 1 by omega]
  · simp [hj]
end Go.Proofs.Ytaapmpjkcddabab
namespace Go.Proofs.Ytaapmpjkcddabab
open Go.RowKit
def xsF (F : Nat → Int) (k : Nat) : List Value := (List.range k).map fun j => .int .i64 (F j)
theorem xsF_succ (F : Nat → Int) (k : Nat) : xsF F k ++ [.int .i64 (F k)] = xsF F (k + 1) := by simp [xsF, List.range_succ]
theorem xsF_congr {F G : Nat → Int} {k : Nat} (h : ∀ j, j < k → F j = G j) : xsF F k = xsF G k := by
  unfold xsF
  refine List.map_congr_left fun j hj => ?_
  rw [h j (List.mem_range.1 hj)]
theorem own_empty (w : World) (F : Nat → Int) : (w.alloc (.cells #[] 3)).ownsRow w.heap.size 3 1 (.slice (some ⟨w.heap.size, 0, none⟩) 0 0) 0 (xsF F 0) :=
  ⟨rfl, .inr ⟨w.heap.size, 0, #[], rfl, Nat.le_refl _, by unfold World.alloc; simp, by omega, by unfold maxLen; omega, rfl, rfl⟩⟩
theorem src_of_owns {w' : World} {base : Nat} {v : Value} {n : Nat} {F : Nat → Int} (h : w'.ownsRow base 3 1 v n (xsF F n)) : ∃ a cap, v = .slice a n cap ∧ Src w' a n F := by
  obtain ⟨hl, h⟩ := h
  rcases h with ⟨rfl, rfl⟩ | ⟨g, cap, cur, rfl, hg, hh, hc, hm, hs, ht⟩
  · exact ⟨none, 0, rfl, .inl rfl⟩
  · refine ⟨_, _, rfl, .inr ⟨g, 0, rfl, (Array.getElem?_eq_some_iff.1 hh).1, fun j hj => ?_⟩⟩
    have hx : (xsF F n)[j]? = some (.int .i64 (F j)) := by simp [xsF, hj]
    have hcur : cur.toList[j]? = some (.int .i64 (F j)) := by
      rw [← ht, List.getElem?_take_of_lt (by omega)] at hx; exact hx
    unfold World.cell?
    rw [hh]
    simp
    simpa using hcur
end Go.Proofs.Ytaapmpjkcddabab
namespace Go.Proofs.Ytaapmpjkcddabab
open Mth

/-- The length without the zeros at the end. -/
def cutN (F : Nat → Int) : Nat → Nat
  | 0 => 0
  | n + 1 => if F n = 0 then cutN F n else n + 1
theorem cutN_le (F : Nat → Int) (n : Nat) : cutN F n ≤ n := by
  induction n with
  | zero => exact Nat.le_refl _
  | succ n ih => unfold cutN; split <;> omega
theorem cutN_top (F : Nat → Int) (n : Nat) : cutN F n = 0 ∨ F (cutN F n - 1) ≠ 0 := by
  induction n with
  | zero => exact .inl rfl
  | succ n ih =>
    unfold cutN
    split
    · exact ih
    · rename_i h; exact .inr h
theorem cutN_zero (F : Nat → Int) (n j : Nat) (h : cutN F n ≤ j) (hj : j < n) : F j = 0 := by
  induction n with
  | zero => omega
  | succ n ih =>
    unfold cutN at h
    split at h
    · rename_i h0
      by_cases e : j = n
      · rw [e]; exact h0
      · exact ih h (by omega)
    · omega
theorem cutN_full {F : Nat → Int} {n : Nat} (h : n = 0 ∨ F (n - 1) ≠ 0) : cutN F n = n := by
  cases n with
  | zero => rfl
  | succ n =>
    unfold cutN
    rcases h with h | h
    · omega
    · rw [if_neg (show ¬ F n = 0 from h)]
/-- The coefficients of a list, with zeros behind it. -/
def lf (l : List Int) : Nat → Int := fun j => l.getD j 0
def tab (n : Nat) (F : Nat → Int) : List Int := (List.range n).map F
theorem tab_len (n : Nat) (F : Nat → Int) : (tab n F).length = n := by simp [tab]
theorem lf_tab (n : Nat) (F : Nat → Int) (j : Nat) : lf (tab n F) j = if j < n then F j else 0 := by
  unfold lf tab
  rw [List.getD_eq_getElem?_getD]
  by_cases h : j < n
  · simp [h]
  · rw [List.getElem?_eq_none (by simp; omega), if_neg h]; rfl
theorem lf_out (l : List Int) {j : Nat} (h : l.length ≤ j) : lf l j = 0 := by
  unfold lf
  rw [List.getD_eq_getElem?_getD, List.getElem?_eq_none h]; rfl
theorem list_ext {a b : List Int} (hl : a.length = b.length) (h : ∀ j, j < a.length → lf a j = lf b j) : a = b := by
  apply List.ext_getElem hl
  intro j h1 h2
  have := h j h1
  unfold lf at this
  rw [List.getD_eq_getElem?_getD, List.getD_eq_getElem?_getD, List.getElem?_eq_getElem h1, List.getElem?_eq_getElem h2] at this
  exact this
def cutL (n : Nat) (F : Nat → Int) : List Int := tab (cutN F n) F
theorem cutL_len (n : Nat) (F : Nat → Int) : (cutL n F).length = cutN F n := tab_len _ _
theorem lf_cutL (n : Nat) (F : Nat → Int) (j : Nat) : lf (cutL n F) j = if j < n then F j else 0 := by
  unfold cutL
  rw [lf_tab]
  have := cutN_le F n
  by_cases h1 : j < cutN F n
  · rw [if_pos h1, if_pos (by omega)]
  · rw [if_neg h1]
    by_cases h2 : j < n
    · rw [if_pos h2, cutN_zero F n j (by omega) h2]
    · rw [if_neg h2]
/-- Elements of the field, the last of them not 0. -/
def Pol (f : Int) (l : List Int) : Prop := (∀ j, 0 ≤ lf l j ∧ lf l j < P f) ∧ (l.length = 0 ∨ lf l (l.length - 1) ≠ 0)
theorem Pol.cut {f : Int} {n : Nat} {F : Nat → Int} (hp : 0 < P f) (h : ∀ j, j < n → 0 ≤ F j ∧ F j < P f) : Pol f (cutL n F) := by
  refine ⟨fun j => ?_, ?_⟩
  · rw [lf_cutL]
    split
    · rename_i hj; exact h j hj
    · omega
  · rw [cutL_len]
    have := cutN_le F n
    rcases cutN_top F n with h1 | h1
    · exact .inl h1
    · by_cases h0 : cutN F n = 0
      · exact .inl h0
      · right
        rw [lf_cutL, if_pos (by omega)]; exact h1
theorem Pol.nil {f : Int} (hp : 0 < P f) : Pol f [] := ⟨fun j => by rw [lf_out [] (Nat.zero_le _)]; omega, .inl rfl⟩
theorem Pol.full {f : Int} {l : List Int} (h : Pol f l) : cutN (lf l) l.length = l.length := cutN_full h.2
/-- Polynomials with the same coefficients are one. -/
theorem Pol.eq {f : Int} {a b : List Int} (ha : Pol f a) (hb : Pol f b) (h : ∀ j, lf a j % P f = lf b j % P f) : a = b := by
  have e : ∀ j, lf a j = lf b j := fun j => by
    have h1 := ha.1 j
    have h2 := hb.1 j
    have := h j
    rw [Int.emod_eq_of_lt h1.1 h1.2, Int.emod_eq_of_lt h2.1 h2.2] at this
    exact this
  have hl : a.length = b.length := by
    rcases Nat.lt_trichotomy a.length b.length with hlt | hlt | hlt
    · rcases hb.2 with h0 | h0
      · omega
      · rw [← e, lf_out a (by omega)] at h0; exact absurd rfl h0
    · exact hlt
    · rcases ha.2 with h0 | h0
      · omega
      · rw [e, lf_out b (by omega)] at h0; exact absurd rfl h0
  exact list_ext hl (fun j _ => e j)
/-- Sums of the first n terms. -/
def sumN (f : Nat → Int) : Nat → Int
  | 0 => 0
  | n + 1 => sumN f n + f n
theorem sumN_first (f : Nat → Int) (n : Nat) : sumN f (n + 1) = f 0 + sumN (fun i => f (i + 1)) n := by
  induction n with
  | zero => simp [sumN]
  | succ n ih => rw [sumN, ih, sumN]; omega
theorem sumN_congr {f g : Nat → Int} {n : Nat} (h : ∀ i, i < n → f i = g i) : sumN f n = sumN g n := by
  induction n with
  | zero => rfl
  | succ n ih => rw [sumN, sumN, ih (fun i hi => h i (by omega)), h n (by omega)]
theorem sumN_more {f : Nat → Int} {n m : Nat} (hnm : n ≤ m) (h : ∀ i, n ≤ i → i < m → f i = 0) : sumN f m = sumN f n := by
  induction m with
  | zero => rw [show n = 0 by omega]
  | succ m ih =>
    by_cases e : n = m + 1
    · rw [e]
    · rw [sumN, h m (by omega) (by omega), ih (by omega) (fun i h1 h2 => h i h1 (by omega))]; omega

/-- Products of series. -/
def tl (A : Nat → Int) : Nat → Int := fun j => A (j + 1)
def cv : Nat → (Nat → Int) → (Nat → Int) → Int
  | 0, A, B => A 0 * B 0
  | k + 1, A, B => A 0 * B (k + 1) + cv k (tl A) B
def mulS (A B : Nat → Int) : Nat → Int := fun k => cv k A B
theorem cv_congr {k : Nat} : ∀ {A A' B B' : Nat → Int}, (∀ j, j ≤ k → A j = A' j) → (∀ j, j ≤ k → B j = B' j) → cv k A B = cv k A' B' := by
  induction k with
  | zero => intro A A' B B' ha hb; simp only [cv]; rw [ha 0 (by omega), hb 0 (by omega)]
  | succ k ih =>
    intro A A' B B' ha hb
    simp only [cv]
    rw [ha 0 (by omega), hb (k + 1) (by omega), ih (A := tl A) (A' := tl A') (fun j hj => ha (j + 1) (by omega)) (fun j hj => hb j (by omega))]
theorem cv_add_l (k : Nat) : ∀ A A' B : Nat → Int, cv k (fun j => A j + A' j) B = cv k A B + cv k A' B := by
  induction k with
  | zero => intro A A' B; simp only [cv]; exact Int.add_mul _ _ _
  | succ k ih =>
    intro A A' B
    simp only [cv]
    have := ih (tl A) (tl A') B
    have e : tl (fun j => A j + A' j) = fun j => tl A j + tl A' j := rfl
    rw [e, this, Int.add_mul]; omega
theorem cv_smul_l (k : Nat) : ∀ (c : Int) (A B : Nat → Int), cv k (fun j => c * A j) B = c * cv k A B := by
  induction k with
  | zero => intro c A B; simp only [cv]; exact Int.mul_assoc _ _ _
  | succ k ih =>
    intro c A B
    simp only [cv]
    have := ih c (tl A) B
    have e : tl (fun j => c * A j) = fun j => c * tl A j := rfl
    rw [e, this, Int.mul_add, Int.mul_assoc]
theorem cv_right (k : Nat) : ∀ A B : Nat → Int, cv (k + 1) A B = A (k + 1) * B 0 + cv k A (tl B) := by
  induction k with
  | zero => intro A B; simp only [cv, tl]; omega
  | succ k ih =>
    intro A B
    have h1 : cv (k + 2) A B = A 0 * B (k + 2) + cv (k + 1) (tl A) B := rfl
    have h2 : cv (k + 1) A (tl B) = A 0 * B (k + 2) + cv k (tl A) (tl B) := rfl
    rw [h1, ih (tl A) B, h2]
    show _ + (A (k + 2) * B 0 + _) = A (k + 2) * B 0 + _
    omega
theorem cv_comm (k : Nat) : ∀ A B : Nat → Int, cv k A B = cv k B A := by
  induction k with
  | zero => intro A B; exact Int.mul_comm _ _
  | succ k ih =>
    intro A B
    rw [cv_right]
    simp only [cv]
    rw [ih A (tl B), Int.mul_comm]
theorem cv_add_r (k : Nat) (A B B' : Nat → Int) : cv k A (fun j => B j + B' j) = cv k A B + cv k A B' := by
  rw [cv_comm, cv_add_l, cv_comm k B, cv_comm k B']
theorem cv_assoc (k : Nat) : ∀ A B C : Nat → Int, cv k (mulS A B) C = cv k A (mulS B C) := by
  induction k with
  | zero => intro A B C; simp only [cv, mulS]; exact Int.mul_assoc _ _ _
  | succ k ih =>
    intro A B C
    have h1 : cv (k + 1) (mulS A B) C = A 0 * B 0 * C (k + 1) + cv k (tl (mulS A B)) C := rfl
    have h2 : tl (mulS A B) = fun j => A 0 * tl B j + mulS (tl A) B j := rfl
    have h3 : cv (k + 1) A (mulS B C) = A 0 * (B 0 * C (k + 1) + cv k (tl B) C) + cv k (tl A) (mulS B C) := rfl
    rw [h1, h2, cv_add_l, cv_smul_l, ih (tl A) B C, h3, Int.mul_add, Int.mul_assoc]; omega
theorem cv_sum (k : Nat) : ∀ A B : Nat → Int, cv k A B = sumN (fun i => A i * B (k - i)) (k + 1) := by
  induction k with
  | zero => intro A B; simp [cv, sumN]
  | succ k ih =>
    intro A B
    rw [sumN_first]
    simp only [cv]
    rw [ih (tl A) B]
    congr 1
    exact sumN_congr fun i _ => by rw [Nat.add_sub_add_right]; rfl
/-- The part of a product's coefficient that the first i coefficients of A give. -/
def cpar (A B : Nat → Int) (k i : Nat) : Int := sumN (fun j => if j ≤ k then A j * B (k - j) else 0) i
theorem cpar_succ (A B : Nat → Int) (k i : Nat) : cpar A B k (i + 1) = cpar A B k i + (if i ≤ k then A i * B (k - i) else 0) := rfl
theorem cpar_end {A B : Nat → Int} {n : Nat} (k : Nat) (h : ∀ j, n ≤ j → A j = 0) : cpar A B k n = cv k A B := by
  rw [cv_sum]
  unfold cpar
  have e1 : sumN (fun i => A i * B (k - i)) (k + 1) = sumN (fun j => if j ≤ k then A j * B (k - j) else 0) (k + 1) := sumN_congr fun i hi => by simp [show i ≤ k by omega]
  rw [e1]
  rcases Nat.le_total n (k + 1) with hl | hl
  · exact (sumN_more hl (fun i h1 h2 => by simp [h i h1])).symm
  · exact sumN_more hl (fun i h1 h2 => by simp [show ¬ i ≤ k by omega])
theorem cv_zero_l {k : Nat} {A B : Nat → Int} (h : ∀ j, j ≤ k → A j = 0) : cv k A B = 0 := by
  rw [cv_congr (A' := fun _ => 0 * 0) (B' := B) (fun j hj => by rw [h j hj]; rfl) (fun _ _ => rfl), cv_smul_l]; simp
/-- Beyond both supports a product vanishes; at the top it is the product of the tops. -/
theorem cv_out {A B : Nat → Int} {n m k : Nat} (ha : ∀ j, n ≤ j → A j = 0) (hb : ∀ j, m ≤ j → B j = 0) (hk : n + m ≤ k + 1) : cv k A B = 0 := by
  rw [cv_sum]
  rw [sumN_more (n := 0) (Nat.zero_le _)]
  · rfl
  · intro i _ hi
    by_cases h1 : n ≤ i
    · rw [ha i h1, Int.zero_mul]
    · rw [hb (k - i) (by omega), Int.mul_zero]
theorem cv_top {A B : Nat → Int} {n m : Nat} (ha : ∀ j, n + 1 ≤ j → A j = 0) (hb : ∀ j, m + 1 ≤ j → B j = 0) : cv (n + m) A B = A n * B m := by
  rw [← cpar_end (n + m) ha, cpar_succ, if_pos (by omega), Nat.add_sub_cancel_left]
  have : cpar A B (n + m) n = 0 := by
    unfold cpar
    rw [sumN_more (n := 0) (Nat.zero_le _)]
    · rfl
    · intro i _ hi
      rw [if_pos (by omega), hb _ (by omega), Int.mul_zero]
  rw [this]; omega
theorem cv_mod {p : Int} (k : Nat) : ∀ {A A' B B' : Nat → Int}, (∀ j, A j % p = A' j % p) → (∀ j, B j % p = B' j % p) → cv k A B % p = cv k A' B' % p := by
  induction k with
  | zero =>
    intro A A' B B' ha hb
    simp only [cv]
    rw [Int.mul_emod, ha, hb, ← Int.mul_emod]
  | succ k ih =>
    intro A A' B B' ha hb
    simp only [cv]
    rw [Int.add_emod, ih (A := tl A) (A' := tl A') (fun j => ha (j + 1)) hb, Int.mul_emod, ha 0, hb (k + 1), ← Int.mul_emod, ← Int.add_emod]
end Go.Proofs.Ytaapmpjkcddabab
namespace Go.Proofs.Ytaapmpjkcddabab
open Mth

theorem mul_nz {f : Int} (h0 : 0 ≤ f) (h8 : f ≤ 8) {x y : Int} (hx : x % P f ≠ 0) (hy : y % P f ≠ 0) : (x * y) % P f ≠ 0 := by
  have hp := P_bd h0 h8
  have bx := RS_bd (x := x) (m := P f) (by omega)
  have by' := RS_bd (x := y) (m := P f) (by omega)
  unfold RS at bx by'
  have := RS_mul_pos h0 h8 (a := x % P f) (b := y % P f) (by omega) bx.2 (by omega) by'.2
  unfold RS at this
  rw [Int.mul_emod]
  omega
def FinS (A : Nat → Int) : Prop := ∃ n, ∀ j, n ≤ j → A j = 0
theorem FinS.lf (l : List Int) : FinS (lf l) := ⟨l.length, fun _ h => lf_out l h⟩
theorem FinS.zero : FinS (fun _ => 0) := ⟨0, fun _ _ => rfl⟩
theorem FinS.add {A B : Nat → Int} (ha : FinS A) (hb : FinS B) : FinS (fun j => A j + B j) := by
  obtain ⟨n, hn⟩ := ha; obtain ⟨m, hm⟩ := hb
  exact ⟨n + m, fun j hj => by show A j + B j = 0; rw [hn j (by omega), hm j (by omega)]; rfl⟩
theorem FinS.smul {A : Nat → Int} (c : Int) (ha : FinS A) : FinS (fun j => c * A j) := by
  obtain ⟨n, hn⟩ := ha
  exact ⟨n, fun j hj => by show c * A j = 0; rw [hn j hj, Int.mul_zero]⟩
theorem FinS.mul {A B : Nat → Int} (ha : FinS A) (hb : FinS B) : FinS (mulS A B) := by
  obtain ⟨n, hn⟩ := ha; obtain ⟨m, hm⟩ := hb
  exact ⟨n + m, fun j hj => cv_out hn hm (by omega)⟩

theorem emod_add_congr {p a b c d : Int} (h1 : a % p = b % p) (h2 : c % p = d % p) : (a + c) % p = (b + d) % p := by rw [Int.add_emod, h1, h2, ← Int.add_emod]
theorem emod_sub_congr {p a b c d : Int} (h1 : a % p = b % p) (h2 : c % p = d % p) : (a - c) % p = (b - d) % p := by rw [Int.sub_emod, h1, h2, ← Int.sub_emod]
theorem emod_mul_congr {p a b c d : Int} (h1 : a % p = b % p) (h2 : c % p = d % p) : (a * c) % p = (b * d) % p := by rw [Int.mul_emod, h1, h2, ← Int.mul_emod]
theorem emod_zero_of_sub {p a b : Int} (h : a % p = b % p) : (a - b) % p = 0 := by rw [Int.sub_emod, h]; simp

/-- A multiple of a polynomial without coefficients from its degree on is zero. -/
theorem div_zero {f : Int} (h0 : 0 ≤ f) (h8 : f ≤ 8) {b : List Int} (hb : Pol f b) (hne : b.length ≠ 0) {Q : Nat → Int} (hQ : FinS Q) (h : ∀ k, b.length ≤ k + 1 → cv k Q (lf b) % P f = 0) : ∀ j, Q j % P f = 0 := by
  have hp := P_bd h0 h8
  obtain ⟨N, hN⟩ := hQ
  have key : ∀ t j, N ≤ j + t → Q j % P f = 0 := by
    intro t
    induction t with
    | zero => intro j hj; rw [hN j (by omega)]; simp
    | succ t ih =>
      intro j hj
      by_cases hjt : N ≤ j + t
      · exact ih j hjt
      · have hz : ∀ i, j + 1 ≤ i → (fun i => Q i % P f) i = 0 := fun i hi => ih i (by omega)
        have hbz : ∀ i, (b.length - 1) + 1 ≤ i → lf b i = 0 := fun i hi => lf_out b (by omega)
        have ht := cv_top hz hbz
        have hc := h (j + (b.length - 1)) (by omega)
        rw [cv_mod (A' := fun i => Q i % P f) (B' := lf b) _ (fun i => by simp) (fun _ => rfl), ht] at hc
        by_cases hq : Q j % P f = 0
        · exact hq
        · exfalso
          have hbt : lf b (b.length - 1) % P f ≠ 0 := by
            have h1 := hb.1 (b.length - 1)
            rw [Int.emod_eq_of_lt h1.1 h1.2]
            rcases hb.2 with h2 | h2
            · exact absurd h2 hne
            · exact h2
          exact mul_nz h0 h8 (by simpa using hq) hbt hc
  intro j
  exact key N j (by omega)

/-- Congruent modulo the polynomial b, over the field. -/
def Cg (f : Int) (b : List Int) (A A' : Nat → Int) : Prop := ∃ C, FinS C ∧ ∀ j, A j % P f = (cv j C (lf b) + A' j) % P f
theorem Cg.of {f : Int} {b : List Int} {A A' : Nat → Int} (h : ∀ j, A j % P f = A' j % P f) : Cg f b A A' := ⟨fun _ => 0, FinS.zero, fun j => by rw [h j, cv_zero_l (fun _ _ => rfl)]; simp⟩
theorem Cg.refl {f : Int} {b : List Int} {A : Nat → Int} : Cg f b A A := Cg.of fun _ => rfl
theorem Cg.symm {f : Int} {b : List Int} {A A' : Nat → Int} (h : Cg f b A A') : Cg f b A' A := by
  obtain ⟨C, hC, h⟩ := h
  refine ⟨fun j => (-1) * C j, hC.smul _, fun j => ?_⟩
  rw [cv_smul_l]
  have e := emod_add_congr (p := P f) (a := (-1) * cv j C (lf b)) rfl (h j)
  rw [e]; congr 1; omega
theorem Cg.trans {f : Int} {b : List Int} {A A' A'' : Nat → Int} (h : Cg f b A A') (k : Cg f b A' A'') : Cg f b A A'' := by
  obtain ⟨C, hC, h⟩ := h; obtain ⟨D, hD, k⟩ := k
  refine ⟨fun j => C j + D j, hC.add hD, fun j => ?_⟩
  rw [cv_add_l, h j]
  have e := emod_add_congr (p := P f) (a := cv j C (lf b)) rfl (k j)
  rw [e]; congr 1; omega
theorem Cg.mul {f : Int} {b : List Int} {A A' B B' : Nat → Int} (hA' : FinS A') (hB : FinS B) (h : Cg f b A A') (k : Cg f b B B') : Cg f b (mulS A B) (mulS A' B') := by
  obtain ⟨C, hC, h⟩ := h; obtain ⟨D, hD, k⟩ := k
  refine ⟨fun j => mulS C B j + mulS A' D j, (hC.mul hB).add (hA'.mul hD), fun j => ?_⟩
  have e1 : mulS A B j % P f = (mulS (mulS C (lf b)) B j + mulS A' B j) % P f := by
    show cv j A B % P f = _
    rw [cv_mod (A' := fun j => mulS C (lf b) j + A' j) (B' := B) j h (fun _ => rfl), cv_add_l]; rfl
  have e2 : mulS A' B j % P f = (mulS A' (mulS D (lf b)) j + mulS A' B' j) % P f := by
    show cv j A' B % P f = _
    rw [cv_mod (A' := A') (B' := fun j => mulS D (lf b) j + B' j) j (fun _ => rfl) k, cv_add_r]; rfl
  have e3 : mulS (mulS C (lf b)) B j = cv j (mulS C B) (lf b) := by
    show cv j (mulS C (lf b)) B = _
    rw [cv_assoc, cv_assoc]
    exact cv_congr (fun _ _ => rfl) (fun i _ => cv_comm i _ _)
  have e4 : mulS A' (mulS D (lf b)) j = cv j (mulS A' D) (lf b) := (cv_assoc j _ _ _).symm
  rw [e1, cv_add_l, emod_add_congr (p := P f) (a := mulS (mulS C (lf b)) B j) rfl e2, e3, e4]
  congr 1
  omega
/-- Two short polynomials that are congruent are one. -/
theorem Cg.short {f : Int} (h0 : 0 ≤ f) (h8 : f ≤ 8) {b r s : List Int} (hb : Pol f b) (hr : Pol f r) (hs : Pol f s) (lr : r.length < b.length) (ls : s.length < b.length) (h : Cg f b (lf r) (lf s)) : r = s := by
  obtain ⟨C, hC, h⟩ := h
  have hz := div_zero h0 h8 hb (by omega) hC (fun k hk => by
    have := h k
    rw [lf_out r (by omega), lf_out s (by omega), Int.add_zero] at this
    rw [← this]; simp)
  refine hr.eq hs fun j => ?_
  rw [h j, Int.add_emod, cv_mod (A' := fun _ => 0) (B' := lf b) j (fun i => by rw [hz i]; simp) (fun _ => rfl), cv_zero_l (fun _ _ => rfl)]; simp
def IsRem (f : Int) (A : Nat → Int) (b r : List Int) : Prop := Pol f r ∧ r.length < b.length ∧ Cg f b A (lf r)
theorem IsRem.unique {f : Int} (h0 : 0 ≤ f) (h8 : f ≤ 8) {A A' : Nat → Int} {b r s : List Int} (hb : Pol f b) (hr : IsRem f A b r) (hs : IsRem f A' b s) (h : Cg f b A A') : r = s :=
  Cg.short h0 h8 hb hr.1 hs.1 hr.2.1 hs.2.1 (hr.2.2.symm.trans (h.trans hs.2.2))
/-- The state of a division: n is where the rest ends. -/
def DivAt (f : Int) (A : Nat → Int) (b : List Int) (n : Nat) (Q R : Nat → Int) : Prop :=
  (∀ j, A j % P f = (cv j Q (lf b) + R j) % P f) ∧ (∀ j, 0 ≤ R j ∧ R j < P f) ∧ (∀ j, 0 ≤ Q j ∧ Q j < P f) ∧ (∀ j, n ≤ j → R j = 0) ∧ (∀ j, j + b.length ≤ n → Q j = 0) ∧ FinS Q
theorem DivAt.start {f : Int} {a b : List Int} (ha : Pol f a) (hp : 0 < P f) : DivAt f (lf a) b a.length (fun _ => 0) (lf a) :=
  ⟨fun j => by rw [cv_zero_l (fun _ _ => rfl)]; simp, ha.1, fun _ => ⟨Int.le_refl _, hp⟩, fun _ h => lf_out a h, fun _ _ => rfl, FinS.zero⟩
theorem DivAt.congr {f : Int} {A : Nat → Int} {b : List Int} {n : Nat} {Q Q' R R' : Nat → Int} (h : DivAt f A b n Q R) (hQ : ∀ j, Q j = Q' j) (hR : ∀ j, R j = R' j) : DivAt f A b n Q' R' := by
  obtain rfl : Q = Q' := funext hQ
  obtain rfl : R = R' := funext hR
  exact h
theorem sumN_single (g : Nat → Int) (s n : Nat) : sumN (fun i => if i = s then g i else 0) n = if s < n then g s else 0 := by
  induction n with
  | zero => simp [sumN]
  | succ n ih =>
    rw [sumN, ih]
    by_cases h : n = s
    · subst h; simp
    · by_cases h2 : s < n
      · simp [h, h2, show s < n + 1 by omega]
      · simp [h, h2, show ¬ s < n + 1 by omega]
theorem cv_mono (k s : Nat) (m : Int) (B : Nat → Int) : cv k (fun j => if j = s then m else 0) B = if s ≤ k then m * B (k - s) else 0 := by
  rw [cv_sum, sumN_congr (g := fun i => if i = s then m * B (k - i) else 0) (fun i _ => by split <;> simp), sumN_single (fun i => m * B (k - i))]
  by_cases h : s ≤ k
  · simp [h, show s < k + 1 by omega]
  · simp [h, show ¬ s < k + 1 by omega]
/-- The rest after one step at s, the first i coefficients of b done. -/
def dst (f : Int) (b : List Int) (R : Nat → Int) (m : Int) (s i : Nat) : Nat → Int := fun j => if s ≤ j ∧ j < s + i then RS (R j - RS (m * lf b (j - s)) (P f)) (P f) else R j
theorem dst_bd {f : Int} (hp : 0 < P f) {b : List Int} {R : Nat → Int} {m : Int} {s i : Nat} (h : ∀ j, 0 ≤ R j ∧ R j < P f) (j : Nat) : 0 ≤ dst f b R m s i j ∧ dst f b R m s i j < P f := by
  unfold dst
  split
  · exact RS_bd hp
  · exact h j
theorem DivAt.step {f : Int} (h0 : 0 ≤ f) (h8 : f ≤ 8) {A : Nat → Int} {b : List Int} {s : Nat} {Q R : Nat → Int} {inv : Int} (hl : b.length ≠ 0) (hinv : (lf b (b.length - 1) * inv) % P f = 1 % P f) (h : DivAt f A b (s + b.length) Q R) :
    DivAt f A b (s + b.length - 1) (fun j => if j = s then RS (R (s + (b.length - 1)) * inv) (P f) else Q j) (dst f b R (RS (R (s + (b.length - 1)) * inv) (P f)) s b.length) := by
  have hp := P_bd h0 h8
  obtain ⟨h1, h2, h3, h4, h5, h6⟩ := h
  have em : RS (R (s + (b.length - 1)) * inv) (P f) % P f = (R (s + (b.length - 1)) * inv) % P f := by unfold RS; simp
  have em2 := RS_bd (x := R (s + (b.length - 1)) * inv) (m := P f) (by omega)
  generalize hm : RS (R (s + (b.length - 1)) * inv) (P f) = m at *
  refine ⟨fun j => ?_, dst_bd (by omega) h2, fun j => ?_, fun j hj => ?_, fun j hj => ?_, ?_⟩
  · have e : (fun j => if j = s then m else Q j) = fun j => (if j = s then m else 0) + Q j := by
      funext i
      by_cases hi : i = s
      · subst hi; simp [h5 i (by omega)]
      · simp [hi]
    rw [e, cv_add_l, cv_mono, h1 j]
    unfold dst
    by_cases hs : s ≤ j
    · by_cases hj : j < s + b.length
      · rw [if_pos hs, if_pos ⟨hs, hj⟩]
        unfold RS
        have e3 : (R j - m * lf b (j - s) % P f) % P f % P f = (R j - m * lf b (j - s)) % P f := by rw [Int.emod_emod_of_dvd _ (Int.dvd_refl _)]; exact emod_sub_congr rfl (by simp)
        rw [emod_add_congr (p := P f) (a := m * lf b (j - s) + cv j Q (lf b)) rfl e3]
        congr 1; omega
      · rw [if_pos hs, if_neg (by omega), lf_out b (show b.length ≤ j - s by omega)]
        congr 1; omega
    · rw [if_neg hs, if_neg (by omega)]
      congr 1; omega
  · show 0 ≤ (if j = s then m else Q j) ∧ (if j = s then m else Q j) < P f
    split
    · exact em2
    · exact h3 j
  · unfold dst
    by_cases e : j = s + (b.length - 1)
    · subst e
      rw [if_pos (by omega), Nat.add_sub_cancel_left]
      unfold RS
      have e1 : (m * lf b (b.length - 1)) % P f = R (s + (b.length - 1)) % P f := by
        rw [emod_mul_congr em rfl, show R (s + (b.length - 1)) * inv * lf b (b.length - 1) = R (s + (b.length - 1)) * (lf b (b.length - 1) * inv) by rw [Int.mul_assoc, Int.mul_comm inv], emod_mul_congr (p := P f) (a := R (s + (b.length - 1))) rfl hinv, Int.mul_one]
      rw [e1]
      exact emod_zero_of_sub (by simp)
    · by_cases hj2 : s ≤ j ∧ j < s + b.length
      · omega
      · rw [if_neg hj2]; exact h4 j (by omega)
  · show (if j = s then m else Q j) = 0
    rw [if_neg (by omega)]
    exact h5 j (by omega)
  · obtain ⟨N, hN⟩ := h6
    refine ⟨N + s + 1, fun j hj => ?_⟩
    show (if j = s then m else Q j) = 0
    rw [if_neg (by omega)]; exact hN j (by omega)
/-- Quotient and remainder. -/
def DivP (f : Int) (a b q r : List Int) : Prop := Pol f q ∧ Pol f r ∧ r.length < b.length ∧ ∀ j, lf a j % P f = (cv j (lf q) (lf b) + lf r j) % P f
theorem DivP.unique {f : Int} (h0 : 0 ≤ f) (h8 : f ≤ 8) {a b q r q' r' : List Int} (hb : Pol f b) (h : DivP f a b q r) (k : DivP f a b q' r') : q = q' ∧ r = r' := by
  obtain ⟨h1, h2, h3, h4⟩ := h
  obtain ⟨k1, k2, k3, k4⟩ := k
  have er : r = r' := IsRem.unique h0 h8 hb (A := lf a) (A' := lf a) ⟨h2, h3, lf q, FinS.lf q, h4⟩ ⟨k2, k3, lf q', FinS.lf q', k4⟩ Cg.refl
  refine ⟨?_, er⟩
  subst er
  have hz := div_zero h0 h8 hb (by omega) (Q := fun j => lf q j + (-1) * lf q' j) ((FinS.lf q).add ((FinS.lf q').smul _)) (fun k _ => by
    rw [cv_add_l, cv_smul_l]
    have e := emod_zero_of_sub ((h4 k).symm.trans (k4 k))
    rw [← e]; congr 1; omega)
  refine h1.eq k1 fun j => ?_
  have := hz j
  have e : lf q j = (lf q j + (-1) * lf q' j) + lf q' j := by omega
  rw [e, Int.add_emod, this]; simp
end Go.Proofs.Ytaapmpjkcddabab
namespace Go.Proofs.Ytaapmpjkcddabab
open Mth

def mulL (f : Int) (a b : List Int) : List Int := cutL (a.length + b.length - 1) fun k => RS (cv k (lf a) (lf b)) (P f)
theorem lf_mulL (f : Int) (a b : List Int) (k : Nat) : lf (mulL f a b) k = cv k (lf a) (lf b) % P f := by
  unfold mulL
  rw [lf_cutL]
  split
  · rfl
  · rw [cv_out (fun j h => lf_out a h) (fun j h => lf_out b h) (by omega)]; simp
/-- Powers of series. -/
def oneS : Nat → Int := fun j => if j = 0 then 1 else 0
def powS (A : Nat → Int) : Nat → (Nat → Int)
  | 0 => oneS
  | k + 1 => mulS (powS A k) A
theorem FinS.one : FinS oneS := ⟨1, fun j hj => by unfold oneS; rw [if_neg (by omega)]⟩
theorem FinS.pow {A : Nat → Int} (h : FinS A) (k : Nat) : FinS (powS A k) := by
  induction k with
  | zero => exact FinS.one
  | succ k ih => exact ih.mul h
theorem one_mul (A : Nat → Int) : mulS oneS A = A := by
  funext k
  show cv k oneS A = A k
  have := cv_mono k 0 1 A
  rw [if_pos (Nat.zero_le _), Int.one_mul, Nat.sub_zero] at this
  exact this
theorem mul_commS (A B : Nat → Int) : mulS A B = mulS B A := funext fun k => cv_comm k A B
theorem mul_assocS (A B C : Nat → Int) : mulS (mulS A B) C = mulS A (mulS B C) := funext fun k => cv_assoc k A B C
theorem pow_sqS (A : Nat → Int) (n : Nat) : powS (mulS A A) n = powS A (2 * n) := by
  induction n with
  | zero => rfl
  | succ n ih =>
    show mulS (powS (mulS A A) n) (mulS A A) = mulS (mulS (powS A (2 * n)) A) A
    rw [ih, mul_assocS]
/-- The state of the loop: r s^e is a^e0, modulo m. -/
def PowAt (f : Int) (m : List Int) (A : Nat → Int) (e0 e : Nat) (r s : List Int) : Prop := (Pol f r ∧ r.length < m.length) ∧ (Pol f s ∧ s.length < m.length) ∧ Cg f m (mulS (lf r) (powS (lf s) e)) (powS A e0)
theorem Cg.pow {f : Int} {b : List Int} {A A' : Nat → Int} (hA : FinS A) (hA' : FinS A') (h : Cg f b A A') (k : Nat) : Cg f b (powS A k) (powS A' k) := by
  induction k with
  | zero => exact Cg.refl
  | succ k ih => exact Cg.mul (hA'.pow k) hA ih h
theorem lf_mulL_cg (f : Int) (m a b : List Int) : Cg f m (lf (mulL f a b)) (mulS (lf a) (lf b)) := Cg.of fun j => by rw [lf_mulL]; simp [mulS]
theorem PowAt.odd {f : Int} {m r s s' r' : List Int} {A : Nat → Int} {e0 e : Nat} (h : PowAt f m A e0 e r s) (he : e % 2 = 1) (hr : IsRem f (lf (mulL f r s)) m r') (hs : IsRem f (lf (mulL f s s)) m s') : PowAt f m A e0 (e / 2) r' s' := by
  obtain ⟨h1, h2, h3⟩ := h
  refine ⟨⟨hr.1, hr.2.1⟩, ⟨hs.1, hs.2.1⟩, Cg.trans ?_ h3⟩
  have e1 : Cg f m (powS (lf s') (e / 2)) (powS (lf s) (e - 1)) := by
    have := Cg.pow (FinS.lf s') ((FinS.lf s).mul (FinS.lf s)) (hs.2.2.symm.trans (lf_mulL_cg f m s s)) (e / 2)
    rw [pow_sqS, show 2 * (e / 2) = e - 1 by omega] at this
    exact this
  have e2 : Cg f m (lf r') (mulS (lf r) (lf s)) := hr.2.2.symm.trans (lf_mulL_cg f m r s)
  have e3 := Cg.mul ((FinS.lf r).mul (FinS.lf s)) ((FinS.lf s').pow (e / 2)) e2 e1
  have e4 : mulS (mulS (lf r) (lf s)) (powS (lf s) (e - 1)) = mulS (lf r) (powS (lf s) e) := by
    rw [mul_assocS, mul_commS (lf s), show mulS (powS (lf s) (e - 1)) (lf s) = powS (lf s) (e - 1 + 1) from rfl, show e - 1 + 1 = e by omega]
  rw [e4] at e3
  exact e3
/-- a^e modulo m. -/
def IsPow (f : Int) (a : List Int) (e : Nat) (m r : List Int) : Prop := IsRem f (powS (lf a) e) m r
theorem PowAt.last {f : Int} {m r s a : List Int} {e0 : Nat} (h : PowAt f m (lf a) e0 0 r s) : IsPow f a e0 m r := by
  obtain ⟨h1, h2, h3⟩ := h
  refine ⟨h1.1, h1.2, ?_⟩
  have e : mulS (lf r) (powS (lf s) 0) = lf r := by show mulS (lf r) oneS = _; rw [mul_commS, one_mul]
  rw [e] at h3
  exact h3.symm
theorem PowAt.first {f : Int} {m r s a : List Int} {e0 : Nat} (hr : IsRem f oneS m r) (hs : IsRem f (lf a) m s) : PowAt f m (lf a) e0 e0 r s := by
  refine ⟨⟨hr.1, hr.2.1⟩, ⟨hs.1, hs.2.1⟩, ?_⟩
  have := Cg.mul FinS.one ((FinS.lf s).pow e0) hr.2.2.symm (Cg.pow (FinS.lf s) (FinS.lf a) hs.2.2.symm e0)
  rw [one_mul] at this
  exact this
theorem IsPow.unique {f : Int} (h0 : 0 ≤ f) (h8 : f ≤ 8) {a m r r' : List Int} {e : Nat} (hm : Pol f m) (h : IsPow f a e m r) (k : IsPow f a e m r') : r = r' := IsRem.unique h0 h8 hm h k Cg.refl
/-- One more factor. -/
theorem IsPow.succ {f : Int} (h0 : 0 ≤ f) (h8 : f ≤ 8) {a m x y r : List Int} {e : Nat} (hm : Pol f m) (hx : IsPow f a e m x) (hy : IsPow f a (e + 1) m y) (hr : IsRem f (lf (mulL f x a)) m r) : r = y := by
  refine IsRem.unique h0 h8 hm hr hy ?_
  refine (lf_mulL_cg f m x a).trans ?_
  show Cg f m _ (mulS (powS (lf a) e) (lf a))
  exact Cg.mul ((FinS.lf a).pow e) (FinS.lf a) hx.2.2.symm Cg.refl

/-- Values. -/
def evN (x : Int) (A : Nat → Int) (n : Nat) : Int := sumN (fun i => A i * x ^ i) n
theorem sumN_mul (c : Int) (g : Nat → Int) (n : Nat) : sumN (fun i => c * g i) n = c * sumN g n := by
  induction n with
  | zero => simp [sumN]
  | succ n ih => rw [sumN, sumN, ih, Int.mul_add]
theorem sumN_add (g h : Nat → Int) (n : Nat) : sumN (fun i => g i + h i) n = sumN g n + sumN h n := by
  induction n with
  | zero => simp [sumN]
  | succ n ih => rw [sumN, sumN, sumN, ih]; omega
theorem evN_succ (x : Int) (A : Nat → Int) (n : Nat) : evN x A (n + 1) = A 0 + x * evN x (tl A) n := by
  unfold evN
  rw [sumN_first]
  congr 1
  · simp
  · rw [← sumN_mul]
    exact sumN_congr fun i _ => by rw [Int.pow_succ]; show A (i + 1) * (x ^ i * x) = x * (A (i + 1) * x ^ i); rw [← Int.mul_assoc, Int.mul_comm]
theorem evN_more {x : Int} {A : Nat → Int} {n m : Nat} (hnm : n ≤ m) (h : ∀ j, n ≤ j → A j = 0) : evN x A m = evN x A n := sumN_more hnm fun i hi _ => by rw [h i hi, Int.zero_mul]
theorem evN_add (x : Int) (A B : Nat → Int) (n : Nat) : evN x (fun j => A j + B j) n = evN x A n + evN x B n := by
  unfold evN
  rw [← sumN_add]
  exact sumN_congr fun i _ => Int.add_mul _ _ _
end Go.Proofs.Ytaapmpjkcddabab
namespace Go.Proofs.Ytaapmpjkcddabab
open Go.RowKit
/-- A list in memory of its own, made at B or later: nil, or a whole block. -/
def OwnA (w : World) (B : Nat) (a : Option Addr) (l : List Int) (cap : Nat) : Prop :=
  (a = none ∧ cap = 0 ∧ l.length = 0) ∨ ∃ g, a = some ⟨g, 0, none⟩ ∧ cap = l.length ∧ B ≤ g ∧ Own w g l.length (lf l)
theorem OwnA.src {w : World} {B : Nat} {a : Option Addr} {l : List Int} {cap : Nat} (h : OwnA w B a l cap) : Src w a l.length (lf l) := by
  rcases h with ⟨_, _, h⟩ | ⟨g, rfl, _, _, h⟩
  · exact .inl h
  · exact h.src
theorem OwnA.keep {w w' : World} {B : Nat} {a : Option Addr} {l : List Int} {cap : Nat} (h : OwnA w B a l cap) (hb : Below w.heap.size w w') : OwnA w' B a l cap := by
  rcases h with h | ⟨g, h1, h2, h3, h4⟩
  · exact .inl h
  · exact .inr ⟨g, h1, h2, h3, h4.keep hb⟩
/-- Its block, if it has one, lies below B. -/
def Lies (a : Option Addr) (B : Nat) : Prop := ∀ x, a = some x → x.block < B
theorem OwnA.lies {w : World} {B : Nat} {a : Option Addr} {l : List Int} {cap : Nat} (h : OwnA w B a l cap) : Lies a w.heap.size := by
  intro x hx
  rcases h with ⟨h1, _⟩ | ⟨g, h1, _, _, h4⟩
  · rw [h1] at hx; cases hx
  · rw [h1] at hx; cases hx; exact h4.lt
theorem Lies.mono {a : Option Addr} {B B' : Nat} (h : Lies a B) (hB : B ≤ B') : Lies a B' := fun x hx => Nat.lt_of_lt_of_le (h x hx) hB
/-- The world has grown, and written at most into the block of a. -/
def Grow (w w' : World) (a : Option Addr) : Prop := w = w' ∨ ∃ g, a = some ⟨g, 0, none⟩ ∧ w.grownBy w' (some g)
theorem OwnA.after {w w' : World} {B cap : Nat} {a a2 : Option Addr} {l : List Int} (h : OwnA w B a2 l cap) (hg : Grow w w' a) (hl : Lies a B) : OwnA w' B a2 l cap := by
  rcases hg with rfl | ⟨g, rfl, hg⟩
  · exact h
  · have := hl _ rfl
    rcases h with h | ⟨g2, h1, h2, h3, h4⟩
    · exact .inl h
    · refine .inr ⟨g2, h1, h2, h3, World.rowIs.of_block h4 (hg.block g2 h4.lt (fun e => ?_))⟩
      injection e with e
      have : g < B := this
      omega
theorem Grow.below {u w w' : World} {B0 B cap : Nat} {a : Option Addr} {l : List Int} (hg : Grow w w' a) (ho : OwnA w B a l cap) (hB : B0 ≤ B) (hb : Below B0 u w) (hs : B0 ≤ w.heap.size) : Below B0 u w' := by
  rcases hg with rfl | ⟨g, rfl, hg⟩
  · exact hb
  · rcases ho with ⟨h, _⟩ | ⟨g2, h1, h2, h3, h4⟩
    · cases h
    · cases h1
      exact hb.grown hg hs (fun k hk => by injection hk with hk; omega)
theorem Grow.size {w w' : World} {a : Option Addr} (hg : Grow w w' a) : w.heap.size ≤ w'.heap.size := by
  rcases hg with rfl | ⟨g, rfl, hg⟩
  · exact Nat.le_refl _
  · exact hg.size
def ListL (w : World) (l : List Int) (e : Ending) (w' : World) : Prop := ∃ a cap, e = .returned (.slice a l.length cap) ∧ Src w' a l.length (lf l) ∧ Below w.heap.size w w'
def OwnL (w : World) (l : List Int) (e : Ending) (w' : World) : Prop := ∃ a cap, e = .returned (.slice a l.length cap) ∧ OwnA w' w.heap.size a l cap ∧ Below w.heap.size w w'
theorem OwnL.list {w w' : World} {l : List Int} {e : Ending} (h : OwnL w l e w') : ListL w l e w' := by
  obtain ⟨a, cap, h1, h2, h3⟩ := h
  exact ⟨a, cap, h1, h2.src, h3⟩
/-- A mark in a block that lies further on leaves it. -/
theorem OwnA.before {w w' : World} {B B2 cap cap2 : Nat} {a a2 : Option Addr} {l l2 : List Int} (h : OwnA w B a l cap) (hg : Grow w w' a2) (h2 : OwnA w B2 a2 l2 cap2) (hl : Lies a B2) : OwnA w' B a l cap := by
  rcases hg with rfl | ⟨g, rfl, hg⟩
  · exact h
  · rcases h with h | ⟨g1, rfl, h12, h13, h14⟩
    · exact .inl h
    · rcases h2 with ⟨h2, _⟩ | ⟨g2, h21, h22, h23, h24⟩
      · cases h2
      · cases h21
        have : g1 < B2 := hl _ rfl
        refine .inr ⟨g1, rfl, h12, h13, World.rowIs.of_block h14 (hg.block g1 h14.lt (fun e => ?_))⟩
        injection e with e
        omega
theorem OwnA.nil {w : World} {B : Nat} {l : List Int} (h : l.length = 0) : OwnA w B none l 0 := .inl ⟨rfl, rfl, h⟩
theorem own_congr {w : World} {g n m : Nat} {F G : Nat → Int} (h : Own w g n F) (hn : n = m) (e : ∀ j, j < n → F j = G j) : Own w g m G := by
  subst hn
  exact World.rowIs.congr h fun j hj => by rw [e j hj]
/-- A block of n integers is the list of its first n. -/
theorem OwnA.of {w : World} {g n B : Nat} {F : Nat → Int} {l : List Int} (h : Own w g n F) (hn : n = l.length) (hB : B ≤ g) (e : ∀ j, j < n → F j = lf l j) : OwnA w B (some ⟨g, 0, none⟩) l n :=
  .inr ⟨g, rfl, hn, hB, own_congr h hn e⟩
theorem below_up {B : Nat} {a w w' : World} (h : Below B a w) (h2 : Below w.heap.size w w') (hB : B ≤ w.heap.size) : Below B a w' := h.trans (h2.mono hB)
end Go.Proofs.Ytaapmpjkcddabab
namespace Go.Proofs.Ytaapmpjkcddabab
open Mth
def Dv (f : Int) (g : List Int) (A : Nat → Int) : Prop := Cg f g A (fun _ => 0)
theorem Dv.zero {f : Int} (_h0 : 0 ≤ f) (_h8 : f ≤ 8) {g : List Int} {A : Nat → Int} (h : ∀ j, A j = 0) : Dv f g A := Cg.of fun j => by rw [h j]
/-- What divides the divisor and the remainder divides the dividend. -/
theorem Dv.up {f : Int} (_h0 : 0 ≤ f) (_h8 : f ≤ 8) {g b : List Int} {A R : Nat → Int} (hb : Dv f g (lf b)) (hr : Dv f g R) (h : Cg f b A R) : Dv f g A := by
  obtain ⟨C, hC, h⟩ := h
  obtain ⟨B, hB, hb⟩ := hb
  obtain ⟨D, hD, hr⟩ := hr
  refine ⟨fun j => mulS C B j + D j, (hC.mul hB).add hD, fun j => ?_⟩
  rw [h j, cv_add_l, cv_assoc]
  have e1 : cv j C (lf b) % P f = cv j C (mulS B (lf g)) % P f := cv_mod j (fun _ => rfl) (fun i => by rw [hb i]; simp [mulS])
  have e2 := hr j
  rw [Int.add_zero] at e2
  rw [Int.add_zero]
  exact emod_add_congr e1 e2
end Go.Proofs.Ytaapmpjkcddabab
namespace Go.Proofs.Ytaapmpjkcddabab
open Go.RowKit
theorem made_n (n : Nat) (hn : n ≤ 1048576) (w : World) : (Instr.makeSlice 26 (.int .i64 (n : Int)) (.int .i64 (n : Int))).run Try.prog w = .ok (.slice (some ⟨w.heap.size, 0, none⟩) n n) (w.alloc (.cells (madeCells #[.int .i64 0] n) 3)) :=
  run_make_row' (P := Try.prog) 26 3 (.int .i64 0) 8 Try.underlying26 info3 rfl .i64 .i64 n (by omega) (by omega) w
theorem made_len (n : Nat) : (madeCells #[.int .i64 0] n).toList.length = n := by simp [size_madeCells]
theorem size3 : (Try.prog.info? 3).map (·.size) = some 1 := by kernel_rfl
theorem xsF_len (F : Nat → Int) (n : Nat) : (xsF F n).length = n := by simp [xsF]
theorem xsF_at {F : Nat → Int} {n j : Nat} {v : Value} (h : (xsF F n)[j]? = some v) : j < n ∧ v = .int .i64 (F j) := by
  unfold xsF at h
  rw [List.getElem?_map] at h
  by_cases hj : j < n
  · rw [List.getElem?_range hj] at h
    simp at h
    exact ⟨hj, h.symm⟩
  · rw [List.getElem?_eq_none (by simp; omega)] at h
    cases h
theorem xsF_one {F : Nat → Int} {n : Nat} : ∀ v ∈ xsF F n, v.oneCell' = true := by
  intro v hv
  unfold xsF at hv
  obtain ⟨j, _, rfl⟩ := List.mem_map.1 hv
  rfl
theorem own_splice {w : World} {g N off k : Nat} {F : Nat → Int} (hN : off + k ≤ N) (h : w.heap[g]? = some (.cells (splice (madeCells #[.int .i64 0] N).toList off (xsF F k)).toArray 3 (0, 0))) : Own w g N (fun j => if off ≤ j ∧ j < off + k then F (j - off) else 0) := by
  have hl := made_len N
  refine ⟨_, h, ?_, fun j hj => ?_⟩
  · rw [List.size_toArray, length_splice _ _ _ (by rw [xsF_len, hl]; exact hN), hl]
  · have hz : (madeCells #[.int .i64 0] N).toList[j]? = some (.int .i64 0) := by
      have := World.rowIs_made default (.int .i64 0) N 3
      obtain ⟨cur, h1, h2, h3⟩ := this
      have e : cur = madeCells #[.int .i64 0] N := by
        have h5 : ((default : World).alloc (.cells (madeCells #[.int .i64 0] N) 3)).heap[(default : World).heap.size]? = some (.cells (madeCells #[.int .i64 0] N) 3) := by unfold World.alloc; simp
        rw [h5] at h1
        injection h1 with h1
        injection h1 with h1
        exact h1.symm
      subst e
      have := h3 j hj
      simpa using this
    have ht : (List.take off (madeCells #[.int .i64 0] N).toList).length = off := by rw [List.length_take, hl]; omega
    show (splice (madeCells #[.int .i64 0] N).toList off (xsF F k)).toArray[j]? = _
    rw [List.getElem?_toArray]
    unfold splice
    by_cases h1 : j < off
    · rw [List.getElem?_append_left (by omega), List.getElem?_take_of_lt h1, hz]
      simp [show ¬ off ≤ j by omega]
    · rw [List.getElem?_append_right (by omega), ht]
      by_cases h2 : j < off + k
      · rw [List.getElem?_append_left (by rw [xsF_len]; omega)]
        simp [xsF, show j - off < k by omega, show off ≤ j by omega, h2]
      · rw [List.getElem?_append_right (by rw [xsF_len]; omega), List.getElem?_drop, xsF_len, show off + k + (j - off - k) = j by omega, hz]
        simp [h2]
/-- A list in a new block of its very size. -/
def OwnG (w : World) (l : List Int) (e : Ending) (w' : World) : Prop := ∃ g, e = .returned (.slice (some ⟨g, 0, none⟩) l.length l.length) ∧ w.heap.size ≤ g ∧ Own w' g l.length (lf l) ∧ Below w.heap.size w w'
theorem OwnG.own {w w' : World} {l : List Int} {e : Ending} (h : OwnG w l e w') : OwnL w l e w' := by
  obtain ⟨g, rfl, hg, ho, hb⟩ := h
  exact ⟨_, _, rfl, .inr ⟨g, rfl, rfl, hg, ho⟩, hb⟩
theorem OwnG.up {u w w' : World} {l : List Int} {e : Ending} (h : OwnG w l e w') (hb : Below u.heap.size u w) : OwnG u l e w' := by
  obtain ⟨g, rfl, hg, ho, h2⟩ := h
  exact ⟨g, rfl, Nat.le_trans hb.size hg, ho, below_up hb h2 hb.size⟩
theorem OwnG.of_own {w w' : World} {g n : Nat} {F : Nat → Int} {l : List Int} (h : Own w' g n F) (hn : n = l.length) (hB : w.heap.size ≤ g) (e : ∀ j, j < n → F j = lf l j) (hb : Below w.heap.size w w') : OwnG w l (.returned (.slice (some ⟨g, 0, none⟩) n n)) w' := by
  subst hn
  exact ⟨g, rfl, hB, own_congr h rfl e, hb⟩
end Go.Proofs.Ytaapmpjkcddabab
namespace Go.Proofs.Ytaapmpjkcddabab
open Go.RowKit
def SameB (w : World) (b : Bool) (e : Ending) (w' : World) : Prop := e = .returned (.bool b) ∧ w = w'
theorem in_c (x lo hi : Int) (w : World) : Calls Try.prog 12 #[.int .i64 x, .int .i64 lo, .int .i64 hi] w (SameB w (decide (lo ≤ x ∧ x ≤ hi))) := by
  by_cases h1 : lo ≤ x
  · by_cases h2 : x ≤ hi
    · go_enter Try.func12, Try.ntmps12
      go_wp2
      go_ret
      exact ⟨by simp [h1, h2], rfl⟩
    · have hd : decide (x ≤ hi) = false := by simpa using h2
      go_enter Try.func12, Try.ntmps12
      go_wp2
      go_ret
      exact ⟨by simp, rfl⟩
  · have hd : decide (lo ≤ x) = false := by simpa using h1
    go_enter Try.func12, Try.ntmps12
    go_wp2
    go_ret
    exact ⟨by simp, rfl⟩
end Go.Proofs.Ytaapmpjkcddabab
namespace Go.Proofs.Ytaapmpjkcddabab
open Go.RowKit
theorem src_of_owns2 {w' : World} {base : Nat} {v : Value} {n : Nat} {F : Nat → Int} (h : w'.ownsRow base 3 1 v n (xsF F n)) : ∃ a cap, v = .slice a n cap ∧ n ≤ cap ∧ Src w' a n F := by
  obtain ⟨a, cap, hv, hs⟩ := src_of_owns h
  refine ⟨a, cap, hv, ?_, hs⟩
  obtain ⟨hl, h⟩ := h
  rcases h with ⟨h1, h2⟩ | ⟨g, cap', cur, h1, hg, hh, hc, hm, hs, ht⟩
  · rw [hv] at h1; cases h1; exact Nat.le_refl _
  · rw [hv] at h1; cases h1; exact hc
/-- A list that the call made, in a row of its own that may have room. -/
def OwnsL (w : World) (l : List Int) (e : Ending) (w' : World) : Prop := ∃ v, e = .returned v ∧ w'.ownsRow w.heap.size 3 1 v l.length (xsF (lf l) l.length) ∧ Below w.heap.size w w'
theorem OwnsL.list {w w' : World} {l : List Int} {e : Ending} (h : OwnsL w l e w') : ListL w l e w' := by
  obtain ⟨v, rfl, ho, hb⟩ := h
  obtain ⟨a, cap, rfl, _, hs⟩ := src_of_owns2 ho
  exact ⟨a, cap, rfl, hs, hb⟩
theorem owns_to {w w' : World} {n : Nat} {F : Nat → Int} {l : List Int} {v : Value} (h : w'.ownsRow w.heap.size 3 1 v n (xsF F n)) (hn : n = l.length) (e : ∀ j, j < n → F j = lf l j) (hb : Below w.heap.size w w') : OwnsL w l (.returned v) w' := by
  subst hn
  exact ⟨v, rfl, by rw [← xsF_congr e]; exact h, hb⟩
theorem OwnsL.up {u w w' : World} {l : List Int} {e : Ending} (h : OwnsL w l e w') (hb : Below u.heap.size u w) (hs : u.heap.size ≤ w.heap.size) : OwnsL u l e w' := by
  obtain ⟨v, rfl, ho, h2⟩ := h
  refine ⟨v, rfl, ?_, below_up hb h2 hs⟩
  obtain ⟨hl, h⟩ := ho
  refine ⟨hl, ?_⟩
  rcases h with h | ⟨g, cap, cur, h1, hg, hr⟩
  · exact .inl h
  · exact .inr ⟨g, cap, cur, h1, Nat.le_trans hs hg, hr⟩
end Go.Proofs.Ytaapmpjkcddabab
namespace Go.Proofs.Ytaapmpjkcddabab
open Mth
theorem P6 : P 6 = 998244353 := by decide
theorem P7 : P 7 = 469762049 := by decide
/-- The product of the primes of the fields 6 and 7. -/
def MM : Int := 468937312667959297
theorem bezout_dvd {a b s t u v : Int} (hb : a * s + b * t = 1) (e : a * u = b * v) : b ∣ u := by
  have h1 : (a * s + b * t) * u = s * (a * u) + b * (t * u) := by
    rw [Int.add_mul]
    congr 1
    · rw [Int.mul_comm a s, Int.mul_assoc]
    · rw [Int.mul_assoc]
  rw [hb, Int.one_mul, e] at h1
  exact ⟨s * v + t * u, h1.trans (by rw [Int.mul_add, ← Int.mul_assoc s b v, Int.mul_comm s b, Int.mul_assoc])⟩
theorem bez67 : (998244353 : Int) * 208783132 + 469762049 * (-443664155) = 1 := by decide
theorem mul67 : (998244353 : Int) * 469762049 = 468937312667959297 := by decide
theorem small_zero {z t : Int} (h : z = 468937312667959297 * t) (h1 : -468937312667959297 < z) (h2 : z < 468937312667959297) : z = 0 := by omega
/-- A number below MM is known by its two residues. -/
theorem crt_unique {x y : Int} (x0 : 0 ≤ x) (x1 : x < MM) (y0 : 0 ≤ y) (y1 : y < MM) (h6 : x % P 6 = y % P 6) (h7 : x % P 7 = y % P 7) : x = y := by
  rw [P6] at h6
  rw [P7] at h7
  unfold MM at x1 y1
  obtain ⟨u, hu⟩ : (998244353 : Int) ∣ x - y := Int.dvd_of_emod_eq_zero (Int.emod_eq_emod_iff_emod_sub_eq_zero.1 h6)
  obtain ⟨v, hv⟩ : (469762049 : Int) ∣ x - y := Int.dvd_of_emod_eq_zero (Int.emod_eq_emod_iff_emod_sub_eq_zero.1 h7)
  obtain ⟨t, ht⟩ := bezout_dvd bez67 (hu.symm.trans hv)
  rw [ht, ← Int.mul_assoc, mul67] at hu
  have := small_zero hu (by clear hu hv ht h6 h7; omega) (by clear hu hv ht h6 h7; omega)
  clear hu hv ht h6 h7
  omega
/-- z is the number of the residues a, b. -/
def IsJoined (a b z : Int) : Prop := 0 ≤ z ∧ z < MM ∧ z % P 6 = a ∧ z % P 7 = b
theorem IsJoined.unique {a b y z : Int} (hy : IsJoined a b y) (hz : IsJoined a b z) : y = z :=
  crt_unique hy.1 hy.2.1 hz.1 hz.2.1 (hy.2.2.1.trans hz.2.2.1.symm) (hy.2.2.2.trans hz.2.2.2.symm)
end Go.Proofs.Ytaapmpjkcddabab
namespace Go.Proofs.Ytaapmpjkcddabab
open Go.RowKit
def NilP (w : World) (e : Ending) (w' : World) : Prop := e = .returned (.slice none 0 0) ∧ Below w.heap.size w w'
theorem NilP.list {w w' : World} {l : List Int} {e : Ending} (hl : l = []) (h : NilP w e w') : ListL w l e w' := by
  subst hl
  obtain ⟨rfl, hb⟩ := h
  exact ⟨none, 0, rfl, .inl rfl, hb⟩
theorem NilP.own {w w' : World} {l : List Int} {e : Ending} (hl : l = []) (h : NilP w e w') : OwnL w l e w' := by
  subst hl
  obtain ⟨rfl, hb⟩ := h
  exact ⟨none, 0, rfl, OwnA.nil rfl, hb⟩
theorem at_some (b off n cap : Nat) (F : Nat → Int) (i : Nat) (w : World) (hi : i < n) (_hn : n ≤ 1048576) (hc : w.cell? ⟨b, off + i, none⟩ = some (.int .i64 (F i))) :
    Calls Try.prog 8 #[.slice (some ⟨b, off, none⟩) n cap, .int .i64 i] w fun e w' => e = .returned (.int .i64 (F i)) ∧ w = w' := by
  have hd : decide ((i : Int) < n) = true := by simp; omega
  go_enter Try.func8, Try.ntmps8
  go_wp2
  go_ret
  exact ⟨rfl, rfl⟩
theorem at_none (a : Option Addr) (n cap : Nat) (i : Nat) (w : World) (hi : n ≤ i) : Calls Try.prog 8 #[.slice a n cap, .int .i64 i] w fun e w' => e = .returned (.int .i64 0) ∧ w = w' := by
  have hd : decide ((i : Int) < n) = false := by simp; omega
  go_enter Try.func8, Try.ntmps8
  go_wp2
  go_ret
  exact ⟨rfl, rfl⟩
theorem at_c (a : Option Addr) (l : List Int) (cap i : Nat) (w : World) (hn : l.length ≤ 1048576) (hs : Src w a l.length (lf l)) : Calls Try.prog 8 #[.slice a l.length cap, .int .i64 i] w fun e w' => e = .returned (.int .i64 (lf l i)) ∧ w = w' := by
  by_cases hi : i < l.length
  · rcases hs with hz | ⟨b, off, rfl, hlt, hc⟩
    · omega
    · exact at_some b off l.length cap (lf l) i w hi hn (hc i hi)
  · rw [lf_out l (by omega)]
    exact at_none a l.length cap i w (by omega)
end Go.Proofs.Ytaapmpjkcddabab
namespace Go.Proofs.Ytaapmpjkcddabab
open Go.RowKit
/-- A byte of a text. -/
def bt (s : ByteArray) (j : Nat) : Int := ((s.data.toList.getD j 0).toNat : Int)
def DigOk (s : ByteArray) : Prop := (1 ≤ s.size ∧ s.size ≤ 300) ∧ (∀ j, j < s.size → 48 ≤ bt s j ∧ bt s j ≤ 57) ∧ (bt s 0 ≠ 48 ∨ s.size = 1)
theorem bt_get {s : ByteArray} {j : Nat} (h : j < s.size) : bt s j = ((s[j]'h).toNat : Int) := by
  unfold bt
  have h2 : j < s.data.toList.length := by simpa using h
  rw [List.getD_eq_getElem?_getD, List.getElem?_eq_getElem h2]
  simp
  rfl
open Classical in
noncomputable def mDigitsOk (s : ByteArray) : Bool := decide (DigOk s)
theorem dig_iff {s : ByteArray} : mDigitsOk s = true ↔ DigOk s := by unfold mDigitsOk; simp
theorem dig_not {s : ByteArray} : mDigitsOk s = false ↔ ¬ DigOk s := by unfold mDigitsOk; simp
set_option maxHeartbeats 1600000 in
theorem sDigitsOk (s : ByteArray) (w : World) (hs : s.size ≤ 1048576) : Calls Try.prog 6 #[.string s] w (SameB w (mDigitsOk s)) := by
  have I1 := in_c s.size 1 300 w
  by_cases h1 : 1 ≤ s.size ∧ s.size ≤ 300
  · rw [show decide (1 ≤ (s.size : Int) ∧ (s.size : Int) ≤ 300) = true from decide_eq_true (by omega)] at I1
    have HI := Lib.hid I1
    have HN : Hid (∀ k, k < s.size → ¬ (48 ≤ bt s k ∧ bt s k ≤ 57) → mDigitsOk s = false) := Lib.hid fun k hk h => dig_not.2 fun hd => h (hd.2.1 k hk)
    have HE : Hid ((∀ j, j < s.size → 48 ≤ bt s j ∧ bt s j ≤ 57) → ∀ B : Bool, (B = true ↔ (bt s 0 ≠ 48 ∨ s.size = 1)) → mDigitsOk s = B) := Lib.hid fun ha B hB => by
      cases B
      · exact dig_not.2 fun hd => by have := hB.2 hd.2.2; cases this
      · exact dig_iff.2 ⟨h1, ha, hB.1 rfl⟩
    clear I1
    go_enter Try.func6, Try.ntmps6
    go_wp2_with fail
    refine HI.out.mono ?_
    rintro e w' ⟨rfl, rfl⟩
    clear HI
    go_wp2_with fail
    go_loop [3] (fun i => ∃ k : Nat, i = .int .i64 k ∧ k ≤ s.size ∧ Hid (∀ j, j < k → 48 ≤ bt s j ∧ bt s j ≤ 57)) (fun i => s.size - (intOf i).toNat)
    case atStart => exact ⟨0, rfl, Nat.zero_le _, Lib.hid (fun j hj => by omega)⟩
    case round =>
      obtain ⟨k, rfl, hk, HA⟩ := hrel
      by_cases h2 : k < s.size
      · have hd1 : decide ((k : Int) < s.size) = true := decide_eq_true (by omega)
        have i1 : (0 : Int) ≤ (k : Int) ∧ (k : Int) < s.size := by omega
        have hb := bt_get h2
        by_cases hlo : (s[k].toNat : Int) < 48
        · have dlo : decide ((s[k].toNat : Int) < 48) = true := decide_eq_true hlo
          have HR := Lib.hid (HN.out k h2 (by omega))
          go_wp2
          go_ret
          exact ⟨by rw [HR.out]; rfl, rfl⟩
        · have dlo : decide ((s[k].toNat : Int) < 48) = false := decide_eq_false hlo
          by_cases hhi : 57 < (s[k].toNat : Int)
          · have dhi : decide (57 < (s[k].toNat : Int)) = true := decide_eq_true hhi
            have HR := Lib.hid (HN.out k h2 (by omega))
            go_wp2
            go_ret
            exact ⟨by rw [HR.out]; rfl, rfl⟩
          · have dhi : decide (57 < (s[k].toNat : Int)) = false := decide_eq_false hhi
            have HA2 : Hid (∀ j, j < k + 1 → 48 ≤ bt s j ∧ bt s j ≤ 57) := Lib.hid (fun j hj => by
              by_cases e : j = k
              · subst e; omega
              · exact HA.out j (by omega))
            clear HA hb
            go_wp2
            go_round
            case rel => exact ⟨k + 1, by go_num, by omega, HA2⟩
            case measure => simp [intOf]; omega
      · have hd1 : decide ((k : Int) < s.size) = false := decide_eq_false (by omega)
        obtain rfl : k = s.size := by omega
        have h0 : 0 < s.size := by omega
        have hb := bt_get h0
        have HE2 := Lib.hid (HE.out HA.out)
        clear HA HE HN
        by_cases hz : (s[0].toNat : Int) = 48
        · have dz : ((s[0].toNat : Int) != 48) = false := by simp [hz]
          by_cases h11 : s.size = 1
          · have d1 : ((s.size : Int) == 1) = true := by simp [h11]
            have HR := Lib.hid (HE2.out true ⟨fun _ => .inr h11, fun _ => rfl⟩)
            clear h11 hb hz
            go_wp2
            go_ret
            exact ⟨by rw [HR.out]; rfl, rfl⟩
          · have d1 : ((s.size : Int) == 1) = false := by rw [beq_eq_false_iff_ne]; omega
            have HR := Lib.hid (HE2.out false ⟨(fun h => by cases h), (fun h => by rcases h with h | h <;> omega)⟩)
            clear h11 hb hz
            go_wp2
            go_ret
            exact ⟨by rw [HR.out]; rfl, rfl⟩
        · have dz : ((s[0].toNat : Int) != 48) = true := by rw [bne_iff_ne]; exact hz
          have HR := Lib.hid (HE2.out true ⟨fun _ => .inl (by omega), fun _ => rfl⟩)
          clear hb hz
          go_wp2
          go_ret
          exact ⟨by rw [HR.out]; rfl, rfl⟩
  · rw [show decide (1 ≤ (s.size : Int) ∧ (s.size : Int) ≤ 300) = false from decide_eq_false (by omega)] at I1
    have HB := Lib.hid (dig_not.2 fun h : DigOk s => h1 h.1)
    clear h1
    go_enter Try.func6, Try.ntmps6
    go_wp2_with fail
    refine I1.mono ?_
    rintro e w' ⟨rfl, rfl⟩
    go_wp2
    go_ret
    exact ⟨by rw [HB.out]; rfl, rfl⟩
end Go.Proofs.Ytaapmpjkcddabab
namespace Go.Proofs.Ytaapmpjkcddabab
open Mth
/-- Field f has a root of order 2^k. -/
def hasK (f k : Int) : Prop := (0 ≤ f ∧ f ≤ 8) ∧ 0 ≤ k ∧ k ≤ T f
instance (f k : Int) : Decidable (hasK f k) := inferInstanceAs (Decidable ((0 ≤ f ∧ f ≤ 8) ∧ 0 ≤ k ∧ k ≤ T f))
theorem hasK_iff (f k : Int) : hasK f k ↔ 0 ≤ k ∧ k ≤ T f := by
  constructor
  · exact fun h => h.2
  · intro h
    refine ⟨?_, h⟩
    by_cases hf : 0 ≤ f ∧ f ≤ 8
    · exact hf
    · have := T_off (f := f) (by omega); omega
/-- Logarithms. -/
def mLog (n : Int) : Int := if n = 1 then 0 else if n = 2 then 1 else if n = 4 then 2 else if n = 8 then 3 else if n = 16 then 4 else if n = 32 then 5 else if n = 64 then 6 else if n = 128 then 7 else if n = 256 then 8 else if n = 512 then 9 else -1
theorem ten {k : Nat} (h : k ≤ 9) : k = 0 ∨ k = 1 ∨ k = 2 ∨ k = 3 ∨ k = 4 ∨ k = 5 ∨ k = 6 ∨ k = 7 ∨ k = 8 ∨ k = 9 := by omega
theorem log_at {k : Nat} (h : k ≤ 9) : mLog (2 ^ k) = k := by
  rcases ten h with rfl | rfl | rfl | rfl | rfl | rfl | rfl | rfl | rfl | rfl <;> decide
theorem log_off {n : Int} (h : ∀ k : Nat, k ≤ 9 → n ≠ 2 ^ k) : mLog n = -1 := by
  have h0 := h 0 (by omega); have h1 := h 1 (by omega); have h2 := h 2 (by omega); have h3 := h 3 (by omega); have h4 := h 4 (by omega)
  have h5 := h 5 (by omega); have h6 := h 6 (by omega); have h7 := h 7 (by omega); have h8 := h 8 (by omega); have h9 := h 9 (by omega)
  simp at h0 h1 h2 h3 h4 h5 h6 h7 h8 h9
  simp [mLog, h0, h1, h2, h3, h4, h5, h6, h7, h8, h9]
theorem log_cases (n : Int) : (∃ k : Nat, k ≤ 9 ∧ n = 2 ^ k ∧ mLog n = k) ∨ ((∀ k : Nat, k ≤ 9 → n ≠ 2 ^ k) ∧ mLog n = -1) := by
  by_cases h : ∃ k : Nat, k ≤ 9 ∧ n = 2 ^ k
  · obtain ⟨k, hk, rfl⟩ := h
    exact .inl ⟨k, hk, rfl, log_at hk⟩
  · have h2 : ∀ k : Nat, k ≤ 9 → n ≠ 2 ^ k := fun k hk e => h ⟨k, hk, e⟩
    exact .inr ⟨h2, log_off h2⟩
/-- The first j bits of x, the lowest first. -/
def rv (x : Nat) : Nat → Nat
  | 0 => 0
  | j + 1 => 2 * rv x j + x / 2 ^ j % 2
end Go.Proofs.Ytaapmpjkcddabab
namespace Go.Proofs.Ytaapmpjkcddabab
open Mth
theorem sumN_mod {p : Int} {f g : Nat → Int} {n : Nat} (h : ∀ i, i < n → f i % p = g i % p) : sumN f n % p = sumN g n % p := by
  induction n with
  | zero => rfl
  | succ n ih => rw [sumN, sumN]; exact emod_add_congr (ih fun i hi => h i (by omega)) (h n (by omega))
theorem sumN_zero {f : Nat → Int} {n : Nat} (h : ∀ i, i < n → f i = 0) : sumN f n = 0 := by
  induction n with
  | zero => rfl
  | succ n ih => rw [sumN, ih fun i hi => h i (by omega), h n (by omega)]; rfl
theorem sumN_split (f : Nat → Int) (a b : Nat) : sumN f (a + b) = sumN f a + sumN (fun i => f (a + i)) b := by
  induction b with
  | zero => simp [sumN]
  | succ b ih => rw [← Nat.add_assoc, sumN, ih, sumN]; omega
theorem sumN_mul_r (c : Int) (g : Nat → Int) (n : Nat) : sumN (fun i => g i * c) n = sumN g n * c := by
  rw [Int.mul_comm (sumN g n), ← sumN_mul]
  exact sumN_congr fun i _ => Int.mul_comm _ _
/-- Even and odd places. -/
theorem sumN_even (F : Nat → Int) (h : Nat) : sumN F (2 * h) = sumN (fun u => F (2 * u)) h + sumN (fun u => F (2 * u + 1)) h := by
  induction h with
  | zero => rfl
  | succ h ih => rw [show 2 * (h + 1) = 2 * h + 1 + 1 by omega, sumN, sumN, ih, sumN, sumN]; omega
theorem pow_mod_congr {p a b : Int} (k : Nat) (h : a % p = b % p) : a ^ k % p = b ^ k % p := by
  induction k with
  | zero => rw [Int.pow_zero, Int.pow_zero]
  | succ k ih => rw [Int.pow_succ, Int.pow_succ]; exact emod_mul_congr ih h
theorem one_pow_mod {p a : Int} (k : Nat) (h : a % p = 1 % p) : a ^ k % p = 1 % p := by
  have := pow_mod_congr k h
  rwa [Int.one_pow] at this
/-- w is a root of order n in field f, v its inverse. -/
structure Rt (f : Int) (w v : Int) (n : Nat) : Prop where
  h0 : 0 ≤ f
  h8 : f ≤ 8
  n0 : 0 < n
  ord : ∀ m, w ^ m % P f = 1 % P f ↔ n ∣ m
  inv : (w * v) % P f = 1 % P f
theorem Rt.full {f w v : Int} {n : Nat} (h : Rt f w v n) : w ^ n % P f = 1 % P f := (h.ord n).2 (Nat.dvd_refl n)
/-- Exponents count modulo n. -/
theorem Rt.exp {f w v : Int} {n : Nat} (h : Rt f w v n) {a b : Nat} (e : a % n = b % n) : w ^ a % P f = w ^ b % P f := by
  have step : ∀ c, w ^ c % P f = w ^ (c % n) % P f := fun c => by
    have : w ^ c = (w ^ n) ^ (c / n) * w ^ (c % n) := by rw [← Int.pow_mul, ← Int.pow_add, Nat.div_add_mod]
    rw [this]
    have := emod_mul_congr (one_pow_mod (c / n) h.full) (show w ^ (c % n) % P f = w ^ (c % n) % P f from rfl)
    rwa [Int.one_mul] at this
  rw [step a, step b, e]
/-- The transform, unreduced. -/
def ftF (w : Int) (n : Nat) (A : Nat → Int) (i : Nat) : Int := sumN (fun j => A j * w ^ (i * j)) n
end Go.Proofs.Ytaapmpjkcddabab
namespace Go.Proofs.Ytaapmpjkcddabab
/-- The number of the first n digits, the least first. -/
def dv (D : Nat → Int) (n : Nat) : Int := sumN (fun i => D i * 10 ^ i) n
def Dig (D : Nat → Int) (n : Nat) : Prop := ∀ i, i < n → 0 ≤ D i ∧ D i < 10
theorem pow10_pos (n : Nat) : (0 : Int) < 10 ^ n := by
  induction n with
  | zero => decide
  | succ n ih => rw [Int.pow_succ]; omega
theorem dv_bd {D : Nat → Int} {n : Nat} (h : Dig D n) : 0 ≤ dv D n ∧ dv D n < 10 ^ n := by
  induction n with
  | zero => exact ⟨Int.le_refl _, by show (0 : Int) < 10 ^ 0; decide⟩
  | succ n ih =>
    have i1 := ih fun i hi => h i (by omega)
    have i2 := h n (by omega)
    have hp := pow10_pos n
    have e : dv D (n + 1) = dv D n + D n * 10 ^ n := rfl
    have h1 : D n * 10 ^ n ≤ 9 * 10 ^ n := Int.mul_le_mul_of_nonneg_right (by omega) (by omega)
    have h0 : 0 ≤ D n * 10 ^ n := Int.mul_nonneg i2.1 (by omega)
    rw [e, Int.pow_succ]
    omega
theorem dv_first (D : Nat → Int) (n : Nat) : dv D (n + 1) = D 0 + 10 * dv (tl D) n := evN_succ 10 D n
/-- Digits of equal numbers are equal, place by place. -/
theorem dig_eq : ∀ (n : Nat) {D E : Nat → Int}, Dig D n → Dig E n → dv D n = dv E n → ∀ i, i < n → D i = E i
  | 0, _, _, _, _, _, _, hi => by omega
  | n + 1, D, E, hD, hE, h, i, hi => by
    rw [dv_first, dv_first] at h
    have d0 := hD 0 (by omega)
    have e0 := hE 0 (by omega)
    have h0 : D 0 = E 0 := by omega
    have ht : dv (tl D) n = dv (tl E) n := by omega
    match i with
    | 0 => exact h0
    | j + 1 => exact dig_eq n (fun i hi => hD (i + 1) (by omega)) (fun i hi => hE (i + 1) (by omega)) ht j (by omega)
/-- A numeral: at least one digit, and none ahead of it that is 0. -/
def Can (D : Nat → Int) (n : Nat) : Prop := Dig D n ∧ 1 ≤ n ∧ (n = 1 ∨ D (n - 1) ≠ 0)
theorem can_low {D : Nat → Int} {n : Nat} (h : Can D (n + 1)) (hn : n ≠ 0) : 10 ^ n ≤ dv D (n + 1) := by
  have b := dv_bd (D := D) (n := n) fun i hi => h.1 i (by omega)
  have hd := h.1 n (by omega)
  have hz : D n ≠ 0 := by
    rcases h.2.2 with h1 | h1
    · omega
    · exact h1
  have e : dv D (n + 1) = dv D n + D n * 10 ^ n := rfl
  have h1 : 1 * 10 ^ n ≤ D n * 10 ^ n := Int.mul_le_mul_of_nonneg_right (by omega) (by have := pow10_pos n; omega)
  omega
theorem pow10_mono {a b : Nat} (h : a ≤ b) : (10 : Int) ^ a ≤ 10 ^ b := by
  induction b with
  | zero => rw [show a = 0 by omega]; exact Int.le_refl _
  | succ b ih =>
    by_cases hb : a ≤ b
    · have := ih hb
      have := pow10_pos b
      rw [Int.pow_succ]
      omega
    · rw [show a = b + 1 by omega]; exact Int.le_refl _
/-- The shorter numeral is the lesser number. -/
theorem can_lt {D E : Nat → Int} {n m : Nat} (hD : Can D n) (hE : Can E m) (h : n < m) : dv D n < dv E m := by
  obtain ⟨k, rfl⟩ : ∃ k, m = k + 1 := ⟨m - 1, by omega⟩
  have b := dv_bd hD.1
  have l := can_low hE (by have := hD.2.1; omega)
  have := pow10_mono (show n ≤ k by omega)
  omega
/-- A numeral is known by its number. -/
theorem can_unique {D E : Nat → Int} {n m : Nat} (hD : Can D n) (hE : Can E m) (h : dv D n = dv E m) : n = m ∧ ∀ i, i < n → D i = E i := by
  have e : n = m := by
    rcases Nat.lt_trichotomy n m with h1 | h1 | h1
    · have := can_lt hD hE h1; omega
    · exact h1
    · have := can_lt hE hD h1; omega
  subst e
  exact ⟨rfl, dig_eq n hD.1 hE.1 h⟩
/-- Carrying: after i places, what has been written, and what is carried. -/
def Carry (S B : Nat → Int) (i : Nat) (up : Int) : Prop := Dig B i ∧ 0 ≤ up ∧ dv B i + up * 10 ^ i = dv S i
theorem Carry.start (S B : Nat → Int) : Carry S B 0 0 := ⟨fun i hi => by omega, Int.le_refl _, rfl⟩
theorem Carry.step {S B : Nat → Int} {i : Nat} {up : Int} (h : Carry S B i up) (hs : 0 ≤ S i) (hb : B i = (up + S i) % 10) : Carry S B (i + 1) ((up + S i) / 10) := by
  have hu := h.2.1
  refine ⟨fun j hj => ?_, by omega, ?_⟩
  · by_cases e : j = i
    · subst e; rw [hb]; omega
    · exact h.1 j (by omega)
  · have e1 : dv B (i + 1) = dv B i + B i * 10 ^ i := rfl
    have e2 : dv S (i + 1) = dv S i + S i * 10 ^ i := rfl
    have e3 : up + S i = (up + S i) % 10 + (up + S i) / 10 * 10 := by omega
    have e4 : (up + S i) * 10 ^ i = B i * 10 ^ i + (up + S i) / 10 * 10 ^ (i + 1) := by
      conv => lhs; rw [e3]
      rw [Int.add_mul, hb, Int.pow_succ, Int.mul_assoc, Int.mul_comm 10 (10 ^ i)]
    have e5 := h.2.2
    rw [Int.add_mul] at e4
    rw [e1, e2]
    omega
/-- Where nothing is carried any more, what was written has the number of all the sums. -/
theorem Carry.last {S B : Nat → Int} {i n : Nat} (h : Carry S B i 0) (hn : n ≤ i) (hz : ∀ j, n ≤ j → S j = 0) : dv B i = dv S n := by
  have := h.2.2
  rw [Int.zero_mul, Int.add_zero] at this
  rw [this]
  exact sumN_more hn fun j hj _ => by rw [hz j hj, Int.zero_mul]
/-- Zeros at the top do not count. -/
theorem dv_cut {B : Nat → Int} {n m : Nat} (h : m ≤ n) (hz : ∀ j, m ≤ j → j < n → B j = 0) : dv B n = dv B m := sumN_more h fun j h1 h2 => by rw [hz j h1 h2, Int.zero_mul]
/-- Sums and products. -/
theorem dv_add (D E : Nat → Int) (n : Nat) : dv (fun i => D i + E i) n = dv D n + dv E n := evN_add 10 D E n
end Go.Proofs.Ytaapmpjkcddabab
namespace Go.Proofs.Ytaapmpjkcddabab
/-- The digits from place lo on, to the end of the six of place p. -/
def tS (D : Nat → Int) (n k p : Nat) : Int := dv (fun j => D (max (6 * p) (n - k) + j)) (6 * p + 6 - max (6 * p) (n - k))
theorem dv_zero {D : Nat → Int} {n : Nat} (h : ∀ j, j < n → D j = 0) : dv D n = 0 := sumN_zero fun i hi => by rw [h i hi, Int.zero_mul]
theorem tS_start {D : Nat → Int} {n : Nat} (h : ∀ j, n ≤ j → D j = 0) (p : Nat) : tS D n 0 p = 0 := dv_zero fun j _ => h _ (by omega)
theorem tS_hit (D : Nat → Int) {n k p : Nat} (hk : k < n) (h : (n - 1 - k) / 6 = p) : tS D n (k + 1) p = tS D n k p * 10 + D (n - 1 - k) := by
  unfold tS
  rw [show max (6 * p) (n - (k + 1)) = n - 1 - k by omega, show max (6 * p) (n - k) = n - 1 - k + 1 by omega, show 6 * p + 6 - (n - 1 - k) = (6 * p + 6 - (n - 1 - k + 1)) + 1 by omega, dv_first]
  have e : tl (fun j => D (n - 1 - k + j)) = fun j => D (n - 1 - k + 1 + j) := by
    funext j
    show D (n - 1 - k + (j + 1)) = _
    rw [show n - 1 - k + (j + 1) = n - 1 - k + 1 + j by omega]
  rw [e, Nat.add_zero, Int.mul_comm]
  omega
theorem tS_miss (D : Nat → Int) {n k p : Nat} (hk : k < n) (h : (n - 1 - k) / 6 ≠ p) : tS D n (k + 1) p = tS D n k p := by
  unfold tS
  by_cases h1 : n - 1 - k < 6 * p
  · rw [show max (6 * p) (n - (k + 1)) = 6 * p by omega, show max (6 * p) (n - k) = 6 * p by omega]
  · rw [show 6 * p + 6 - max (6 * p) (n - (k + 1)) = 0 by omega, show 6 * p + 6 - max (6 * p) (n - k) = 0 by omega]
    rfl
/-- The term of six digits. -/
def tmF (D : Nat → Int) (p : Nat) : Int := dv (fun j => D (6 * p + j)) 6
theorem tS_end (D : Nat → Int) (n p : Nat) : tS D n n p = tmF D p := by
  unfold tS tmF
  rw [Nat.sub_self, show max (6 * p) 0 = 6 * p by omega, show 6 * p + 6 - 6 * p = 6 by omega]
theorem tS_bd {D : Nat → Int} (h : ∀ j, 0 ≤ D j ∧ D j ≤ 9) (n k p : Nat) : 0 ≤ tS D n k p ∧ tS D n k p < 1000000 := by
  have b := dv_bd (D := fun j => D (max (6 * p) (n - k) + j)) (n := 6 * p + 6 - max (6 * p) (n - k)) fun i _ => ⟨(h _).1, by have := (h (max (6 * p) (n - k) + i)).2; show D (max (6 * p) (n - k) + i) < 10; omega⟩
  have m := pow10_mono (show 6 * p + 6 - max (6 * p) (n - k) ≤ 6 by omega)
  have e : (10 : Int) ^ 6 = 1000000 := by decide
  unfold tS
  omega
theorem tmF_bd {D : Nat → Int} (h : ∀ j, 0 ≤ D j ∧ D j ≤ 9) (p : Nat) : 0 ≤ tmF D p ∧ tmF D p < 1000000 := by
  rw [← tS_end D 0 p]
  exact tS_bd h 0 0 p
theorem tmF_out {D : Nat → Int} {n p : Nat} (h : ∀ j, n ≤ j → D j = 0) (hp : n ≤ 6 * p) : tmF D p = 0 := dv_zero fun j _ => h _ (by omega)
theorem dv_split (D : Nat → Int) (a b : Nat) : dv D (a + b) = dv D a + dv (fun j => D (a + j)) b * 10 ^ a := by
  unfold dv
  rw [sumN_split, ← sumN_mul_r]
  congr 1
  exact sumN_congr fun i _ => by rw [Int.pow_add, Int.mul_comm (10 ^ a) (10 ^ i), Int.mul_assoc]
theorem pow6 : ∀ n : Nat, (10 : Int) ^ (6 * n) = 1000000 ^ n
  | 0 => rfl
  | n + 1 => by rw [show 6 * (n + 1) = 6 * n + 6 by omega, Int.pow_add, pow6 n, Int.pow_succ]; rfl
/-- A number in terms of six digits. -/
theorem terms_num (D : Nat → Int) : ∀ T : Nat, evN 1000000 (tmF D) T = dv D (6 * T)
  | 0 => rfl
  | T + 1 => by
    have e : evN 1000000 (tmF D) (T + 1) = evN 1000000 (tmF D) T + tmF D T * 1000000 ^ T := rfl
    rw [e, terms_num D T, show 6 * (T + 1) = 6 * T + 6 by omega, dv_split, pow6]
    rfl
/-- The terms laid at every sixth place. -/
def spS (T : Nat → Int) (j : Nat) : Int := if j % 6 = 0 then T (j / 6) else 0
theorem spS_at (T : Nat → Int) (i : Nat) : spS T (6 * i) = T i := by
  unfold spS
  rw [if_pos (by omega), show 6 * i / 6 = i by omega]
theorem spS_no (T : Nat → Int) {i j : Nat} (h0 : 0 < j) (h : j < 6) : spS T (6 * i + j) = 0 := if_neg (by omega)
theorem spS_out {T : Nat → Int} {n : Nat} (h : ∀ j, n ≤ j → T j = 0) {j : Nat} (hj : 6 * n ≤ j) : spS T j = 0 := by
  unfold spS
  split
  · exact h _ (by omega)
  · rfl
theorem spS_bd {T : Nat → Int} {M : Int} (hM : 0 ≤ M) (h : ∀ j, 0 ≤ T j ∧ T j ≤ M) (j : Nat) : 0 ≤ spS T j ∧ spS T j ≤ M := by
  unfold spS
  split
  · exact h _
  · omega
theorem spread_num (T : Nat → Int) : ∀ n : Nat, dv (spS T) (6 * n) = evN 1000000 T n
  | 0 => rfl
  | n + 1 => by
    have e : evN 1000000 T (n + 1) = evN 1000000 T n + T n * 1000000 ^ n := rfl
    rw [e, show 6 * (n + 1) = 6 * n + 6 by omega, dv_split, pow6, spread_num T n]
    have e6 : dv (fun j => spS T (6 * n + j)) 6 = T n := by
      rw [show (6 : Nat) = 1 + 5 by rfl, dv_split]
      have e1 : dv (fun j => spS T ((1 + 5) * n + j)) 1 = T n := by
        show 0 + spS T (6 * n + 0) * 10 ^ 0 = T n
        rw [Nat.add_zero, spS_at]
        omega
      rw [e1, dv_zero (fun j hj => spS_no T (by omega) (by omega))]
      omega
    rw [e6]
end Go.Proofs.Ytaapmpjkcddabab
namespace Go.Proofs.Ytaapmpjkcddabab
open Go.RowKit
theorem below_alloc (w : World) (o : Obj) : Below w.heap.size w (w.alloc o) := (Below.refl _ _).alloc (Nat.le_refl _) o
end Go.Proofs.Ytaapmpjkcddabab
namespace Go.Proofs.Ytaapmpjkcddabab
open Go.RowKit
theorem alloc_heap (w : World) (o : Obj) : (w.alloc o).heap[w.heap.size]? = some o := heap_alloc_new w o
theorem heap_set {w : World} {g g2 o : Nat} {v : Value} (h : g ≠ g2) : (w.setCell ⟨g2, o, none⟩ v).heap[g]? = w.heap[g]? := Below.heap_setCell w ⟨g2, o, none⟩ v g h
theorem heap_cell {w : World} {g j : Nat} {cs : Array Value} {t : TypeId} {v : Value} (h : w.heap[g]? = some (.cells cs t)) (hj : cs[j]? = some v) : w.cell? ⟨g, j, none⟩ = some v := by
  unfold World.cell?
  simp [h, hj]
end Go.Proofs.Ytaapmpjkcddabab
namespace Go.Proofs.Ytaapmpjkcddabab
open Go.RowKit
def OwnN (w : World) (n : Nat) (F : Nat → Int) (e : Ending) (w' : World) : Prop := ∃ g, e = .returned (.slice (some ⟨g, 0, none⟩) n n) ∧ w.heap.size ≤ g ∧ Own w' g n F ∧ Below w.heap.size w w'
theorem OwnG.n {w w' : World} {l : List Int} {n : Nat} {e : Ending} (h : OwnG w l e w') (hn : l.length = n) : OwnN w n (lf l) e w' := by
  subst hn
  exact h
def FourC (g h : Nat) (v0 v1 u0 u1 : Value) (W : World) : Prop := W.cell? ⟨g, 0, none⟩ = some v0 ∧ W.cell? ⟨g, 1, none⟩ = some v1 ∧ W.cell? ⟨h, 0, none⟩ = some u0 ∧ W.cell? ⟨h, 1, none⟩ = some u1
theorem FourC.keep {g h : Nat} {v0 v1 u0 u1 : Value} {W W' : World} (k : FourC g h v0 v1 u0 u1 W) (hb : Below W.heap.size W W') : FourC g h v0 v1 u0 u1 W' := by
  obtain ⟨k0, k1, k2, k3⟩ := k
  exact ⟨(hb.cell (p := ⟨g, 0, none⟩) (block_lt_of_cell k0)).trans k0, (hb.cell (p := ⟨g, 1, none⟩) (block_lt_of_cell k1)).trans k1, (hb.cell (p := ⟨h, 0, none⟩) (block_lt_of_cell k2)).trans k2, (hb.cell (p := ⟨h, 1, none⟩) (block_lt_of_cell k3)).trans k3⟩
theorem cell_set {w : World} {g g2 o j : Nat} {v : Value} (h : g ≠ g2) : (w.setCell ⟨g2, o, none⟩ v).cell? ⟨g, j, none⟩ = w.cell? ⟨g, j, none⟩ := by
  unfold World.cell?
  rw [heap_set h]
/-- What stands while the two products are made. -/
def Bd (w : World) (s2 gA gB gC gD n m : Nat) (A B C D : Nat → Int) (W : World) : Prop :=
  Below w.heap.size w W ∧ Own W gA n A ∧ Own W gB n B ∧ Own W gC m C ∧ Own W gD m D ∧ FourC s2 (s2 + 1) (.slice (some ⟨gA, 0, none⟩) n n) (.slice (some ⟨gB, 0, none⟩) n n) (.slice (some ⟨gC, 0, none⟩) m m) (.slice (some ⟨gD, 0, none⟩) m m) W
theorem Bd.keep {w : World} {s2 gA gB gC gD n m : Nat} {A B C D : Nat → Int} {W W' : World} (h : Bd w s2 gA gB gC gD n m A B C D W) (hb : Below W.heap.size W W') : Bd w s2 gA gB gC gD n m A B C D W' := by
  obtain ⟨h1, h2, h3, h4, h5, h6⟩ := h
  exact ⟨below_up h1 hb h1.size, h2.keep hb, h3.keep hb, h4.keep hb, h5.keep hb, h6.keep hb⟩
theorem Bd.drew {w : World} {s2 gA gB gC gD n m : Nat} {A B C D : Nat → Int} {W : World} (h : Bd w s2 gA gB gC gD n m A B C D W) : Bd w s2 gA gB gC gD n m A B C D W.drew := h.keep ((Below.refl _ _).drew)
/-- The pair of the products. -/
def RF (w W : World) (N g5 g6 g7 : Nat) (X6 X7 : Nat → Int) : Prop := W.cell? ⟨g7, 0, none⟩ = some (.slice (some ⟨g5, 0, none⟩) N N) ∧ W.cell? ⟨g7, 1, none⟩ = some (.slice (some ⟨g6, 0, none⟩) N N) ∧ Own W g5 N X6 ∧ Own W g6 N X7 ∧ Below w.heap.size w W
theorem RF.a {w W : World} {N g5 g6 : Nat} {X6 X7 : Nat → Int} (h5 : Own W g5 N X6) (h6 : Own W g6 N X7) (hb : Below w.heap.size w W) (t : TypeId) : RF w (W.alloc (.cells #[.slice (some ⟨g5, 0, none⟩) N N, .slice (some ⟨g6, 0, none⟩) N N] t)) N g5 g6 W.heap.size X6 X7 :=
  ⟨heap_cell (alloc_heap _ _) rfl, heap_cell (alloc_heap _ _) rfl, h5.keep (below_alloc _ _), h6.keep (below_alloc _ _), hb.alloc hb.size _⟩
theorem cell_new {w : World} {p j : Nat} {v : Value} {u : Value} (h : w.cell? ⟨p, j, none⟩ = some u) : (w.setCell ⟨p, j, none⟩ v).cell? ⟨p, j, none⟩ = some v := World.cell?_setCell_same _ _ _ h
theorem cell_next {w : World} {p j o : Nat} {v : Value} (h : j ≠ o) : (w.setCell ⟨p, o, none⟩ v).cell? ⟨p, j, none⟩ = w.cell? ⟨p, j, none⟩ := by
  apply World.cell?_setCell_other
  intro e
  injection e with _ e
  exact h e.symm
theorem RF.b {w W : World} {N g5 g6 g7 : Nat} {X6 X7 : Nat → Int} {v0 v1 : Value} {t : TypeId} (h5 : Own W g5 N X6) (h6 : Own W g6 N X7) (hb : Below w.heap.size w W) (hz : W.heap[g7]? = some (.cells #[v0, v1] t)) (n5 : g5 ≠ g7) (n6 : g6 ≠ g7) (hw : w.heap.size ≤ g7) : RF w ((W.setCell ⟨g7, 0, none⟩ (.slice (some ⟨g5, 0, none⟩) N N)).setCell ⟨g7, 1, none⟩ (.slice (some ⟨g6, 0, none⟩) N N)) N g5 g6 g7 X6 X7 :=
  ⟨by rw [cell_next (by omega)]; exact cell_new (heap_cell hz rfl), cell_new (by rw [cell_next (by omega)]; exact heap_cell hz rfl), own_other (own_other h5 n5) n5, own_other (own_other h6 n6) n6, (hb.setCell (p := ⟨g7, 0, none⟩) hw _).setCell (p := ⟨g7, 1, none⟩) hw _⟩
def ConvS (g7 g5 g6 k N : Nat) (x y : Int) (W : World) : Prop := W.cell? ⟨g7, 0, none⟩ = some (.slice (some ⟨g5, 0, none⟩) N N) ∧ W.cell? ⟨g7, 1, none⟩ = some (.slice (some ⟨g6, 0, none⟩) N N) ∧ W.cell? ⟨g5, k, none⟩ = some (.int .i64 x) ∧ W.cell? ⟨g6, k, none⟩ = some (.int .i64 y)
theorem ConvS.keep {g7 g5 g6 k N B : Nat} {x y : Int} {W W' : World} (h : ConvS g7 g5 g6 k N x y W) (hb : Below B W W') (h7 : g7 < B) (h5 : g5 < B) (h6 : g6 < B) : ConvS g7 g5 g6 k N x y W' := by
  obtain ⟨k0, k1, k2, k3⟩ := h
  exact ⟨(hb.cell (p := ⟨g7, 0, none⟩) h7).trans k0, (hb.cell (p := ⟨g7, 1, none⟩) h7).trans k1, (hb.cell (p := ⟨g5, k, none⟩) h5).trans k2, (hb.cell (p := ⟨g6, k, none⟩) h6).trans k3⟩
theorem ConvS.set {g7 g5 g6 k N p j : Nat} {x y : Int} {v : Value} {W : World} (h : ConvS g7 g5 g6 k N x y W) (h7 : g7 < p) (h5 : g5 < p) (h6 : g6 < p) : ConvS g7 g5 g6 k N x y (W.setCell ⟨p, j, none⟩ v) := by
  obtain ⟨k0, k1, k2, k3⟩ := h
  exact ⟨by rw [cell_set (by omega)]; exact k0, by rw [cell_set (by omega)]; exact k1, by rw [cell_set (by omega)]; exact k2, by rw [cell_set (by omega)]; exact k3⟩
end Go.Proofs.Ytaapmpjkcddabab
namespace Go.Proofs.Ytaapmpjkcddabab
open Go.RowKit
/-- The digits of a text, the least first; zeros behind. -/
def digF (s : ByteArray) (j : Nat) : Int := if j < s.size then bt s (s.size - 1 - j) - 48 else 0
theorem digF_rev {s : ByteArray} {k : Nat} (h : k < s.size) : digF s (s.size - 1 - k) = bt s k - 48 := by
  unfold digF
  rw [if_pos (by omega), show s.size - 1 - (s.size - 1 - k) = k by omega]
/-- The number of a numeral. -/
def numV (s : ByteArray) : Int := dv (digF s) s.size
theorem DigOk.dig {s : ByteArray} (h : DigOk s) : Dig (digF s) s.size := fun i hi => by
  have := h.2.1 (s.size - 1 - i) (by omega)
  unfold digF
  rw [if_pos hi]
  omega
theorem DigOk.can {s : ByteArray} (h : DigOk s) : Can (digF s) s.size := by
  refine ⟨h.dig, h.1.1, ?_⟩
  rcases h.2.2 with h1 | h1
  · right
    have := digF_rev (s := s) (k := 0) (by have := h.1.1; omega)
    rw [Nat.sub_zero] at this
    rw [this]
    omega
  · exact .inl h1
/-- The digits as a list. -/
def digL (s : ByteArray) : List Int := tab s.size (digF s)
set_option maxHeartbeats 1600000 in
theorem sDs (s : ByteArray) (w : World) (hs : s.size ≤ 1048576) : Calls Try.prog 7 #[.string s] w (OwnsL w (digL s)) := by
  obtain ⟨i0, hi, hz0, hz1, hz2⟩ := info_parts info3
  have HI := Lib.hid hi
  have HZ0 := Lib.hid hz0
  have HZ1 := Lib.hid hz1
  have HZ2 := Lib.hid hz2
  clear hi hz0 hz1 hz2
  go_enter Try.func7, Try.ntmps7
  go_wp2_with fail
  go_loopw [3, 4] (fun v i wr => ∃ k : Nat, i = .int .i64 ((s.size : Int) - 1 - k) ∧ k ≤ s.size ∧ wr.ownsRow w.heap.size 3 1 v k (xsF (digF s) k) ∧ Below w.heap.size w wr) (fun _ i _ => (intOf i + 1).toNat)
  case atStart => exact ⟨0, by simp, Nat.zero_le _, own_empty w _, (Below.refl _ _).alloc (Nat.le_refl _) _⟩
  case round =>
    obtain ⟨k, rfl, hk, hown, hnx⟩ := hrel
    have hs2 := hnx.size
    by_cases h1 : k < s.size
    · obtain ⟨j, hj⟩ : ∃ j : Nat, (s.size : Int) - 1 - k = (j : Int) := ⟨s.size - 1 - k, by omega⟩
      have hjs : j < s.size := by omega
      have hdig : digF s k = bt s j - 48 := by
        unfold digF
        rw [if_pos h1, show s.size - 1 - k = j by omega]
      rw [bt_get hjs] at hdig
      have HD := Lib.hid hdig
      have hu := (s[j]).toNat_lt
      have HJ := Lib.hid hj
      have hd1 : decide ((0 : Int) ≤ (j : Int)) = true := decide_eq_true (by omega)
      have i2 : (j : Int) < (s.size : Int) := by omega
      rw [hj]
      clear hdig hj
      go_wp2_with (at_builtin; refine wpList_append_own _ rfl _ _ 26 rfl w.heap.size 3 i0 (.int .i64 0) 1 8 Try.underlying26 HI.out HZ0.out HZ1.out HZ2.out rfl (by decide) _ _ _ rfl (hown.alloc _) ⟨wr.heap.size, 0, none⟩ 1 1 [.int .i64 ((s[j].toNat : Int) - 48)] rfl rfl ?c1 ?c2 ?c3 ?c4 ?c5 ?_)
      case c1 => exact cell_one_new _ _ _
      case c2 => intro u hu; simp at hu; subst hu; rfl
      case c3 => unfold maxLen; omega
      case c4 => omega
      case c5 => simp; omega
      intro v' w1 hown' hgrow _
      have hbel : Below w.heap.size w w1 := (hnx.alloc hs2 _).grown hgrow (by simp; omega) (own_ge hown)
      have hown2 : w1.ownsRow w.heap.size 3 1 v' (k + 1) (xsF (digF s) (k + 1)) := by rw [← xsF_succ, HD.out]; exact hown'
      clear hgrow hown hown'
      go_wp2
      go_roundw
      case rel => exact ⟨k + 1, vint (by have := HJ.out; omega), by omega, hown2, hbel⟩
      case measure => simp [intOf] <;> omega
    · have hk2 : (s.size : Int) - 1 - k = -1 := by omega
      obtain rfl : k = s.size := by omega
      have HO := Lib.hid (owns_to (w := w) (l := digL s) hown (by unfold digL; rw [tab_len]) (fun j hj => by unfold digL; rw [lf_tab, if_pos hj]) hnx)
      rw [hk2]
      clear hown hk2
      go_wp2
      go_ret
      exact HO.out
end Go.Proofs.Ytaapmpjkcddabab
namespace Go.Proofs.Ytaapmpjkcddabab
open Go.RowKit
/-- What is carried into place k, and the digit that is written there. -/
def cuS (S : Nat → Int) : Nat → Int
  | 0 => 0
  | k + 1 => (cuS S k + S k) / 10
def cdS (S : Nat → Int) (k : Nat) : Int := (cuS S k + S k) % 10
theorem carry_all {S : Nat → Int} (h : ∀ j, 0 ≤ S j) : ∀ k, Carry S (cdS S) k (cuS S k)
  | 0 => Carry.start S _
  | k + 1 => (carry_all h k).step (h k) rfl
theorem cu_bd {S : Nat → Int} (h : ∀ j, 0 ≤ S j ∧ S j ≤ 1000000) : ∀ k, 0 ≤ cuS S k ∧ cuS S k ≤ 200000
  | 0 => by simp [cuS]
  | k + 1 => by
    have := cu_bd h k
    have := h k
    rw [cuS]
    omega
theorem cd_bd (S : Nat → Int) (k : Nat) : 0 ≤ cdS S k ∧ cdS S k < 10 := by unfold cdS; omega
def xsB (F : Nat → Int) (k : Nat) : List Value := (List.range k).map fun j => .int .u8 (F j)
theorem xsB_succ (F : Nat → Int) (k : Nat) : xsB F k ++ [.int .u8 (F k)] = xsB F (k + 1) := by simp [xsB, List.range_succ]
theorem ownB_empty (w : World) (F : Nat → Int) : (w.alloc (.cells #[] 5)).ownsRow w.heap.size 5 1 (.slice (some ⟨w.heap.size, 0, none⟩) 0 0) 0 (xsB F 0) :=
  World.ownsRow_made w #[] 0 (Nat.le_refl _) (by unfold maxLen; omega) rfl
theorem ownB_form {w : World} {base : Nat} {v : Value} {n : Nat} {F : Nat → Int} (h : w.ownsRow base 5 1 v n (xsB F n)) (hn : 0 < n) : ∃ g cap, v = .slice (some ⟨g, 0, none⟩) n cap ∧ base ≤ g ∧ g < w.heap.size ∧ ∀ j, j < n → w.cell? ⟨g, j, none⟩ = some (.int .u8 (F j)) := by
  obtain ⟨g, cap, rfl, hb, hlt⟩ := h.form hn
  refine ⟨g, cap, rfl, hb, hlt, fun j hj => ?_⟩
  have := h.cells (g := g) rfl j (.int .u8 (F j)) (by unfold xsB; rw [List.getElem?_map, List.getElem?_range hj]; rfl)
  rwa [add_at, Nat.zero_add] at this
/-- The text of m digits, the least first. -/
def txtB (D : Nat → Int) (m : Nat) : List UInt8 := (List.range m).map fun j => UInt8.ofNat (48 + D (m - 1 - j)).toNat
theorem txtB_len (D : Nat → Int) (m : Nat) : (txtB D m).length = m := by simp [txtB]
theorem txtB_at {D : Nat → Int} {m j : Nat} (hD : Dig D m) (hj : j < m) : ((txtB D m)[j]'(by rw [txtB_len]; exact hj)).toNat = (48 + D (m - 1 - j)).toNat := by
  have hd := hD (m - 1 - j) (by omega)
  unfold txtB
  simp
  omega
theorem own_ge' {w : World} {base : Nat} {v : Value} {n : Nat} {xs : List Value} (h : w.ownsRow base 5 1 v n xs) : ∀ k, v.ownBlock = some k → base ≤ k := own_ge h
theorem meas_to {n k : Nat} {U V T : Int} (h : (n - (k + 1)) * 200001 + V.toNat < (n - k) * 200001 + U.toNat) (e : (U + T) / 10 = V) : (n - ((k : Int) + 1).toNat) * 200001 + ((U + T) / 10).toNat < (n - ((k : Int)).toNat) * 200001 + U.toNat := by
  rw [e, show ((k : Int) + 1).toNat = k + 1 by omega, Int.toNat_natCast]
  exact h
def TextP (S : Nat → Int) (n : Nat) (w : World) (e : Ending) (w' : World) : Prop := ∃ s : ByteArray, e = .returned (.string s) ∧ Below w.heap.size w w' ∧ Can (digF s) s.size ∧ numV s = dv S n ∧ (∀ j, j < s.size → 48 ≤ bt s j ∧ bt s j ≤ 57)
/-- What the text of the digits is. -/
theorem txt_facts {D : Nat → Int} {m : Nat} (hC : Can D m) : (⟨(txtB D m).toArray⟩ : ByteArray).size = m ∧ (∀ j, j < m → bt ⟨(txtB D m).toArray⟩ j = 48 + D (m - 1 - j)) ∧ (∀ j, j < m → digF ⟨(txtB D m).toArray⟩ j = D j) := by
  have hsz : (⟨(txtB D m).toArray⟩ : ByteArray).size = m := by
    show (txtB D m).toArray.size = m
    rw [List.size_toArray, txtB_len]
  have hbt : ∀ j, j < m → bt ⟨(txtB D m).toArray⟩ j = 48 + D (m - 1 - j) := fun j hj => by
    have hd := hC.1 (m - 1 - j) (by omega)
    unfold bt
    have h2 : j < (txtB D m).length := by rw [txtB_len]; exact hj
    show ((((txtB D m).toArray.toList).getD j 0).toNat : Int) = _
    rw [List.getD_eq_getElem?_getD, List.toList_toArray, List.getElem?_eq_getElem h2]
    have := txtB_at hC.1 hj
    simp only [Option.getD_some]
    rw [this]
    omega
  refine ⟨hsz, hbt, fun j hj => ?_⟩
  unfold digF
  rw [hsz, if_pos hj, hbt (m - 1 - j) (by omega), show m - 1 - (m - 1 - j) = j by omega]
  omega
theorem txt_text {D S : Nat → Int} {m n : Nat} (hC : Can D m) (hv : dv D m = dv S n) : Can (digF ⟨(txtB D m).toArray⟩) (⟨(txtB D m).toArray⟩ : ByteArray).size ∧ numV ⟨(txtB D m).toArray⟩ = dv S n ∧ (∀ j, j < (⟨(txtB D m).toArray⟩ : ByteArray).size → 48 ≤ bt ⟨(txtB D m).toArray⟩ j ∧ bt ⟨(txtB D m).toArray⟩ j ≤ 57) := by
  obtain ⟨h1, h2, h3⟩ := txt_facts hC
  refine ⟨?_, ?_, fun j hj => ?_⟩
  · rw [h1]
    refine ⟨fun i hi => by rw [h3 i hi]; exact hC.1 i hi, hC.2.1, ?_⟩
    rcases hC.2.2 with h | h
    · exact .inl h
    · have := hC.2.1
      exact .inr (by rw [h3 _ (by omega)]; exact h)
  · unfold numV
    rw [h1, ← hv]
    exact sumN_congr fun i hi => by rw [h3 i hi]
  · rw [h1] at hj
    rw [h2 j hj]
    have := hC.1 (m - 1 - j) (by omega)
    omega
set_option maxRecDepth 100000 in
set_option maxHeartbeats 3200000 in
theorem sText (a : Option Addr) (l : List Int) (cap : Nat) (w : World) (hn : l.length ≤ 4096) (n0 : 0 < l.length) (hS : ∀ j, 0 ≤ lf l j ∧ lf l j ≤ 1000000) (hs : Src w a l.length (lf l)) :
    Calls Try.prog 9 #[.slice a l.length cap] w (TextP (lf l) l.length w) := by
  obtain ⟨i0, hi, hz0, hz1, hz2⟩ := info_parts info5
  have HI := Lib.hid hi
  have HZ0 := Lib.hid hz0
  have HZ1 := Lib.hid hz1
  have HZ2 := Lib.hid hz2
  clear hi hz0 hz1 hz2
  have HAT : Hid (∀ (k : Nat) (w2 : World), Below w.heap.size w w2 → Calls Try.prog 8 #[.slice a l.length cap, .int .i64 k] w2 fun e w' => e = .returned (.int .i64 (lf l k)) ∧ w2 = w') := Lib.hid fun k w2 hb => at_c a l cap k w2 (by omega) (hs.keep hb)
  have HCB : Hid (∀ k, 0 ≤ cuS (lf l) k ∧ cuS (lf l) k ≤ 200000) := Lib.hid (cu_bd hS)
  have HCA : Hid (∀ k, Carry (lf l) (cdS (lf l)) k (cuS (lf l) k)) := Lib.hid (carry_all fun j => (hS j).1)
  have HSB := Lib.hid hS
  have HZS : Hid (∀ j, l.length ≤ j → lf l j = 0) := Lib.hid fun j hj => lf_out l hj
  clear hS hs
  generalize lf l = S at *
  generalize l.length = n at *
  go_enter Try.func9, Try.ntmps9
  go_upto_block 0 with fail
  go_cut [3, 4, 5] from 9 (fun _ v _ w2 => ∃ K : Nat, 1 ≤ K ∧ K ≤ 300000 ∧ n ≤ K ∧ cuS S K = 0 ∧ w2.ownsRow w.heap.size 5 1 v K (xsB (fun j => 48 + cdS S j) K) ∧ Below w.heap.size w w2)
  case first =>
    go_wp2_with fail
    go_loopw [3, 4, 5] (fun u v i wr => ∃ k : Nat, i = .int .i64 k ∧ (k ≤ n ∨ (k : Int) + cuS S k ≤ n + 200000) ∧ u = .int .i64 (cuS S k) ∧ wr.ownsRow w.heap.size 5 1 v k (xsB (fun j => 48 + cdS S j) k) ∧ Below w.heap.size w wr) (fun u _ i _ => (n - (intOf i).toNat) * 200001 + (intOf u).toNat)
    case atStart => exact ⟨0, rfl, .inl (Nat.zero_le _), rfl, ownB_empty w _, (Below.refl _ _).alloc (Nat.le_refl _) _⟩
    case round =>
      obtain ⟨k, rfl, hk, rfl, hown, hnx⟩ := hrel
      have cb := HCB.out k
      have cb1 := HCB.out (k + 1)
      have sb := HSB.out k
      have hs2 := hnx.size
      by_cases hc : k < n ∨ 0 < cuS S k
      · have HNX : Hid ((cuS S k + S k) / 10 = cuS S (k + 1)) := Lib.hid rfl
        have HD : Hid ((cuS S k + S k) % 10 = cdS S k) := Lib.hid rfl
        have hk9 : k ≤ 300000 := by omega
        have hkn : k + 1 ≤ n ∨ ((k + 1 : Nat) : Int) + cuS S (k + 1) ≤ n + 200000 := by
          by_cases h : k < n
          · left; omega
          · right
            have hz := HZS.out k (by omega)
            have e := HNX.out
            rw [hz] at e
            omega
        have hmeas : (n - (k + 1)) * 200001 + (cuS S (k + 1)).toNat < (n - k) * 200001 + (cuS S k).toNat := by
          by_cases h : k < n
          · have : n - k = (n - (k + 1)) + 1 := by omega
            rw [this, Nat.add_mul]
            omega
          · have hz := HZS.out k (by omega)
            have e := HNX.out
            rw [hz] at e
            have e1 : n - k = 0 := by omega
            have e2 : n - (k + 1) = 0 := by omega
            rw [e1, e2]
            omega
        have HM := Lib.hid hmeas
        have HKN := Lib.hid hkn
        have dg := cd_bd S k
        clear hmeas hkn hk
        by_cases h1 : k < n
        · have hd1 : decide ((k : Int) < n) = true := decide_eq_true (by omega)
          have HATk := Lib.hid (HAT.out k wr hnx)
          generalize cuS S k = U at *
          generalize S k = T at *
          go_wp2_with fail
          refine HATk.out.mono ?_
          rintro e w' ⟨rfl, rfl⟩
          go_wp2_with (at_builtin; refine wpList_append_own _ rfl _ _ 32 rfl w.heap.size 5 i0 (.int .u8 0) 1 1 Try.underlying32 HI.out HZ0.out HZ1.out HZ2.out rfl (by decide) _ _ _ rfl (hown.alloc _) ⟨wr.heap.size, 0, none⟩ 1 1 [.int .u8 (48 + (U + T) % 10)] rfl rfl ?c1 ?c2 ?c3 ?c4 ?c5 ?_)
          case c1 => exact cell_one_new _ _ _
          case c2 => intro u hu; simp at hu; subst hu; rfl
          case c3 => unfold maxLen; omega
          case c4 => omega
          case c5 => simp; omega
          intro v' w1 hown' hgrow _
          have hbel : Below w.heap.size w w1 := (hnx.alloc hs2 _).grown hgrow (by simp; omega) (own_ge' hown)
          have hown2 : w1.ownsRow w.heap.size 5 1 v' (k + 1) (xsB (fun j => 48 + cdS S j) (k + 1)) := by rw [← xsB_succ, ← HD.out]; exact hown'
          clear hgrow hown hown'
          go_wp2
          go_roundw
          case rel => exact ⟨k + 1, by go_num, HKN.out, vint HNX.out, hown2, hbel⟩
          case measure => simp only [intOf]; exact meas_to HM.out HNX.out
        · have hd1 : decide ((k : Int) < n) = false := decide_eq_false (by omega)
          have hd2 : decide (0 < cuS S k) = true := decide_eq_true (by omega)
          have HATk := Lib.hid (HAT.out k wr hnx)
          generalize cuS S k = U at *
          generalize S k = T at *
          go_wp2_with fail
          refine HATk.out.mono ?_
          rintro e w' ⟨rfl, rfl⟩
          go_wp2_with (at_builtin; refine wpList_append_own _ rfl _ _ 32 rfl w.heap.size 5 i0 (.int .u8 0) 1 1 Try.underlying32 HI.out HZ0.out HZ1.out HZ2.out rfl (by decide) _ _ _ rfl (hown.alloc _) ⟨wr.heap.size, 0, none⟩ 1 1 [.int .u8 (48 + (U + T) % 10)] rfl rfl ?d1 ?d2 ?d3 ?d4 ?d5 ?_)
          case d1 => exact cell_one_new _ _ _
          case d2 => intro u hu; simp at hu; subst hu; rfl
          case d3 => unfold maxLen; omega
          case d4 => omega
          case d5 => simp; omega
          intro v' w1 hown' hgrow _
          have hbel : Below w.heap.size w w1 := (hnx.alloc hs2 _).grown hgrow (by simp; omega) (own_ge' hown)
          have hown2 : w1.ownsRow w.heap.size 5 1 v' (k + 1) (xsB (fun j => 48 + cdS S j) (k + 1)) := by rw [← xsB_succ, ← HD.out]; exact hown'
          clear hgrow hown hown'
          go_wp2
          go_roundw
          case rel => exact ⟨k + 1, by go_num, HKN.out, vint HNX.out, hown2, hbel⟩
          case measure => simp only [intOf]; exact meas_to HM.out HNX.out
      · have hd1 : decide ((k : Int) < n) = false := decide_eq_false (by omega)
        have hz : cuS S k = 0 := by omega
        have HZ := Lib.hid hz
        rw [hz]
        have HREL : Hid (∃ K : Nat, 1 ≤ K ∧ K ≤ 300000 ∧ n ≤ K ∧ cuS S K = 0 ∧ wr.ownsRow w.heap.size 5 1 u4 K (xsB (fun j => 48 + cdS S j) K) ∧ Below w.heap.size w wr) := Lib.hid ⟨k, by omega, by omega, by omega, hz, hown, hnx⟩
        clear hown hz
        go_wp2
        go_meet
        case rel => exact HREL.out
  case rest =>
    obtain ⟨K, hK1, hK3, hnK, hz, hown, hb⟩ := hcut
    have HDV : Hid (dv (cdS S) K = dv S n) := Lib.hid (by
      have h := HCA.out K
      rw [hz] at h
      exact h.last hnK HZS.out)
    have HDG : Hid (∀ m, Dig (cdS S) m) := Lib.hid fun m i _ => cd_bd S i
    obtain ⟨g, capb, rfl, hg, hgl, hcell⟩ := ownB_form hown (by omega)
    have HCELL := Lib.hid hcell
    clear hown hcell hz HCA HCB HSB HZS HAT
    go_upto_block 2 with fail
    go_cut [6] from 9 (fun i w2 => ∃ m : Nat, i = .int .i64 m ∧ m ≤ K ∧ Hid (Can (cdS S) m ∧ dv (cdS S) m = dv S n) ∧ wc = w2)
    case first =>
      go_wp2_with fail
      go_loopw [6] (fun i wr => ∃ m : Nat, i = .int .i64 m ∧ 1 ≤ m ∧ m ≤ K ∧ Hid (∀ j, m ≤ j → j < K → cdS S j = 0) ∧ wc = wr) (fun i _ => (intOf i).toNat)
      case atStart => exact ⟨K, rfl, hK1, Nat.le_refl _, Lib.hid (fun j h1 h2 => by omega), rfl⟩
      case round =>
        obtain ⟨m, rfl, hm1, hmK, HZR, rfl⟩ := hrel
        have HV : Hid (dv (cdS S) m = dv S n) := Lib.hid ((dv_cut hmK HZR.out).symm.trans HDV.out)
        by_cases h1 : m = 1
        · have HC : Hid (Can (cdS S) m ∧ dv (cdS S) m = dv S n) := Lib.hid ⟨⟨HDG.out m, hm1, .inl h1⟩, HV.out⟩
          have hd1 : decide ((1 : Int) < m) = false := decide_eq_false (by omega)
          clear h1
          go_wp2
          go_meet
          case rel => exact ⟨m, rfl, hmK, HC, rfl⟩
        · have hd1 : decide ((1 : Int) < m) = true := decide_eq_true (by omega)
          obtain ⟨p, rfl⟩ : ∃ p, m = p + 1 := ⟨m - 1, by omega⟩
          have hp0 : 0 < p := by omega
          have hd2 : decide ((1 : Int) < (p : Int) + 1) = true := decide_eq_true (by omega)
          have cc := HCELL.out p (by omega)
          have dg := cd_bd S p
          have i2 : (p : Int) < (K : Int) := by omega
          by_cases hzp : cdS S p = 0
          · have HZ2 : Hid (∀ j, p ≤ j → j < K → cdS S j = 0) := Lib.hid fun j h2 h3 => by
              by_cases e : j = p
              · rw [e]; exact hzp
              · exact HZR.out j (by omega) h3
            have e48 : ((48 + cdS S p : Int) == 48) = true := by rw [hzp]; rfl
            rw [hzp] at cc
            clear hzp h1
            go_wp2
            go_roundw
            case rel => exact ⟨p, by go_num, by omega, by omega, HZ2, by trivial⟩
            case measure => simp [intOf] <;> omega
          · have HC : Hid (Can (cdS S) (p + 1) ∧ dv (cdS S) (p + 1) = dv S n) := Lib.hid ⟨⟨HDG.out _, by omega, .inr hzp⟩, HV.out⟩
            have e48 : ((48 + cdS S p : Int) == 48) = false := by rw [beq_eq_false_iff_ne]; omega
            clear hzp h1
            go_wp2
            go_meet
            case rel => exact ⟨p + 1, rfl, hmK, HC, rfl⟩
    case rest =>
      obtain ⟨m, rfl, hmK, HC, rfl⟩ := hcut
      have hm1 := HC.out.1.2.1
      have HT := Lib.hid (txt_text (S := S) (n := n) HC.out.1 HC.out.2)
      have HCV : Hid (∀ (g2 cap2 : Nat) (w2 : World), (∀ j, j < m → w2.cell? ⟨g2, j, none⟩ = some (.int .u8 (48 + cdS S (m - 1 - j)))) → (convert 32 9 (.slice (some ⟨g2, 0, none⟩) m cap2)).run Try.prog w2 = .ok (.string ⟨(txtB (cdS S) m).toArray⟩) w2) := Lib.hid fun g2 cap2 w2 h => by
        have := run_convert_bytes_back (P := Try.prog) w2 32 9 5 ⟨g2, 0, none⟩ cap2 (txtB (cdS S) m) Try.underlying32 Try.underlying5 Try.underlying9 (fun j hj => by
          rw [txtB_len] at hj
          rw [add_at, Nat.zero_add, h j hj, txtB_at HC.out.1.1 hj]
          have := cd_bd S (m - 1 - j)
          congr 2
          omega)
        rwa [txtB_len] at this
      go_wp2_with fail
      go_loopw [7, 8] (fun v i wr => ∃ k : Nat, i = .int .i64 ((m : Int) - 1 - k) ∧ k ≤ m ∧ wr.ownsRow wc.heap.size 5 1 v k (xsB (fun j => 48 + cdS S (m - 1 - j)) k) ∧ Below wc.heap.size wc wr) (fun _ i _ => (intOf i + 1).toNat)
      case atStart => exact ⟨0, by simp, Nat.zero_le _, ownB_empty wc _, (Below.refl _ _).alloc (Nat.le_refl _) _⟩
      case round =>
        obtain ⟨k, rfl, hk, hown, hnx⟩ := hrel
        have hs2 := hnx.size
        by_cases h1 : k < m
        · obtain ⟨j, hj⟩ : ∃ j : Nat, (m : Int) - 1 - k = (j : Int) := ⟨m - 1 - k, by omega⟩
          have hjK : j < K := by omega
          have cc : wr.cell? ⟨g, j, none⟩ = some (.int .u8 (48 + cdS S j)) := (hnx.cell (p := ⟨g, j, none⟩) hgl).trans (HCELL.out j hjK)
          have HJ := Lib.hid hj
          have HJ2 : Hid (m - 1 - k = j) := Lib.hid (by omega)
          have dg := cd_bd S j
          have i2 : (j : Int) < (K : Int) := by omega
          rw [hj]
          clear hj
          go_wp2_with (at_builtin; refine wpList_append_own _ rfl _ _ 32 rfl wc.heap.size 5 i0 (.int .u8 0) 1 1 Try.underlying32 HI.out HZ0.out HZ1.out HZ2.out rfl (by decide) _ _ _ rfl (hown.alloc _) ⟨wr.heap.size, 0, none⟩ 1 1 [.int .u8 (48 + cdS S j)] rfl rfl ?e1 ?e2 ?e3 ?e4 ?e5 ?_)
          case e1 => exact cell_one_new _ _ _
          case e2 => intro u hu; simp at hu; subst hu; rfl
          case e3 => unfold maxLen; omega
          case e4 => omega
          case e5 => simp; omega
          intro v' w1 hown' hgrow _
          have hbel : Below wc.heap.size wc w1 := (hnx.alloc hs2 _).grown hgrow (by simp; omega) (own_ge' hown)
          have hown2 : w1.ownsRow wc.heap.size 5 1 v' (k + 1) (xsB (fun j => 48 + cdS S (m - 1 - j)) (k + 1)) := by rw [← xsB_succ, HJ2.out]; exact hown'
          clear hgrow hown hown' cc
          go_wp2
          go_roundw
          case rel => exact ⟨k + 1, vint (by have := HJ.out; omega), by omega, hown2, hbel⟩
          case measure => simp [intOf] <;> omega
        · have hk2 : (m : Int) - 1 - k = -1 := by omega
          obtain rfl : k = m := by omega
          obtain ⟨g2, cap2, rfl, _, _, hcell2⟩ := ownB_form hown (by omega)
          have hcv := HCV.out g2 cap2 wr hcell2
          have HB := Lib.hid (below_up hb hnx hb.size)
          rw [hk2]
          clear hown hk2 hcell2
          go_wp2
          go_ret
          exact ⟨_, rfl, HB.out, HT.out.1, HT.out.2.1, HT.out.2.2⟩
end Go.Proofs.Ytaapmpjkcddabab
namespace Go.Proofs.Ytaapmpjkcddabab
open Go.RowKit
/-- s is the numeral of v. -/
def TxtOf (v : Int) (s : ByteArray) : Prop := Can (digF s) s.size ∧ numV s = v
theorem TxtOf.unique {v : Int} {s t : ByteArray} (hs : TxtOf v s) (ht : TxtOf v t) : s = t := by
  obtain ⟨h1, h2⟩ := can_unique hs.1 ht.1 (hs.2.trans ht.2.symm)
  have hb : ∀ j, j < s.size → bt s j = bt t j := fun j hj => by
    have e1 := digF_rev (s := s) hj
    have e2 := digF_rev (s := t) (k := j) (by omega)
    have e3 := h2 (s.size - 1 - j) (by omega)
    rw [e1, h1, e2] at e3
    omega
  have hget : ∀ j (hj : j < s.size) (hj2 : j < t.size), s[j] = t[j] := fun j hj hj2 => by
    have := hb j hj
    rw [bt_get hj, bt_get hj2] at this
    exact UInt8.toNat_inj.1 (by omega)
  exact ByteArray.ext_getElem h1 hget
open Classical in
noncomputable def txtOf (v : Int) : ByteArray := if h : ∃ s, TxtOf v s then Classical.choose h else ⟨#[]⟩
theorem txtOf_eq {v : Int} {s : ByteArray} (h : TxtOf v s) : txtOf v = s := by
  have hex : ∃ s, TxtOf v s := ⟨s, h⟩
  unfold txtOf
  rw [dif_pos hex]
  exact (Classical.choose_spec hex).unique h
/-- The text is the numeral of the sums' number. -/
theorem TextP.txt {S : Nat → Int} {n : Nat} {w w' : World} {e : Ending} (h : TextP S n w e w') : e = .returned (.string (txtOf (dv S n))) ∧ Below w.heap.size w w' ∧ TxtOf (dv S n) (txtOf (dv S n)) := by
  obtain ⟨s, he, hb, hc, hv, _⟩ := h
  have ht : TxtOf (dv S n) s := ⟨hc, hv⟩
  rw [txtOf_eq ht]
  exact ⟨he, hb, ht⟩
theorem lf_digL (s : ByteArray) : lf (digL s) = digF s := by
  funext j
  unfold digL
  rw [lf_tab]
  unfold digF
  by_cases h : j < s.size
  · rw [if_pos h]
  · rw [if_neg h, if_neg h]
theorem digL_len (s : ByteArray) : (digL s).length = s.size := tab_len _ _
theorem digF_out {s : ByteArray} {j : Nat} (h : s.size ≤ j) : digF s j = 0 := if_neg (by omega)
theorem dig9 {s : ByteArray} (h : DigOk s) (j : Nat) : 0 ≤ digF s j ∧ digF s j ≤ 9 := by
  by_cases hj : j < s.size
  · have := h.dig j hj; omega
  · rw [digF_out (by omega)]; omega
end Go.Proofs.Ytaapmpjkcddabab
namespace Go.Proofs.Ytaapmpjkcddabab
open Go.RowKit
theorem TxtOf.lt {v : Int} {s : ByteArray} (h : TxtOf v s) : v < 10 ^ s.size := by
  have b := dv_bd h.1.1
  have e : dv (digF s) s.size = v := h.2
  omega
theorem TxtOf.pos {v : Int} {s : ByteArray} (h : TxtOf v s) : 1 ≤ s.size := h.1.2.1
/-- Digits everywhere. -/
theorem TxtOf.dig9 {v : Int} {s : ByteArray} (h : TxtOf v s) (j : Nat) : 0 ≤ digF s j ∧ digF s j ≤ 9 := by
  by_cases hj : j < s.size
  · have := h.1.1 j hj; omega
  · rw [digF_out (by omega)]; omega
/-- The bytes of a numeral. -/
theorem TxtOf.bytes {v : Int} {s : ByteArray} (h : TxtOf v s) {j : Nat} (hj : j < s.size) : 48 ≤ bt s j ∧ bt s j ≤ 57 := by
  have e := digF_rev hj
  have := h.1.1 (s.size - 1 - j) (by omega)
  omega
/-- The terms of a numeral. -/
def tmN (s : ByteArray) : Nat := (s.size + 5) / 6
def tmL (s : ByteArray) : List Int := tab (tmN s) (tmF (digF s))
theorem tmL_len (s : ByteArray) : (tmL s).length = tmN s := tab_len _ _
theorem lf_tmL (s : ByteArray) : lf (tmL s) = tmF (digF s) := by
  funext p
  unfold tmL
  rw [lf_tab]
  by_cases h : p < tmN s
  · rw [if_pos h]
  · rw [if_neg h, tmF_out (n := s.size) (fun j hj => digF_out hj) (by unfold tmN at h; omega)]
/-- The number of a list of terms. -/
def nmL (l : List Int) : Int := evN 1000000 (lf l) l.length
theorem nm_tmL (s : ByteArray) : nmL (tmL s) = numV s := by
  unfold nmL numV
  rw [lf_tmL, tmL_len, terms_num]
  exact dv_cut (by unfold tmN; omega) fun j hj _ => digF_out hj
theorem nm_tab (n : Nat) (F : Nat → Int) : nmL (tab n F) = evN 1000000 F n := by
  unfold nmL
  rw [tab_len]
  exact sumN_congr fun i hi => by rw [lf_tab, if_pos hi]
/-- The terms of a sum. -/
def smL (a b : ByteArray) : List Int := tab (max (tmN a) (tmN b)) fun i => tmF (digF a) i + tmF (digF b) i
theorem nm_sum (a b : ByteArray) : nmL (smL a b) = numV a + numV b := by
  unfold smL
  rw [nm_tab, evN_add, ← nm_tmL a, ← nm_tmL b]
  unfold nmL
  rw [lf_tmL, lf_tmL, tmL_len, tmL_len]
  congr 1
  · exact evN_more (by omega) fun j hj => tmF_out (n := a.size) (fun j hj => digF_out hj) (by unfold tmN at hj; omega)
  · exact evN_more (by omega) fun j hj => tmF_out (n := b.size) (fun j hj => digF_out hj) (by unfold tmN at hj; omega)
theorem sm_bd {a b : ByteArray} (ha : ∀ j, 0 ≤ digF a j ∧ digF a j ≤ 9) (hb : ∀ j, 0 ≤ digF b j ∧ digF b j ≤ 9) (j : Nat) : 0 ≤ lf (smL a b) j ∧ lf (smL a b) j ≤ 1000000000000000 := by
  unfold smL
  rw [lf_tab]
  have h1 := tmF_bd ha j
  have h2 := tmF_bd hb j
  split <;> omega
theorem cu_bd2 {S : Nat → Int} (h : ∀ j, 0 ≤ S j ∧ S j ≤ 1000000000000000) : ∀ k, 0 ≤ cuS S k ∧ cuS S k ≤ 200000000000000
  | 0 => by simp [cuS]
  | k + 1 => by
    have := cu_bd2 h k
    have := h k
    rw [cuS]
    omega
/-- The number that a row of terms writes. -/
theorem nm_spread (l : List Int) : dv (spS (lf l)) (6 * l.length) = nmL l := spread_num (lf l) l.length
end Go.Proofs.Ytaapmpjkcddabab
namespace Go.Proofs.Ytaapmpjkcddabab
open Go.RowKit
def upd (Q : Nat → Int) (s : Nat) (m : Int) : Nat → Int := fun j => if j = s then m else Q j
end Go.Proofs.Ytaapmpjkcddabab
namespace Go.Proofs.Ytaapmpjkcddabab
open Go.RowKit
/-- A row with room: the first n cells are known. -/
def OwnV (w : World) (g n cap : Nat) (F : Nat → Int) : Prop := ∃ V, w.rowIs g 3 cap V ∧ n ≤ cap ∧ ∀ j, j < n → V j = .int .i64 (F j)
theorem OwnV.cell {w : World} {g n cap : Nat} {F : Nat → Int} (h : OwnV w g n cap F) {j : Nat} (hj : j < n) : w.cell? ⟨g, j, none⟩ = some (.int .i64 (F j)) := by
  obtain ⟨V, h1, h2, h3⟩ := h
  rw [← h3 j hj]
  exact World.rowIs.cell h1 (by omega)
theorem OwnV.frozen {w : World} {g n cap : Nat} {F : Nat → Int} (h : OwnV w g n cap F) (j : Nat) : w.frozen? ⟨g, j, none⟩ = false := by
  obtain ⟨V, h1, h2, h3⟩ := h
  exact World.rowIs.frozen h1 j
theorem OwnV.lt {w : World} {g n cap : Nat} {F : Nat → Int} (h : OwnV w g n cap F) : g < w.heap.size := by
  obtain ⟨V, h1, _⟩ := h
  exact World.rowIs.lt h1
theorem OwnV.set {w : World} {g n cap s : Nat} {F : Nat → Int} {x : Int} (h : OwnV w g n cap F) : OwnV (w.setCell ⟨g, s, none⟩ (.int .i64 x)) g n cap (upd F s x) := by
  obtain ⟨V, h1, h2, h3⟩ := h
  refine ⟨_, World.rowIs.set h1 s (.int .i64 x), h2, fun j hj => ?_⟩
  unfold upd
  by_cases e : j = s
  · simp [e]
  · simp [e, h3 j hj]
theorem OwnV.keep {w w' : World} {g n cap : Nat} {F : Nat → Int} (h : OwnV w g n cap F) (hb : Below w.heap.size w w') : OwnV w' g n cap F := by
  obtain ⟨V, h1, h2, h3⟩ := h
  exact ⟨V, World.rowIs.of_block h1 (hb.block g (World.rowIs.lt h1)), h2, h3⟩
theorem OwnV.congr {w : World} {g n cap : Nat} {F G : Nat → Int} (h : OwnV w g n cap F) (e : ∀ j, j < n → F j = G j) : OwnV w g n cap G := by
  obtain ⟨V, h1, h2, h3⟩ := h
  exact ⟨V, h1, h2, fun j hj => by rw [h3 j hj, e j hj]⟩
theorem OwnV.src {w : World} {g n cap : Nat} {F : Nat → Int} (h : OwnV w g n cap F) : Src w (some ⟨g, 0, none⟩) n F :=
  .inr ⟨g, 0, rfl, h.lt, fun j hj => by rw [Nat.zero_add]; exact h.cell hj⟩
theorem OwnV.of_owns {w : World} {base n : Nat} {v : Value} {F : Nat → Int} (h : w.ownsRow base 3 1 v n (xsF F n)) (hn : n ≠ 0) : ∃ g cap, v = .slice (some ⟨g, 0, none⟩) n cap ∧ base ≤ g ∧ OwnV w g n cap F := by
  obtain ⟨hl, h⟩ := h
  rcases h with ⟨h1, h2⟩ | ⟨g, cap, cur, h1, hg, hh, hc, hm, hs, ht⟩
  · exact absurd h2 hn
  · refine ⟨g, cap, h1, hg, fun j => (cur[j]?).getD .nilIface, ⟨cur, hh, by omega, fun j hj => ?_⟩, hc, fun j hj => ?_⟩
    · have : j < cur.size := by omega
      simp [this]
    · have hx : (xsF F n)[j]? = some (.int .i64 (F j)) := by simp [xsF, hj]
      rw [← ht, List.getElem?_take_of_lt (by omega)] at hx
      have : cur[j]? = some (.int .i64 (F j)) := by simpa using hx
      show (cur[j]?).getD .nilIface = _
      rw [this]; rfl
end Go.Proofs.Ytaapmpjkcddabab
namespace Go.Proofs.Ytaapmpjkcddabab
open Go.RowKit
/-- A row of bytes of one's own, n of them written. -/
def OwnB (w : World) (g n cap : Nat) (F : Nat → Int) : Prop := ∃ V, w.rowIs g 5 cap V ∧ n ≤ cap ∧ ∀ j, j < n → V j = .int .u8 (F j)
theorem OwnB.cell {w : World} {g n cap : Nat} {F : Nat → Int} (h : OwnB w g n cap F) {j : Nat} (hj : j < n) : w.cell? ⟨g, j, none⟩ = some (.int .u8 (F j)) := by
  obtain ⟨V, h1, h2, h3⟩ := h
  rw [← h3 j hj]
  exact World.rowIs.cell h1 (by omega)
theorem OwnB.frozen {w : World} {g n cap : Nat} {F : Nat → Int} (h : OwnB w g n cap F) (j : Nat) : w.frozen? ⟨g, j, none⟩ = false := by
  obtain ⟨V, h1, h2, h3⟩ := h
  exact World.rowIs.frozen h1 j
theorem OwnB.lt {w : World} {g n cap : Nat} {F : Nat → Int} (h : OwnB w g n cap F) : g < w.heap.size := by
  obtain ⟨V, h1, _⟩ := h
  exact World.rowIs.lt h1
theorem OwnB.set {w : World} {g n cap s : Nat} {F : Nat → Int} {x : Int} (h : OwnB w g n cap F) : OwnB (w.setCell ⟨g, s, none⟩ (.int .u8 x)) g n cap (upd F s x) := by
  obtain ⟨V, h1, h2, h3⟩ := h
  refine ⟨_, World.rowIs.set h1 s (.int .u8 x), h2, fun j hj => ?_⟩
  unfold upd
  by_cases e : j = s
  · simp [e]
  · simp [e, h3 j hj]
theorem OwnB.congr {w : World} {g n cap : Nat} {F G : Nat → Int} (h : OwnB w g n cap F) (e : ∀ j, j < n → F j = G j) : OwnB w g n cap G := by
  obtain ⟨V, h1, h2, h3⟩ := h
  exact ⟨V, h1, h2, fun j hj => by rw [h3 j hj, e j hj]⟩
theorem OwnB.of_owns {w : World} {base n : Nat} {v : Value} {F : Nat → Int} (h : w.ownsRow base 5 1 v n (xsB F n)) (hn : n ≠ 0) : ∃ g cap, v = .slice (some ⟨g, 0, none⟩) n cap ∧ base ≤ g ∧ OwnB w g n cap F := by
  obtain ⟨hl, h⟩ := h
  rcases h with ⟨h1, h2⟩ | ⟨g, cap, cur, h1, hg, hh, hc, hm, hs, ht⟩
  · exact absurd h2 hn
  · refine ⟨g, cap, h1, hg, fun j => (cur[j]?).getD .nilIface, ⟨cur, hh, by omega, fun j hj => ?_⟩, hc, fun j hj => ?_⟩
    · have : j < cur.size := by omega
      simp [this]
    · have hx : (xsB F n)[j]? = some (.int .u8 (F j)) := by simp [xsB, hj]
      rw [← ht, List.getElem?_take_of_lt (by omega)] at hx
      rw [Array.getElem?_toList] at hx
      show (cur[j]?).getD .nilIface = _
      rw [hx]
      rfl
/-- k exchanges from both ends. -/
def swF (n : Nat) (F : Nat → Int) (k j : Nat) : Int := if j < n ∧ (j < k ∨ n - 1 - j < k) then F (n - 1 - j) else F j
theorem swF_zero (n : Nat) (F : Nat → Int) (j : Nat) : F j = swF n F 0 j := by unfold swF; rw [if_neg (by omega)]
theorem swF_lo (n : Nat) (F : Nat → Int) {k m : Nat} (h : k < m) (hm : n = k + m + 1) : swF n F k k = F k ∧ swF n F k m = F m := by
  unfold swF
  rw [if_neg (by omega), if_neg (by omega)]
  exact ⟨rfl, rfl⟩
theorem swF_step (n : Nat) (F : Nat → Int) {k m : Nat} (h : k < m) (hm : n = k + m + 1) (j : Nat) : upd (upd (swF n F k) k (F m)) m (F k) j = swF n F (k + 1) j := by
  unfold upd swF
  by_cases h1 : j = m
  · rw [if_pos h1, if_pos (by omega), show n - 1 - j = k by omega]
  · rw [if_neg h1]
    by_cases h2 : j = k
    · rw [if_pos h2, if_pos (by omega), show n - 1 - j = m by omega]
    · rw [if_neg h2]
      by_cases h3 : j < n ∧ (j < k ∨ n - 1 - j < k)
      · rw [if_pos h3, if_pos (by omega)]
      · rw [if_neg h3, if_neg (by omega)]
theorem swF_step2 (n : Nat) (F : Nat → Int) {k m : Nat} (h : k < m) (hm : n = k + m + 1) (j : Nat) : upd (upd (swF n F k) m (F k)) k (F m) j = swF n F (k + 1) j := by
  rw [← swF_step n F h hm]
  unfold upd
  by_cases h1 : j = m
  · rw [if_neg (by omega), if_pos h1, if_pos h1]
  · by_cases h2 : j = k
    · rw [if_pos h2, if_neg h1, if_pos h2]
    · rw [if_neg h2, if_neg h1, if_neg h1, if_neg h2]
theorem swF_end (n : Nat) (F : Nat → Int) {k j : Nat} (h : n ≤ 2 * k + 1) (hj : j < n) : swF n F k j = F (n - 1 - j) := by
  unfold swF
  by_cases h3 : j < n ∧ (j < k ∨ n - 1 - j < k)
  · rw [if_pos h3]
  · rw [if_neg h3, show n - 1 - j = j by omega]
def RevP (w : World) (g N cap n : Nat) (F : Nat → Int) (e : Ending) (w' : World) : Prop := e = .returned (.tuple #[]) ∧ (∃ G, OwnB w' g N cap G ∧ ∀ j, j < n → G j = F (n - 1 - j)) ∧ w.grownBy w' (some g)
set_option maxRecDepth 100000 in
set_option maxHeartbeats 1600000 in
theorem reverse_c (g N cap n c2 : Nat) (F : Nat → Int) (w : World) (hn : n ≤ N) (hn9 : n ≤ 1000000) (ho : OwnB w g N cap F) : Calls Try.prog 16 #[.slice (some ⟨g, 0, none⟩) n c2] w (RevP w g N cap n F) := by
  have HO := Lib.hid ho
  clear ho
  go_enter Try.func16, Try.ntmps16
  go_wp2_with fail
  go_loopw [2, 3] (fun s2 s3 wr => ∃ k : Nat, s2 = .int .i64 k ∧ s3 = .int .i64 ((n : Int) - 1 - k) ∧ k ≤ n ∧ OwnB wr g N cap (swF n F k) ∧ w.grownBy wr (some g)) (fun s2 _ _ => n - (intOf s2).toNat)
  case atStart => exact ⟨0, rfl, by simp, Nat.zero_le _, HO.out.congr (fun j _ => swF_zero n F j), World.grownBy.refl _ _⟩
  case round =>
    obtain ⟨k, rfl, rfl, hk, hr, hg⟩ := hrel
    by_cases h1 : (k : Int) < (n : Int) - 1 - k
    · obtain ⟨m, hm⟩ : ∃ m : Nat, (n : Int) - 1 - k = m := ⟨n - 1 - k, by omega⟩
      have hnm : n = k + m + 1 := by omega
      have hkm : k < m := by omega
      have cs := swF_lo n F hkm hnm
      have c1 := hr.cell (show k < N by omega)
      have c2 := hr.cell (show m < N by omega)
      rw [cs.1] at c1
      rw [cs.2] at c2
      have f1 := hr.frozen k
      have f2 := hr.frozen m
      have hr1 : OwnB wr.drew g N cap (swF n F k) := hr
      have hg1 : w.grownBy wr.drew (some g) := ⟨hg.os, hg.tape, hg.output, hg.size, hg.block⟩
      have S1 : Hid (OwnB ((wr.drew.setCell ⟨g, k, none⟩ (.int .u8 (F m))).setCell ⟨g, m, none⟩ (.int .u8 (F k))) g N cap (swF n F (k + 1))) := Lib.hid ((hr1.set.set).congr fun j _ => swF_step n F hkm hnm j)
      have S2 : Hid (OwnB ((wr.drew.setCell ⟨g, m, none⟩ (.int .u8 (F k))).setCell ⟨g, k, none⟩ (.int .u8 (F m))) g N cap (swF n F (k + 1))) := Lib.hid ((hr1.set.set).congr fun j _ => swF_step2 n F hkm hnm j)
      have G1 : Hid (∀ (o1 o2 : Nat) (v1 v2 : Value), w.grownBy ((wr.drew.setCell ⟨g, o1, none⟩ v1).setCell ⟨g, o2, none⟩ v2) (some g)) := Lib.hid fun o1 o2 v1 v2 => grown_set (grown_set hg1 o1 v1) o2 v2
      have d1 : decide ((k : Int) < (m : Int)) = true := decide_eq_true (by omega)
      have i1 : (0 : Int) ≤ (k : Int) ∧ (k : Int) < n := by omega
      have i2 : (0 : Int) ≤ (m : Int) ∧ (m : Int) < n := by omega
      have HME : Hid ((m : Int) - 1 = (n : Int) - 1 - (k + 1 : Nat)) := Lib.hid (by omega)
      rw [hm]
      have hkm2 : (k : Int) < m := by omega
      have hmn : (m : Int) < n := by omega
      have hkn : (k : Int) < n := by omega
      clear hr hr1 hg1 cs hm hnm
      go_wp2_with fail
      go_region
      all_goals go_wp2
      all_goals go_roundw
      case rel => exact ⟨k + 1, by go_num, vint HME.out, by omega, by first | exact S1.out | exact S2.out, G1.out _ _ _ _⟩
      case measure => simp [intOf]; omega
    · have d1 : decide ((k : Int) < (n : Int) - 1 - k) = false := decide_eq_false h1
      have HF : Hid (RevP w g N cap n F (.returned (.tuple #[])) wr) := Lib.hid ⟨rfl, ⟨_, hr, fun j hj => swF_end n F (by omega) hj⟩, hg⟩
      clear hr
      go_wp2
      go_end0
      exact HF.out
end Go.Proofs.Ytaapmpjkcddabab
namespace Go.Proofs.Ytaapmpjkcddabab
open Go.RowKit
/-- What is left, and the term that comes in at the sixth place. -/
theorem num_step (T : Nat → Int) {i c : Nat} (hc : c < 6) : (cuS (spS T) (6 * i + c) + (if c = 0 then T i else 0)) / 10 = cuS (spS T) (6 * i + (c + 1)) ∧ (cuS (spS T) (6 * i + c) + (if c = 0 then T i else 0)) % 10 = cdS (spS T) (6 * i + c) := by
  have e : (if c = 0 then T i else 0) = spS T (6 * i + c) := by
    by_cases h : c = 0
    · subst h
      rw [if_pos rfl, Nat.add_zero, spS_at]
    · rw [if_neg h, spS_no T (by omega) hc]
  rw [e]
  exact ⟨rfl, rfl⟩
theorem ownB_nil (w : World) (B : Nat) (F : Nat → Int) : w.ownsRow B 5 1 (.slice none 0 0) 0 (xsB F 0) := World.ownsRow_nil w B 5 1
/-- Behind the last term at most fifteen digits follow. -/
theorem cu_done {S : Nat → Int} {n : Nat} (hz : ∀ j, n ≤ j → S j = 0) (h0 : 0 ≤ cuS S n) (hb : cuS S n ≤ 200000000000000) : ∀ d : Nat, cuS S (n + 15 + d) = 0
  | 0 => by
    have st : ∀ j : Nat, cuS S (n + j + 1) = cuS S (n + j) / 10 := fun j => by rw [cuS, hz (n + j) (by omega), Int.add_zero]
    have s0 : cuS S (n + 1) = cuS S n / 10 := st 0
    have s1 : cuS S (n + 2) = cuS S (n + 1) / 10 := st 1
    have s2 : cuS S (n + 3) = cuS S (n + 2) / 10 := st 2
    have s3 : cuS S (n + 4) = cuS S (n + 3) / 10 := st 3
    have s4 : cuS S (n + 5) = cuS S (n + 4) / 10 := st 4
    have s5 : cuS S (n + 6) = cuS S (n + 5) / 10 := st 5
    have s6 : cuS S (n + 7) = cuS S (n + 6) / 10 := st 6
    have s7 : cuS S (n + 8) = cuS S (n + 7) / 10 := st 7
    have s8 : cuS S (n + 9) = cuS S (n + 8) / 10 := st 8
    have s9 : cuS S (n + 10) = cuS S (n + 9) / 10 := st 9
    have s10 : cuS S (n + 11) = cuS S (n + 10) / 10 := st 10
    have s11 : cuS S (n + 12) = cuS S (n + 11) / 10 := st 11
    have s12 : cuS S (n + 13) = cuS S (n + 12) / 10 := st 12
    have s13 : cuS S (n + 14) = cuS S (n + 13) / 10 := st 13
    have s14 : cuS S (n + 15) = cuS S (n + 14) / 10 := st 14
    show cuS S (n + 15) = 0
    omega
  | d + 1 => by
    have ih := cu_done hz h0 hb d
    show cuS S (n + 15 + d + 1) = 0
    rw [cuS, ih, hz (n + 15 + d) (by omega)]
    rfl
set_option maxRecDepth 100000 in
set_option maxHeartbeats 3200000 in
theorem numeral_c (a : Option Addr) (l : List Int) (cap : Nat) (w : World) (hn : l.length ≤ 4096) (n0 : 0 < l.length) (hS : ∀ j, 0 ≤ lf l j ∧ lf l j ≤ 1000000000000000) (hs : Src w a l.length (lf l)) :
    Calls Try.prog 15 #[.slice a l.length cap] w (TextP (spS (lf l)) (6 * l.length) w) := by
  obtain ⟨i0, hi, hz0, hz1, hz2⟩ := info_parts info5
  have HI := Lib.hid hi
  have HZ0 := Lib.hid hz0
  have HZ1 := Lib.hid hz1
  have HZ2 := Lib.hid hz2
  clear hi hz0 hz1 hz2
  obtain ⟨b, off, rfl, hlt, hc⟩ : ∃ b off, a = some ⟨b, off, none⟩ ∧ b < w.heap.size ∧ ∀ j, j < l.length → w.cell? ⟨b, off + j, none⟩ = some (.int .i64 (lf l j)) := by
    rcases hs with h | h
    · omega
    · exact h
  have HC := Lib.hid hc
  have HCB : Hid (∀ k, 0 ≤ cuS (spS (lf l)) k ∧ cuS (spS (lf l)) k ≤ 200000000000000) := Lib.hid (cu_bd2 (spS_bd (by omega) hS))
  have HCA : Hid (∀ k, Carry (spS (lf l)) (cdS (spS (lf l))) k (cuS (spS (lf l)) k)) := Lib.hid (carry_all fun j => (spS_bd (by omega) hS j).1)
  have HSB := Lib.hid hS
  have HZS : Hid (∀ j, 6 * l.length ≤ j → spS (lf l) j = 0) := Lib.hid fun j hj => spS_out (fun i hi => lf_out l hi) hj
  have HDONE : Hid (∀ k, 6 * l.length ≤ k → 0 < cuS (spS (lf l)) k → k < 6 * l.length + 15) := Lib.hid fun k hk hp => by
    by_cases h : k < 6 * l.length + 15
    · exact h
    · have := cu_done HZS.out (HCB.out _).1 (HCB.out _).2 (k - (6 * l.length + 15))
      rw [show 6 * l.length + 15 + (k - (6 * l.length + 15)) = k by omega] at this
      omega
  clear hS hs hc
  generalize lf l = T at *
  generalize l.length = n at *
  go_enter Try.func15, Try.ntmps15
  go_upto_block 0 with fail
  go_cut [3, 4, 6] from 8 (fun v u _ w2 => u = .int .i64 (cuS (spS T) (6 * n)) ∧ w2.ownsRow w.heap.size 5 1 v (6 * n) (xsB (fun j => 48 + cdS (spS T) j) (6 * n)) ∧ Below w.heap.size w w2)
  case first =>
    go_wp2_with fail
    go_loopw [3, 4, 6, 10] (fun v u _ i wr => ∃ k : Nat, i = .int .i64 k ∧ k ≤ n ∧ u = .int .i64 (cuS (spS T) (6 * k)) ∧ wr.ownsRow w.heap.size 5 1 v (6 * k) (xsB (fun j => 48 + cdS (spS T) j) (6 * k)) ∧ Below w.heap.size w wr) (fun _ _ _ i _ => n - (intOf i).toNat)
    case atStart => exact ⟨0, rfl, Nat.zero_le _, rfl, ownB_nil w _ _, Below.refl _ _⟩
    case round =>
      obtain ⟨k, rfl, hk, rfl, hown, hnx⟩ := hrel
      by_cases h1 : k < n
      · have hd1 : decide ((k : Int) < n) = true := decide_eq_true (by omega)
        have c1 : wr.cell? ⟨b, off + k, none⟩ = some (.int .i64 (T k)) := (hnx.cell (p := ⟨b, off + k, none⟩) hlt).trans (HC.out k h1)
        have cb := HCB.out (6 * k)
        have sb := HSB.out k
        have HOWN := Lib.hid hown
        have HE0 : Hid (cuS (spS T) (6 * k) + T k = cuS (spS T) (6 * k + 0) + (if 0 = 0 then T k else 0)) := Lib.hid rfl
        clear hown
        go_wp2_with fail
        go_loopw [3, 4, 17] (fun v u i wr2 => ∃ c : Nat, i = .int .i64 c ∧ c ≤ 6 ∧ u = .int .i64 (cuS (spS T) (6 * k + c) + (if c = 0 then T k else 0)) ∧ wr2.ownsRow w.heap.size 5 1 v (6 * k + c) (xsB (fun j => 48 + cdS (spS T) j) (6 * k + c)) ∧ Below w.heap.size w wr2) (fun _ _ i _ => 6 - (intOf i).toNat)
        case atStart => exact ⟨0, rfl, by omega, vint HE0.out, HOWN.out, hnx⟩
        case round =>
          clear HOWN HE0 cb c1 hnx
          obtain ⟨c, rfl, hc6, rfl, hown, hnx⟩ := hrel
          have hs2 := hnx.size
          have cb := HCB.out (6 * k + c)
          by_cases h2 : c < 6
          · have hd2 : decide ((c : Int) < 6) = true := decide_eq_true (by omega)
            have HST := Lib.hid (num_step T (i := k) h2)
            have hX : 0 ≤ cuS (spS T) (6 * k + c) + (if c = 0 then T k else 0) ∧ cuS (spS T) (6 * k + c) + (if c = 0 then T k else 0) ≤ 2000000000000000 := by split <;> omega
            have HU : Hid (cuS (spS T) (6 * k + (c + 1)) = cuS (spS T) (6 * k + (c + 1)) + (if c + 1 = 0 then T k else 0)) := Lib.hid (by rw [if_neg (by omega)]; omega)
            clear cb
            generalize cuS (spS T) (6 * k + c) + (if c = 0 then T k else 0) = X at *
            go_wp2_with (at_builtin; refine wpList_append_own _ rfl _ _ 32 rfl w.heap.size 5 i0 (.int .u8 0) 1 1 Try.underlying32 HI.out HZ0.out HZ1.out HZ2.out rfl (by decide) _ _ _ rfl (hown.alloc _) ⟨wr.heap.size, 0, none⟩ 1 1 [.int .u8 (48 + X % 10)] rfl rfl ?c1 ?c2 ?c3 ?c4 ?c5 ?_)
            case c1 => exact cell_one_new _ _ _
            case c2 => intro u hu; simp at hu; subst hu; rfl
            case c3 => unfold maxLen; omega
            case c4 => omega
            case c5 => simp; omega
            intro v' w1 hown' hgrow _
            have hbel : Below w.heap.size w w1 := (hnx.alloc hs2 _).grown hgrow (by simp; omega) (own_ge' hown)
            have hown2 : w1.ownsRow w.heap.size 5 1 v' (6 * k + (c + 1)) (xsB (fun j => 48 + cdS (spS T) j) (6 * k + (c + 1))) := by rw [← Nat.add_assoc, ← xsB_succ, ← HST.out.2]; exact hown'
            clear hgrow hown hown'
            go_wp2
            go_roundw
            case rel => exact ⟨c + 1, by go_num, by omega, vint (HST.out.1.trans HU.out), hown2, hbel⟩
            case measure => simp [intOf]; omega
          · have hd2 : decide ((c : Int) < 6) = false := decide_eq_false (by omega)
            obtain rfl : c = 6 := by omega
            have HU : Hid (cuS (spS T) (6 * k + 6) + (if 6 = 0 then T k else 0) = cuS (spS T) (6 * (k + 1))) := Lib.hid (by rw [if_neg (by omega), Int.add_zero]; rfl)
            have HOWN : Hid (wr.ownsRow w.heap.size 5 1 _ (6 * (k + 1)) (xsB (fun j => 48 + cdS (spS T) j) (6 * (k + 1)))) := Lib.hid hown
            rw [HU.out]
            clear hown cb
            go_wp2
            go_roundw
            case rel => exact ⟨k + 1, by go_num, by omega, rfl, HOWN.out, hnx⟩
            case measure => simp [intOf]; omega
      · have hd1 : decide ((k : Int) < n) = false := decide_eq_false (by omega)
        obtain rfl : k = n := by omega
        have HOWN := Lib.hid hown
        clear hown
        go_wp2
        go_meet
        case rel => exact ⟨rfl, HOWN.out, hnx⟩
  case rest =>
    obtain ⟨rfl, hown, hb⟩ := hcut
    go_upto_block 4 with fail
    go_cut [3, 4] from 8 (fun v _ w2 => ∃ K : Nat, 6 ≤ K ∧ K ≤ 30000 ∧ 6 * n ≤ K ∧ cuS (spS T) K = 0 ∧ w2.ownsRow w.heap.size 5 1 v K (xsB (fun j => 48 + cdS (spS T) j) K) ∧ Below w.heap.size w w2)
    case first =>
      go_wp2_with fail
      go_loopw [3, 4] (fun v u wr => ∃ k : Nat, 6 * n ≤ k ∧ u = .int .i64 (cuS (spS T) k) ∧ k ≤ 6 * n + 15 ∧ wr.ownsRow w.heap.size 5 1 v k (xsB (fun j => 48 + cdS (spS T) j) k) ∧ Below w.heap.size w wr) (fun _ u _ => (intOf u).toNat)
      case atStart => exact ⟨6 * n, Nat.le_refl _, rfl, by omega, hown, hb⟩
      case round =>
        obtain ⟨k, hk, rfl, hkb, hown, hnx⟩ := hrel
        have hs2 := hnx.size
        have cb := HCB.out k
        have cb1 := HCB.out (k + 1)
        have hz := HZS.out k hk
        have HNX : Hid (cuS (spS T) k / 10 = cuS (spS T) (k + 1)) := Lib.hid (by rw [cuS, hz, Int.add_zero])
        have HD : Hid (cuS (spS T) k % 10 = cdS (spS T) k) := Lib.hid (by rw [cdS, hz, Int.add_zero])
        clear hz
        by_cases h1 : 0 < cuS (spS T) k
        · have hd1 : decide (0 < cuS (spS T) k) = true := decide_eq_true h1
          have hkb2 := HDONE.out k hk h1
          have HM : Hid ((cuS (spS T) k / 10).toNat < (cuS (spS T) k).toNat) := Lib.hid (by omega)
          generalize cuS (spS T) k = U at *
          go_wp2_with (at_builtin; refine wpList_append_own _ rfl _ _ 32 rfl w.heap.size 5 i0 (.int .u8 0) 1 1 Try.underlying32 HI.out HZ0.out HZ1.out HZ2.out rfl (by decide) _ _ _ rfl (hown.alloc _) ⟨wr.heap.size, 0, none⟩ 1 1 [.int .u8 (48 + U % 10)] rfl rfl ?d1 ?d2 ?d3 ?d4 ?d5 ?_)
          case d1 => exact cell_one_new _ _ _
          case d2 => intro u hu; simp at hu; subst hu; rfl
          case d3 => unfold maxLen; omega
          case d4 => omega
          case d5 => simp; omega
          intro v' w1 hown' hgrow _
          have hbel : Below w.heap.size w w1 := (hnx.alloc hs2 _).grown hgrow (by simp; omega) (own_ge' hown)
          have hown2 : w1.ownsRow w.heap.size 5 1 v' (k + 1) (xsB (fun j => 48 + cdS (spS T) j) (k + 1)) := by rw [← xsB_succ, ← HD.out]; exact hown'
          clear hgrow hown hown'
          go_wp2
          go_roundw
          case rel => exact ⟨k + 1, by omega, vint HNX.out, by omega, hown2, hbel⟩
          case measure => simp only [intOf]; exact HM.out
        · have hd1 : decide (0 < cuS (spS T) k) = false := decide_eq_false h1
          have hz0 : cuS (spS T) k = 0 := by omega
          have HREL : Hid (∃ K : Nat, 6 ≤ K ∧ K ≤ 30000 ∧ 6 * n ≤ K ∧ cuS (spS T) K = 0 ∧ wr.ownsRow w.heap.size 5 1 _ K (xsB (fun j => 48 + cdS (spS T) j) K) ∧ Below w.heap.size w wr) := Lib.hid ⟨k, by omega, by omega, hk, hz0, hown, hnx⟩
          rw [hz0]
          clear hown hz0 h1 hd1 HNX HD
          go_wp2
          go_meet
          case rel => exact HREL.out
    case rest =>
      clear hown hb
      obtain ⟨K, hK6, hK3, hnK, hz, hown, hb⟩ := hcut
      have HDV : Hid (dv (cdS (spS T)) K = dv (spS T) (6 * n)) := Lib.hid (by
        have h := HCA.out K
        rw [hz] at h
        exact h.last hnK HZS.out)
      have HDG : Hid (∀ m, Dig (cdS (spS T)) m) := Lib.hid fun m i _ => cd_bd (spS T) i
      obtain ⟨g, capb, rfl, hg, hOB⟩ := OwnB.of_owns hown (by omega)
      have HOB := Lib.hid hOB
      have hcapK : K ≤ capb := by obtain ⟨_, _, h, _⟩ := hOB; exact h
      clear hown hOB hz HCA HCB HSB HZS HC HDONE
      generalize spS T = S at *
      generalize 6 * n = n6 at *
      go_upto_block 6 with fail
      go_cut [7] from 8 (fun i w2 => ∃ m : Nat, i = .int .i64 m ∧ m ≤ K ∧ Hid (Can (cdS S) m ∧ dv (cdS S) m = dv S n6) ∧ wc = w2)
      case first =>
        go_wp2_with fail
        go_loopw [7] (fun i wr => ∃ m : Nat, i = .int .i64 m ∧ 1 ≤ m ∧ m ≤ K ∧ Hid (∀ j, m ≤ j → j < K → cdS S j = 0) ∧ wc = wr) (fun i _ => (intOf i).toNat)
        case atStart => exact ⟨K, rfl, by omega, Nat.le_refl _, Lib.hid (fun j h1 h2 => by omega), rfl⟩
        case round =>
          obtain ⟨m, rfl, hm1, hmK, HZR, rfl⟩ := hrel
          have HV : Hid (dv (cdS S) m = dv S n6) := Lib.hid ((dv_cut hmK HZR.out).symm.trans HDV.out)
          by_cases h1 : m = 1
          · have HC : Hid (Can (cdS S) m ∧ dv (cdS S) m = dv S n6) := Lib.hid ⟨⟨HDG.out m, hm1, .inl h1⟩, HV.out⟩
            have hd1 : decide ((1 : Int) < m) = false := decide_eq_false (by omega)
            clear h1
            go_wp2
            go_meet
            case rel => exact ⟨m, rfl, hmK, HC, rfl⟩
          · have hd1 : decide ((1 : Int) < m) = true := decide_eq_true (by omega)
            obtain ⟨p, rfl⟩ : ∃ p, m = p + 1 := ⟨m - 1, by omega⟩
            have hp0 : 0 < p := by omega
            have hd2 : decide ((1 : Int) < (p : Int) + 1) = true := decide_eq_true (by omega)
            have cc := HOB.out.cell (show p < K by omega)
            have dg := cd_bd S p
            have i2 : (p : Int) < (K : Int) := by omega
            by_cases hzp : cdS S p = 0
            · have HZ2 : Hid (∀ j, p ≤ j → j < K → cdS S j = 0) := Lib.hid fun j h2 h3 => by
                by_cases e : j = p
                · rw [e]; exact hzp
                · exact HZR.out j (by omega) h3
              have e48 : ((48 + cdS S p : Int) == 48) = true := by rw [hzp]; rfl
              rw [hzp] at cc
              clear hzp h1
              go_wp2
              go_roundw
              case rel => exact ⟨p, by go_num, by omega, by omega, HZ2, by trivial⟩
              case measure => simp [intOf] <;> omega
            · have HC : Hid (Can (cdS S) (p + 1) ∧ dv (cdS S) (p + 1) = dv S n6) := Lib.hid ⟨⟨HDG.out _, by omega, .inr hzp⟩, HV.out⟩
              have e48 : ((48 + cdS S p : Int) == 48) = false := by rw [beq_eq_false_iff_ne]; omega
              clear hzp h1
              go_wp2
              go_meet
              case rel => exact ⟨p + 1, rfl, hmK, HC, rfl⟩
      case rest =>
        obtain ⟨m, rfl, hmK, HC, rfl⟩ := hcut
        have hm1 := HC.out.1.2.1
        have HT := Lib.hid (txt_text (S := S) (n := n6) HC.out.1 HC.out.2)
        have HCV : Hid (∀ (g2 cap2 : Nat) (w2 : World), (∀ j, j < m → w2.cell? ⟨g2, j, none⟩ = some (.int .u8 (48 + cdS S (m - 1 - j)))) → (convert 32 9 (.slice (some ⟨g2, 0, none⟩) m cap2)).run Try.prog w2 = .ok (.string ⟨(txtB (cdS S) m).toArray⟩) w2) := Lib.hid fun g2 cap2 w2 h => by
          have := run_convert_bytes_back (P := Try.prog) w2 32 9 5 ⟨g2, 0, none⟩ cap2 (txtB (cdS S) m) Try.underlying32 Try.underlying5 Try.underlying9 (fun j hj => by
            rw [txtB_len] at hj
            rw [add_at, Nat.zero_add, h j hj, txtB_at HC.out.1.1 hj]
            have := cd_bd S (m - 1 - j)
            congr 2
            omega)
          rwa [txtB_len] at this
        have HREV : Hid (∀ c2, Calls Try.prog 16 #[.slice (some ⟨g, 0, none⟩) m c2] wc (RevP wc g K capb m (fun j => 48 + cdS S j))) := Lib.hid fun c2 => reverse_c g K capb m c2 _ wc hmK (by omega) HOB.out
        have i1 : (0 : Int) ≤ (m : Int) ∧ (m : Int) ≤ capb := by omega
        have i2 : (m : Int) ≤ capb := by omega
        go_wp2_with fail
        refine (HREV.out _).mono ?_
        rintro e w3 ⟨rfl, ⟨G, hOB3, hG⟩, hg3⟩
        have hcv := HCV.out g capb w3 (fun j hj => by rw [hOB3.cell (by omega), hG j hj])
        have HB3 : Hid (Below w.heap.size w w3) := Lib.hid (hb.grown hg3 (by have := hb.size; omega) (fun r hr => by injection hr with hr; omega))
        clear hOB3 hG hg3 HREV HCV
        go_wp2
        go_ret
        exact ⟨_, rfl, HB3.out, HT.out⟩
end Go.Proofs.Ytaapmpjkcddabab
namespace Go.Proofs.Ytaapmpjkcddabab
open Go.RowKit
theorem terms_set {s : ByteArray} {W : World} {g k p : Nat} (hk : k < s.size) (hp : (s.size - 1 - k) / 6 = p) (h : Own W g (tmN s) (tS (digF s) s.size k)) :
    Own (W.setCell ⟨g, p, none⟩ (.int .i64 (tS (digF s) s.size k p * 10 + (bt s k - 48)))) g (tmN s) (tS (digF s) s.size (k + 1)) := by
  refine (World.rowIs.set h p (.int .i64 (tS (digF s) s.size k p * 10 + (bt s k - 48)))).congr fun j _ => ?_
  by_cases e : j = p
  · subst e
    rw [if_pos rfl, tS_hit (digF s) hk hp, digF_rev hk]
  · rw [if_neg e, tS_miss (digF s) hk (fun h => e (h.symm.trans hp))]
set_option maxRecDepth 100000 in
set_option maxHeartbeats 1600000 in
theorem termsOf_c {v : Int} (s : ByteArray) (w : World) (h : TxtOf v s) (hs : s.size ≤ 4096) : Calls Try.prog 13 #[.string s] w (OwnG w (tmL s)) := by
  have HDB : Hid (∀ k, k < s.size → 48 ≤ bt s k ∧ bt s k ≤ 57) := Lib.hid fun k hk => h.bytes hk
  have HTB : Hid (∀ k p, 0 ≤ tS (digF s) s.size k p ∧ tS (digF s) s.size k p < 1000000) := Lib.hid fun k p => tS_bd h.dig9 s.size k p
  have HST : Hid (∀ (W : World) (g k p : Nat), k < s.size → (s.size - 1 - k) / 6 = p → Own W g (tmN s) (tS (digF s) s.size k) → Own (W.setCell ⟨g, p, none⟩ (.int .i64 (tS (digF s) s.size k p * 10 + (bt s k - 48)))) g (tmN s) (tS (digF s) s.size (k + 1))) := Lib.hid fun W g k p hk hp ho => terms_set hk hp ho
  have HS0 : Hid (∀ p, tS (digF s) s.size 0 p = 0) := Lib.hid fun p => tS_start (fun j hj => digF_out hj) p
  have HEND : Hid (∀ w', Own w' w.heap.size (tmN s) (tS (digF s) s.size s.size) → Below w.heap.size w w' → OwnG w (tmL s) (.returned (.slice (some ⟨w.heap.size, 0, none⟩) (tmN s) (tmN s))) w') := Lib.hid fun w' ho hb => OwnG.of_own ho (tmL_len s).symm (Nat.le_refl _) (fun j _ => by rw [tS_end, lf_tmL]) hb
  have HN : Hid (tmN s = (s.size + 5) / 6) := Lib.hid rfl
  have s1 := h.pos
  have hmk : ∀ w, (Instr.makeSlice 26 (.int .i64 (((s.size : Int) + 6 - 1) / 6)) (.int .i64 (((s.size : Int) + 6 - 1) / 6))).run Try.prog w = .ok (.slice (some ⟨w.heap.size, 0, none⟩) (tmN s) (tmN s)) (w.alloc (.cells (madeCells #[.int .i64 0] (tmN s)) 3)) := fun w => by
    rw [show (((s.size : Int) + 6 - 1) / 6) = (tmN s : Int) by rw [HN.out]; omega]; exact made_n (tmN s) (by rw [HN.out]; omega) w
  clear h
  generalize tmN s = N at *
  go_enter Try.func13, Try.ntmps13
  go_wp2_with fail
  clear hmk
  go_loopw [4, 5, 14] (fun _ _ i wr => ∃ k : Nat, i = .int .i64 k ∧ k ≤ s.size ∧ Own wr w.heap.size N (tS (digF s) s.size k) ∧ Below w.heap.size w wr) (fun _ _ i _ => s.size - (intOf i).toNat)
  case atStart =>
    refine ⟨0, rfl, Nat.zero_le _, ?_, (Below.refl _ _).alloc (Nat.le_refl _) _⟩
    exact (World.rowIs_made w (.int .i64 0) N 3).congr fun j _ => by rw [HS0.out]
  case round =>
    obtain ⟨k, rfl, hk, ho, hb⟩ := hrel
    by_cases h1 : k < s.size
    · have hd1 : decide ((k : Int) < s.size) = true := decide_eq_true (by omega)
      obtain ⟨p, hp⟩ : ∃ p, (s.size - 1 - k) / 6 = p := ⟨_, rfl⟩
      have hpN : p < N := by have := HN.out; omega
      have hbt := bt_get h1
      have hbb := HDB.out k h1
      have ho1 : Own wr.drew w.heap.size N (tS (digF s) s.size k) := ho
      have HSET := Lib.hid (HST.out _ _ k p h1 hp ho1)
      have hb1 : Below w.heap.size w wr.drew := ⟨hb.os, hb.tape, hb.output, hb.size, hb.block⟩
      have c1 := World.rowIs.cell ho hpN
      have c11 := World.rowIs.cell ho1 hpN
      have c12 := World.rowIs.frozen ho1 p
      have xb := HTB.out k p
      rw [hbt] at HSET hbb
      clear hbt
      have t1 : ((s.size : Int) - 1 - k) / 6 = (p : Int) := by omega
      have t2 : Int.tdiv ((s.size : Int) - 1 - k) 6 = (p : Int) := by rw [Int.tdiv_eq_ediv_of_nonneg (by omega)]; exact t1
      have i0 : IntKind.i64.wrap ((s.size : Int) - 1 - k) = (s.size : Int) - 1 - k := IntWalk.i64_in _ (by omega)
      have i1 : (0 : Int) ≤ (k : Int) ∧ (k : Int) < s.size := by omega
      have i2 : (0 : Int) ≤ (p : Int) ∧ (p : Int) < N := by omega
      have i3 : (0 : Int) ≤ (k : Int) := by omega
      have i4 : (k : Int) < s.size := by omega
      have i5 : (p : Int) < N := by omega
      have q0 : IntKind.u8.wrap ((s[k].toNat : Int) - 48) = (s[k].toNat : Int) - 48 := IntWalk.u8_in _ (by omega)
      have q1 : IntKind.i64.wrap ((s[k].toNat : Int) - 48) = (s[k].toNat : Int) - 48 := IntWalk.i64_in _ (by omega)
      generalize tS (digF s) s.size k p = X at *
      have q2 : IntKind.i64.wrap (X * 10) = X * 10 := IntWalk.i64_in _ (by omega)
      have q3 : IntKind.i64.wrap (X * 10 + ((s[k].toNat : Int) - 48)) = X * 10 + ((s[k].toNat : Int) - 48) := IntWalk.i64_in _ (by omega)
      clear ho ho1 hp
      go_wp2
      refine wp_region_still_tail 14 (by kernel_rfl) (by kernel_rfl) ?_
      simp only [List.take_succ_cons, List.take_zero, List.drop_succ_cons, List.drop_zero]
      still_step
      still_step
      still_step
      still_step
      still_step
      still_step
      still_step
      still_step
      still_step
      still_step
      still_step
      still_step
      still_step
      still_step
      refine wpStill_nil ?_
      change wpList _ _ _ _ _ wr.drew
      clear c1 t1 t2 i0 q0 q1 q2 q3
      generalize wr.drew = W1 at *
      go_wp2
      go_roundw
      case rel => exact ⟨k + 1, by go_num, by omega, HSET.out, hb1.setCell (Nat.le_refl _) _⟩
      case measure => simp [intOf]; omega
    · have hd1 : decide ((k : Int) < s.size) = false := decide_eq_false (by omega)
      obtain rfl : k = s.size := by omega
      have HF := Lib.hid (HEND.out _ ho hb)
      clear ho
      go_wp2
      go_ret
      exact HF.out
end Go.Proofs.Ytaapmpjkcddabab
namespace Go.Proofs.Ytaapmpjkcddabab
open Go.RowKit
set_option maxHeartbeats 1600000 in
theorem iDigitsOk (s : ByteArray) (w : World) (hs : s.size ≤ 1048576) : Calls Try.prog 10 #[.string s] w (SameB w (mDigitsOk s)) := by
  by_cases h1 : 1 ≤ s.size ∧ s.size ≤ 300
  · have HN : Hid (∀ k, k < s.size → ¬ (48 ≤ bt s k ∧ bt s k ≤ 57) → mDigitsOk s = false) := Lib.hid fun k hk h => dig_not.2 fun hd => h (hd.2.1 k hk)
    have HE : Hid ((∀ j, j < s.size → 48 ≤ bt s j ∧ bt s j ≤ 57) → ∀ B : Bool, (B = true ↔ (bt s 0 ≠ 48 ∨ s.size = 1)) → mDigitsOk s = B) := Lib.hid fun ha B hB => by
      cases B
      · exact dig_not.2 fun hd => by have := hB.2 hd.2.2; cases this
      · exact dig_iff.2 ⟨h1, ha, hB.1 rfl⟩
    have z1 : decide ((s.size : Int) < 1) = false := decide_eq_false (by omega)
    have z2 : decide ((300 : Int) < s.size) = false := decide_eq_false (by omega)
    go_enter Try.func10, Try.ntmps10
    go_wp2_with fail
    go_loop [3, 14] (fun _ i => ∃ k : Nat, i = .int .i64 k ∧ k ≤ s.size ∧ Hid (∀ j, j < k → 48 ≤ bt s j ∧ bt s j ≤ 57)) (fun _ i => s.size - (intOf i).toNat)
    case atStart => exact ⟨0, rfl, Nat.zero_le _, Lib.hid (fun j hj => by omega)⟩
    case round =>
      obtain ⟨k, rfl, hk, HA⟩ := hrel
      by_cases h2 : k < s.size
      · have hd1 : decide ((k : Int) < s.size) = true := decide_eq_true (by omega)
        have i1 : (0 : Int) ≤ (k : Int) ∧ (k : Int) < s.size := by omega
        have hb := bt_get h2
        by_cases hlo : (s[k].toNat : Int) < 48
        · have dlo : decide ((s[k].toNat : Int) < 48) = true := decide_eq_true hlo
          have HR := Lib.hid (HN.out k h2 (by omega))
          go_wp2
          go_ret
          exact ⟨by rw [HR.out]; rfl, rfl⟩
        · have dlo : decide ((s[k].toNat : Int) < 48) = false := decide_eq_false hlo
          by_cases hhi : 57 < (s[k].toNat : Int)
          · have dhi : decide (57 < (s[k].toNat : Int)) = true := decide_eq_true hhi
            have HR := Lib.hid (HN.out k h2 (by omega))
            go_wp2
            go_ret
            exact ⟨by rw [HR.out]; rfl, rfl⟩
          · have dhi : decide (57 < (s[k].toNat : Int)) = false := decide_eq_false hhi
            have HA2 : Hid (∀ j, j < k + 1 → 48 ≤ bt s j ∧ bt s j ≤ 57) := Lib.hid (fun j hj => by
              by_cases e : j = k
              · subst e; omega
              · exact HA.out j (by omega))
            clear HA hb
            go_wp2
            go_round
            case rel => exact ⟨k + 1, by go_num, by omega, HA2⟩
            case measure => simp [intOf]; omega
      · have hd1 : decide ((k : Int) < s.size) = false := decide_eq_false (by omega)
        obtain rfl : k = s.size := by omega
        have h0 : 0 < s.size := by omega
        have hb := bt_get h0
        have HE2 := Lib.hid (HE.out HA.out)
        clear HA HE HN
        by_cases hz : (s[0].toNat : Int) = 48
        · have dz : ((s[0].toNat : Int) != 48) = false := by simp [hz]
          by_cases h11 : s.size = 1
          · have d1 : ((s.size : Int) == 1) = true := by simp [h11]
            have HR := Lib.hid (HE2.out true ⟨fun _ => .inr h11, fun _ => rfl⟩)
            clear h11 hb hz
            go_wp2
            go_ret
            exact ⟨by rw [HR.out]; rfl, rfl⟩
          · have d1 : ((s.size : Int) == 1) = false := by rw [beq_eq_false_iff_ne]; omega
            have HR := Lib.hid (HE2.out false ⟨(fun h => by cases h), (fun h => by rcases h with h | h <;> omega)⟩)
            clear h11 hb hz
            go_wp2
            go_ret
            exact ⟨by rw [HR.out]; rfl, rfl⟩
        · have dz : ((s[0].toNat : Int) != 48) = true := by rw [bne_iff_ne]; exact hz
          have HR := Lib.hid (HE2.out true ⟨fun _ => .inl (by omega), fun _ => rfl⟩)
          clear hb hz
          go_wp2
          go_ret
          exact ⟨by rw [HR.out]; rfl, rfl⟩
  · have HB := Lib.hid (dig_not.2 fun h : DigOk s => h1 h.1)
    by_cases h2 : s.size < 1
    · have z1 : decide ((s.size : Int) < 1) = true := decide_eq_true (by omega)
      clear h1 h2
      go_enter Try.func10, Try.ntmps10
      go_wp2
      go_ret
      exact ⟨by rw [HB.out]; rfl, rfl⟩
    · have z1 : decide ((s.size : Int) < 1) = false := decide_eq_false (by omega)
      have z2 : decide ((300 : Int) < s.size) = true := decide_eq_true (by omega)
      clear h1 h2
      go_enter Try.func10, Try.ntmps10
      go_wp2
      go_ret
      exact ⟨by rw [HB.out]; rfl, rfl⟩
end Go.Proofs.Ytaapmpjkcddabab
namespace Go.Proofs.Ytaapmpjkcddabab
open Mth
/-- Half way round is -1. -/
theorem Rt.half {f w v : Int} {m : Nat} (h : Rt f w v (m + m)) : (w ^ m + 1) % P f = 0 := by
  have m0 : 0 < m := by have := h.n0; omega
  refine Classical.byContradiction fun hs => ?_
  have h1 : (w ^ m - 1) % P f ≠ 0 := fun e => by
    have : w ^ m % P f = 1 % P f := by
      have := emod_add_congr (p := P f) (a := w ^ m - 1) (b := 0) (c := 1) (d := 1) (by rw [e]; simp) rfl
      rwa [Int.sub_add_cancel, Int.zero_add] at this
    have := Nat.le_of_dvd m0 ((h.ord m).1 this)
    omega
  have := mul_nz h.h0 h.h8 h1 hs
  refine this ?_
  have e : (w ^ m - 1) * (w ^ m + 1) = w ^ (m + m) - 1 := by
    rw [Int.pow_add, Int.mul_add, Int.sub_mul, Int.sub_mul]
    omega
  rw [e]
  exact emod_zero_of_sub h.full
theorem rv_bit (b c : Nat) (hc : c < 2) : ∀ j, rv (2 * b + c) (j + 1) = c * 2 ^ j + rv b j
  | 0 => by simp [rv]; omega
  | j + 1 => by
    rw [rv, rv_bit b c hc j]
    show 2 * (c * 2 ^ j + rv b j) + (2 * b + c) / 2 ^ (j + 1) % 2 = c * 2 ^ (j + 1) + rv b (j + 1)
    rw [rv, Nat.pow_succ, Nat.mul_comm (2 ^ j) 2, ← Nat.div_div_eq_div_mul, show (2 * b + c) / 2 = b by omega, Nat.mul_add, ← Nat.mul_assoc c, Nat.mul_comm c 2, Nat.mul_assoc 2 c, Nat.add_assoc]
/-- After s levels: each block of 2^s is the transform of every 2^(k-s)-th number of X. -/
def Lev (f w : Int) (k s : Nat) (X V : Nat → Int) : Prop :=
  ∀ b t, b < 2 ^ (k - s) → t < 2 ^ s → V (b * 2 ^ s + t) % P f = sumN (fun u => X (rv b (k - s) + u * 2 ^ (k - s)) * w ^ (t * (u * 2 ^ (k - s)))) (2 ^ s) % P f
theorem Lev.start {f w : Int} {k : Nat} {X V : Nat → Int} (h : ∀ j, j < 2 ^ k → V j % P f = X (rv j k) % P f) : Lev f w k 0 X V := by
  intro b t hb ht
  have : t = 0 := by have : t < 1 := ht; omega
  subst this
  rw [Nat.sub_zero] at hb ⊢
  rw [show b * 2 ^ 0 + 0 = b by simp, h b hb]
  show _ = (sumN _ 0 + X (rv b k + 0 * 2 ^ k) * w ^ (0 * (0 * 2 ^ k))) % P f
  simp [sumN]
/-- One level. -/
theorem Lev.step {f w v : Int} {k s : Nat} {X V V' : Nat → Int} (hr : Rt f w v (2 ^ k)) (hs : s < k) (h : Lev f w k s X V)
    (hlo : ∀ b t, b < 2 ^ (k - s - 1) → t < 2 ^ s → V' (b * 2 ^ (s + 1) + t) % P f = (V (b * 2 ^ (s + 1) + t) + V (b * 2 ^ (s + 1) + t + 2 ^ s) * w ^ (t * 2 ^ (k - s - 1))) % P f)
    (hhi : ∀ b t, b < 2 ^ (k - s - 1) → t < 2 ^ s → V' (b * 2 ^ (s + 1) + t + 2 ^ s) % P f = (V (b * 2 ^ (s + 1) + t) - V (b * 2 ^ (s + 1) + t + 2 ^ s) * w ^ (t * 2 ^ (k - s - 1))) % P f) : Lev f w k (s + 1) X V' := by
  intro b t hb ht
  obtain ⟨m, hm⟩ : ∃ m, m = 2 ^ (k - s - 1) := ⟨_, rfl⟩
  obtain ⟨g, hg⟩ : ∃ g, g = 2 ^ s := ⟨_, rfl⟩
  have e1 : k - (s + 1) = k - s - 1 := by omega
  have e2 : k - s = k - s - 1 + 1 := by omega
  have p1 : (2 : Nat) ^ (k - s) = 2 * m := by rw [e2, Nat.pow_succ, hm, Nat.mul_comm]
  have p2 : (2 : Nat) ^ (s + 1) = 2 * g := by rw [Nat.pow_succ, hg, Nat.mul_comm]
  have p3 : (2 : Nat) ^ k = g * m + g * m := by
    have : k = s + (k - s - 1) + 1 := by omega
    rw [this, Nat.pow_succ, Nat.pow_add, ← hg, ← hm]
    omega
  have hr2 : Rt f w v (g * m + g * m) := by rw [← p3]; exact hr
  have hhalf := hr2.half
  rw [e1, ← hm] at hb
  rw [← hm] at hlo hhi
  rw [← hg] at hlo hhi
  rw [p2] at hlo hhi ht
  rw [e1, ← hm, p2]
  -- the two blocks below
  have r0 : rv (2 * b) (k - s) = rv b (k - s - 1) := by rw [e2]; have := rv_bit b 0 (by omega) (k - s - 1); simpa using this
  have r1 : rv (2 * b + 1) (k - s) = rv b (k - s - 1) + m := by rw [e2]; have := rv_bit b 1 (by omega) (k - s - 1); rw [Nat.one_mul, ← hm] at this; rw [show k - s - 1 + 1 - 1 = k - s - 1 by omega]; omega
  have LE : ∀ t, t < g → V (b * (2 * g) + t) % P f = sumN (fun u => X (rv b (k - s - 1) + u * (2 * m)) * w ^ (t * (u * (2 * m)))) g % P f := fun t ht => by
    have := h (2 * b) t (by rw [p1]; omega) (by rw [← hg]; exact ht)
    rw [r0, p1, ← hg, show 2 * b * g = b * (2 * g) by rw [Nat.mul_comm 2 b, Nat.mul_assoc]] at this
    exact this
  have LO : ∀ t, t < g → V (b * (2 * g) + t + g) % P f = sumN (fun u => X (rv b (k - s - 1) + m + u * (2 * m)) * w ^ (t * (u * (2 * m)))) g % P f := fun t ht => by
    have := h (2 * b + 1) t (by rw [p1]; omega) (by rw [← hg]; exact ht)
    rw [r1, p1, ← hg, show (2 * b + 1) * g + t = b * (2 * g) + t + g by rw [Nat.add_mul, Nat.mul_comm 2 b, Nat.mul_assoc]; omega] at this
    exact this
  -- the whole sum, split
  have split : ∀ t, sumN (fun u => X (rv b (k - s - 1) + u * m) * w ^ (t * (u * m))) (2 * g) = sumN (fun u => X (rv b (k - s - 1) + u * (2 * m)) * w ^ (t * (u * (2 * m)))) g + sumN (fun u => X (rv b (k - s - 1) + m + u * (2 * m)) * w ^ (t * (u * (2 * m)))) g * w ^ (t * m) := fun t => by
    rw [sumN_even, ← sumN_mul_r]
    congr 1
    · exact sumN_congr fun u _ => by rw [show 2 * u * m = u * (2 * m) by rw [Nat.mul_comm 2 u, Nat.mul_assoc]]
    · exact sumN_congr fun u _ => by
        rw [show (2 * u + 1) * m = m + u * (2 * m) by rw [Nat.add_mul, Nat.mul_comm 2 u, Nat.mul_assoc]; omega, ← Nat.add_assoc, Int.mul_assoc, ← Int.pow_add, ← Nat.mul_add, Nat.add_comm m]
  by_cases htg : t < g
  · rw [hlo b t hb htg, split t]
    exact emod_add_congr (LE t htg) (emod_mul_congr (LO t htg) rfl)
  · obtain ⟨r, rfl⟩ : ∃ r, t = r + g := ⟨t - g, by omega⟩
    have hrg : r < g := by omega
    rw [← Nat.add_assoc, hhi b r hb hrg, split (r + g)]
    -- w^((r+g) u 2m) = w^(r u 2m), w^((r+g) m) = - w^(r m)
    have x1 : ∀ u, w ^ ((r + g) * (u * (2 * m))) % P f = w ^ (r * (u * (2 * m))) % P f := fun u => hr2.exp (by
      rw [Nat.add_mul, show g * (u * (2 * m)) = (g * m + g * m) * u by rw [← Nat.mul_assoc, Nat.mul_comm g u, Nat.mul_assoc, Nat.mul_comm _ u, ← Nat.mul_add g, Nat.two_mul], Nat.add_mul_mod_self_left])
    have x2 : w ^ ((r + g) * m) % P f = (- w ^ (r * m)) % P f := by
      rw [Nat.add_mul, Int.pow_add]
      have : (w ^ (r * m) * w ^ (g * m)) % P f = (w ^ (r * m) * (-1)) % P f := emod_mul_congr rfl (by
        have := emod_add_congr (p := P f) (a := w ^ (g * m) + 1) (b := 0) (c := -1) (d := -1) (by rw [hhalf]; simp) rfl
        rw [Int.zero_add] at this
        rw [← this]
        congr 1
        omega)
      rw [this]
      congr 1
      omega
    have y1 : (sumN (fun u => X (rv b (k - s - 1) + u * (2 * m)) * w ^ ((r + g) * (u * (2 * m)))) g) % P f = V (b * (2 * g) + r) % P f := by
      rw [LE r hrg]
      exact sumN_mod fun u _ => emod_mul_congr rfl (x1 u)
    have y2 : (sumN (fun u => X (rv b (k - s - 1) + m + u * (2 * m)) * w ^ ((r + g) * (u * (2 * m)))) g) % P f = V (b * (2 * g) + r + g) % P f := by
      rw [LO r hrg]
      exact sumN_mod fun u _ => emod_mul_congr rfl (x1 u)
    have y3 := emod_add_congr y1 (emod_mul_congr y2 x2)
    rw [y3]
    congr 1
    rw [Int.mul_neg]
    omega
/-- All levels: the transform. -/
theorem Lev.last {f w : Int} {k : Nat} {X V : Nat → Int} (h : Lev f w k k X V) {t : Nat} (ht : t < 2 ^ k) : V t % P f = ftF w (2 ^ k) X t % P f := by
  have := h 0 t (by simp) ht
  rw [Nat.sub_self, Nat.zero_mul, Nat.zero_add] at this
  rw [this]
  unfold ftF
  congr 1
  exact sumN_congr fun u _ => by simp [rv]
end Go.Proofs.Ytaapmpjkcddabab
namespace Go.Proofs.Ytaapmpjkcddabab
open Mth
def VecOk (f : Int) (l : List Int) : Prop := (0 ≤ mLog l.length ∧ mLog l.length ≤ T f) ∧ ∀ j, j < l.length → 0 ≤ lf l j ∧ lf l j < P f
/-- The log of a vector. -/
theorem VecOk.log {f : Int} {l : List Int} (h : VecOk f l) : ∃ k : Nat, k ≤ 9 ∧ l.length = 2 ^ k ∧ mLog l.length = k ∧ hasK f k := by
  rcases log_cases (l.length : Int) with ⟨k, hk, hn, hl⟩ | ⟨_, hl⟩
  · refine ⟨k, hk, ?_, hl, (hasK_iff f k).2 ⟨by omega, by have := h.1.2; omega⟩⟩
    have e : ((2 ^ k : Nat) : Int) = 2 ^ k := by rw [Int.natCast_pow]; rfl
    omega
  · have := h.1.1
    omega
theorem VecOk.f08 {f : Int} {l : List Int} (h : VecOk f l) : 0 ≤ f ∧ f ≤ 8 := by
  obtain ⟨k, _, _, _, hk⟩ := h.log
  exact hk.1
theorem VecOk.pos {f : Int} {l : List Int} (h : VecOk f l) : 0 < l.length ∧ l.length ≤ 512 := by
  obtain ⟨k, hk, hn, _, _⟩ := h.log
  have : 2 ^ k ≤ 2 ^ 9 := Nat.pow_le_pow_right (by omega) hk
  have h0 : 0 < 2 ^ k := Nat.pow_pos (by omega)
  omega
theorem VecOk.lt {f : Int} {l : List Int} (h : VecOk f l) (j : Nat) : 0 ≤ lf l j ∧ lf l j < P f := by
  have h08 := h.f08
  have hp := P_bd h08.1 h08.2
  by_cases hj : j < l.length
  · exact h.2 j hj
  · rw [lf_out l (by omega)]; omega
/-- A list of the same length whose numbers are reduced is a vector. -/
theorem VecOk.tab {f : Int} {l : List Int} (h : VecOk f l) {n : Nat} (hn : n = l.length) (F : Nat → Int) (hF : ∀ j, j < n → 0 ≤ F j ∧ F j < P f) : VecOk f (tab n F) := by
  subst hn
  refine ⟨by rw [tab_len]; exact h.1, fun j hj => ?_⟩
  rw [tab_len] at hj
  rw [lf_tab, if_pos hj]
  exact hF j hj
end Go.Proofs.Ytaapmpjkcddabab
namespace Go.Proofs.Ytaapmpjkcddabab
open Mth
/-- Within one level: the blocks below B done, and of block B the first j pairs. -/
def stDone (h B j t : Nat) : Prop := t < B * (2 * h) ∨ (t < B * (2 * h) + 2 * h ∧ t % (2 * h) % h < j)
instance (h B j t : Nat) : Decidable (stDone h B j t) := inferInstanceAs (Decidable (_ ∨ _))
end Go.Proofs.Ytaapmpjkcddabab
namespace Go.Proofs.Ytaapmpjkcddabab
open Mth
/-- Zeros behind. -/
def padL (l : List Int) (n : Nat) : List Int := tab n (lf l)
theorem padL_len (l : List Int) (n : Nat) : (padL l n).length = n := tab_len _ _
theorem lf_padL (l : List Int) {n : Nat} (h : l.length ≤ n) (j : Nat) : lf (padL l n) j = lf l j := by
  unfold padL
  rw [lf_tab]
  by_cases hj : j < n
  · rw [if_pos hj]
  · rw [if_neg hj, lf_out l (by omega)]
end Go.Proofs.Ytaapmpjkcddabab
namespace Go.Proofs.Ytaapmpjkcddabab
open Go.RowKit
theorem wpList_copy_pad {w : World} {ops : Array Oper} {rest : List Oper} {o : Oper} {a : Act} {Q : Exit → Act → World → Prop} (hgd : o.guard = none) (d s : Operand)
    (ho : o.op = .call { callee := .builtin .copy, args := #[d, s], argTypes := #[26, 26] }) (N m cap1 cap2 : Nat) (a2 : Option Addr) (F : Nat → Int)
    (hd : a.eval d = .slice (some ⟨w.heap.size, 0, none⟩) N cap1) (hs : a.eval s = .slice a2 m cap2) (hmN : m ≤ N) (hsrc : Src w a2 m F)
    (h : ∀ w', Hid (Own w' w.heap.size N (fun j => if 0 ≤ j ∧ j < 0 + m then F (j - 0) else 0)) → Below w.heap.size w w' → wpList Try.prog ops Q rest (a.put o.dst (goInt m)) w') :
    wpList Try.prog ops Q (o :: rest) a (w.alloc (.cells (madeCells #[.int .i64 0] N) 3)) := by
  refine wpList_copy_splice hgd d s 26 26 ho 3 Try.underlying26 size3 (some ⟨w.heap.size, 0, none⟩) a2 N cap1 m cap2 hd hs w.heap.size 0 (madeCells #[.int .i64 0] N).toList 3 (by unfold World.alloc; simp) (xsF F m) (by rw [xsF_len]; exact (Nat.min_eq_left hmN).symm) ?_ (by rw [xsF_len, made_len]; omega) xsF_one w.heap.size w ((Below.refl _ _).alloc (Nat.le_refl _) _) (Nat.le_refl _) (fun w' hg hb => ?_)
  · intro hpos
    rw [xsF_len] at hpos
    refine ⟨rfl, ?_⟩
    rcases hsrc with hz | ⟨b, off2, rfl, hlt, hc⟩
    · omega
    · refine ⟨_, rfl, fun j v hv => ?_⟩
      obtain ⟨hj, rfl⟩ := xsF_at hv
      rw [add_at]
      exact (((Below.refl _ w).alloc (Nat.le_refl _) _).cell (p := ⟨b, off2 + j, none⟩) hlt).trans (hc j (by omega))
  · rw [xsF_len]
    exact h w' (Lib.hid (own_splice (by omega) hg.out)) hb
theorem padded_c (a : Option Addr) (l : List Int) (cap N : Nat) (w : World) (hl : l.length ≤ N) (hN : N ≤ 1048576) (hs : Src w a l.length (lf l)) : Calls Try.prog 14 #[.slice a l.length cap, .int .i64 N] w (OwnG w (padL l N)) := by
  have hmk := made_n N hN
  have HS := Lib.hid hs
  have HO : Hid (∀ w', Own w' w.heap.size N (fun j => if j < l.length then lf l j else 0) → Below w.heap.size w w' → OwnG w (padL l N) (.returned (.slice (some ⟨w.heap.size, 0, none⟩) N N)) w') := Lib.hid fun w' ho hb => OwnG.of_own ho (padL_len l N).symm (Nat.le_refl _) (fun j hj => by
    unfold padL
    rw [lf_tab, if_pos hj]
    by_cases hjl : j < l.length
    · rw [if_pos hjl]
    · rw [if_neg hjl, lf_out l (by omega)]) hb
  clear hs
  go_enter Try.func14, Try.ntmps14
  go_wp2_with (with_reducible refine wpList_copy_pad rfl _ _ rfl N l.length N cap _ (lf l) rfl rfl hl HS.out ?_)
  intro w2 H2 hb
  have HR := Lib.hid (HO.out w2 H2.out hb)
  clear hmk H2 HO
  go_wp2
  go_ret
  exact HR.out
end Go.Proofs.Ytaapmpjkcddabab
namespace Go.Proofs.Ytaapmpjkcddabab
open Go.RowKit
def TextB (w : World) (s : ByteArray) (b : Bool) (e : Ending) (w' : World) : Prop := e = .returned (.tuple #[.string s, .bool b]) ∧ Below w.heap.size w w'
def addD (a b : ByteArray) : List Int := tab (max a.size b.size) fun i => digF a i + digF b i
theorem addD_num (a b : ByteArray) : dv (lf (addD a b)) (addD a b).length = numV a + numV b := by
  have hl : (addD a b).length = max a.size b.size := tab_len _ _
  rw [hl]
  have e1 : dv (lf (addD a b)) (max a.size b.size) = dv (fun i => digF a i + digF b i) (max a.size b.size) := sumN_congr fun i hi => by
    unfold addD
    rw [lf_tab, if_pos hi]
  rw [e1, dv_add, dv_cut (m := a.size) (by omega) (fun j hj _ => digF_out hj), dv_cut (m := b.size) (by omega) (fun j hj _ => digF_out hj)]
  rfl
theorem addD_bd {a b : ByteArray} (ha : DigOk a) (hb : DigOk b) (j : Nat) : 0 ≤ lf (addD a b) j ∧ lf (addD a b) j ≤ 1000000 := by
  unfold addD
  rw [lf_tab]
  have h1 := dig9 ha j
  have h2 := dig9 hb j
  split <;> omega
open Classical in
noncomputable def mAddText0 (a b : ByteArray) : ByteArray := if DigOk a ∧ DigOk b then txtOf (numV a + numV b) else ⟨#[]⟩
open Classical in
noncomputable def mAddText1 (a b : ByteArray) : Bool := decide (DigOk a ∧ DigOk b)
/-- The text of the sums of two numerals. -/
theorem sText_add (x : Option Addr) (cap : Nat) (a b : ByteArray) (w : World) (ha : DigOk a) (hb : DigOk b) (hs : Src w x (addD a b).length (lf (addD a b))) :
    Calls Try.prog 9 #[.slice x (addD a b).length cap] w fun e w' => e = .returned (.string (txtOf (numV a + numV b))) ∧ Below w.heap.size w w' := by
  have hl : (addD a b).length = max a.size b.size := tab_len _ _
  have h1 := ha.1
  have h2 := hb.1
  refine (sText x (addD a b) cap w (by omega) (by omega) (addD_bd ha hb) hs).mono fun e w' h => ?_
  obtain ⟨r1, r2, _⟩ := h.txt
  rw [addD_num] at r1
  exact ⟨r1, r2⟩
set_option maxRecDepth 100000 in
set_option maxHeartbeats 3200000 in
theorem sAddText_on (a b : ByteArray) (w : World) (ha : DigOk a) (hb : DigOk b) :
    Calls Try.prog 4 #[.string a, .string b] w (TextB w (txtOf (numV a + numV b)) true) := by
  obtain ⟨i0, hi, hz0, hz1, hz2⟩ := info_parts info3
  have HI := Lib.hid hi
  have HZ0 := Lib.hid hz0
  have HZ1 := Lib.hid hz1
  have HZ2 := Lib.hid hz2
  clear hi hz0 hz1 hz2
  have HSA := ha.1
  have HSB := hb.1
  have G1 : Hid (∀ w2, Calls Try.prog 6 #[.string a] w2 (SameB w2 true)) := Lib.hid fun w2 => by
    have R := sDigitsOk a w2 (by omega)
    rwa [dig_iff.2 ha] at R
  have G2 : Hid (∀ w2, Calls Try.prog 6 #[.string b] w2 (SameB w2 true)) := Lib.hid fun w2 => by
    have R := sDigitsOk b w2 (by omega)
    rwa [dig_iff.2 hb] at R
  have D1 : Hid (∀ w2, Calls Try.prog 7 #[.string a] w2 (OwnsL w2 (digL a))) := Lib.hid fun w2 => sDs a w2 (by omega)
  have D2 : Hid (∀ w2, Calls Try.prog 7 #[.string b] w2 (OwnsL w2 (digL b))) := Lib.hid fun w2 => sDs b w2 (by omega)
  have HT : Hid (∀ (x : Option Addr) (cap : Nat) (w2 : World), Src w2 x (addD a b).length (lf (addD a b)) → Calls Try.prog 9 #[.slice x (addD a b).length cap] w2 fun e w' => e = .returned (.string (txtOf (numV a + numV b))) ∧ Below w2.heap.size w2 w') := Lib.hid fun x cap w2 hs => sText_add x cap a b w2 ha hb hs
  have HLA : Hid ((digL a).length = a.size) := Lib.hid (digL_len a)
  have HLB : Hid ((digL b).length = b.size) := Lib.hid (digL_len b)
  have HFA : Hid (∀ j, lf (digL a) j = digF a j) := Lib.hid fun j => by rw [lf_digL]
  have HFB : Hid (∀ j, lf (digL b) j = digF b j) := Lib.hid fun j => by rw [lf_digL]
  have H9A := Lib.hid (dig9 ha)
  have H9B := Lib.hid (dig9 hb)
  have HOD : Hid (∀ (W W' : World) (v : Value) (N : Nat), N = max a.size b.size → W'.ownsRow W.heap.size 3 1 v N (xsF (fun i => digF a i + digF b i) N) → Below W.heap.size W W' → OwnsL W (addD a b) (.returned v) W') := Lib.hid fun W W' v N hN h hb => owns_to h (by rw [hN]; exact (tab_len _ _).symm) (fun j hj => by unfold addD; rw [lf_tab, if_pos (by omega)]) hb
  clear ha hb
  generalize txtOf (numV a + numV b) = T at *
  go_enter Try.func4, Try.ntmps4
  go_wp2_with fail
  refine (G1.out _).mono ?_
  rintro e w' ⟨rfl, rfl⟩
  go_wp2_with fail
  refine (G2.out _).mono ?_
  rintro e w' ⟨rfl, rfl⟩
  go_wp2_with fail
  refine (D1.out _).mono ?_
  rintro e w1 ho1
  obtain ⟨x1, c1, rfl, hS1, hB1⟩ := ho1.list
  clear ho1
  go_wp2_with fail
  refine (D2.out _).mono ?_
  rintro e w2 ho2
  obtain ⟨x2, c2, rfl, hS2, hB2⟩ := ho2.list
  clear ho2
  have HS1 := Lib.hid (hS1.keep hB2)
  have HS2 := Lib.hid hS2
  have HA1 : Hid (∀ (k : Nat) (w3 : World), Below w2.heap.size w2 w3 → Calls Try.prog 8 #[.slice x1 a.size c1, .int .i64 k] w3 fun e w' => e = .returned (.int .i64 (digF a k)) ∧ w3 = w') := Lib.hid fun k w3 hb => by
    have R := at_c x1 (digL a) c1 k w3 (by rw [HLA.out]; omega) (HS1.out.keep hb)
    rwa [HLA.out, HFA.out] at R
  have HA2 : Hid (∀ (k : Nat) (w3 : World), Below w2.heap.size w2 w3 → Calls Try.prog 8 #[.slice x2 b.size c2, .int .i64 k] w3 fun e w' => e = .returned (.int .i64 (digF b k)) ∧ w3 = w') := Lib.hid fun k w3 hb => by
    have R := at_c x2 (digL b) c2 k w3 (by rw [HLB.out]; omega) (HS2.out.keep hb)
    rwa [HLB.out, HFB.out] at R
  rw [HLA.out, HLB.out]
  have HBW : Hid (Below w.heap.size w w2) := Lib.hid (hB1.trans (hB2.mono hB1.size))
  clear hS1 hS2 HS1 HS2 HFA HFB
  generalize digF a = A at *
  generalize digF b = B at *
  obtain ⟨N, hN⟩ : ∃ N, max a.size b.size = N := ⟨_, rfl⟩
  rw [hN] at HOD
  generalize a.size = n at *
  generalize b.size = q at *
  go_wp2_with fail
  go_loopw [8, 9] (fun v i wr => ∃ k : Nat, i = .int .i64 k ∧ k ≤ N ∧ wr.ownsRow w2.heap.size 3 1 v k (xsF (fun j => A j + B j) k) ∧ Below w2.heap.size w2 wr) (fun _ i _ => N - (intOf i).toNat)
  case atStart => exact ⟨0, rfl, Nat.zero_le _, own_empty w2 _, (Below.refl _ _).alloc (Nat.le_refl _) _⟩
  case round =>
    obtain ⟨k, rfl, hk, hown, hnx⟩ := hrel
    have R1 := Lib.hid (HA1.out k wr hnx)
    have R2 := Lib.hid (HA2.out k wr hnx)
    have b1 := H9A.out k
    have b2 := H9B.out k
    have hs := hnx.size
    by_cases h1 : k < n
    · have hd1 : decide ((k : Int) < n) = true := by simp; omega
      go_wp2_with fail
      refine R1.out.mono ?_
      rintro e w' ⟨rfl, rfl⟩
      go_wp2_with fail
      refine R2.out.mono ?_
      rintro e w' ⟨rfl, rfl⟩
      go_wp2_with (at_builtin; refine wpList_append_own _ rfl _ _ 26 rfl w2.heap.size 3 i0 (.int .i64 0) 1 8 Try.underlying26 HI.out HZ0.out HZ1.out HZ2.out rfl (by decide) _ _ _ rfl (hown.alloc _) ⟨wr.heap.size, 0, none⟩ 1 1 [.int .i64 (A k + B k)] rfl rfl ?c1 ?c2 ?c3 ?c4 ?c5 ?_)
      case c1 => exact cell_one_new _ _ _
      case c2 => intro u hu; simp at hu; subst hu; rfl
      case c3 => unfold maxLen; omega
      case c4 => omega
      case c5 => simp; omega
      intro v' w1 hown' hgrow _
      have hbel : Below w2.heap.size w2 w1 := (hnx.alloc hs _).grown hgrow (by simp; omega) (own_ge hown)
      rw [xsF_succ (fun j => A j + B j)] at hown'
      clear hgrow hown
      go_wp2
      go_roundw
      case rel => exact ⟨k + 1, by go_num, by omega, hown', hbel⟩
      case measure => simp [intOf]; omega
    · have hd1 : decide ((k : Int) < n) = false := by simp; omega
      by_cases h2 : k < q
      · have hd2 : decide ((k : Int) < q) = true := by simp; omega
        go_wp2_with fail
        refine R1.out.mono ?_
        rintro e w' ⟨rfl, rfl⟩
        go_wp2_with fail
        refine R2.out.mono ?_
        rintro e w' ⟨rfl, rfl⟩
        go_wp2_with (at_builtin; refine wpList_append_own _ rfl _ _ 26 rfl w2.heap.size 3 i0 (.int .i64 0) 1 8 Try.underlying26 HI.out HZ0.out HZ1.out HZ2.out rfl (by decide) _ _ _ rfl (hown.alloc _) ⟨wr.heap.size, 0, none⟩ 1 1 [.int .i64 (A k + B k)] rfl rfl ?d1 ?d2 ?d3 ?d4 ?d5 ?_)
        case d1 => exact cell_one_new _ _ _
        case d2 => intro u hu; simp at hu; subst hu; rfl
        case d3 => unfold maxLen; omega
        case d4 => omega
        case d5 => simp; omega
        intro v' w1 hown' hgrow _
        have hbel : Below w2.heap.size w2 w1 := (hnx.alloc hs _).grown hgrow (by simp; omega) (own_ge hown)
        rw [xsF_succ (fun j => A j + B j)] at hown'
        clear hgrow hown
        go_wp2
        go_roundw
        case rel => exact ⟨k + 1, by go_num, by omega, hown', hbel⟩
        case measure => simp [intOf]; omega
      · have hd2 : decide ((k : Int) < q) = false := by simp; omega
        have hkN : k = N := by omega
        obtain ⟨x3, c3, hv, hS3, _⟩ := (HOD.out w2 wr _ k hkN hown hnx).list
        have hv2 := Ending.returned.inj hv
        rw [hv2]
        have HX := Lib.hid (HT.out x3 c3 wr hS3)
        have HBR : Hid (Below w.heap.size w wr) := Lib.hid (HBW.out.trans (hnx.mono HBW.out.size))
        clear hown hS3 hv hv2
        go_wp2_with fail
        refine HX.out.mono ?_
        rintro e w3 ⟨rfl, hB3⟩
        go_wp2
        go_ret2
        exact ⟨rfl, HBR.out.trans (hB3.mono HBR.out.size)⟩
theorem sAddText_off (a b : ByteArray) (w : World) (hna : a.size ≤ 1048576) (hnb : b.size ≤ 1048576) (h : ¬ (DigOk a ∧ DigOk b)) :
    Calls Try.prog 4 #[.string a, .string b] w (TextB w ⟨#[]⟩ false) := by
  by_cases ha : DigOk a
  · have hb : ¬ DigOk b := fun hb => h ⟨ha, hb⟩
    have G1 := sDigitsOk a w hna
    rw [dig_iff.2 ha] at G1
    have G2 := sDigitsOk b w hnb
    rw [dig_not.2 hb] at G2
    clear ha hb h hna hnb
    go_enter Try.func4, Try.ntmps4
    go_wp2_with fail
    refine G1.mono ?_
    rintro e w' ⟨rfl, rfl⟩
    go_wp2_with fail
    refine G2.mono ?_
    rintro e w' ⟨rfl, rfl⟩
    go_wp2
    go_ret2
    exact ⟨rfl, Below.refl _ _⟩
  · have G1 := sDigitsOk a w hna
    rw [dig_not.2 ha] at G1
    clear ha h hna hnb
    go_enter Try.func4, Try.ntmps4
    go_wp2_with fail
    refine G1.mono ?_
    rintro e w' ⟨rfl, rfl⟩
    go_wp2
    go_ret2
    exact ⟨rfl, Below.refl _ _⟩
theorem sAddText (a b : ByteArray) (w : World) (hna : a.size ≤ 1048576) (hnb : b.size ≤ 1048576) :
    Calls Try.prog 4 #[.string a, .string b] w (TextB w (mAddText0 a b) (mAddText1 a b)) := by
  by_cases h : DigOk a ∧ DigOk b
  · rw [show mAddText0 a b = txtOf (numV a + numV b) by unfold mAddText0; rw [if_pos h], show mAddText1 a b = true by unfold mAddText1; simp [h]]
    exact sAddText_on a b w h.1 h.2
  · rw [show mAddText0 a b = ⟨#[]⟩ by unfold mAddText0; rw [if_neg h], show mAddText1 a b = false by unfold mAddText1; simp only [h, decide_false]]
    exact sAddText_off a b w hna hnb h
end Go.Proofs.Ytaapmpjkcddabab
namespace Go.Proofs.Ytaapmpjkcddabab
open Go.RowKit
theorem DigOk.txt {s : ByteArray} (h : DigOk s) : TxtOf (numV s) s := ⟨h.can, rfl⟩
end Go.Proofs.Ytaapmpjkcddabab
