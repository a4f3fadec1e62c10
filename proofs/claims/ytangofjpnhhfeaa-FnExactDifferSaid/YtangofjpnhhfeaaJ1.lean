/-
  Texts of the proofs of this seat, joined (part 1).
-/
import Derived.Test.YtangofjpnhhfeaaRows
import Derived.JoinedOf
import Derived.KernelRfl
import Derived.WalkKit
import Derived.WalkSpells
import Derived.WalkLawsBesides
import Derived.Lib.Hide
import Derived.Deep.QuietTactic
import Derived.BigQuiet
import Derived.Maps.AppendAt
import Derived.Deep.AppendLies
import Derived.OpenShut
import Derived.Deep.OwnRows
import Derived.Laws.CopyOwn
import Derived.StillTailTactics
import Derived.Deep.RegionHeld3
namespace Go.Proofs.Ytangofjpnhhfeaa
set_option maxRecDepth 100000
theorem both {a b : Bool} (h : a = true) (k : b = true) : (a && b) = true := by rw [h, k]; rfl
theorem f_laidOut : laidOutB Try.prog = true := by kernel_rfl
theorem f_mapsRowed : mapsRowed Try.prog = true := by kernel_rfl
theorem f_stops : (Try.prog.stops == []) = true := by kernel_rfl
theorem f_knobs : (Try.prog.stopKnobs == []) = true := by kernel_rfl
theorem f_keys : (Rows.fnExactDifferRow.plainKeys == Try.prog.plainKeys) = true := by kernel_rfl
theorem f_heard : Try.prog.stopsHeard = true := by kernel_rfl
def headSigns : List Char := [Char.ofNat 104, Char.ofNat 97, Char.ofNat 114, Char.ofNat 110, Char.ofNat 101, Char.ofNat 115, Char.ofNat 115, Char.ofNat 32, Char.ofNat 55, Char.ofNat 54, Char.ofNat 55, Char.ofNat 50, Char.ofNat 53, Char.ofNat 53, Char.ofNat 97, Char.ofNat 55, Char.ofNat 98, Char.ofNat 52, Char.ofNat 50, Char.ofNat 57, Char.ofNat 99, Char.ofNat 52, Char.ofNat 97, Char.ofNat 55, Char.ofNat 51, Char.ofNat 56, Char.ofNat 49, Char.ofNat 102, Char.ofNat 101, Char.ofNat 50, Char.ofNat 57, Char.ofNat 49, Char.ofNat 51, Char.ofNat 48, Char.ofNat 48, Char.ofNat 52, Char.ofNat 57, Char.ofNat 48, Char.ofNat 53, Char.ofNat 98, Char.ofNat 54, Char.ofNat 101, Char.ofNat 102, Char.ofNat 57, Char.ofNat 55, Char.ofNat 54, Char.ofNat 98, Char.ofNat 50, Char.ofNat 50, Char.ofNat 49, Char.ofNat 102, Char.ofNat 100, Char.ofNat 100, Char.ofNat 57, Char.ofNat 98, Char.ofNat 55, Char.ofNat 100, Char.ofNat 55, Char.ofNat 54, Char.ofNat 56, Char.ofNat 52, Char.ofNat 99, Char.ofNat 100, Char.ofNat 55, Char.ofNat 50, Char.ofNat 57, Char.ofNat 48, Char.ofNat 101, Char.ofNat 98, Char.ofNat 52, Char.ofNat 55, Char.ofNat 56, Char.ofNat 32, Char.ofNat 99, Char.ofNat 117, Char.ofNat 116, Char.ofNat 32, Char.ofNat 97, Char.ofNat 116, Char.ofNat 32, Char.ofNat 108, Char.ofNat 111, Char.ofNat 111, Char.ofNat 112, Char.ofNat 46, Char.ofNat 101, Char.ofNat 120, Char.ofNat 97, Char.ofNat 109, Char.ofNat 112, Char.ofNat 108, Char.ofNat 101, Char.ofNat 47, Char.ofNat 103, Char.ofNat 48, Char.ofNat 48, Char.ofNat 55, Char.ofNat 49, Char.ofNat 48, Char.ofNat 47, Char.ofNat 108, Char.ofNat 97, Char.ofNat 119, Char.ofNat 115, Char.ofNat 46, Char.ofNat 70, Char.ofNat 110, Char.ofNat 69, Char.ofNat 120, Char.ofNat 97, Char.ofNat 99, Char.ofNat 116, Char.ofNat 68, Char.ofNat 105, Char.ofNat 102, Char.ofNat 102, Char.ofNat 101, Char.ofNat 114]
theorem init_is : Try.prog.initOrder = String.ofList headSigns := by kernel_rfl
theorem init_list : Try.prog.initOrder.toList = headSigns := by rw [init_is]; exact String.toList_ofList
theorem ws_word (a : List Char) (h : ∀ c, c ∈ a → c ≠ Char.ofNat 32) (r : List Char) : wordsSigns (a ++ Char.ofNat 32 :: r) = a :: wordsSigns r := by
  induction a with
  | nil => rfl
  | cons c a ih =>
    have hc : c ≠ Char.ofNat 32 := h c List.mem_cons_self
    have ih' := ih (fun c hc => h c (List.mem_cons_of_mem _ hc))
    show wordsSigns (c :: (a ++ Char.ofNat 32 :: r)) = (c :: a) :: wordsSigns r
    generalize wordsSigns r = t at *
    rw [wordsSigns, ih']
    intro e; exact hc e
def headA : List Char := headSigns.take 7
def headB : List Char := (headSigns.drop 8).take 64
def headC : List Char := (headSigns.drop 73).take 3
def headRest : List Char := headSigns.drop 77
theorem head_split : headSigns = headA ++ Char.ofNat 32 :: (headB ++ Char.ofNat 32 :: (headC ++ Char.ofNat 32 :: headRest)) := by kernel_rfl
theorem head_words : wordsSigns Try.prog.initOrder.toList = headA :: headB :: headC :: wordsSigns headRest := by
  rw [init_list, head_split, ws_word _ (by decide +kernel), ws_word _ (by decide +kernel), ws_word _ (by decide +kernel)]
theorem sum_is : "767255a7b429c4a7381fe2913004905b6ef976b221fdd9b7d7684cd7290eb478" = String.ofList headB := by kernel_rfl
theorem sum_list : "767255a7b429c4a7381fe2913004905b6ef976b221fdd9b7d7684cd7290eb478".toList = headB := by rw [sum_is]; exact String.toList_ofList
theorem behind_of (R : List (List Char)) : behindMainWord (headA :: headB :: headC :: R) = headC :: R := by kernel_rfl
theorem strip_of (R : List (List Char)) : stripLifts liftWords (headC :: R) = ([], headC :: R) := by kernel_rfl
section
variable {P : Program} {R : List (List Char)} (hw : wordsSigns P.initOrder.toList = headA :: headB :: headC :: R)
include hw
theorem main_gen : P.mainIs = some (true, headB) := by
  unfold Program.mainIs
  rw [hw]
  kernel_rfl
theorem lifts_gen : P.headLifts = [] := by
  unfold Program.headLifts
  rw [hw, behind_of, strip_of]
  kernel_rfl
theorem final_gen : P.liftsFinal = false := by
  unfold Program.liftsFinal
  rw [lifts_gen hw, hw, behind_of]
  kernel_rfl
theorem make_gen : P.make = some .cut := by
  unfold Program.make
  rw [lifts_gen hw, hw, behind_of]
  kernel_rfl
theorem enter_gen (hl : P.laysLater = false) (hr : P.bearsReflect = false) (hd : P.doorFits [] = true) : P.mayEnter = true := by
  unfold Program.mayEnter
  rw [hw, behind_of]
  dsimp only
  rw [strip_of, hl, hr]
  dsimp only
  rw [hd]
  kernel_rfl
end
theorem f_lays : Try.prog.laysLater = false := by kernel_rfl
theorem f_refl : Try.prog.bearsReflect = false := by kernel_rfl
theorem f_door : Try.prog.doorFits [] = true := by kernel_rfl
theorem f_enter : Try.prog.mayEnter = true := enter_gen head_words f_lays f_refl f_door
theorem f_lifts : (Rows.fnExactDifferRow.lifted == Try.prog.liftsFinal) = true := by
  rw [final_gen head_words]
  kernel_rfl
theorem f_make : (Try.prog.make == some Rows.fnExactDifferRow.make) = true := by
  rw [make_gen head_words]
  kernel_rfl
end Go.Proofs.Ytangofjpnhhfeaa
namespace Go.Proofs.Ytangofjpnhhfeaa
namespace Mth

theorem mulm {a b c d p : Nat} (h1 : a % p = c % p) (h2 : b % p = d % p) : (a * b) % p = (c * d) % p := by
  rw [Nat.mul_mod, h1, h2, ← Nat.mul_mod]
theorem powm {a c p : Nat} (k : Nat) (h1 : a % p = c % p) : a ^ k % p = c ^ k % p := by
  rw [Nat.pow_mod, h1, ← Nat.pow_mod]
theorem pow_one_mod {a p : Nat} (k : Nat) (hp : 1 < p) (h : a % p = 1) : a ^ k % p = 1 := by
  have := powm (c := 1) k (show a % p = 1 % p by rw [h, Nat.mod_eq_of_lt hp])
  rw [this, Nat.one_pow, Nat.mod_eq_of_lt hp]

theorem pow_gcd {g p : Nat} (hp : 1 < p) (a b : Nat) (ha : g ^ a % p = 1) (hb : g ^ b % p = 1) : g ^ (Nat.gcd a b) % p = 1 := by
  induction a, b using Nat.gcd.induction with
  | H0 n => simpa using hb
  | H1 m n hm ih =>
    rw [Nat.gcd_rec]
    refine ih ?_ ha
    have e : g ^ n % p = (g ^ (n % m)) % p := by
      conv => lhs; rw [← Nat.div_add_mod n m, Nat.pow_add, Nat.pow_mul]
      rw [Nat.mul_mod, pow_one_mod (n / m) hp ha, Nat.one_mul, Nat.mod_mod]
    rw [← e]; exact hb

def prod (l : List Nat) : Nat := l.foldr (· * ·) 1
def Pr (q : Nat) : Prop := 1 < q ∧ ∀ d, d ≤ q → d ∣ q → d = 1 ∨ d = q
instance (q : Nat) : Decidable (Pr q) := inferInstanceAs (Decidable (1 < q ∧ ∀ d, d ≤ q → d ∣ q → d = 1 ∨ d = q))
theorem Pr.coprime {q c : Nat} (h : Pr q) (hc : ¬ q ∣ c) : Nat.Coprime q c := by
  have hd : Nat.gcd q c ∣ q := Nat.gcd_dvd_left q c
  have hle : Nat.gcd q c ≤ q := Nat.le_of_dvd (by have := h.1; omega) hd
  rcases h.2 _ hle hd with h1 | h1
  · exact h1
  · exact absurd (h1 ▸ Nat.gcd_dvd_right q c) hc
theorem prime_in (l : List Nat) (hl : ∀ q, q ∈ l → Pr q) (c : Nat) (hc : c ∣ prod l) (h1 : c ≠ 1) : ∃ q, q ∈ l ∧ q ∣ c := by
  induction l with
  | nil => exact absurd (Nat.dvd_one.1 hc) h1
  | cons q l ih =>
    by_cases hq : q ∣ c
    · exact ⟨q, List.mem_cons_self, hq⟩
    · have hco := (hl q List.mem_cons_self).coprime hq
      have : c ∣ prod l := Nat.Coprime.dvd_of_dvd_mul_left hco.symm hc
      obtain ⟨r, hr, hrc⟩ := ih (fun q h => hl q (List.mem_cons_of_mem _ h)) this
      exact ⟨r, List.mem_cons_of_mem _ hr, hrc⟩

theorem surj (n : Nat) : ∀ (f : Nat → Nat), (∀ i, i < n → f i < n) → (∀ i j, i < n → j < n → f i = f j → i = j) → ∀ y, y < n → ∃ i, i < n ∧ f i = y := by
  induction n with
  | zero => intro f _ _ y hy; omega
  | succ n ih =>
    intro f hf inj y hy
    let h := fun i => if f i = n then f n else f i
    have hh : ∀ i, i < n → h i < n := by
      intro i hi
      show (if f i = n then f n else f i) < n
      have a := hf i (by omega); have b := hf n (by omega)
      split
      · rename_i e
        have : f n ≠ n := fun e2 => by have := inj i n (by omega) (by omega) (e.trans e2.symm); omega
        omega
      · omega
    have hi : ∀ i j, i < n → j < n → h i = h j → i = j := by
      intro i j hi hj e
      have e' : (if f i = n then f n else f i) = (if f j = n then f n else f j) := e
      split at e' <;> split at e'
      · rename_i a b; exact inj i j (by omega) (by omega) (a.trans b.symm)
      · have := inj n j (by omega) (by omega) e'; omega
      · have := inj i n (by omega) (by omega) e'; omega
      · exact inj i j (by omega) (by omega) e'
    have ihs := ih h hh hi
    by_cases hy2 : y < n
    · obtain ⟨i, hi2, e⟩ := ihs y hy2
      have e' : (if f i = n then f n else f i) = y := e
      split at e'
      · exact ⟨n, by omega, e'⟩
      · exact ⟨i, by omega, e'⟩
    · have hyn : y = n := by omega
      subst hyn
      by_cases hex : ∃ i, i < y + 1 ∧ f i = y
      · exact hex
      · exfalso
        have hne : ∀ i, i < y + 1 → f i ≠ y := fun i hi e => hex ⟨i, hi, e⟩
        have hlt : f y < y := by have := hf y (by omega); have := hne y (by omega); omega
        obtain ⟨i, hi2, e⟩ := ihs (f y) hlt
        have e' : (if f i = y then f y else f i) = f y := e
        rw [if_neg (hne i (by omega))] at e'
        have := inj i y (by omega) (by omega) e'; omega

/-- A field: p and a number of order p - 1. -/
structure Fld (p g : Nat) : Prop where
  two : 2 < p
  one : g ^ (p - 1) % p = 1
  ord : ∀ m, g ^ m % p = 1 → (p - 1) ∣ m

theorem Fld.make {p g : Nat} (l : List Nat) (two : 2 < p) (one : g ^ (p - 1) % p = 1) (hl : ∀ q, q ∈ l → Pr q) (hp : prod l = p - 1) (hq : ∀ q, q ∈ l → g ^ ((p - 1) / q) % p ≠ 1) : Fld p g := by
  refine ⟨two, one, fun m hm => ?_⟩
  have he := pow_gcd (by omega) m (p - 1) hm one
  have hd : Nat.gcd m (p - 1) ∣ p - 1 := Nat.gcd_dvd_right _ _
  by_cases hc : (p - 1) / Nat.gcd m (p - 1) = 1
  · have : p - 1 = Nat.gcd m (p - 1) := by have := Nat.div_mul_cancel hd; rw [hc] at this; omega
    rw [this]; exact Nat.gcd_dvd_left _ _
  · exfalso
    obtain ⟨q, hql, hqc⟩ := prime_in l hl _ (by rw [hp]; exact Nat.div_dvd_of_dvd hd) hc
    apply hq q hql
    obtain ⟨k, hk⟩ := hqc
    have h2 : p - 1 = q * (k * Nat.gcd m (p - 1)) := by
      rw [← Nat.mul_assoc, ← hk]; exact (Nat.div_mul_cancel hd).symm
    have hq0 : 0 < q := by have := (hl q hql).1; omega
    have h3 : (p - 1) / q = k * Nat.gcd m (p - 1) := Nat.div_eq_of_eq_mul_right hq0 h2
    rw [h3, Nat.mul_comm, Nat.pow_mul]
    exact pow_one_mod k (by omega) he

variable {p g : Nat}
theorem Fld.nz (h : Fld p g) (i : Nat) : g ^ i % p ≠ 0 := by
  intro e
  have h1 : (g ^ i * g ^ (i * (p - 2))) % p = 1 := by
    rw [← Nat.pow_add, show i + i * (p - 2) = (p - 1) * i by
      have := h.two
      obtain ⟨k, rfl⟩ : ∃ k, p = k + 3 := ⟨p - 3, by omega⟩
      show i + i * (k + 1) = (k + 2) * i
      rw [Nat.mul_comm (k + 2) i, Nat.mul_add, Nat.mul_add]; omega, Nat.pow_mul]
    exact pow_one_mod i (by have := h.two; omega) h.one
  rw [Nat.mul_mod, e, Nat.zero_mul, Nat.zero_mod] at h1
  omega
theorem Fld.inj (h : Fld p g) {i j : Nat} (hi : i < p - 1) (hj : j < p - 1) (e : g ^ i % p = g ^ j % p) : i = j := by
  have key : ∀ i j, i < p - 1 → j < p - 1 → g ^ i % p = g ^ j % p → i ≤ j → i = j := by
    intro i j hi hj e hle
    have h2 : (g ^ j * g ^ (p - 1 - i)) % p = 1 := by
      rw [← mulm (c := g ^ j) (d := g ^ (p - 1 - i)) e rfl, ← Nat.pow_add, show i + (p - 1 - i) = p - 1 by omega]
      exact h.one
    rw [← Nat.pow_add] at h2
    have h3 := h.ord _ h2
    rw [show j + (p - 1 - i) = (j - i) + (p - 1) by omega] at h3
    have h4 : p - 1 ∣ j - i := (Nat.dvd_add_left (Nat.dvd_refl _)).1 h3
    have := Nat.eq_zero_of_dvd_of_lt h4 (by omega)
    omega
  rcases Nat.le_total i j with hl | hl
  · exact key i j hi hj e hl
  · exact (key j i hj hi e.symm hl).symm
theorem Fld.log (h : Fld p g) {x : Nat} (h0 : 0 < x) (h1 : x < p) : ∃ i, g ^ i % p = x := by
  have hp := h.two
  obtain ⟨i, _, e⟩ := surj (p - 1) (fun i => g ^ i % p - 1)
    (fun i _ => by have := Nat.mod_lt (g ^ i) (show 0 < p by omega); show _ - 1 < _; omega)
    (fun i j hi hj e => h.inj hi hj (by
      have a := h.nz i; have b := h.nz j
      have e' : g ^ i % p - 1 = g ^ j % p - 1 := e
      omega)) (x - 1) (by omega)
  have e' : g ^ i % p - 1 = x - 1 := e
  have := h.nz i
  exact ⟨i, by omega⟩
theorem Fld.fermat (h : Fld p g) {x : Nat} (hx : x % p ≠ 0) : x ^ (p - 1) % p = 1 := by
  have hp := h.two
  obtain ⟨i, e⟩ := h.log (x := x % p) (by omega) (Nat.mod_lt _ (by omega))
  have e2 : x % p = g ^ i % p := e.symm
  rw [powm (p - 1) e2, ← Nat.pow_mul, Nat.mul_comm, Nat.pow_mul]
  exact pow_one_mod i (by omega) h.one
theorem Fld.mul_nz (h : Fld p g) {x y : Nat} (hx : x % p ≠ 0) (hy : y % p ≠ 0) : (x * y) % p ≠ 0 := by
  have hp := h.two
  obtain ⟨i, e⟩ := h.log (x := x % p) (by omega) (Nat.mod_lt _ (by omega))
  obtain ⟨j, e2⟩ := h.log (x := y % p) (by omega) (Nat.mod_lt _ (by omega))
  rw [mulm e.symm e2.symm, ← Nat.pow_add]
  exact h.nz _
theorem Fld.pow_nz (h : Fld p g) {x : Nat} (k : Nat) (hx : x % p ≠ 0) : x ^ k % p ≠ 0 := by
  have hp := h.two
  induction k with
  | zero => rw [Nat.pow_zero, Nat.mod_eq_of_lt (by omega)]; omega
  | succ k ih => rw [Nat.pow_succ]; exact h.mul_nz ih hx
/-- Exponents count modulo p - 1. -/
theorem Fld.pow_mod (h : Fld p g) {x : Nat} (k : Nat) (hx : x % p ≠ 0) : x ^ (k % (p - 1)) % p = x ^ k % p := by
  have hp := h.two
  conv => rhs; rw [← Nat.div_add_mod k (p - 1), Nat.pow_add, Nat.pow_mul]
  rw [Nat.mul_mod, pow_one_mod (k / (p - 1)) (by omega) (h.fermat hx), Nat.one_mul, Nat.mod_mod]
theorem Fld.cancel (h : Fld p g) {x a b : Nat} (hx : x % p ≠ 0) (e : (x * a) % p = (x * b) % p) : a % p = b % p := by
  have hp := h.two
  have i1 : (x ^ (p - 2) * x) % p = 1 := by
    rw [← Nat.pow_succ, show (p - 2).succ = p - 1 by omega]; exact h.fermat hx
  have e2 := mulm (a := x ^ (p - 2)) (c := x ^ (p - 2)) rfl e
  rw [← Nat.mul_assoc, ← Nat.mul_assoc] at e2
  have f : ∀ c, (x ^ (p - 2) * x * c) % p = c % p := fun c => by
    rw [Nat.mul_mod, i1, Nat.one_mul, Nat.mod_mod]
  rw [f, f] at e2; exact e2
theorem Fld.roots (h : Fld p g) {s r : Nat} (hs : s < p) (hr : r < p) (e : (s * s) % p = (r * r) % p) : s = r ∨ s + r = p := by
  have hp := h.two
  have key : ∀ s r, s < p → r < s → (s * s) % p = (r * r) % p → s + r = p := by
    intro s r hs hr e
    by_cases hz : (s + r) % p = 0
    · obtain ⟨k, hk⟩ := Nat.dvd_of_mod_eq_zero hz
      have : k = 1 := by
        rcases k with _ | _ | k
        · omega
        · rfl
        · have := Nat.mul_le_mul_left p (show 2 ≤ k + 1 + 1 by omega); omega
      subst this; omega
    · exfalso
      apply h.mul_nz (x := s - r) (y := s + r) (by rw [Nat.mod_eq_of_lt (by omega)]; omega) hz
      obtain ⟨d, rfl⟩ : ∃ d, s = r + d := ⟨s - r, by omega⟩
      rw [Nat.add_sub_cancel_left]
      have e1 : (r + d) * (r + d) = r * r + d * (r + d + r) := by simp [Nat.mul_add, Nat.mul_comm]; omega
      rw [e1] at e
      have h2 := Nat.sub_mod_eq_zero_of_mod_eq e
      rw [Nat.add_sub_cancel_left] at h2
      exact h2
  rcases Nat.lt_trichotomy s r with hl | hl | hl
  · right; have := key r s hr hl e.symm; omega
  · left; exact hl
  · right; exact key s r hs hl e
theorem Fld.sqrt1 (h : Fld p g) {y : Nat} (e : (y * y) % p = 1) : y % p = 1 ∨ y % p = p - 1 := by
  have hp := h.two
  have := h.roots (s := y % p) (r := 1) (Nat.mod_lt _ (by omega)) (by omega) (by rw [← Nat.mul_mod, e, Nat.one_mul, Nat.mod_eq_of_lt (by omega)])
  omega
theorem Fld.order (h : Fld p g) {x : Nat} (hx : x % p ≠ 0) : ∃ o, 0 < o ∧ o ∣ p - 1 ∧ ∀ m, x ^ m % p = 1 ↔ o ∣ m := by
  have hp := h.two
  obtain ⟨i, e⟩ := h.log (x := x % p) (by omega) (Nat.mod_lt _ (by omega))
  have hg0 : 0 < Nat.gcd i (p - 1) := Nat.gcd_pos_of_pos_right _ (by omega)
  have hgd := Nat.gcd_dvd_right i (p - 1)
  have hgi := Nat.gcd_dvd_left i (p - 1)
  refine ⟨(p - 1) / Nat.gcd i (p - 1), Nat.div_pos (Nat.le_of_dvd (by omega) hgd) hg0, Nat.div_dvd_of_dvd hgd, fun m => ?_⟩
  have e2 : x ^ m % p = g ^ (i * m) % p := by rw [powm m e.symm, Nat.pow_mul]
  rw [e2]
  constructor
  · intro h1
    have h2 := h.ord _ h1
    have hco : Nat.Coprime ((p - 1) / Nat.gcd i (p - 1)) (i / Nat.gcd i (p - 1)) := by
      have := Nat.coprime_div_gcd_div_gcd hg0; exact this.symm
    apply hco.dvd_of_dvd_mul_left
    apply Nat.dvd_of_mul_dvd_mul_left hg0
    rw [← Nat.mul_assoc, Nat.mul_div_cancel' hgd, Nat.mul_div_cancel' hgi]
    exact h2
  · rintro ⟨c, rfl⟩
    have : p - 1 ∣ i * ((p - 1) / Nat.gcd i (p - 1) * c) := by
      obtain ⟨a, ha⟩ := hgi
      have gen : ∀ d a n, d ∣ n → d * a * (n / d * c) = n * (a * c) := fun d a n hd => by
        rw [show d * a * (n / d * c) = (d * (n / d)) * (a * c) by simp only [Nat.mul_assoc, Nat.mul_left_comm], Nat.mul_div_cancel' hd]
      exact ⟨a * c, (congrArg (· * ((p - 1) / Nat.gcd i (p - 1) * c)) ha).trans (gen _ a _ hgd)⟩
    obtain ⟨c', hc'⟩ := this
    rw [hc', Nat.pow_mul]
    exact pow_one_mod c' (by omega) h.one
/-- Fast powers, to be reckoned by the kernel. -/
def fpow (p : Nat) : Nat → Nat → Nat → Nat → Nat
  | 0, _, _, r => r
  | n + 1, x, e, r => fpow p n (x * x % p) (e / 2) (if e % 2 = 1 then r * x % p else r)
theorem half_even {p r x e y : Nat} (h : e % 2 = 0) (hy : y % p = x * x % p) : (r * y ^ (e / 2)) % p = (r * x ^ e) % p := by
  refine mulm rfl ?_
  conv => rhs; rw [← Nat.div_add_mod e 2, h, Nat.add_zero, Nat.pow_mul, Nat.pow_two]
  exact powm _ hy
theorem half_odd {p r x e y s : Nat} (h : e % 2 = 1) (hy : y % p = x * x % p) (hs : s % p = r * x % p) : (s * y ^ (e / 2)) % p = (r * x ^ e) % p := by
  conv => rhs; rw [← Nat.div_add_mod e 2, h, Nat.pow_succ, Nat.pow_mul, Nat.pow_two, Nat.mul_comm ((x * x) ^ (e / 2)) x, ← Nat.mul_assoc]
  exact mulm hs (powm _ hy)
theorem fpow_eq (p : Nat) : ∀ n x e r, e < 2 ^ n → fpow p n x e r % p = (r * x ^ e) % p := by
  intro n
  induction n with
  | zero => intro x e r h; have : e = 0 := by simpa using h
            subst this; simp [fpow]
  | succ n ih =>
    intro x e r h
    show fpow p n (x * x % p) (e / 2) (if e % 2 = 1 then r * x % p else r) % p = _
    rw [ih _ _ _ (by rw [Nat.pow_succ] at h; omega)]
    split
    · rename_i h1; exact half_odd h1 (by simp) (by simp)
    · exact half_even (by omega) (by simp)
theorem fpow_one {p x e n : Nat} (h : e < 2 ^ n) : fpow p n x e 1 % p = x ^ e % p := by rw [fpow_eq p n x e 1 h, Nat.one_mul]

def pN : Nat → Nat
  | 0 => 17 | 1 => 97 | 2 => 193 | 3 => 257 | 4 => 7681 | 5 => 12289 | 6 => 998244353 | 7 => 469762049 | 8 => 1004535809 | _ => 0
def gN : Nat → Nat
  | 0 => 3 | 1 => 5 | 2 => 5 | 3 => 3 | 4 => 17 | 5 => 11 | 6 => 3 | 7 => 3 | 8 => 3 | _ => 0
def tN : Nat → Nat
  | 0 => 4 | 1 => 5 | 2 => 6 | 3 => 8 | 4 => 9 | 5 => 12 | 6 => 23 | 7 => 26 | 8 => 21 | _ => 0
def oN : Nat → List Nat
  | 0 => [] | 1 => [3] | 2 => [3] | 3 => [] | 4 => [3, 5] | 5 => [3] | 6 => [7, 17] | 7 => [7] | 8 => [479] | _ => []
def facs (f : Nat) : List Nat := List.replicate (tN f) 2 ++ oN f
theorem pr_small : Pr 2 ∧ Pr 3 ∧ Pr 5 ∧ Pr 7 ∧ Pr 17 ∧ Pr 479 := by decide +kernel
theorem facs_pr (f : Nat) : ∀ q, q ∈ facs f → Pr q := by
  obtain ⟨h2, h3, h5, h7, h17, h479⟩ := pr_small
  intro q hq
  rcases List.mem_append.1 hq with h | h
  · have := List.eq_of_mem_replicate h; subst this; exact h2
  · unfold oN at h
    split at h <;> simp at h
    all_goals (first | (subst h; assumption) | (rcases h with rfl | rfl <;> assumption))
theorem facs_prod (f : Nat) (hf : f < 9) : prod (facs f) = pN f - 1 := by
  have : ∀ f, f < 9 → prod (facs f) = pN f - 1 := by decide +kernel
  exact this f hf
theorem fld_facts : ∀ f, f < 9 → (2 < pN f ∧ fpow (pN f) 30 (gN f) (pN f - 1) 1 % pN f = 1 ∧ (∀ q, q ∈ facs f → fpow (pN f) 30 (gN f) ((pN f - 1) / q) 1 % pN f ≠ 1) ∧ pN f - 1 < 2 ^ 30) := by decide +kernel
theorem fld (f : Nat) (hf : f < 9) : Fld (pN f) (gN f) := by
  obtain ⟨h2, h1, hq, hb⟩ := fld_facts f hf
  refine Fld.make (facs f) h2 ?_ (facs_pr f) (facs_prod f hf) ?_
  · rw [fpow_one hb] at h1; exact h1
  · intro q hql
    have := hq q hql
    rw [fpow_one (Nat.lt_of_le_of_lt (Nat.div_le_self _ _) hb)] at this
    exact this
end Mth
end Go.Proofs.Ytangofjpnhhfeaa
namespace Go.Proofs.Ytangofjpnhhfeaa
open Mth

def P (f : Int) : Int := if 0 ≤ f then (pN f.toNat : Int) else 0
def G (f : Int) : Int := if 0 ≤ f then (gN f.toNat : Int) else 0
def T (f : Int) : Int := if 0 ≤ f ∧ f ≤ 8 then (tN f.toNat : Int) else -1
theorem nine {f : Int} (h0 : 0 ≤ f) (h8 : f ≤ 8) : f = 0 ∨ f = 1 ∨ f = 2 ∨ f = 3 ∨ f = 4 ∨ f = 5 ∨ f = 6 ∨ f = 7 ∨ f = 8 := by omega
theorem P_bd {f : Int} (h0 : 0 ≤ f) (h8 : f ≤ 8) : 17 ≤ P f ∧ P f ≤ 1004535809 := by
  rcases nine h0 h8 with rfl | rfl | rfl | rfl | rfl | rfl | rfl | rfl | rfl <;> decide
theorem P_nat {f : Int} (h0 : 0 ≤ f) : P f = (pN f.toNat : Int) := by unfold P; rw [if_pos h0]
theorem P_toNat {f : Int} (h0 : 0 ≤ f) : (P f).toNat = pN f.toNat := by rw [P_nat h0]; rfl
theorem T_off {f : Int} (h : f < 0 ∨ 8 < f) : T f = -1 := by
  unfold T; rw [if_neg (by omega)]

/-- The remainder that is not negative. -/
def RS (x m : Int) : Int := x % m
theorem RS_bd {x m : Int} (h : 0 < m) : 0 ≤ RS x m ∧ RS x m < m := ⟨Int.emod_nonneg _ (by omega), Int.emod_lt_of_pos _ h⟩
theorem RS_self {x m : Int} (h0 : 0 ≤ x) (h1 : x < m) : RS x m = x := Int.emod_eq_of_lt h0 h1
theorem RS_RS (a m : Int) : RS (RS a m) m = RS a m := by unfold RS; exact Int.emod_emod_of_dvd a (Int.dvd_refl m)
/-- Powers: x^e as an element. -/
def PW (m x e : Int) : Int := ((x.toNat ^ e.toNat % m.toNat : Nat) : Int)
theorem PW_bd {m x e : Int} (h : 0 < m) : 0 ≤ PW m x e ∧ PW m x e < m := by
  unfold PW
  have := Nat.mod_lt (x.toNat ^ e.toNat) (show 0 < m.toNat by omega)
  omega
theorem toNat_RS {m : Int} (hm : 0 < m) {a b : Int} (ha : 0 ≤ a) (hb : 0 ≤ b) : (RS (a * b) m).toNat = a.toNat * b.toNat % m.toNat := by
  obtain ⟨a, rfl⟩ := Int.eq_ofNat_of_zero_le ha
  obtain ⟨b, rfl⟩ := Int.eq_ofNat_of_zero_le hb
  obtain ⟨m, rfl⟩ := Int.eq_ofNat_of_zero_le (Int.le_of_lt hm)
  unfold RS
  rw [← Int.natCast_mul, ← Int.natCast_emod]; rfl
def pow0 (e : Int) : Int := if e < 0 then -1 else if e = 0 then 1 else 0
def mPower (f a e : Int) : Int := if 0 ≤ f ∧ f ≤ 8 then (if RS a (P f) = 0 then pow0 e else PW (P f) (RS a (P f)) (RS e (P f - 1))) else -1
end Go.Proofs.Ytangofjpnhhfeaa
namespace Go.Proofs.Ytangofjpnhhfeaa
open Go.RowKit
/-- The bytes that a cursor reads, apart from its own block. -/
def Bytes (w : World) (g : Nat) (a : Option Addr) (len : Nat) : Prop :=
  len ≤ 1099511627776 ∧ (len = 0 ∨ ∃ b off, a = some ⟨b, off, none⟩ ∧ b < g ∧ b < w.heap.size ∧ ∀ j, j < len → ∃ n : Int, 0 ≤ n ∧ n < 256 ∧ w.cell? ⟨b, off + j, none⟩ = some (.int .u8 n))
def CurAt (g : Nat) (w : World) (a : Option Addr) (len cap : Nat) (i h : Int) : Prop :=
  w.cell? ⟨g, 0, none⟩ = some (.slice a len cap) ∧ w.cell? ⟨g, 1, none⟩ = some (.int .i64 i) ∧ w.cell? ⟨g, 2, none⟩ = some (.int .i64 h) ∧
  w.frozen? ⟨g, 1, none⟩ = false ∧ w.frozen? ⟨g, 2, none⟩ = false ∧ 0 ≤ i ∧ i ≤ len ∧ g < w.heap.size ∧ Bytes w g a len
def Cur (g : Nat) (w : World) : Prop := ∃ a len cap i h, CurAt g w a len cap i h
theorem Bytes.keep {w w' : World} {g : Nat} {a : Option Addr} {len : Nat} (h : Bytes w g a len) (hg : w.grownBy w' (some g)) : Bytes w' g a len := by
  refine ⟨h.1, h.2.imp id ?_⟩
  rintro ⟨b, off, e, hne, hlt, hb⟩
  refine ⟨b, off, e, hne, Nat.lt_of_lt_of_le hlt hg.size, fun j hj => ?_⟩
  obtain ⟨n, n0, n1, hc⟩ := hb j hj
  exact ⟨n, n0, n1, hg.cell hc (fun e => by injection e with e; have e : b = g := e; omega)⟩
end Go.Proofs.Ytangofjpnhhfeaa
namespace Go.Proofs.Ytangofjpnhhfeaa
open Go.RowKit
theorem Cur.alloc {g : Nat} {w : World} (h : Cur g w) (o : Obj) : Cur g (w.alloc o) := by
  obtain ⟨a, len, cap, i, hh, h0, h1, h2, f1, f2, i0, i1, hgs, hby⟩ := h
  have hg := World.grownBy_alloc w o none
  have c : ∀ k v, w.cell? ⟨g, k, none⟩ = some v → (w.alloc o).cell? ⟨g, k, none⟩ = some v := fun k v hv => hg.cell hv (by simp)
  have fz : ∀ k, (w.alloc o).frozen? ⟨g, k, none⟩ = w.frozen? ⟨g, k, none⟩ := fun k => hg.frozen_far ⟨g, k, none⟩ hgs (by simp)
  exact ⟨a, len, cap, i, hh, c _ _ h0, c _ _ h1, c _ _ h2, (fz _).trans f1, (fz _).trans f2, i0, i1, Nat.lt_of_lt_of_le hgs hg.size, hby.keep (World.grownBy_alloc w o (some g))⟩
theorem Cur.other {g : Nat} {w w' : World} {row : Option Nat} (h : Cur g w) (hg : w.grownBy w' row) (hr : ∀ k, row = some k → g < k) : Cur g w' := by
  obtain ⟨a, len, cap, i, hh, h0, h1, h2, f1, f2, i0, i1, hgs, hby⟩ := h
  have ne : ∀ b, b ≤ g → some b ≠ row := fun b hb e => by have := hr b e.symm; omega
  have c : ∀ k v, w.cell? ⟨g, k, none⟩ = some v → w'.cell? ⟨g, k, none⟩ = some v := fun k v hv => hg.cell hv (ne g (Nat.le_refl _))
  have fz : ∀ k, w'.frozen? ⟨g, k, none⟩ = w.frozen? ⟨g, k, none⟩ := fun k => hg.frozen_far ⟨g, k, none⟩ hgs (ne g (Nat.le_refl _))
  refine ⟨a, len, cap, i, hh, c _ _ h0, c _ _ h1, c _ _ h2, (fz _).trans f1, (fz _).trans f2, i0, i1, Nat.lt_of_lt_of_le hgs hg.size, hby.1, hby.2.imp id ?_⟩
  rintro ⟨b, off, e, hne, hlt, hb⟩
  refine ⟨b, off, e, hne, Nat.lt_of_lt_of_le hlt hg.size, fun j hj => ?_⟩
  obtain ⟨n, n0, n1, hc⟩ := hb j hj
  exact ⟨n, n0, n1, hg.cell hc (ne b (by omega))⟩
theorem Cur.lt {g : Nat} {w : World} (h : Cur g w) : g < w.heap.size := by
  obtain ⟨a, len, cap, i, hh, h0, h1, h2, f1, f2, i0, i1, hgs, hby⟩ := h
  exact hgs
end Go.Proofs.Ytangofjpnhhfeaa
namespace Go.Proofs.Ytangofjpnhhfeaa
open Go.RowKit
theorem vint {k : IntKind} {a b : Int} (h : a = b) : Value.int k a = .int k b := by rw [h]
end Go.Proofs.Ytangofjpnhhfeaa
namespace Go.Proofs.Ytangofjpnhhfeaa
open Go.RowKit
/-- A slice value whose bytes can be read. -/
def Code (w : World) (a : Option Addr) (len : Nat) : Prop := Bytes w w.heap.size a len
theorem Code.keep {w w' : World} {a : Option Addr} {len : Nat} (h : Code w a len) (hb : Below w.heap.size w w') : Code w' a len := by
  refine ⟨h.1, h.2.imp id ?_⟩
  rintro ⟨b, off, e, hne, hlt, hbb⟩
  have hs := hb.size
  refine ⟨b, off, e, by omega, by omega, fun j hj => ?_⟩
  obtain ⟨n, n0, n1, hcell⟩ := hbb j hj
  exact ⟨n, n0, n1, (hb.cell (p := ⟨b, off + j, none⟩) hlt).trans hcell⟩
theorem info3 : (Try.prog.info? 3).map (fun i => (i.zero, i.size, i.bytes)) = some (some (.int .i64 0), 1, 8) := by kernel_rfl
theorem own_ge {w : World} {base : Nat} {e : TypeId} {size : Nat} {v : Value} {n : Nat} {xs : List Value} (h : w.ownsRow base e size v n xs) : ∀ k, v.ownBlock = some k → base ≤ k := by
  intro k hk
  rcases h.2 with ⟨rfl, _⟩ | ⟨g, cap, cur, rfl, hg, _⟩
  · cases hk
  · cases hk; exact hg
/-- What the walk is told of a slice of integers that came in. -/
def IsRow (k : IntKind) (w : World) (a : Option Addr) (len cap : Nat) (zs : List Int) : Prop :=
  (a = none ∧ len = 0 ∧ cap = 0 ∧ zs = []) ∨
  ∃ x, a = some x ∧ len ≤ cap ∧ cap ≤ maxLen ∧ zs.length = cap ∧ (∀ i, i < zs.length → w.cell? (x.add i) = some (.int k (zs.getD i 0))) ∧ ∀ n ∈ zs, (Lit.int k n).wf = true
theorem cell_some {w : World} {x : Addr} {v : Value} (h : w.cell? x = some v) : x.spot = none ∧ x.block < w.heap.size := by
  unfold World.cell? at h
  split at h
  · rename_i hh
    refine ⟨?_, (Array.getElem?_eq_some_iff.1 hh).1⟩
    split at h
    · cases h
    · rename_i hs; simpa using hs
  · cases h
theorem add_at (b off j : Nat) : (⟨b, off, none⟩ : Addr).add j = ⟨b, off + j, none⟩ := by
  unfold Addr.add
  split
  · rename_i h; simp_all
  · rfl
end Go.Proofs.Ytangofjpnhhfeaa
namespace Go.Proofs.Ytangofjpnhhfeaa
open Go.RowKit
/-- A slice of n integers that can be read: F j at j. -/
def Src (w : World) (a : Option Addr) (n : Nat) (F : Nat → Int) : Prop :=
  n = 0 ∨ ∃ b off, a = some ⟨b, off, none⟩ ∧ b < w.heap.size ∧ ∀ j, j < n → w.cell? ⟨b, off + j, none⟩ = some (.int .i64 (F j))
theorem Src.keep {w w' : World} {a : Option Addr} {n : Nat} {F : Nat → Int} (h : Src w a n F) (hb : Below w.heap.size w w') : Src w' a n F := by
  refine h.imp id ?_
  rintro ⟨b, off, e, hlt, hc⟩
  exact ⟨b, off, e, Nat.lt_of_lt_of_le hlt hb.size, fun j hj => (hb.cell (p := ⟨b, off + j, none⟩) hlt).trans (hc j hj)⟩
/-- A block of the call's own: n integers, F j at j. -/
def Own (w : World) (g n : Nat) (F : Nat → Int) : Prop := w.rowIs g 3 n (fun j => .int .i64 (F j))
theorem Own.src {w : World} {g n : Nat} {F : Nat → Int} (h : Own w g n F) : Src w (some ⟨g, 0, none⟩) n F :=
  .inr ⟨g, 0, rfl, h.lt, fun j hj => by rw [Nat.zero_add]; exact h.cell hj⟩
theorem Own.keep {w w' : World} {g n : Nat} {F : Nat → Int} (h : Own w g n F) (hb : Below w.heap.size w w') : Own w' g n F := World.rowIs.of_block h (hb.block g h.lt)
theorem below_drewN {B : Nat} {a w : World} (h : Below B a w) (n : Nat) : Below B a (w.drewN n) := ⟨h.os, h.tape, h.output, h.size, h.block⟩
def CopyP (w : World) (n : Nat) (F : Nat → Int) (e : Ending) (w' : World) : Prop := e = .returned (.slice (some ⟨w.heap.size, 0, none⟩) n n) ∧ Own w' w.heap.size n F ∧ Below w.heap.size w w'
theorem copy_set {w wr : World} {n k : Nat} {F : Nat → Int} (h : Own wr w.heap.size n (fun j => if j < k then F j else 0)) : Own (wr.setCell ⟨w.heap.size, k, none⟩ (.int .i64 (F k))) w.heap.size n (fun j => if j < k + 1 then F j else 0) := by
  refine (World.rowIs.set h k (.int .i64 (F k))).congr fun j _ => ?_
  by_cases h1 : j = k
  · subst h1; simp
  · by_cases h2 : j < k
    · simp [h1, h2, show j < k + 1 by omega]
    · simp [h1, h2, show ¬ j < k + 1 by omega]
set_option maxHeartbeats 800000 in
theorem toInt_some (b off n cap : Nat) (F : Nat → Int) (w : World) (hn : n ≤ 1048576) (hlt : b < w.heap.size) (hc : ∀ j, j < n → w.cell? ⟨b, off + j, none⟩ = some (.int .i64 (F j))) :
    Calls Try.prog 5 #[.slice (some ⟨b, off, none⟩) n cap] w (CopyP w n F) := by
  have HC := Lib.hid hc
  clear hc
  have hmk := run_make_row' (P := Try.prog) 22 3 (.int .i64 0) 8 Try.underlying22 info3 rfl .i64 .i64 n (by omega) (by omega)
  go_enter Try.func5, Try.ntmps5
  go_wp2_with fail
  clear hmk
  go_loopw [4] (fun i wr => ∃ k : Nat, i = .int .i64 k ∧ k ≤ n ∧ Own wr w.heap.size n (fun j => if j < k then F j else 0) ∧ Below w.heap.size w wr) (fun i _ => n - (intOf i).toNat)
  case atStart =>
    refine ⟨0, rfl, Nat.zero_le _, ?_, (Below.refl _ _).alloc (Nat.le_refl _) _⟩
    exact (World.rowIs_made w (.int .i64 0) n 3).congr fun j _ => by simp
  case round =>
    obtain ⟨k, rfl, hk, ho, hb⟩ := hrel
    by_cases h1 : k < n
    · have c1 : wr.cell? ⟨b, off + k, none⟩ = some (.int .i64 (F k)) := (hb.cell (p := ⟨b, off + k, none⟩) hlt).trans (HC.out k h1)
      have c2 := World.rowIs.cell ho h1
      have c3 := World.rowIs.frozen ho k
      go_wp2
      go_roundw
      case rel => exact ⟨k + 1, by go_num, by omega, copy_set ho, hb.setCell (Nat.le_refl _) _⟩
      case measure => simp [intOf]; omega
    · have hd : decide (k < n) = false := by simpa using h1
      obtain rfl : k = n := by omega
      go_wp2
      go_ret
      exact ⟨rfl, World.rowIs.congr ho (fun j hj => by simp [hj]), hb⟩
theorem toInt_none (a : Option Addr) (cap : Nat) (F : Nat → Int) (w : World) : Calls Try.prog 5 #[.slice a 0 cap] w (CopyP w 0 F) := by
  have hmk : ∀ w : World, (Instr.makeSlice 22 (.int .i64 0) (.int .i64 0)).run Try.prog w = .ok (.slice (some ⟨w.heap.size, 0, none⟩) 0 0) (w.alloc (.cells (madeCells #[.int .i64 0] 0) 3)) :=
    run_make_row' (P := Try.prog) 22 3 (.int .i64 0) 8 Try.underlying22 info3 rfl .i64 .i64 0 (by omega) (by omega)
  go_enter Try.func5, Try.ntmps5
  go_wp2
  refine wp_loop_rounds 1 ?_
  rw [rounds_succ]
  go_wp2
  go_ret
  exact ⟨rfl, (World.rowIs_made w (.int .i64 0) 0 3).congr (fun j hj => by omega), (Below.refl _ _).alloc (Nat.le_refl _) _⟩
theorem toInt_c (a : Option Addr) (n cap : Nat) (F : Nat → Int) (w : World) (hn : n ≤ 1048576) (hs : Src w a n F) : Calls Try.prog 5 #[.slice a n cap] w (CopyP w n F) := by
  rcases hs with rfl | ⟨b, off, rfl, hlt, hc⟩
  · exact toInt_none a cap F w
  · exact toInt_some b off n cap F w hn hlt hc
def TrueP (w : World) (e : Ending) (w' : World) : Prop := e = .returned (.bool true) ∧ Below w.heap.size w w'
set_option maxHeartbeats 800000 in
theorem eq_some (b off b2 off2 n cap cap2 : Nat) (F : Nat → Int) (w : World) (hn : n ≤ 1048576) (hlt : b < w.heap.size) (hlt2 : b2 < w.heap.size) (hc : ∀ j, j < n → w.cell? ⟨b, off + j, none⟩ = some (.int .i64 (F j))) (hc2 : ∀ j, j < n → w.cell? ⟨b2, off2 + j, none⟩ = some (.int .i64 (F j))) :
    Calls Try.prog 7 #[.slice (some ⟨b, off, none⟩) n cap, .slice (some ⟨b2, off2, none⟩) n cap2] w (TrueP w) := by
  have HC := Lib.hid hc
  have HC2 := Lib.hid hc2
  clear hc hc2
  go_enter Try.func7, Try.ntmps7
  go_wp2_with fail
  go_loopw [5] (fun i wr => ∃ k : Nat, i = .int .i64 k ∧ k ≤ n ∧ Below w.heap.size w wr) (fun i _ => n - (intOf i).toNat)
  case atStart => exact ⟨0, rfl, Nat.zero_le _, Below.refl _ _⟩
  case round =>
    obtain ⟨k, rfl, hk, hb⟩ := hrel
    by_cases h1 : k < n
    · have c1 : wr.cell? ⟨b, off + k, none⟩ = some (.int .i64 (F k)) := (hb.cell (p := ⟨b, off + k, none⟩) hlt).trans (HC.out k h1)
      have c2 : wr.cell? ⟨b2, off2 + k, none⟩ = some (.int .i64 (F k)) := (hb.cell (p := ⟨b2, off2 + k, none⟩) hlt2).trans (HC2.out k h1)
      go_wp2
      go_quiet (fail)
      go_wp2
      go_roundw
      case rel => exact ⟨k + 1, by go_num, by omega, below_drewN hb _⟩
      case measure => simp [intOf]; omega
    · have hd : decide (k < n) = false := by simpa using h1
      go_wp2
      go_ret
      exact ⟨rfl, hb⟩
theorem eq_none (a a2 : Option Addr) (cap cap2 : Nat) (w : World) : Calls Try.prog 7 #[.slice a 0 cap, .slice a2 0 cap2] w (TrueP w) := by
  go_enter Try.func7, Try.ntmps7
  go_wp2
  refine wp_loop_rounds 1 ?_
  rw [rounds_succ]
  go_wp2
  go_ret
  exact ⟨rfl, Below.refl _ _⟩
theorem eq_c (a a2 : Option Addr) (n cap cap2 : Nat) (F : Nat → Int) (w : World) (hn : n ≤ 1048576) (hs : Src w a n F) (hs2 : Src w a2 n F) : Calls Try.prog 7 #[.slice a n cap, .slice a2 n cap2] w (TrueP w) := by
  rcases hs with rfl | ⟨b, off, rfl, hlt, hc⟩
  · exact eq_none a a2 cap cap2 w
  · rcases hs2 with rfl | ⟨b2, off2, rfl, hlt2, hc2⟩
    · exact eq_none _ a2 cap cap2 w
    · exact eq_some b off b2 off2 n cap cap2 F w hn hlt hlt2 hc hc2
def IntP (w : World) (x : Int) (e : Ending) (w' : World) : Prop := e = .returned (.int .i64 x) ∧ Below w.heap.size w w'
theorem src_of_row {w : World} {a : Option Addr} {len cap : Nat} {zs : List Int} (h : IsRow .i64 w a len cap zs) : Src w a len (fun j => zs.getD j 0) := by
  by_cases h0 : len = 0
  · exact .inl h0
  · refine .inr ?_
    rcases h with ⟨_, h, _⟩ | ⟨x, rfl, hc, _, hz, hcell, hwf⟩
    · exact absurd h h0
    · have hs := cell_some (hcell 0 (by omega))
      obtain ⟨b, off, sp⟩ := x
      obtain ⟨hs1, hs2⟩ := hs
      have hs3 : sp = none := hs1
      subst hs3
      exact ⟨b, off, rfl, hs2, fun j hj => by rw [← add_at]; exact hcell j (by omega)⟩
end Go.Proofs.Ytangofjpnhhfeaa
namespace Go.Proofs.Ytangofjpnhhfeaa
open Mth
def two (k : Int) : Int := 2 ^ k.toNat
section
variable {f : Int} (h0 : 0 ≤ f) (h8 : f ≤ 8)
include h0 h8
theorem fldf : Fld (P f).toNat (gN f.toNat) := by rw [P_toNat h0]; exact fld _ (by omega)
/-- In numbers: p and the residues. -/
theorem RS_nat {a b : Int} (ha : 0 ≤ a) (hb : 0 ≤ b) : RS (a * b) (P f) = ((a.toNat * b.toNat % (P f).toNat : Nat) : Int) := by
  have hp := P_bd h0 h8
  have := toNat_RS (m := P f) (by omega) ha hb
  have hb2 := RS_bd (x := a * b) (m := P f) (by omega)
  omega
end
namespace Mth
variable {p g : Nat}
theorem Fld.half (h : Fld p g) (ho : p % 2 = 1) : g ^ ((p - 1) / 2) % p = p - 1 := by
  have hp := h.two
  have e : (g ^ ((p - 1) / 2) * g ^ ((p - 1) / 2)) % p = 1 := by
    rw [← Nat.pow_add, show (p - 1) / 2 + (p - 1) / 2 = p - 1 by omega]; exact h.one
  rcases h.sqrt1 e with h1 | h1
  · exfalso
    have := Nat.le_of_dvd (by omega) (h.ord _ h1); omega
  · exact h1
theorem neg_sq (hp : 2 < p) : ((p - 1) * (p - 1)) % p = 1 := by
  obtain ⟨k, rfl⟩ : ∃ k, p = k + 2 := ⟨p - 2, by omega⟩
  have : (k + 2 - 1) * (k + 2 - 1) = 1 + (k + 2) * k := by
    show (k + 1) * (k + 1) = _
    simp [Nat.mul_add, Nat.mul_comm]; omega
  rw [this, Nat.add_mul_mod_self_left, Nat.mod_eq_of_lt (by omega)]
theorem pow2 (e k : Nat) : e ^ (2 ^ (k + 1)) = e ^ (2 ^ k) * e ^ (2 ^ k) := by
  rw [Nat.pow_succ, Nat.pow_mul, Nat.pow_two]
theorem pow2' (e k : Nat) : e ^ (2 ^ (k + 1)) = (e * e) ^ (2 ^ k) := by
  rw [Nat.pow_succ, Nat.mul_comm, Nat.pow_mul, Nat.pow_two]
/-- The state of the program's loop. -/
structure Sq (p a r e s k : Nat) : Prop where
  rr : (r * r) % p = (a * e) % p
  ee : e ^ (2 ^ k) % p = 1
  ss : s ^ (2 ^ k) % p = p - 1
theorem Sq.ss' {a r e s k : Nat} (h : Sq p a r e s (k + 1)) : (s * s % p) ^ (2 ^ k) % p = p - 1 := by
  rw [powm (c := s * s) _ (Nat.mod_mod _ _), ← pow2', h.ss]
theorem Sq.no {a r e s k : Nat} (hf : Fld p g) (h : Sq p a r e s (k + 1)) (h1 : e ^ (2 ^ k) % p ≠ 1) : Sq p a (r * s % p) (e * (s * s % p) % p) (s * s % p) k := by
  have hp := hf.two
  have e1 : e ^ (2 ^ k) % p = p - 1 := by
    rcases hf.sqrt1 (y := e ^ (2 ^ k)) (by rw [← pow2]; exact h.ee) with h2 | h2
    · exact absurd h2 h1
    · exact h2
  refine ⟨?_, ?_, h.ss'⟩
  · have a1 : (r * s % p * (r * s % p)) % p = (r * r * (s * s)) % p := by
      rw [← Nat.mul_mod, show r * s * (r * s) = r * r * (s * s) by simp only [Nat.mul_assoc, Nat.mul_left_comm]]
    have a2 : (a * (e * (s * s % p) % p)) % p = (a * e * (s * s)) % p := by
      rw [mulm (a := a) (c := a) rfl (Nat.mod_mod _ _), Nat.mul_assoc]
      exact mulm rfl (mulm rfl (Nat.mod_mod _ _))
    rw [a1, a2]; exact mulm h.rr rfl
  · rw [powm (c := e * (s * s % p)) _ (Nat.mod_mod _ _), Nat.mul_pow]
    rw [Nat.mul_mod, e1, h.ss', neg_sq hp]
theorem Sq.last {a r e s : Nat} (h : Sq p a r e s 0) : (r * r) % p = a % p := by
  have e1 : e % p = 1 := by simpa using h.ee
  rw [h.rr, Nat.mul_mod, e1, Nat.mul_one, Nat.mod_mod]
/-- The start, where a^((p-1)/2) is 1. -/
theorem Sq.first {a t o : Nat} (h : Fld p g) (ho : p % 2 = 1) (ht : 0 < t) (hto : p - 1 = 2 ^ t * o) (hodd : o % 2 = 1) (ha : a ^ ((p - 1) / 2) % p = 1) :
    Sq p a (a ^ ((o + 1) / 2) % p) (a ^ o % p) (g ^ o % p) (t - 1) := by
  have hh : o * 2 ^ (t - 1) = (p - 1) / 2 := by
    rw [hto]
    obtain ⟨u, rfl⟩ : ∃ u, t = u + 1 := ⟨t - 1, by omega⟩
    rw [Nat.pow_succ, Nat.add_sub_cancel, show 2 ^ u * 2 * o = o * 2 ^ u * 2 by rw [Nat.mul_comm, ← Nat.mul_assoc], Nat.mul_div_cancel _ (by omega)]
  refine ⟨?_, ?_, ?_⟩
  · rw [← Nat.mul_mod, ← Nat.pow_add, show (o + 1) / 2 + (o + 1) / 2 = o + 1 by omega, mulm (a := a) (c := a) rfl (Nat.mod_mod _ _), Nat.pow_succ, Nat.mul_comm]
  · rw [powm (c := a ^ o) _ (Nat.mod_mod _ _), ← Nat.pow_mul, hh, ha]
  · rw [powm (c := g ^ o) _ (Nat.mod_mod _ _), ← Nat.pow_mul, hh, h.half ho]
end Mth
theorem PW_toNat {f : Int} (x e : Int) : (PW (P f) x e).toNat = x.toNat ^ e.toNat % (P f).toNat := by
  unfold PW; exact Int.toNat_natCast _
namespace Mth
variable {p g : Nat}
theorem Fld.inv_pow (h : Fld p g) {z : Nat} (hz : z % p ≠ 0) {e k : Nat} (hd : (p - 1) ∣ e + k) : (z ^ e * z ^ k) % p = 1 := by
  obtain ⟨c, hc⟩ := hd
  rw [← Nat.pow_add, hc, Nat.pow_mul]
  exact pow_one_mod c (by have := h.two; omega) (h.fermat hz)
end Mth
theorem PW_nz {f x e : Int} (h0 : 0 ≤ f) (h8 : f ≤ 8) (hx0 : 0 < x) (hx : x < P f) : PW (P f) x e ≠ 0 := by
  have hp := P_bd h0 h8
  have := (fldf h0 h8).pow_nz (x := x.toNat) e.toNat (by rw [Nat.mod_eq_of_lt (by omega)]; omega)
  unfold PW; omega
/-- z^(-k), as Power gives it. -/
theorem inv_at {f z k : Int} (h0 : 0 ≤ f) (h8 : f ≤ 8) (z0 : 0 < z) (z1 : z < P f) (k0 : 0 ≤ k) : ((mPower f z (-k)).toNat * z.toNat ^ k.toNat) % (P f).toNat = 1 ∧ 0 < mPower f z (-k) ∧ mPower f z (-k) < P f := by
  have hp := P_bd h0 h8
  have hz : RS z (P f) = z := RS_self (by omega) z1
  have e : mPower f z (-k) = PW (P f) z (RS (-k) (P f - 1)) := by unfold mPower; rw [if_pos ⟨h0, h8⟩, hz, if_neg (by omega)]
  have hb := PW_bd (m := P f) (x := z) (e := RS (-k) (P f - 1)) (by omega)
  have hn := PW_nz (e := RS (-k) (P f - 1)) h0 h8 z0 z1
  rw [e]
  refine ⟨?_, by omega, hb.2⟩
  rw [PW_toNat, mulm (Nat.mod_mod _ _) rfl]
  refine (fldf h0 h8).inv_pow (by rw [Nat.mod_eq_of_lt (by omega)]; omega) ?_
  have hd : (P f - 1) ∣ RS (-k) (P f - 1) + k := by
    refine Int.dvd_of_emod_eq_zero ?_
    unfold RS
    rw [Int.emod_add_emod, Int.add_left_neg, Int.zero_emod]
  have hb2 := RS_bd (x := -k) (m := P f - 1) (by omega)
  have : (((P f).toNat - 1 : Nat) : Int) ∣ (((RS (-k) (P f - 1)).toNat + k.toNat : Nat) : Int) := by
    rw [show (((P f).toNat - 1 : Nat) : Int) = P f - 1 by omega, show (((RS (-k) (P f - 1)).toNat + k.toNat : Nat) : Int) = RS (-k) (P f - 1) + k by omega]; exact hd
  exact Int.natCast_dvd_natCast.1 this
end Go.Proofs.Ytangofjpnhhfeaa
namespace Go.Proofs.Ytangofjpnhhfeaa
open Mth
def invF (f z : Int) : Int := if RS z (P f) = 0 then 0 else mPower f z (-1)
def prodF (f : Int) (Z : Nat → Int) : Nat → Int
  | 0 => 1
  | k + 1 => if RS (Z k) (P f) = 0 then prodF f Z k else RS (prodF f Z k * RS (Z k) (P f)) (P f)
section
variable {f : Int} (h0 : 0 ≤ f) (h8 : f ≤ 8)
include h0 h8
theorem RS_mul_pos {a b : Int} (a0 : 0 < a) (a1 : a < P f) (b0 : 0 < b) (b1 : b < P f) : 0 < RS (a * b) (P f) ∧ RS (a * b) (P f) < P f := by
  have hp := P_bd h0 h8
  have hb := RS_bd (x := a * b) (m := P f) (by omega)
  have hn := (fldf h0 h8).mul_nz (x := a.toNat) (y := b.toNat) (by rw [Nat.mod_eq_of_lt (by omega)]; omega) (by rw [Nat.mod_eq_of_lt (by omega)]; omega)
  rw [RS_nat h0 h8 (by omega) (by omega)] at *
  omega
theorem prodF_bd (Z : Nat → Int) (k : Nat) : 0 < prodF f Z k ∧ prodF f Z k < P f := by
  have hp := P_bd h0 h8
  induction k with
  | zero => exact ⟨by show (0 : Int) < 1; omega, by show (1 : Int) < _; omega⟩
  | succ k ih =>
    rw [prodF]
    split
    · exact ih
    · rename_i hz
      have hb := RS_bd (x := Z k) (m := P f) (by omega)
      exact RS_mul_pos h0 h8 ih.1 ih.2 (by omega) hb.2
theorem inv_one {z : Int} (hz : RS z (P f) ≠ 0) : RS (mPower f z (-1) * RS z (P f)) (P f) = 1 ∧ 0 < mPower f z (-1) ∧ mPower f z (-1) < P f := by
  have hp := P_bd h0 h8
  have ba := RS_bd (x := z) (m := P f) (by omega)
  have e : mPower f z (-1) = mPower f (RS z (P f)) (-1) := by unfold mPower; rw [RS_RS]
  obtain ⟨h1, i0, i1⟩ := inv_at (z := RS z (P f)) (k := 1) h0 h8 (by omega) ba.2 (by omega)
  rw [← e] at h1 i0 i1
  refine ⟨?_, i0, i1⟩
  rw [RS_nat h0 h8 (by omega) ba.1]
  rw [show (1 : Int).toNat = 1 from rfl, Nat.pow_one] at h1
  omega
/-- The way back: b times the product of the first k is 1. -/
theorem back_first {x : Int} (x0 : 0 < x) (x1 : x < P f) : RS (PW (P f) x (P f - 2) * x) (P f) = 1 := by
  have hp := P_bd h0 h8
  rw [RS_nat h0 h8 (PW_bd (by omega)).1 (by omega), PW_toNat, mulm (Nat.mod_mod _ _) rfl, ← Nat.pow_succ, show (P f - 2).toNat.succ = (P f).toNat - 1 by omega,
    (fldf h0 h8).fermat (by rw [Nat.mod_eq_of_lt (by omega)]; omega)]
  rfl
end
theorem back_no {f : Int} {Z : Nat → Int} {k : Nat} {b : Int} (hz : RS (Z k) (P f) = 0) (h : RS (b * prodF f Z (k + 1)) (P f) = 1) : RS (b * prodF f Z k) (P f) = 1 ∧ invF f (Z k) = 0 := by
  rw [prodF, if_pos hz] at h
  exact ⟨h, if_pos hz⟩
end Go.Proofs.Ytangofjpnhhfeaa
namespace Go.Proofs.Ytangofjpnhhfeaa
open Go.RowKit
/-- The state of the way back. -/
def Back (f : Int) (Z : Nat → Int) (w wr : World) (n : Nat) (i b : Int) : Prop :=
  RS (b * prodF f Z (i + 1).toNat) (P f) = 1 ∧ Own wr w.heap.size n (fun j => if (j : Int) ≤ i then RS (Z j) (P f) else invF f (Z j)) ∧ Own wr (w.heap.size + 1) n (fun j => prodF f Z j) ∧ Below w.heap.size w wr
theorem Back.no {f : Int} {Z : Nat → Int} {w wr : World} {n k : Nat} {b : Int} (h : Back f Z w wr n k b) (hz : RS (Z k) (P f) = 0) : Back f Z w wr n (k - 1) b := by
  obtain ⟨h1, h2, h3, h4⟩ := h
  rw [show ((k : Int) + 1).toNat = k + 1 by omega] at h1
  obtain ⟨e1, e2⟩ := back_no hz h1
  refine ⟨by rw [show ((k : Int) - 1 + 1).toNat = k by omega]; exact e1, ?_, h3, h4⟩
  refine World.rowIs.congr h2 fun j _ => ?_
  by_cases hj : j = k
  · subst hj; simp [hz, e2]
  · by_cases hj2 : (j : Int) ≤ k
    · simp [hj2, show (j : Int) ≤ (k : Int) - 1 by omega]
    · simp [hj2, show ¬ (j : Int) ≤ (k : Int) - 1 by omega]
/-- The state of the way forth. -/
def Forth (f : Int) (Z : Nat → Int) (w wr : World) (n k : Nat) : Prop :=
  Own wr w.heap.size n (fun j => if j < k then RS (Z j) (P f) else 0) ∧ Own wr (w.heap.size + 1) n (fun j => if j < k then prodF f Z j else 0) ∧ Below w.heap.size w wr
theorem Forth.back {f : Int} (h0 : 0 ≤ f) (h8 : f ≤ 8) {Z : Nat → Int} {w wr : World} {n : Nat} (h : Forth f Z w wr n n) : Back f Z w wr n ((n : Int) - 1) (PW (P f) (prodF f Z n) (P f - 2)) := by
  have hb := prodF_bd h0 h8 Z n
  refine ⟨by rw [show ((n : Int) - 1 + 1).toNat = n by omega]; exact back_first h0 h8 hb.1 hb.2, World.rowIs.congr h.1 fun j hj => ?_, World.rowIs.congr h.2.1 fun j hj => ?_, h.2.2⟩
  · simp [hj, show (j : Int) ≤ (n : Int) - 1 by omega]
  · simp [hj]
end Go.Proofs.Ytangofjpnhhfeaa
namespace Go.Proofs.Ytangofjpnhhfeaa
open Go.RowKit
def xsF (F : Nat → Int) (k : Nat) : List Value := (List.range k).map fun j => .int .i64 (F j)
theorem xsF_succ (F : Nat → Int) (k : Nat) : xsF F k ++ [.int .i64 (F k)] = xsF F (k + 1) := by simp [xsF, List.range_succ]
theorem xsF_congr {F G : Nat → Int} {k : Nat} (h : ∀ j, j < k → F j = G j) : xsF F k = xsF G k := by
  unfold xsF
  refine List.map_congr_left fun j hj => ?_
  rw [h j (List.mem_range.1 hj)]
theorem src_of_owns {w' : World} {base : Nat} {v : Value} {n : Nat} {F : Nat → Int} (h : w'.ownsRow base 3 1 v n (xsF F n)) : ∃ a cap, v = .slice a n cap ∧ Src w' a n F := by
  obtain ⟨hl, h⟩ := h
  rcases h with ⟨rfl, rfl⟩ | ⟨g, cap, cur, rfl, hg, hh, hc, hm, hs, ht⟩
  · exact ⟨none, 0, rfl, .inl rfl⟩
  · refine ⟨_, _, rfl, .inr ⟨g, 0, rfl, (Array.getElem?_eq_some_iff.1 hh).1, fun j hj => ?_⟩⟩
    have hx : (xsF F n)[j]? = some (.int .i64 (F j)) := by simp [xsF, hj]
    have hcur : cur.toList[j]? = some (.int .i64 (F j)) := by
      rw [← ht, List.getElem?_take_of_lt (by omega)] at hx; exact hx
    unfold World.cell?
    rw [hh]
    simp
    simpa using hcur
end Go.Proofs.Ytangofjpnhhfeaa
namespace Go.Proofs.Ytangofjpnhhfeaa
open Mth

/-- The length without the zeros at the end. -/
def cutN (F : Nat → Int) : Nat → Nat
  | 0 => 0
  | n + 1 => if F n = 0 then cutN F n else n + 1
theorem cutN_le (F : Nat → Int) (n : Nat) : cutN F n ≤ n := by
  induction n with
  | zero => exact Nat.le_refl _
  | succ n ih => unfold cutN; split <;> omega
theorem cutN_top (F : Nat → Int) (n : Nat) : cutN F n = 0 ∨ F (cutN F n - 1) ≠ 0 := by
  induction n with
  | zero => exact .inl rfl
  | succ n ih =>
    unfold cutN
    split
    · exact ih
    · rename_i h; exact .inr h
theorem cutN_zero (F : Nat → Int) (n j : Nat) (h : cutN F n ≤ j) (hj : j < n) : F j = 0 := by
  induction n with
  | zero => omega
  | succ n ih =>
    unfold cutN at h
    split at h
    · rename_i h0
      by_cases e : j = n
      · rw [e]; exact h0
      · exact ih h (by omega)
    · omega
theorem cutN_full {F : Nat → Int} {n : Nat} (h : n = 0 ∨ F (n - 1) ≠ 0) : cutN F n = n := by
  cases n with
  | zero => rfl
  | succ n =>
    unfold cutN
    rcases h with h | h
    · omega
    · rw [if_neg (show ¬ F n = 0 from h)]
/-- The coefficients of a list, with zeros behind it. -/
def lf (l : List Int) : Nat → Int := fun j => l.getD j 0
def tab (n : Nat) (F : Nat → Int) : List Int := (List.range n).map F
theorem tab_len (n : Nat) (F : Nat → Int) : (tab n F).length = n := by simp [tab]
theorem lf_tab (n : Nat) (F : Nat → Int) (j : Nat) : lf (tab n F) j = if j < n then F j else 0 := by
  unfold lf tab
  rw [List.getD_eq_getElem?_getD]
  by_cases h : j < n
  · simp [h]
  · rw [List.getElem?_eq_none (by simp; omega), if_neg h]; rfl
theorem lf_out (l : List Int) {j : Nat} (h : l.length ≤ j) : lf l j = 0 := by
  unfold lf
  rw [List.getD_eq_getElem?_getD, List.getElem?_eq_none h]; rfl
theorem list_ext {a b : List Int} (hl : a.length = b.length) (h : ∀ j, j < a.length → lf a j = lf b j) : a = b := by
  apply List.ext_getElem hl
  intro j h1 h2
  have := h j h1
  unfold lf at this
  rw [List.getD_eq_getElem?_getD, List.getD_eq_getElem?_getD, List.getElem?_eq_getElem h1, List.getElem?_eq_getElem h2] at this
  exact this
def cutL (n : Nat) (F : Nat → Int) : List Int := tab (cutN F n) F
theorem cutL_len (n : Nat) (F : Nat → Int) : (cutL n F).length = cutN F n := tab_len _ _
theorem lf_cutL (n : Nat) (F : Nat → Int) (j : Nat) : lf (cutL n F) j = if j < n then F j else 0 := by
  unfold cutL
  rw [lf_tab]
  have := cutN_le F n
  by_cases h1 : j < cutN F n
  · rw [if_pos h1, if_pos (by omega)]
  · rw [if_neg h1]
    by_cases h2 : j < n
    · rw [if_pos h2, cutN_zero F n j (by omega) h2]
    · rw [if_neg h2]
/-- Elements of the field, the last of them not 0. -/
def Pol (f : Int) (l : List Int) : Prop := (∀ j, 0 ≤ lf l j ∧ lf l j < P f) ∧ (l.length = 0 ∨ lf l (l.length - 1) ≠ 0)
theorem Pol.cut {f : Int} {n : Nat} {F : Nat → Int} (hp : 0 < P f) (h : ∀ j, j < n → 0 ≤ F j ∧ F j < P f) : Pol f (cutL n F) := by
  refine ⟨fun j => ?_, ?_⟩
  · rw [lf_cutL]
    split
    · rename_i hj; exact h j hj
    · omega
  · rw [cutL_len]
    have := cutN_le F n
    rcases cutN_top F n with h1 | h1
    · exact .inl h1
    · by_cases h0 : cutN F n = 0
      · exact .inl h0
      · right
        rw [lf_cutL, if_pos (by omega)]; exact h1
theorem Pol.nil {f : Int} (hp : 0 < P f) : Pol f [] := ⟨fun j => by rw [lf_out [] (Nat.zero_le _)]; omega, .inl rfl⟩
theorem Pol.full {f : Int} {l : List Int} (h : Pol f l) : cutN (lf l) l.length = l.length := cutN_full h.2
/-- Polynomials with the same coefficients are one. -/
theorem Pol.eq {f : Int} {a b : List Int} (ha : Pol f a) (hb : Pol f b) (h : ∀ j, lf a j % P f = lf b j % P f) : a = b := by
  have e : ∀ j, lf a j = lf b j := fun j => by
    have h1 := ha.1 j
    have h2 := hb.1 j
    have := h j
    rw [Int.emod_eq_of_lt h1.1 h1.2, Int.emod_eq_of_lt h2.1 h2.2] at this
    exact this
  have hl : a.length = b.length := by
    rcases Nat.lt_trichotomy a.length b.length with hlt | hlt | hlt
    · rcases hb.2 with h0 | h0
      · omega
      · rw [← e, lf_out a (by omega)] at h0; exact absurd rfl h0
    · exact hlt
    · rcases ha.2 with h0 | h0
      · omega
      · rw [e, lf_out b (by omega)] at h0; exact absurd rfl h0
  exact list_ext hl (fun j _ => e j)
/-- Sums of the first n terms. -/
def sumN (f : Nat → Int) : Nat → Int
  | 0 => 0
  | n + 1 => sumN f n + f n
theorem sumN_first (f : Nat → Int) (n : Nat) : sumN f (n + 1) = f 0 + sumN (fun i => f (i + 1)) n := by
  induction n with
  | zero => simp [sumN]
  | succ n ih => rw [sumN, ih, sumN]; omega
theorem sumN_congr {f g : Nat → Int} {n : Nat} (h : ∀ i, i < n → f i = g i) : sumN f n = sumN g n := by
  induction n with
  | zero => rfl
  | succ n ih => rw [sumN, sumN, ih (fun i hi => h i (by omega)), h n (by omega)]
theorem sumN_more {f : Nat → Int} {n m : Nat} (hnm : n ≤ m) (h : ∀ i, n ≤ i → i < m → f i = 0) : sumN f m = sumN f n := by
  induction m with
  | zero => rw [show n = 0 by omega]
  | succ m ih =>
    by_cases e : n = m + 1
    · rw [e]
    · rw [sumN, h m (by omega) (by omega), ih (by omega) (fun i h1 h2 => h i h1 (by omega))]; omega

/-- Products of series. -/
def tl (A : Nat → Int) : Nat → Int := fun j => A (j + 1)
def cv : Nat → (Nat → Int) → (Nat → Int) → Int
  | 0, A, B => A 0 * B 0
  | k + 1, A, B => A 0 * B (k + 1) + cv k (tl A) B
def mulS (A B : Nat → Int) : Nat → Int := fun k => cv k A B
theorem cv_congr {k : Nat} : ∀ {A A' B B' : Nat → Int}, (∀ j, j ≤ k → A j = A' j) → (∀ j, j ≤ k → B j = B' j) → cv k A B = cv k A' B' := by
  induction k with
  | zero => intro A A' B B' ha hb; simp only [cv]; rw [ha 0 (by omega), hb 0 (by omega)]
  | succ k ih =>
    intro A A' B B' ha hb
    simp only [cv]
    rw [ha 0 (by omega), hb (k + 1) (by omega), ih (A := tl A) (A' := tl A') (fun j hj => ha (j + 1) (by omega)) (fun j hj => hb j (by omega))]
theorem cv_add_l (k : Nat) : ∀ A A' B : Nat → Int, cv k (fun j => A j + A' j) B = cv k A B + cv k A' B := by
  induction k with
  | zero => intro A A' B; simp only [cv]; exact Int.add_mul _ _ _
  | succ k ih =>
    intro A A' B
    simp only [cv]
    have := ih (tl A) (tl A') B
    have e : tl (fun j => A j + A' j) = fun j => tl A j + tl A' j := rfl
    rw [e, this, Int.add_mul]; omega
theorem cv_smul_l (k : Nat) : ∀ (c : Int) (A B : Nat → Int), cv k (fun j => c * A j) B = c * cv k A B := by
  induction k with
  | zero => intro c A B; simp only [cv]; exact Int.mul_assoc _ _ _
  | succ k ih =>
    intro c A B
    simp only [cv]
    have := ih c (tl A) B
    have e : tl (fun j => c * A j) = fun j => c * tl A j := rfl
    rw [e, this, Int.mul_add, Int.mul_assoc]
theorem cv_right (k : Nat) : ∀ A B : Nat → Int, cv (k + 1) A B = A (k + 1) * B 0 + cv k A (tl B) := by
  induction k with
  | zero => intro A B; simp only [cv, tl]; omega
  | succ k ih =>
    intro A B
    have h1 : cv (k + 2) A B = A 0 * B (k + 2) + cv (k + 1) (tl A) B := rfl
    have h2 : cv (k + 1) A (tl B) = A 0 * B (k + 2) + cv k (tl A) (tl B) := rfl
    rw [h1, ih (tl A) B, h2]
    show _ + (A (k + 2) * B 0 + _) = A (k + 2) * B 0 + _
    omega
theorem cv_comm (k : Nat) : ∀ A B : Nat → Int, cv k A B = cv k B A := by
  induction k with
  | zero => intro A B; exact Int.mul_comm _ _
  | succ k ih =>
    intro A B
    rw [cv_right]
    simp only [cv]
    rw [ih A (tl B), Int.mul_comm]
theorem cv_add_r (k : Nat) (A B B' : Nat → Int) : cv k A (fun j => B j + B' j) = cv k A B + cv k A B' := by
  rw [cv_comm, cv_add_l, cv_comm k B, cv_comm k B']
theorem cv_assoc (k : Nat) : ∀ A B C : Nat → Int, cv k (mulS A B) C = cv k A (mulS B C) := by
  induction k with
  | zero => intro A B C; simp only [cv, mulS]; exact Int.mul_assoc _ _ _
  | succ k ih =>
    intro A B C
    have h1 : cv (k + 1) (mulS A B) C = A 0 * B 0 * C (k + 1) + cv k (tl (mulS A B)) C := rfl
    have h2 : tl (mulS A B) = fun j => A 0 * tl B j + mulS (tl A) B j := rfl
    have h3 : cv (k + 1) A (mulS B C) = A 0 * (B 0 * C (k + 1) + cv k (tl B) C) + cv k (tl A) (mulS B C) := rfl
    rw [h1, h2, cv_add_l, cv_smul_l, ih (tl A) B C, h3, Int.mul_add, Int.mul_assoc]; omega
theorem cv_sum (k : Nat) : ∀ A B : Nat → Int, cv k A B = sumN (fun i => A i * B (k - i)) (k + 1) := by
  induction k with
  | zero => intro A B; simp [cv, sumN]
  | succ k ih =>
    intro A B
    rw [sumN_first]
    simp only [cv]
    rw [ih (tl A) B]
    congr 1
    exact sumN_congr fun i _ => by rw [Nat.add_sub_add_right]; rfl
/-- The part of a product's coefficient that the first i coefficients of A give. -/
def cpar (A B : Nat → Int) (k i : Nat) : Int := sumN (fun j => if j ≤ k then A j * B (k - j) else 0) i
theorem cpar_succ (A B : Nat → Int) (k i : Nat) : cpar A B k (i + 1) = cpar A B k i + (if i ≤ k then A i * B (k - i) else 0) := rfl
theorem cpar_end {A B : Nat → Int} {n : Nat} (k : Nat) (h : ∀ j, n ≤ j → A j = 0) : cpar A B k n = cv k A B := by
  rw [cv_sum]
  unfold cpar
  have e1 : sumN (fun i => A i * B (k - i)) (k + 1) = sumN (fun j => if j ≤ k then A j * B (k - j) else 0) (k + 1) := sumN_congr fun i hi => by simp [show i ≤ k by omega]
  rw [e1]
  rcases Nat.le_total n (k + 1) with hl | hl
  · exact (sumN_more hl (fun i h1 h2 => by simp [h i h1])).symm
  · exact sumN_more hl (fun i h1 h2 => by simp [show ¬ i ≤ k by omega])
theorem cv_zero_l {k : Nat} {A B : Nat → Int} (h : ∀ j, j ≤ k → A j = 0) : cv k A B = 0 := by
  rw [cv_congr (A' := fun _ => 0 * 0) (B' := B) (fun j hj => by rw [h j hj]; rfl) (fun _ _ => rfl), cv_smul_l]; simp
/-- Beyond both supports a product vanishes; at the top it is the product of the tops. -/
theorem cv_out {A B : Nat → Int} {n m k : Nat} (ha : ∀ j, n ≤ j → A j = 0) (hb : ∀ j, m ≤ j → B j = 0) (hk : n + m ≤ k + 1) : cv k A B = 0 := by
  rw [cv_sum]
  rw [sumN_more (n := 0) (Nat.zero_le _)]
  · rfl
  · intro i _ hi
    by_cases h1 : n ≤ i
    · rw [ha i h1, Int.zero_mul]
    · rw [hb (k - i) (by omega), Int.mul_zero]
theorem cv_top {A B : Nat → Int} {n m : Nat} (ha : ∀ j, n + 1 ≤ j → A j = 0) (hb : ∀ j, m + 1 ≤ j → B j = 0) : cv (n + m) A B = A n * B m := by
  rw [← cpar_end (n + m) ha, cpar_succ, if_pos (by omega), Nat.add_sub_cancel_left]
  have : cpar A B (n + m) n = 0 := by
    unfold cpar
    rw [sumN_more (n := 0) (Nat.zero_le _)]
    · rfl
    · intro i _ hi
      rw [if_pos (by omega), hb _ (by omega), Int.mul_zero]
  rw [this]; omega
theorem cv_mod {p : Int} (k : Nat) : ∀ {A A' B B' : Nat → Int}, (∀ j, A j % p = A' j % p) → (∀ j, B j % p = B' j % p) → cv k A B % p = cv k A' B' % p := by
  induction k with
  | zero =>
    intro A A' B B' ha hb
    simp only [cv]
    rw [Int.mul_emod, ha, hb, ← Int.mul_emod]
  | succ k ih =>
    intro A A' B B' ha hb
    simp only [cv]
    rw [Int.add_emod, ih (A := tl A) (A' := tl A') (fun j => ha (j + 1)) hb, Int.mul_emod, ha 0, hb (k + 1), ← Int.mul_emod, ← Int.add_emod]
end Go.Proofs.Ytangofjpnhhfeaa
namespace Go.Proofs.Ytangofjpnhhfeaa
open Mth

theorem mul_nz {f : Int} (h0 : 0 ≤ f) (h8 : f ≤ 8) {x y : Int} (hx : x % P f ≠ 0) (hy : y % P f ≠ 0) : (x * y) % P f ≠ 0 := by
  have hp := P_bd h0 h8
  have bx := RS_bd (x := x) (m := P f) (by omega)
  have by' := RS_bd (x := y) (m := P f) (by omega)
  unfold RS at bx by'
  have := RS_mul_pos h0 h8 (a := x % P f) (b := y % P f) (by omega) bx.2 (by omega) by'.2
  unfold RS at this
  rw [Int.mul_emod]
  omega
def FinS (A : Nat → Int) : Prop := ∃ n, ∀ j, n ≤ j → A j = 0
theorem FinS.lf (l : List Int) : FinS (lf l) := ⟨l.length, fun _ h => lf_out l h⟩
theorem FinS.zero : FinS (fun _ => 0) := ⟨0, fun _ _ => rfl⟩
theorem FinS.add {A B : Nat → Int} (ha : FinS A) (hb : FinS B) : FinS (fun j => A j + B j) := by
  obtain ⟨n, hn⟩ := ha; obtain ⟨m, hm⟩ := hb
  exact ⟨n + m, fun j hj => by show A j + B j = 0; rw [hn j (by omega), hm j (by omega)]; rfl⟩
theorem FinS.smul {A : Nat → Int} (c : Int) (ha : FinS A) : FinS (fun j => c * A j) := by
  obtain ⟨n, hn⟩ := ha
  exact ⟨n, fun j hj => by show c * A j = 0; rw [hn j hj, Int.mul_zero]⟩
theorem FinS.mul {A B : Nat → Int} (ha : FinS A) (hb : FinS B) : FinS (mulS A B) := by
  obtain ⟨n, hn⟩ := ha; obtain ⟨m, hm⟩ := hb
  exact ⟨n + m, fun j hj => cv_out hn hm (by omega)⟩

theorem emod_add_congr {p a b c d : Int} (h1 : a % p = b % p) (h2 : c % p = d % p) : (a + c) % p = (b + d) % p := by rw [Int.add_emod, h1, h2, ← Int.add_emod]
theorem emod_mul_congr {p a b c d : Int} (h1 : a % p = b % p) (h2 : c % p = d % p) : (a * c) % p = (b * d) % p := by rw [Int.mul_emod, h1, h2, ← Int.mul_emod]
theorem emod_zero_of_sub {p a b : Int} (h : a % p = b % p) : (a - b) % p = 0 := by rw [Int.sub_emod, h]; simp

/-- A multiple of a polynomial without coefficients from its degree on is zero. -/
theorem div_zero {f : Int} (h0 : 0 ≤ f) (h8 : f ≤ 8) {b : List Int} (hb : Pol f b) (hne : b.length ≠ 0) {Q : Nat → Int} (hQ : FinS Q) (h : ∀ k, b.length ≤ k + 1 → cv k Q (lf b) % P f = 0) : ∀ j, Q j % P f = 0 := by
  have hp := P_bd h0 h8
  obtain ⟨N, hN⟩ := hQ
  have key : ∀ t j, N ≤ j + t → Q j % P f = 0 := by
    intro t
    induction t with
    | zero => intro j hj; rw [hN j (by omega)]; simp
    | succ t ih =>
      intro j hj
      by_cases hjt : N ≤ j + t
      · exact ih j hjt
      · have hz : ∀ i, j + 1 ≤ i → (fun i => Q i % P f) i = 0 := fun i hi => ih i (by omega)
        have hbz : ∀ i, (b.length - 1) + 1 ≤ i → lf b i = 0 := fun i hi => lf_out b (by omega)
        have ht := cv_top hz hbz
        have hc := h (j + (b.length - 1)) (by omega)
        rw [cv_mod (A' := fun i => Q i % P f) (B' := lf b) _ (fun i => by simp) (fun _ => rfl), ht] at hc
        by_cases hq : Q j % P f = 0
        · exact hq
        · exfalso
          have hbt : lf b (b.length - 1) % P f ≠ 0 := by
            have h1 := hb.1 (b.length - 1)
            rw [Int.emod_eq_of_lt h1.1 h1.2]
            rcases hb.2 with h2 | h2
            · exact absurd h2 hne
            · exact h2
          exact mul_nz h0 h8 (by simpa using hq) hbt hc
  intro j
  exact key N j (by omega)

/-- Congruent modulo the polynomial b, over the field. -/
def Cg (f : Int) (b : List Int) (A A' : Nat → Int) : Prop := ∃ C, FinS C ∧ ∀ j, A j % P f = (cv j C (lf b) + A' j) % P f
theorem Cg.of {f : Int} {b : List Int} {A A' : Nat → Int} (h : ∀ j, A j % P f = A' j % P f) : Cg f b A A' := ⟨fun _ => 0, FinS.zero, fun j => by rw [h j, cv_zero_l (fun _ _ => rfl)]; simp⟩
theorem Cg.refl {f : Int} {b : List Int} {A : Nat → Int} : Cg f b A A := Cg.of fun _ => rfl
theorem Cg.symm {f : Int} {b : List Int} {A A' : Nat → Int} (h : Cg f b A A') : Cg f b A' A := by
  obtain ⟨C, hC, h⟩ := h
  refine ⟨fun j => (-1) * C j, hC.smul _, fun j => ?_⟩
  rw [cv_smul_l]
  have e := emod_add_congr (p := P f) (a := (-1) * cv j C (lf b)) rfl (h j)
  rw [e]; congr 1; omega
theorem Cg.trans {f : Int} {b : List Int} {A A' A'' : Nat → Int} (h : Cg f b A A') (k : Cg f b A' A'') : Cg f b A A'' := by
  obtain ⟨C, hC, h⟩ := h; obtain ⟨D, hD, k⟩ := k
  refine ⟨fun j => C j + D j, hC.add hD, fun j => ?_⟩
  rw [cv_add_l, h j]
  have e := emod_add_congr (p := P f) (a := cv j C (lf b)) rfl (k j)
  rw [e]; congr 1; omega
theorem Cg.mul {f : Int} {b : List Int} {A A' B B' : Nat → Int} (hA' : FinS A') (hB : FinS B) (h : Cg f b A A') (k : Cg f b B B') : Cg f b (mulS A B) (mulS A' B') := by
  obtain ⟨C, hC, h⟩ := h; obtain ⟨D, hD, k⟩ := k
  refine ⟨fun j => mulS C B j + mulS A' D j, (hC.mul hB).add (hA'.mul hD), fun j => ?_⟩
  have e1 : mulS A B j % P f = (mulS (mulS C (lf b)) B j + mulS A' B j) % P f := by
    show cv j A B % P f = _
    rw [cv_mod (A' := fun j => mulS C (lf b) j + A' j) (B' := B) j h (fun _ => rfl), cv_add_l]; rfl
  have e2 : mulS A' B j % P f = (mulS A' (mulS D (lf b)) j + mulS A' B' j) % P f := by
    show cv j A' B % P f = _
    rw [cv_mod (A' := A') (B' := fun j => mulS D (lf b) j + B' j) j (fun _ => rfl) k, cv_add_r]; rfl
  have e3 : mulS (mulS C (lf b)) B j = cv j (mulS C B) (lf b) := by
    show cv j (mulS C (lf b)) B = _
    rw [cv_assoc, cv_assoc]
    exact cv_congr (fun _ _ => rfl) (fun i _ => cv_comm i _ _)
  have e4 : mulS A' (mulS D (lf b)) j = cv j (mulS A' D) (lf b) := (cv_assoc j _ _ _).symm
  rw [e1, cv_add_l, emod_add_congr (p := P f) (a := mulS (mulS C (lf b)) B j) rfl e2, e3, e4]
  congr 1
  omega
/-- Two short polynomials that are congruent are one. -/
theorem Cg.short {f : Int} (h0 : 0 ≤ f) (h8 : f ≤ 8) {b r s : List Int} (hb : Pol f b) (hr : Pol f r) (hs : Pol f s) (lr : r.length < b.length) (ls : s.length < b.length) (h : Cg f b (lf r) (lf s)) : r = s := by
  obtain ⟨C, hC, h⟩ := h
  have hz := div_zero h0 h8 hb (by omega) hC (fun k hk => by
    have := h k
    rw [lf_out r (by omega), lf_out s (by omega), Int.add_zero] at this
    rw [← this]; simp)
  refine hr.eq hs fun j => ?_
  rw [h j, Int.add_emod, cv_mod (A' := fun _ => 0) (B' := lf b) j (fun i => by rw [hz i]; simp) (fun _ => rfl), cv_zero_l (fun _ _ => rfl)]; simp
def IsRem (f : Int) (A : Nat → Int) (b r : List Int) : Prop := Pol f r ∧ r.length < b.length ∧ Cg f b A (lf r)
theorem IsRem.unique {f : Int} (h0 : 0 ≤ f) (h8 : f ≤ 8) {A A' : Nat → Int} {b r s : List Int} (hb : Pol f b) (hr : IsRem f A b r) (hs : IsRem f A' b s) (h : Cg f b A A') : r = s :=
  Cg.short h0 h8 hb hr.1 hs.1 hr.2.1 hs.2.1 (hr.2.2.symm.trans (h.trans hs.2.2))
/-- The state of a division: n is where the rest ends. -/
def DivAt (f : Int) (A : Nat → Int) (b : List Int) (n : Nat) (Q R : Nat → Int) : Prop :=
  (∀ j, A j % P f = (cv j Q (lf b) + R j) % P f) ∧ (∀ j, 0 ≤ R j ∧ R j < P f) ∧ (∀ j, 0 ≤ Q j ∧ Q j < P f) ∧ (∀ j, n ≤ j → R j = 0) ∧ (∀ j, j + b.length ≤ n → Q j = 0) ∧ FinS Q
theorem DivAt.start {f : Int} {a b : List Int} (ha : Pol f a) (hp : 0 < P f) : DivAt f (lf a) b a.length (fun _ => 0) (lf a) :=
  ⟨fun j => by rw [cv_zero_l (fun _ _ => rfl)]; simp, ha.1, fun _ => ⟨Int.le_refl _, hp⟩, fun _ h => lf_out a h, fun _ _ => rfl, FinS.zero⟩
theorem DivAt.congr {f : Int} {A : Nat → Int} {b : List Int} {n : Nat} {Q Q' R R' : Nat → Int} (h : DivAt f A b n Q R) (hQ : ∀ j, Q j = Q' j) (hR : ∀ j, R j = R' j) : DivAt f A b n Q' R' := by
  obtain rfl : Q = Q' := funext hQ
  obtain rfl : R = R' := funext hR
  exact h
theorem sumN_single (g : Nat → Int) (s n : Nat) : sumN (fun i => if i = s then g i else 0) n = if s < n then g s else 0 := by
  induction n with
  | zero => simp [sumN]
  | succ n ih =>
    rw [sumN, ih]
    by_cases h : n = s
    · subst h; simp
    · by_cases h2 : s < n
      · simp [h, h2, show s < n + 1 by omega]
      · simp [h, h2, show ¬ s < n + 1 by omega]
theorem cv_mono (k s : Nat) (m : Int) (B : Nat → Int) : cv k (fun j => if j = s then m else 0) B = if s ≤ k then m * B (k - s) else 0 := by
  rw [cv_sum, sumN_congr (g := fun i => if i = s then m * B (k - i) else 0) (fun i _ => by split <;> simp), sumN_single (fun i => m * B (k - i))]
  by_cases h : s ≤ k
  · simp [h, show s < k + 1 by omega]
  · simp [h, show ¬ s < k + 1 by omega]
/-- Quotient and remainder. -/
def DivP (f : Int) (a b q r : List Int) : Prop := Pol f q ∧ Pol f r ∧ r.length < b.length ∧ ∀ j, lf a j % P f = (cv j (lf q) (lf b) + lf r j) % P f
theorem DivP.unique {f : Int} (h0 : 0 ≤ f) (h8 : f ≤ 8) {a b q r q' r' : List Int} (hb : Pol f b) (h : DivP f a b q r) (k : DivP f a b q' r') : q = q' ∧ r = r' := by
  obtain ⟨h1, h2, h3, h4⟩ := h
  obtain ⟨k1, k2, k3, k4⟩ := k
  have er : r = r' := IsRem.unique h0 h8 hb (A := lf a) (A' := lf a) ⟨h2, h3, lf q, FinS.lf q, h4⟩ ⟨k2, k3, lf q', FinS.lf q', k4⟩ Cg.refl
  refine ⟨?_, er⟩
  subst er
  have hz := div_zero h0 h8 hb (by omega) (Q := fun j => lf q j + (-1) * lf q' j) ((FinS.lf q).add ((FinS.lf q').smul _)) (fun k _ => by
    rw [cv_add_l, cv_smul_l]
    have e := emod_zero_of_sub ((h4 k).symm.trans (k4 k))
    rw [← e]; congr 1; omega)
  refine h1.eq k1 fun j => ?_
  have := hz j
  have e : lf q j = (lf q j + (-1) * lf q' j) + lf q' j := by omega
  rw [e, Int.add_emod, this]; simp
end Go.Proofs.Ytangofjpnhhfeaa
namespace Go.Proofs.Ytangofjpnhhfeaa
open Mth

def addL (f : Int) (a b : List Int) : List Int := cutL (max a.length b.length) fun j => RS (lf a j + lf b j) (P f)
def scaleL (f : Int) (a : List Int) (c : Int) : List Int := cutL a.length fun j => RS (lf a j * c) (P f)
def mulL (f : Int) (a b : List Int) : List Int := cutL (a.length + b.length - 1) fun k => RS (cv k (lf a) (lf b)) (P f)
theorem lf_addL (f : Int) (a b : List Int) (j : Nat) : lf (addL f a b) j = (lf a j + lf b j) % P f := by
  unfold addL
  rw [lf_cutL]
  split
  · rfl
  · rw [lf_out a (by omega), lf_out b (by omega)]; simp
theorem lf_scaleL (f : Int) (a : List Int) (c : Int) (j : Nat) : lf (scaleL f a c) j = (lf a j * c) % P f := by
  unfold scaleL
  rw [lf_cutL]
  split
  · rfl
  · rw [lf_out a (by omega)]; simp
theorem lf_mulL (f : Int) (a b : List Int) (k : Nat) : lf (mulL f a b) k = cv k (lf a) (lf b) % P f := by
  unfold mulL
  rw [lf_cutL]
  split
  · rfl
  · rw [cv_out (fun j h => lf_out a h) (fun j h => lf_out b h) (by omega)]; simp
theorem P_pos {f : Int} (h0 : 0 ≤ f) (h8 : f ≤ 8) : 0 < P f := by have := P_bd h0 h8; omega
theorem pol_addL {f : Int} (h0 : 0 ≤ f) (h8 : f ≤ 8) (a b : List Int) : Pol f (addL f a b) := Pol.cut (P_pos h0 h8) fun _ _ => RS_bd (P_pos h0 h8)
theorem pol_mulL {f : Int} (h0 : 0 ≤ f) (h8 : f ≤ 8) (a b : List Int) : Pol f (mulL f a b) := Pol.cut (P_pos h0 h8) fun _ _ => RS_bd (P_pos h0 h8)
theorem top_nz {f : Int} (_h0 : 0 ≤ f) (_h8 : f ≤ 8) {a : List Int} (ha : Pol f a) (hn : a.length ≠ 0) : lf a (a.length - 1) % P f ≠ 0 := by
  have h1 := ha.1 (a.length - 1)
  rw [Int.emod_eq_of_lt h1.1 h1.2]
  rcases ha.2 with h2 | h2
  · exact absurd h2 hn
  · exact h2
/-- The product of two polynomials other than zero needs no cut. -/
theorem mul_top {f : Int} (h0 : 0 ≤ f) (h8 : f ≤ 8) {a b : List Int} (ha : Pol f a) (hb : Pol f b) (hn : a.length ≠ 0) (hm : b.length ≠ 0) : RS (cv (a.length + b.length - 1 - 1) (lf a) (lf b)) (P f) ≠ 0 := by
  have e : a.length + b.length - 1 - 1 = (a.length - 1) + (b.length - 1) := by omega
  rw [e, cv_top (fun j hj => lf_out a (by omega)) (fun j hj => lf_out b (by omega))]
  exact mul_nz h0 h8 (top_nz h0 h8 ha hn) (top_nz h0 h8 hb hm)
theorem mulL_full {f : Int} (h0 : 0 ≤ f) (h8 : f ≤ 8) {a b : List Int} (ha : Pol f a) (hb : Pol f b) (hn : a.length ≠ 0) (hm : b.length ≠ 0) : cutN (fun k => RS (cv k (lf a) (lf b)) (P f)) (a.length + b.length - 1) = a.length + b.length - 1 :=
  cutN_full (.inr (mul_top h0 h8 ha hb hn hm))
theorem mulL_len {f : Int} (h0 : 0 ≤ f) (h8 : f ≤ 8) {a b : List Int} (ha : Pol f a) (hb : Pol f b) (hn : a.length ≠ 0) (hm : b.length ≠ 0) : (mulL f a b).length = a.length + b.length - 1 := by
  unfold mulL; rw [cutL_len]; exact mulL_full h0 h8 ha hb hn hm
theorem mulL_le (f : Int) (a b : List Int) : (mulL f a b).length ≤ a.length + b.length - 1 := by unfold mulL; rw [cutL_len]; exact cutN_le _ _
theorem addL_le (f : Int) (a b : List Int) : (addL f a b).length ≤ max a.length b.length := by unfold addL; rw [cutL_len]; exact cutN_le _ _
theorem scaleL_le (f : Int) (a : List Int) (c : Int) : (scaleL f a c).length ≤ a.length := by unfold scaleL; rw [cutL_len]; exact cutN_le _ _
/-- Powers of series. -/
def oneS : Nat → Int := fun j => if j = 0 then 1 else 0
def powS (A : Nat → Int) : Nat → (Nat → Int)
  | 0 => oneS
  | k + 1 => mulS (powS A k) A
theorem FinS.one : FinS oneS := ⟨1, fun j hj => by unfold oneS; rw [if_neg (by omega)]⟩
theorem FinS.pow {A : Nat → Int} (h : FinS A) (k : Nat) : FinS (powS A k) := by
  induction k with
  | zero => exact FinS.one
  | succ k ih => exact ih.mul h
theorem one_mul (A : Nat → Int) : mulS oneS A = A := by
  funext k
  show cv k oneS A = A k
  have := cv_mono k 0 1 A
  rw [if_pos (Nat.zero_le _), Int.one_mul, Nat.sub_zero] at this
  exact this
theorem mul_commS (A B : Nat → Int) : mulS A B = mulS B A := funext fun k => cv_comm k A B
theorem mul_assocS (A B C : Nat → Int) : mulS (mulS A B) C = mulS A (mulS B C) := funext fun k => cv_assoc k A B C
theorem pow_addS (A : Nat → Int) (m n : Nat) : powS A (m + n) = mulS (powS A m) (powS A n) := by
  induction n with
  | zero => show powS A m = mulS (powS A m) oneS; rw [mul_commS, one_mul]
  | succ n ih => show mulS (powS A (m + n)) A = mulS (powS A m) (mulS (powS A n) A); rw [ih, mul_assocS]
/-- The state of the loop: r s^e is a^e0, modulo m. -/
def PowAt (f : Int) (m : List Int) (A : Nat → Int) (e0 e : Nat) (r s : List Int) : Prop := (Pol f r ∧ r.length < m.length) ∧ (Pol f s ∧ s.length < m.length) ∧ Cg f m (mulS (lf r) (powS (lf s) e)) (powS A e0)
theorem Cg.pow {f : Int} {b : List Int} {A A' : Nat → Int} (hA : FinS A) (hA' : FinS A') (h : Cg f b A A') (k : Nat) : Cg f b (powS A k) (powS A' k) := by
  induction k with
  | zero => exact Cg.refl
  | succ k ih => exact Cg.mul (hA'.pow k) hA ih h
theorem lf_mulL_cg (f : Int) (m a b : List Int) : Cg f m (lf (mulL f a b)) (mulS (lf a) (lf b)) := Cg.of fun j => by rw [lf_mulL]; simp [mulS]
/-- a^e modulo m. -/
def IsPow (f : Int) (a : List Int) (e : Nat) (m r : List Int) : Prop := IsRem f (powS (lf a) e) m r
theorem PowAt.last {f : Int} {m r s a : List Int} {e0 : Nat} (h : PowAt f m (lf a) e0 0 r s) : IsPow f a e0 m r := by
  obtain ⟨h1, h2, h3⟩ := h
  refine ⟨h1.1, h1.2, ?_⟩
  have e : mulS (lf r) (powS (lf s) 0) = lf r := by show mulS (lf r) oneS = _; rw [mul_commS, one_mul]
  rw [e] at h3
  exact h3.symm
theorem PowAt.first {f : Int} {m r s a : List Int} {e0 : Nat} (hr : IsRem f oneS m r) (hs : IsRem f (lf a) m s) : PowAt f m (lf a) e0 e0 r s := by
  refine ⟨⟨hr.1, hr.2.1⟩, ⟨hs.1, hs.2.1⟩, ?_⟩
  have := Cg.mul FinS.one ((FinS.lf s).pow e0) hr.2.2.symm (Cg.pow (FinS.lf s) (FinS.lf a) hs.2.2.symm e0)
  rw [one_mul] at this
  exact this
theorem IsPow.unique {f : Int} (h0 : 0 ≤ f) (h8 : f ≤ 8) {a m r r' : List Int} {e : Nat} (hm : Pol f m) (h : IsPow f a e m r) (k : IsPow f a e m r') : r = r' := IsRem.unique h0 h8 hm h k Cg.refl
/-- One more factor. -/
theorem IsPow.succ {f : Int} (h0 : 0 ≤ f) (h8 : f ≤ 8) {a m x y r : List Int} {e : Nat} (hm : Pol f m) (hx : IsPow f a e m x) (hy : IsPow f a (e + 1) m y) (hr : IsRem f (lf (mulL f x a)) m r) : r = y := by
  refine IsRem.unique h0 h8 hm hr hy ?_
  refine (lf_mulL_cg f m x a).trans ?_
  show Cg f m _ (mulS (powS (lf a) e) (lf a))
  exact Cg.mul ((FinS.lf a).pow e) (FinS.lf a) hx.2.2.symm Cg.refl

/-- Values. -/
def evN (x : Int) (A : Nat → Int) (n : Nat) : Int := sumN (fun i => A i * x ^ i) n
theorem sumN_mul (c : Int) (g : Nat → Int) (n : Nat) : sumN (fun i => c * g i) n = c * sumN g n := by
  induction n with
  | zero => simp [sumN]
  | succ n ih => rw [sumN, sumN, ih, Int.mul_add]
theorem sumN_add (g h : Nat → Int) (n : Nat) : sumN (fun i => g i + h i) n = sumN g n + sumN h n := by
  induction n with
  | zero => simp [sumN]
  | succ n ih => rw [sumN, sumN, sumN, ih]; omega
theorem evN_succ (x : Int) (A : Nat → Int) (n : Nat) : evN x A (n + 1) = A 0 + x * evN x (tl A) n := by
  unfold evN
  rw [sumN_first]
  congr 1
  · simp
  · rw [← sumN_mul]
    exact sumN_congr fun i _ => by rw [Int.pow_succ]; show A (i + 1) * (x ^ i * x) = x * (A (i + 1) * x ^ i); rw [← Int.mul_assoc, Int.mul_comm]
theorem evN_more {x : Int} {A : Nat → Int} {n m : Nat} (hnm : n ≤ m) (h : ∀ j, n ≤ j → A j = 0) : evN x A m = evN x A n := sumN_more hnm fun i hi _ => by rw [h i hi, Int.zero_mul]
theorem evN_add (x : Int) (A B : Nat → Int) (n : Nat) : evN x (fun j => A j + B j) n = evN x A n + evN x B n := by
  unfold evN
  rw [← sumN_add]
  exact sumN_congr fun i _ => Int.add_mul _ _ _
theorem evN_smul (x c : Int) (A : Nat → Int) (n : Nat) : evN x (fun j => c * A j) n = c * evN x A n := by
  unfold evN
  rw [← sumN_mul]
  exact sumN_congr fun i _ => Int.mul_assoc _ _ _
theorem evN_mul (x : Int) (B : Nat → Int) (m : Nat) (hB : ∀ j, m ≤ j → B j = 0) : ∀ (n : Nat) (A : Nat → Int), (∀ j, n ≤ j → A j = 0) → evN x (mulS A B) (n + m) = evN x A n * evN x B m := by
  intro n
  induction n with
  | zero =>
    intro A hA
    have e : ∀ j, 0 ≤ j → mulS A B j = 0 := fun j _ => cv_zero_l fun i _ => hA i (Nat.zero_le _)
    rw [evN_more (n := 0) (Nat.zero_le _) e]
    simp [evN, sumN]
  | succ n ih =>
    intro A hA
    rw [show n + 1 + m = (n + m) + 1 by omega, evN_succ, evN_succ x A n]
    have e : tl (mulS A B) = fun j => A 0 * tl B j + mulS (tl A) B j := rfl
    rw [e, evN_add, evN_smul, ih (tl A) (fun j hj => hA (j + 1) (by omega))]
    have e2 : evN x B m = B 0 + x * evN x (tl B) (n + m) := by rw [← evN_succ]; exact (evN_more (by omega) hB).symm
    have e3 : mulS A B 0 = A 0 * B 0 := rfl
    rw [e3]
    conv => rhs; rw [Int.add_mul]
    have e4 : A 0 * evN x B m = A 0 * B 0 + A 0 * (x * evN x (tl B) (n + m)) := by rw [e2, Int.mul_add]
    rw [e4]
    have e5 : x * (A 0 * evN x (tl B) (n + m) + evN x (tl A) n * evN x B m) = A 0 * (x * evN x (tl B) (n + m)) + x * evN x (tl A) n * evN x B m := by
      rw [Int.mul_add, Int.mul_left_comm, Int.mul_assoc]
    omega
theorem evN_mod {p : Int} {x y : Int} {A B : Nat → Int} (n : Nat) (hx : x % p = y % p) (h : ∀ j, A j % p = B j % p) : evN x A n % p = evN y B n % p := by
  have hpow : ∀ i : Nat, x ^ i % p = y ^ i % p := fun i => by
    induction i with
    | zero => rw [Int.pow_zero, Int.pow_zero]
    | succ i ih => rw [Int.pow_succ, Int.pow_succ]; exact emod_mul_congr ih hx
  unfold evN
  induction n with
  | zero => rfl
  | succ n ih => rw [sumN, sumN]; exact emod_add_congr ih (emod_mul_congr (h n) (hpow n))
def evL (f x : Int) (a : List Int) : Int := RS (evN x (lf a) a.length) (P f)
theorem evL_mul (f x : Int) (a b : List Int) : evL f x (mulL f a b) = RS (evL f x a * evL f x b) (P f) := by
  unfold evL RS
  have h1 : evN x (lf (mulL f a b)) (mulL f a b).length = evN x (lf (mulL f a b)) (a.length + b.length) := by
    have := mulL_le f a b
    exact (evN_more (by omega) (fun j hj => lf_out _ hj)).symm
  rw [h1, evN_mod (p := P f) (y := x) (B := mulS (lf a) (lf b)) _ rfl (fun j => by rw [lf_mulL]; simp [mulS]), evN_mul x (lf b) b.length (fun j hj => lf_out _ hj) a.length (lf a) (fun j hj => lf_out _ hj)]
  exact (Int.mul_emod _ _ _)
theorem evL_add (f x : Int) (a b : List Int) : evL f x (addL f a b) = RS (evL f x a + evL f x b) (P f) := by
  unfold evL RS
  have h1 : evN x (lf (addL f a b)) (addL f a b).length = evN x (lf (addL f a b)) (a.length + b.length) := by
    have := addL_le f a b
    exact (evN_more (by omega) (fun j hj => lf_out _ hj)).symm
  rw [h1, evN_mod (p := P f) (y := x) (B := fun j => lf a j + lf b j) _ rfl (fun j => by rw [lf_addL]; simp), evN_add, evN_more (n := a.length) (by omega) (fun j hj => lf_out _ hj), evN_more (n := b.length) (m := a.length + b.length) (by omega) (fun j hj => lf_out _ hj)]
  exact (Int.add_emod _ _ _)
end Go.Proofs.Ytangofjpnhhfeaa
namespace Go.Proofs.Ytangofjpnhhfeaa
open Go.RowKit
/-- A list in memory of its own, made at B or later: nil, or a whole block. -/
def OwnA (w : World) (B : Nat) (a : Option Addr) (l : List Int) (cap : Nat) : Prop :=
  (a = none ∧ cap = 0 ∧ l.length = 0) ∨ ∃ g, a = some ⟨g, 0, none⟩ ∧ cap = l.length ∧ B ≤ g ∧ Own w g l.length (lf l)
theorem OwnA.src {w : World} {B : Nat} {a : Option Addr} {l : List Int} {cap : Nat} (h : OwnA w B a l cap) : Src w a l.length (lf l) := by
  rcases h with ⟨_, _, h⟩ | ⟨g, rfl, _, _, h⟩
  · exact .inl h
  · exact h.src
theorem OwnA.keep {w w' : World} {B : Nat} {a : Option Addr} {l : List Int} {cap : Nat} (h : OwnA w B a l cap) (hb : Below w.heap.size w w') : OwnA w' B a l cap := by
  rcases h with h | ⟨g, h1, h2, h3, h4⟩
  · exact .inl h
  · exact .inr ⟨g, h1, h2, h3, h4.keep hb⟩
/-- Its block, if it has one, lies below B. -/
def Lies (a : Option Addr) (B : Nat) : Prop := ∀ x, a = some x → x.block < B
theorem OwnA.lies {w : World} {B : Nat} {a : Option Addr} {l : List Int} {cap : Nat} (h : OwnA w B a l cap) : Lies a w.heap.size := by
  intro x hx
  rcases h with ⟨h1, _⟩ | ⟨g, h1, _, _, h4⟩
  · rw [h1] at hx; cases hx
  · rw [h1] at hx; cases hx; exact h4.lt
theorem Lies.mono {a : Option Addr} {B B' : Nat} (h : Lies a B) (hB : B ≤ B') : Lies a B' := fun x hx => Nat.lt_of_lt_of_le (h x hx) hB
/-- The world has grown, and written at most into the block of a. -/
def Grow (w w' : World) (a : Option Addr) : Prop := w = w' ∨ ∃ g, a = some ⟨g, 0, none⟩ ∧ w.grownBy w' (some g)
theorem Grow.below {u w w' : World} {B0 B cap : Nat} {a : Option Addr} {l : List Int} (hg : Grow w w' a) (ho : OwnA w B a l cap) (hB : B0 ≤ B) (hb : Below B0 u w) (hs : B0 ≤ w.heap.size) : Below B0 u w' := by
  rcases hg with rfl | ⟨g, rfl, hg⟩
  · exact hb
  · rcases ho with ⟨h, _⟩ | ⟨g2, h1, h2, h3, h4⟩
    · cases h
    · cases h1
      exact hb.grown hg hs (fun k hk => by injection hk with hk; omega)
theorem Grow.size {w w' : World} {a : Option Addr} (hg : Grow w w' a) : w.heap.size ≤ w'.heap.size := by
  rcases hg with rfl | ⟨g, rfl, hg⟩
  · exact Nat.le_refl _
  · exact hg.size
def ListL (w : World) (l : List Int) (e : Ending) (w' : World) : Prop := ∃ a cap, e = .returned (.slice a l.length cap) ∧ Src w' a l.length (lf l) ∧ Below w.heap.size w w'
def OwnL (w : World) (l : List Int) (e : Ending) (w' : World) : Prop := ∃ a cap, e = .returned (.slice a l.length cap) ∧ OwnA w' w.heap.size a l cap ∧ Below w.heap.size w w'
theorem OwnL.list {w w' : World} {l : List Int} {e : Ending} (h : OwnL w l e w') : ListL w l e w' := by
  obtain ⟨a, cap, h1, h2, h3⟩ := h
  exact ⟨a, cap, h1, h2.src, h3⟩
theorem OwnL.of_copy {w w' : World} {l : List Int} {e : Ending} (h : CopyP w l.length (lf l) e w') : OwnL w l e w' := by
  obtain ⟨h1, h2, h3⟩ := h
  exact ⟨_, _, h1, .inr ⟨_, rfl, rfl, Nat.le_refl _, h2⟩, h3⟩
/-- A mark in a block that lies further on leaves it. -/
theorem OwnA.before {w w' : World} {B B2 cap cap2 : Nat} {a a2 : Option Addr} {l l2 : List Int} (h : OwnA w B a l cap) (hg : Grow w w' a2) (h2 : OwnA w B2 a2 l2 cap2) (hl : Lies a B2) : OwnA w' B a l cap := by
  rcases hg with rfl | ⟨g, rfl, hg⟩
  · exact h
  · rcases h with h | ⟨g1, rfl, h12, h13, h14⟩
    · exact .inl h
    · rcases h2 with ⟨h2, _⟩ | ⟨g2, h21, h22, h23, h24⟩
      · cases h2
      · cases h21
        have : g1 < B2 := hl _ rfl
        refine .inr ⟨g1, rfl, h12, h13, World.rowIs.of_block h14 (hg.block g1 h14.lt (fun e => ?_))⟩
        injection e with e
        omega
def ListLB (w : World) (l : List Int) (b : Bool) (e : Ending) (w' : World) : Prop := ∃ a cap, e = .returned (.tuple #[.slice a l.length cap, .bool b]) ∧ Src w' a l.length (lf l) ∧ Below w.heap.size w w'
def OwnLB (w : World) (l : List Int) (b : Bool) (e : Ending) (w' : World) : Prop := ∃ a cap, e = .returned (.tuple #[.slice a l.length cap, .bool b]) ∧ OwnA w' w.heap.size a l cap ∧ Below w.heap.size w w'
theorem OwnA.nil {w : World} {B : Nat} {l : List Int} (h : l.length = 0) : OwnA w B none l 0 := .inl ⟨rfl, rfl, h⟩
theorem own_congr {w : World} {g n m : Nat} {F G : Nat → Int} (h : Own w g n F) (hn : n = m) (e : ∀ j, j < n → F j = G j) : Own w g m G := by
  subst hn
  exact World.rowIs.congr h fun j hj => by rw [e j hj]
/-- A block of n integers is the list of its first n. -/
theorem OwnA.of {w : World} {g n B : Nat} {F : Nat → Int} {l : List Int} (h : Own w g n F) (hn : n = l.length) (hB : B ≤ g) (e : ∀ j, j < n → F j = lf l j) : OwnA w B (some ⟨g, 0, none⟩) l n :=
  .inr ⟨g, rfl, hn, hB, own_congr h hn e⟩
theorem below_up {B : Nat} {a w w' : World} (h : Below B a w) (h2 : Below w.heap.size w w') (hB : B ≤ w.heap.size) : Below B a w' := h.trans (h2.mono hB)
theorem toInt_l (a : Option Addr) (l : List Int) (cap : Nat) (w : World) (hn : l.length ≤ 1048576) (hs : Src w a l.length (lf l)) : Calls Try.prog 5 #[.slice a l.length cap] w (OwnL w l) :=
  (toInt_c a l.length cap (lf l) w hn hs).mono fun _ _ h => OwnL.of_copy h
theorem eq_l (a a2 : Option Addr) (l : List Int) (cap cap2 : Nat) (w : World) (hn : l.length ≤ 1048576) (hs : Src w a l.length (lf l)) (hs2 : Src w a2 l.length (lf l)) : Calls Try.prog 7 #[.slice a l.length cap, .slice a2 l.length cap2] w (TrueP w) :=
  eq_c a a2 l.length cap cap2 (lf l) w hn hs hs2
/-- The row of a law's argument. -/
theorem row_list {w : World} {a : Option Addr} {len cap : Nat} {zs : List Int} (h : IsRow .i64 w a len cap zs) : ∃ l : List Int, l.length = len ∧ Src w a l.length (lf l) := by
  refine ⟨tab len (fun j => zs.getD j 0), tab_len _ _, ?_⟩
  have hs := src_of_row h
  rw [tab_len]
  refine hs.imp id ?_
  rintro ⟨b, off, e, hlt, hc⟩
  exact ⟨b, off, e, hlt, fun j hj => by rw [hc j hj, lf_tab, if_pos hj]⟩
end Go.Proofs.Ytangofjpnhhfeaa
namespace Go.Proofs.Ytangofjpnhhfeaa
open Mth
def Dv (f : Int) (g : List Int) (A : Nat → Int) : Prop := Cg f g A (fun _ => 0)
theorem Dv.zero {f : Int} (_h0 : 0 ≤ f) (_h8 : f ≤ 8) {g : List Int} {A : Nat → Int} (h : ∀ j, A j = 0) : Dv f g A := Cg.of fun j => by rw [h j]
end Go.Proofs.Ytangofjpnhhfeaa
namespace Go.Proofs.Ytangofjpnhhfeaa
open Mth

section
open Classical
end
theorem cutL_le (n : Nat) (F : Nat → Int) : (cutL n F).length ≤ n := by rw [cutL_len]; exact cutN_le _ _
end Go.Proofs.Ytangofjpnhhfeaa
namespace Go.Proofs.Ytangofjpnhhfeaa
open Go.RowKit
/-- A list in a new block of its very size. -/
def OwnG (w : World) (l : List Int) (e : Ending) (w' : World) : Prop := ∃ g, e = .returned (.slice (some ⟨g, 0, none⟩) l.length l.length) ∧ w.heap.size ≤ g ∧ Own w' g l.length (lf l) ∧ Below w.heap.size w w'
theorem OwnG.own {w w' : World} {l : List Int} {e : Ending} (h : OwnG w l e w') : OwnL w l e w' := by
  obtain ⟨g, rfl, hg, ho, hb⟩ := h
  exact ⟨_, _, rfl, .inr ⟨g, rfl, rfl, hg, ho⟩, hb⟩
end Go.Proofs.Ytangofjpnhhfeaa
namespace Go.Proofs.Ytangofjpnhhfeaa
open Go.RowKit
theorem src_of_owns2 {w' : World} {base : Nat} {v : Value} {n : Nat} {F : Nat → Int} (h : w'.ownsRow base 3 1 v n (xsF F n)) : ∃ a cap, v = .slice a n cap ∧ n ≤ cap ∧ Src w' a n F := by
  obtain ⟨a, cap, hv, hs⟩ := src_of_owns h
  refine ⟨a, cap, hv, ?_, hs⟩
  obtain ⟨hl, h⟩ := h
  rcases h with ⟨h1, h2⟩ | ⟨g, cap', cur, h1, hg, hh, hc, hm, hs, ht⟩
  · rw [hv] at h1; cases h1; exact Nat.le_refl _
  · rw [hv] at h1; cases h1; exact hc
/-- A list that the call made, in a row of its own that may have room. -/
def OwnsL (w : World) (l : List Int) (e : Ending) (w' : World) : Prop := ∃ v, e = .returned v ∧ w'.ownsRow w.heap.size 3 1 v l.length (xsF (lf l) l.length) ∧ Below w.heap.size w w'
theorem OwnsL.list {w w' : World} {l : List Int} {e : Ending} (h : OwnsL w l e w') : ListL w l e w' := by
  obtain ⟨v, rfl, ho, hb⟩ := h
  obtain ⟨a, cap, rfl, _, hs⟩ := src_of_owns2 ho
  exact ⟨a, cap, rfl, hs, hb⟩
theorem owns_to {w w' : World} {n : Nat} {F : Nat → Int} {l : List Int} {v : Value} (h : w'.ownsRow w.heap.size 3 1 v n (xsF F n)) (hn : n = l.length) (e : ∀ j, j < n → F j = lf l j) (hb : Below w.heap.size w w') : OwnsL w l (.returned v) w' := by
  subst hn
  exact ⟨v, rfl, by rw [← xsF_congr e]; exact h, hb⟩
end Go.Proofs.Ytangofjpnhhfeaa
namespace Go.Proofs.Ytangofjpnhhfeaa
open Go.RowKit
def NilP (w : World) (e : Ending) (w' : World) : Prop := e = .returned (.slice none 0 0) ∧ Below w.heap.size w w'
theorem NilP.list {w w' : World} {l : List Int} {e : Ending} (hl : l = []) (h : NilP w e w') : ListL w l e w' := by
  subst hl
  obtain ⟨rfl, hb⟩ := h
  exact ⟨none, 0, rfl, .inl rfl, hb⟩
theorem NilP.own {w w' : World} {l : List Int} {e : Ending} (hl : l = []) (h : NilP w e w') : OwnL w l e w' := by
  subst hl
  obtain ⟨rfl, hb⟩ := h
  exact ⟨none, 0, rfl, OwnA.nil rfl, hb⟩
end Go.Proofs.Ytangofjpnhhfeaa
namespace Go.Proofs.Ytangofjpnhhfeaa
open Go.RowKit
def NilB (w : World) (e : Ending) (w' : World) : Prop := e = .returned (.tuple #[.slice none 0 0, .bool false]) ∧ Below w.heap.size w w'
theorem NilB.list {w w' : World} {l : List Int} {b : Bool} {e : Ending} (hl : l = []) (hb : b = false) (h : NilB w e w') : ListLB w l b e w' := by
  subst hl; subst hb
  obtain ⟨rfl, hb⟩ := h
  exact ⟨none, 0, rfl, .inl rfl, hb⟩
theorem NilB.own {w w' : World} {l : List Int} {b : Bool} {e : Ending} (hl : l = []) (hb : b = false) (h : NilB w e w') : OwnLB w l b e w' := by
  subst hl; subst hb
  obtain ⟨rfl, hb⟩ := h
  exact ⟨none, 0, rfl, OwnA.nil rfl, hb⟩
/-- Horner's sums. -/
def hz (f x : Int) (A : Nat → Int) (n : Nat) : Nat → Int
  | 0 => 0
  | t + 1 => RS (RS (hz f x A n t * x) (P f) + A (n - (t + 1))) (P f)
end Go.Proofs.Ytangofjpnhhfeaa
namespace Go.Proofs.Ytangofjpnhhfeaa
open Go.RowKit
def upd (Q : Nat → Int) (s : Nat) (m : Int) : Nat → Int := fun j => if j = s then m else Q j
end Go.Proofs.Ytangofjpnhhfeaa
namespace Go.Proofs.Ytangofjpnhhfeaa
open Go.RowKit
/-- A row with room: the first n cells are known. -/
def OwnV (w : World) (g n cap : Nat) (F : Nat → Int) : Prop := ∃ V, w.rowIs g 3 cap V ∧ n ≤ cap ∧ ∀ j, j < n → V j = .int .i64 (F j)
theorem OwnV.cell {w : World} {g n cap : Nat} {F : Nat → Int} (h : OwnV w g n cap F) {j : Nat} (hj : j < n) : w.cell? ⟨g, j, none⟩ = some (.int .i64 (F j)) := by
  obtain ⟨V, h1, h2, h3⟩ := h
  rw [← h3 j hj]
  exact World.rowIs.cell h1 (by omega)
theorem OwnV.frozen {w : World} {g n cap : Nat} {F : Nat → Int} (h : OwnV w g n cap F) (j : Nat) : w.frozen? ⟨g, j, none⟩ = false := by
  obtain ⟨V, h1, h2, h3⟩ := h
  exact World.rowIs.frozen h1 j
theorem OwnV.lt {w : World} {g n cap : Nat} {F : Nat → Int} (h : OwnV w g n cap F) : g < w.heap.size := by
  obtain ⟨V, h1, _⟩ := h
  exact World.rowIs.lt h1
theorem OwnV.set {w : World} {g n cap s : Nat} {F : Nat → Int} {x : Int} (h : OwnV w g n cap F) : OwnV (w.setCell ⟨g, s, none⟩ (.int .i64 x)) g n cap (upd F s x) := by
  obtain ⟨V, h1, h2, h3⟩ := h
  refine ⟨_, World.rowIs.set h1 s (.int .i64 x), h2, fun j hj => ?_⟩
  unfold upd
  by_cases e : j = s
  · simp [e]
  · simp [e, h3 j hj]
theorem OwnV.other {w : World} {g g2 n cap s : Nat} {F : Nat → Int} {v : Value} (h : OwnV w g n cap F) (hne : g ≠ g2) : OwnV (w.setCell ⟨g2, s, none⟩ v) g n cap F := by
  obtain ⟨V, h1, h2, h3⟩ := h
  exact ⟨V, World.rowIs.setOther h1 (a := ⟨g2, s, none⟩) hne v, h2, h3⟩
theorem OwnV.keep {w w' : World} {g n cap : Nat} {F : Nat → Int} (h : OwnV w g n cap F) (hb : Below w.heap.size w w') : OwnV w' g n cap F := by
  obtain ⟨V, h1, h2, h3⟩ := h
  exact ⟨V, World.rowIs.of_block h1 (hb.block g (World.rowIs.lt h1)), h2, h3⟩
theorem OwnV.congr {w : World} {g n cap : Nat} {F G : Nat → Int} (h : OwnV w g n cap F) (e : ∀ j, j < n → F j = G j) : OwnV w g n cap G := by
  obtain ⟨V, h1, h2, h3⟩ := h
  exact ⟨V, h1, h2, fun j hj => by rw [h3 j hj, e j hj]⟩
theorem OwnV.src {w : World} {g n cap : Nat} {F : Nat → Int} (h : OwnV w g n cap F) : Src w (some ⟨g, 0, none⟩) n F :=
  .inr ⟨g, 0, rfl, h.lt, fun j hj => by rw [Nat.zero_add]; exact h.cell hj⟩
theorem OwnV.of_owns {w : World} {base n : Nat} {v : Value} {F : Nat → Int} (h : w.ownsRow base 3 1 v n (xsF F n)) (hn : n ≠ 0) : ∃ g cap, v = .slice (some ⟨g, 0, none⟩) n cap ∧ base ≤ g ∧ OwnV w g n cap F := by
  obtain ⟨hl, h⟩ := h
  rcases h with ⟨h1, h2⟩ | ⟨g, cap, cur, h1, hg, hh, hc, hm, hs, ht⟩
  · exact absurd h2 hn
  · refine ⟨g, cap, h1, hg, fun j => (cur[j]?).getD .nilIface, ⟨cur, hh, by omega, fun j hj => ?_⟩, hc, fun j hj => ?_⟩
    · have : j < cur.size := by omega
      simp [this]
    · have hx : (xsF F n)[j]? = some (.int .i64 (F j)) := by simp [xsF, hj]
      rw [← ht, List.getElem?_take_of_lt (by omega)] at hx
      have : cur[j]? = some (.int .i64 (F j)) := by simpa using hx
      show (cur[j]?).getD .nilIface = _
      rw [this]; rfl
end Go.Proofs.Ytangofjpnhhfeaa
namespace Go.Proofs.Ytangofjpnhhfeaa
open Mth
/-- Field f has a root of order 2^k. -/
def hasK (f k : Int) : Prop := (0 ≤ f ∧ f ≤ 8) ∧ 0 ≤ k ∧ k ≤ T f
instance (f k : Int) : Decidable (hasK f k) := inferInstanceAs (Decidable ((0 ≤ f ∧ f ≤ 8) ∧ 0 ≤ k ∧ k ≤ T f))
theorem hasK_iff (f k : Int) : hasK f k ↔ 0 ≤ k ∧ k ≤ T f := by
  constructor
  · exact fun h => h.2
  · intro h
    refine ⟨?_, h⟩
    by_cases hf : 0 ≤ f ∧ f ≤ 8
    · exact hf
    · have := T_off (f := f) (by omega); omega
/-- Logarithms. -/
def mLog (n : Int) : Int := if n = 1 then 0 else if n = 2 then 1 else if n = 4 then 2 else if n = 8 then 3 else if n = 16 then 4 else if n = 32 then 5 else if n = 64 then 6 else if n = 128 then 7 else if n = 256 then 8 else if n = 512 then 9 else -1
theorem ten {k : Nat} (h : k ≤ 9) : k = 0 ∨ k = 1 ∨ k = 2 ∨ k = 3 ∨ k = 4 ∨ k = 5 ∨ k = 6 ∨ k = 7 ∨ k = 8 ∨ k = 9 := by omega
theorem log_at {k : Nat} (h : k ≤ 9) : mLog (2 ^ k) = k := by
  rcases ten h with rfl | rfl | rfl | rfl | rfl | rfl | rfl | rfl | rfl | rfl <;> decide
theorem log_off {n : Int} (h : ∀ k : Nat, k ≤ 9 → n ≠ 2 ^ k) : mLog n = -1 := by
  have h0 := h 0 (by omega); have h1 := h 1 (by omega); have h2 := h 2 (by omega); have h3 := h 3 (by omega); have h4 := h 4 (by omega)
  have h5 := h 5 (by omega); have h6 := h 6 (by omega); have h7 := h 7 (by omega); have h8 := h 8 (by omega); have h9 := h 9 (by omega)
  simp at h0 h1 h2 h3 h4 h5 h6 h7 h8 h9
  simp [mLog, h0, h1, h2, h3, h4, h5, h6, h7, h8, h9]
theorem log_cases (n : Int) : (∃ k : Nat, k ≤ 9 ∧ n = 2 ^ k ∧ mLog n = k) ∨ ((∀ k : Nat, k ≤ 9 → n ≠ 2 ^ k) ∧ mLog n = -1) := by
  by_cases h : ∃ k : Nat, k ≤ 9 ∧ n = 2 ^ k
  · obtain ⟨k, hk, rfl⟩ := h
    exact .inl ⟨k, hk, rfl, log_at hk⟩
  · have h2 : ∀ k : Nat, k ≤ 9 → n ≠ 2 ^ k := fun k hk e => h ⟨k, hk, e⟩
    exact .inr ⟨h2, log_off h2⟩
/-- The first j bits of x, the lowest first. -/
def rv (x : Nat) : Nat → Nat
  | 0 => 0
  | j + 1 => 2 * rv x j + x / 2 ^ j % 2
end Go.Proofs.Ytangofjpnhhfeaa
namespace Go.Proofs.Ytangofjpnhhfeaa
open Mth
theorem sumN_mod {p : Int} {f g : Nat → Int} {n : Nat} (h : ∀ i, i < n → f i % p = g i % p) : sumN f n % p = sumN g n % p := by
  induction n with
  | zero => rfl
  | succ n ih => rw [sumN, sumN]; exact emod_add_congr (ih fun i hi => h i (by omega)) (h n (by omega))
theorem one_p {f : Int} (h0 : 0 ≤ f) (h8 : f ≤ 8) : (1 : Int) % P f = 1 := by
  have := P_bd h0 h8
  exact Int.emod_eq_of_lt (by omega) (by omega)
/-- w is a root of order n in field f, v its inverse. -/
structure Rt (f : Int) (w v : Int) (n : Nat) : Prop where
  h0 : 0 ≤ f
  h8 : f ≤ 8
  n0 : 0 < n
  ord : ∀ m, w ^ m % P f = 1 % P f ↔ n ∣ m
  inv : (w * v) % P f = 1 % P f
theorem Rt.full {f w v : Int} {n : Nat} (h : Rt f w v n) : w ^ n % P f = 1 % P f := (h.ord n).2 (Nat.dvd_refl n)
/-- The transform, unreduced. -/
def ftF (w : Int) (n : Nat) (A : Nat → Int) (i : Nat) : Int := sumN (fun j => A j * w ^ (i * j)) n
end Go.Proofs.Ytangofjpnhhfeaa
namespace Go.Proofs.Ytangofjpnhhfeaa
/-- The first n coefficients agree modulo p. -/
def EqN (p : Int) (n : Nat) (A B : Nat → Int) : Prop := ∀ i, i < n → A i % p = B i % p
theorem EqN.refl (p : Int) (n : Nat) (A : Nat → Int) : EqN p n A A := fun _ _ => rfl
theorem EqN.symm {p : Int} {n : Nat} {A B : Nat → Int} (h : EqN p n A B) : EqN p n B A := fun i hi => (h i hi).symm
theorem EqN.trans {p : Int} {n : Nat} {A B C : Nat → Int} (h : EqN p n A B) (k : EqN p n B C) : EqN p n A C := fun i hi => (h i hi).trans (k i hi)
theorem EqN.mono {p : Int} {n m : Nat} {A B : Nat → Int} (h : EqN p n A B) (hm : m ≤ n) : EqN p m A B := fun i hi => h i (by omega)
theorem EqN.mul {p : Int} {n : Nat} {A A' B B' : Nat → Int} (h : EqN p n A A') (k : EqN p n B B') : EqN p n (mulS A B) (mulS A' B') := fun i hi => by
  show cv i A B % p = cv i A' B' % p
  rw [cv_sum, cv_sum]
  exact sumN_mod fun j hj => emod_mul_congr (h j (by omega)) (k (i - j) (by omega))
def addS (A B : Nat → Int) : Nat → Int := fun j => A j + B j
theorem EqN.add {p : Int} {n : Nat} {A A' B B' : Nat → Int} (h : EqN p n A A') (k : EqN p n B B') : EqN p n (addS A B) (addS A' B') := fun i hi => emod_add_congr (h i hi) (k i hi)
theorem add_mulS (A B C : Nat → Int) : mulS (addS A B) C = addS (mulS A C) (mulS B C) := funext fun k => cv_add_l k A B C
/-- The coefficients times their places. -/
def thS (A : Nat → Int) : Nat → Int := fun i => (i : Int) * A i
theorem thS_mul (A B : Nat → Int) : thS (mulS A B) = addS (mulS (thS A) B) (mulS A (thS B)) := by
  funext k
  show (k : Int) * cv k A B = cv k (thS A) B + cv k A (thS B)
  rw [cv_sum, cv_sum, cv_sum, ← sumN_mul, ← sumN_add]
  exact sumN_congr fun i hi => by
    unfold thS
    have e : (k : Int) = (i : Int) + ((k - i : Nat) : Int) := by omega
    rw [e, Int.add_mul]
    congr 1
    · rw [Int.mul_assoc]
    · rw [← Int.mul_assoc, ← Int.mul_assoc, Int.mul_comm (A i)]
theorem thS_add (A B : Nat → Int) : thS (addS A B) = addS (thS A) (thS B) := funext fun _ => Int.mul_add _ _ _
theorem EqN.th {p : Int} {n : Nat} {A B : Nat → Int} (h : EqN p n A B) : EqN p n (thS A) (thS B) := fun i hi => emod_mul_congr rfl (h i hi)
/-- What does not vanish in a field can be cancelled. -/
theorem cancelF {f : Int} (h0 : 0 ≤ f) (h8 : f ≤ 8) {c x y : Int} (hc : c % P f ≠ 0) (h : (c * x) % P f = (c * y) % P f) : x % P f = y % P f := by
  have hz : RS c (P f) ≠ 0 := hc
  have hi := (inv_one h0 h8 hz).1
  obtain ⟨v, hv⟩ : ∃ v, mPower f c (-1) = v := ⟨_, rfl⟩
  rw [hv] at hi
  have e1 : (v * c) % P f = 1 % P f := by
    have h2 : (v * (c % P f)) % P f = 1 := hi
    rw [Int.mul_emod, Int.emod_emod_of_dvd c (Int.dvd_refl _), ← Int.mul_emod] at h2
    rw [h2, one_p h0 h8]
  have key : ∀ z : Int, (v * (c * z)) % P f = z % P f := fun z => by
    rw [← Int.mul_assoc, Int.mul_emod, e1, ← Int.mul_emod, Int.one_mul]
  rw [← key x, ← key y]
  exact emod_mul_congr rfl h
/-- Two series with one product by A, where A's first coefficient does not vanish. -/
theorem EqN.cancel {f : Int} (h0 : 0 ≤ f) (h8 : f ≤ 8) {n : Nat} {A B C : Nat → Int} (hA : A 0 % P f ≠ 0) (h : EqN (P f) n (mulS A B) (mulS A C)) : EqN (P f) n B C := by
  intro i
  induction i using Nat.strongRecOn with
  | ind i ih =>
    intro hi
    have hi2 := h i hi
    cases i with
    | zero => exact cancelF h0 h8 hA hi2
    | succ k =>
      have e1 : cv k (tl A) B % P f = cv k (tl A) C % P f := by
        rw [cv_sum, cv_sum]
        exact sumN_mod fun j hj => emod_mul_congr rfl (ih (k - j) (by omega) (by omega))
      have h2 : (A 0 * B (k + 1) + cv k (tl A) B) % P f = (A 0 * C (k + 1) + cv k (tl A) C) % P f := hi2
      have h3 : (A 0 * B (k + 1)) % P f = (A 0 * C (k + 1)) % P f := by
        rw [Int.emod_eq_emod_iff_emod_sub_eq_zero] at h2 e1 ⊢
        have e : A 0 * B (k + 1) + cv k (tl A) B - (A 0 * C (k + 1) + cv k (tl A) C) = (A 0 * B (k + 1) - A 0 * C (k + 1)) + (cv k (tl A) B - cv k (tl A) C) := by omega
        rw [e, Int.add_emod, e1, Int.add_zero, Int.emod_emod_of_dvd _ (Int.dvd_refl _)] at h2
        exact h2
      exact cancelF h0 h8 hA h3
/-- B is the inverse of A. -/
def IsInv (p : Int) (n : Nat) (A B : Nat → Int) : Prop := EqN p n (mulS A B) oneS
theorem IsInv.unique {p : Int} {n : Nat} {A B C : Nat → Int} (hB : IsInv p n A B) (hC : IsInv p n A C) : EqN p n B C := by
  have h1 : EqN p n (mulS B (mulS A C)) (mulS B oneS) := (EqN.refl p n B).mul hC
  have h2 : EqN p n (mulS (mulS A B) C) (mulS oneS C) := hB.mul (EqN.refl p n C)
  have e : mulS B (mulS A C) = mulS (mulS A B) C := by rw [← mul_assocS, mul_commS B A]
  rw [e, mul_commS B oneS, one_mul] at h1
  rw [one_mul] at h2
  exact h1.symm.trans h2
/-- The logarithm L and the series A that it is of. -/
def IsLog (p : Int) (n : Nat) (L A : Nat → Int) : Prop := EqN p n (thS A) (mulS (thS L) A)
/-- The logarithm of a product. -/
theorem IsLog.mul {p : Int} {n : Nat} {L M A B : Nat → Int} (hA : IsLog p n L A) (hB : IsLog p n M B) : IsLog p n (addS L M) (mulS A B) := by
  unfold IsLog at *
  rw [thS_mul, thS_add, add_mulS]
  refine EqN.add ?_ ?_
  · have := hA.mul (EqN.refl p n B)
    rwa [mul_assocS] at this
  · have := (EqN.refl p n A).mul hB
    rwa [← mul_assocS, mul_commS A (thS M), mul_assocS] at this
theorem IsInv.mul {p : Int} {n : Nat} {A B V W : Nat → Int} (hA : IsInv p n A V) (hB : IsInv p n B W) : IsInv p n (mulS A B) (mulS V W) := by
  unfold IsInv at *
  have e : mulS (mulS A B) (mulS V W) = mulS (mulS A V) (mulS B W) := by
    rw [mul_assocS, ← mul_assocS B V W, mul_commS B V, mul_assocS V B W, ← mul_assocS]
  rw [e]
  have := hA.mul hB
  rwa [one_mul] at this
/-- Powers. -/
theorem EqN.pow {p : Int} {n : Nat} {A B : Nat → Int} (h : EqN p n A B) : ∀ k : Nat, EqN p n (powS A k) (powS B k)
  | 0 => EqN.refl _ _ _
  | k + 1 => (EqN.pow h k).mul h
theorem pow_oneS (p : Int) (n : Nat) : ∀ k : Nat, EqN p n (powS oneS k) oneS
  | 0 => EqN.refl _ _ _
  | k + 1 => by
    have := (pow_oneS p n k).mul (EqN.refl p n oneS)
    rwa [one_mul] at this
theorem pow_mulS (A B : Nat → Int) : ∀ k : Nat, powS (mulS A B) k = mulS (powS A k) (powS B k)
  | 0 => (one_mul oneS).symm
  | k + 1 => by
    show mulS (powS (mulS A B) k) (mulS A B) = mulS (mulS (powS A k) A) (mulS (powS B k) B)
    rw [pow_mulS A B k, mul_assocS, mul_assocS, ← mul_assocS (powS B k) A B, mul_commS (powS B k) A, mul_assocS A (powS B k) B]
theorem IsInv.powers {p : Int} {n : Nat} {A V : Nat → Int} (h : IsInv p n A V) (k : Nat) : EqN p n (mulS (powS A k) (powS V k)) oneS := by
  rw [← pow_mulS]
  exact (EqN.pow h k).trans (pow_oneS p n k)
theorem IsInv.less {p : Int} {n : Nat} {A V : Nat → Int} (h : IsInv p n A V) (i k : Nat) : EqN p n (mulS (powS A (i + k)) (powS V k)) (powS A i) := by
  rw [pow_addS, mul_assocS]
  have := (EqN.refl p n (powS A i)).mul (h.powers k)
  rwa [mul_commS (powS A i) oneS, one_mul] at this
theorem IsInv.symm {p : Int} {n : Nat} {A V : Nat → Int} (h : IsInv p n A V) : IsInv p n V A := by
  unfold IsInv at *
  rwa [mul_commS]
end Go.Proofs.Ytangofjpnhhfeaa
namespace Go.Proofs.Ytangofjpnhhfeaa
/-- B starts with 1, and its square is A. -/
def IsSqrt (p : Int) (n : Nat) (B A : Nat → Int) : Prop := B 0 % p = 1 % p ∧ EqN p n (mulS B B) A
theorem two_ne {f : Int} (h0 : 0 ≤ f) (h8 : f ≤ 8) : (2 : Int) % P f ≠ 0 := by
  have h := P_bd h0 h8
  rw [Int.emod_eq_of_lt (by omega) (by omega)]
  omega
theorem IsSqrt.unique {f : Int} (h0 : 0 ≤ f) (h8 : f ≤ 8) {n : Nat} {A B C : Nat → Int} (hB : IsSqrt (P f) n B A) (hC : IsSqrt (P f) n C A) : EqN (P f) n B C := by
  have h1 := hB.2.trans hC.2.symm
  have hs : addS B C 0 % P f ≠ 0 := by
    have : (B 0 + C 0) % P f = (1 + 1) % P f := emod_add_congr hB.1 hC.1
    show (B 0 + C 0) % P f ≠ 0
    rw [this]
    exact two_ne h0 h8
  refine EqN.cancel h0 h8 hs ?_
  rw [add_mulS, add_mulS, mul_commS C B]
  intro i hi
  show (cv i B B + cv i B C) % P f = (cv i B C + cv i C C) % P f
  rw [Int.add_comm (cv i B C) (cv i C C)]
  exact emod_add_congr (h1 i hi) rfl
/-- S, signed, are what the identities ask of E (places from 1 on). -/
def sgnS (S : Nat → Int) : Nat → Int := fun k => if k = 0 then 0 else (-1) ^ (k - 1) * S (k - 1)
def IsNewt (p : Int) (n : Nat) (E S : Nat → Int) : Prop := EqN p (n + 1) (thS E) (mulS (sgnS S) E)
theorem pm_one : ∀ k : Nat, ((-1 : Int)) ^ k = 1 ∨ ((-1 : Int)) ^ k = -1
  | 0 => .inl rfl
  | k + 1 => by
    rw [Int.pow_succ]
    rcases pm_one k with h | h
    · exact .inr (by rw [h]; rfl)
    · exact .inl (by rw [h]; rfl)
theorem IsNewt.unique {f : Int} (h0 : 0 ≤ f) (h8 : f ≤ 8) {n : Nat} {E S T : Nat → Int} (hE : E 0 % P f ≠ 0) (hS : IsNewt (P f) n E S) (hT : IsNewt (P f) n E T) : EqN (P f) n S T := by
  have h1 : EqN (P f) (n + 1) (sgnS S) (sgnS T) := by
    have h2 := hS.symm.trans hT
    rw [mul_commS (sgnS S), mul_commS (sgnS T)] at h2
    exact h2.cancel h0 h8 hE
  intro i hi
  have h3 := h1 (i + 1) (by omega)
  have e : ∀ U : Nat → Int, sgnS U (i + 1) = (-1) ^ i * U i := fun U => rfl
  rw [e, e] at h3
  rcases pm_one i with h | h
  · rw [h, Int.one_mul, Int.one_mul] at h3; exact h3
  · rw [h] at h3
    have h4 : (-1 * (-1 * S i)) % P f = (-1 * (-1 * T i)) % P f := emod_mul_congr rfl h3
    rwa [← Int.mul_assoc, ← Int.mul_assoc, show (-1 : Int) * -1 = 1 by decide, Int.one_mul, Int.one_mul] at h4
end Go.Proofs.Ytangofjpnhhfeaa
namespace Go.Proofs.Ytangofjpnhhfeaa
def SerOk (f : Int) (l : List Int) : Prop := (0 ≤ f ∧ f ≤ 8) ∧ (1 ≤ l.length ∧ l.length ≤ 64) ∧ ∀ j, j < l.length → 0 ≤ lf l j ∧ lf l j < P f
/-- A list of n elements. -/
def Ser (f : Int) (n : Nat) (l : List Int) : Prop := l.length = n ∧ ∀ j, 0 ≤ lf l j ∧ lf l j < P f
open Classical in
noncomputable def theL (Q : List Int → Prop) : List Int := if h : ∃ l, Q l then Classical.choose h else []
theorem theL_eq {Q : List Int → Prop} {l : List Int} (hu : ∀ a b, Q a → Q b → a = b) (h : Q l) : theL Q = l := by
  have hex : ∃ l, Q l := ⟨l, h⟩
  unfold theL
  rw [dif_pos hex]
  exact hu _ _ (Classical.choose_spec hex) h
def ShortOk (f : Int) (a : List Int) : Prop := SerOk f a ∧ (a.length : Int) ≤ P f
end Go.Proofs.Ytangofjpnhhfeaa
namespace Go.Proofs.Ytangofjpnhhfeaa
theorem inv_mul {f : Int} (h0 : 0 ≤ f) (h8 : f ≤ 8) {c : Int} (hc : c % P f ≠ 0) : (mPower f c (-1) * c) % P f = 1 % P f := by
  have h2 := (inv_one h0 h8 (z := c) hc).1
  have h3 : (mPower f c (-1) * (c % P f)) % P f = 1 := h2
  rw [Int.mul_emod, Int.emod_emod_of_dvd c (Int.dvd_refl _), ← Int.mul_emod] at h3
  rw [h3, one_p h0 h8]
/-- O with one more value. -/
def more (O : Nat → Int) (k : Nat) (x : Int) : Nat → Int := fun j => if j < k then O j else x
end Go.Proofs.Ytangofjpnhhfeaa
namespace Go.Proofs.Ytangofjpnhhfeaa
open Go.RowKit
/-- A list that is read, and its capacity. -/
def SrcC (w : World) (a : Option Addr) (n cap : Nat) (F : Nat → Int) : Prop := n ≤ cap ∧ Src w a n F
theorem SrcC.src {w : World} {a : Option Addr} {n cap : Nat} {F : Nat → Int} (h : SrcC w a n cap F) : Src w a n F := h.2
theorem SrcC.keep {w w' : World} {a : Option Addr} {n cap : Nat} {F : Nat → Int} (h : SrcC w a n cap F) (hb : Below w.heap.size w w') : SrcC w' a n cap F := ⟨h.1, h.2.keep hb⟩
theorem OwnA.srcC {w : World} {B : Nat} {a : Option Addr} {l : List Int} {cap : Nat} (h : OwnA w B a l cap) : SrcC w a l.length cap (lf l) :=
  ⟨by
    rcases h with ⟨_, h1, h2⟩ | ⟨_, _, h1, _⟩
    · omega
    · omega, h.src⟩
end Go.Proofs.Ytangofjpnhhfeaa
namespace Go.Proofs.Ytangofjpnhhfeaa
/-- Horner's values: the quotient by x - y of a polynomial of n + 1 coefficients. -/
def dqS (y : Int) (A : Nat → Int) (n k : Nat) : Int := evN y (fun j => A (k + 1 + j)) (n - k)
theorem dqS_tl (y : Int) (A : Nat → Int) (n : Nat) : tl (dqS y A (n + 1)) = dqS y (tl A) n := funext fun k => by
  show evN y (fun j => A (k + 1 + 1 + j)) (n + 1 - (k + 1)) = evN y (fun j => A (k + 1 + j + 1)) (n - k)
  rw [show n + 1 - (k + 1) = n - k by omega]
  congr 1
  funext j
  rw [show k + 1 + 1 + j = k + 1 + j + 1 by omega]
theorem dqS_zero (y : Int) (A : Nat → Int) (n : Nat) : dqS y A n 0 = evN y (tl A) n := by
  unfold dqS
  rw [Nat.sub_zero]
  congr 1
  funext j
  show A (0 + 1 + j) = A (j + 1)
  rw [show 0 + 1 + j = j + 1 by omega]
theorem dqS_step (y : Int) (A : Nat → Int) {n k : Nat} (h : k < n) : dqS y A n k = A (k + 1) + y * dqS y A n (k + 1) := by
  unfold dqS
  obtain ⟨m, hm⟩ : ∃ m, n - k = m + 1 := ⟨n - k - 1, by omega⟩
  rw [hm, evN_succ, show n - (k + 1) = m by omega]
  congr 2
  congr 1
  funext j
  show A (k + 1 + (j + 1)) = A (k + 1 + 1 + j)
  rw [show k + 1 + (j + 1) = k + 1 + 1 + j by omega]
theorem dqS_end (y : Int) (A : Nat → Int) (n : Nat) : dqS y A n n = 0 := by
  unfold dqS
  rw [Nat.sub_self]
  rfl
theorem evN_dq (x y : Int) : ∀ (n : Nat) (A : Nat → Int), evN x A (n + 1) = evN y A (n + 1) + (x - y) * evN x (dqS y A n) n
  | 0, A => by
    rw [evN_succ, evN_succ]
    simp [evN, sumN]
  | n + 1, A => by
    rw [evN_succ, evN_succ y A, evN_dq x y n (tl A), evN_succ x (dqS y A (n + 1)), dqS_tl, dqS_zero]
    obtain ⟨E, hE⟩ : ∃ E, evN y (tl A) (n + 1) = E := ⟨_, rfl⟩
    obtain ⟨D, hD⟩ : ∃ D, evN x (dqS y (tl A) n) n = D := ⟨_, rfl⟩
    rw [hE, hD, Int.mul_add, Int.mul_add, Int.sub_mul, Int.sub_mul, Int.sub_mul, Int.mul_sub, ← Int.mul_assoc x x D, ← Int.mul_assoc x y D, ← Int.mul_assoc y x D, Int.mul_comm y x, Int.mul_assoc x x D, ← Int.mul_assoc x x D]
    omega
/-- The points are distinct in the field. -/
def DistinctS (f : Int) (X : Nat → Int) (n : Nat) : Prop := ∀ i j, i < n → j < n → i ≠ j → (X i - X j) % P f ≠ 0
theorem DistinctS.less {f : Int} {X : Nat → Int} {n m : Nat} (h : DistinctS f X n) (hm : m ≤ n) : DistinctS f X m := fun i j hi hj => h i j (by omega) (by omega)
/-- A polynomial of n coefficients that vanishes at n points. -/
theorem roots_zero {f : Int} (h0 : 0 ≤ f) (h8 : f ≤ 8) (X : Nat → Int) : ∀ (n : Nat) (A : Nat → Int), DistinctS f X n → (∀ i, i < n → evN (X i) A n % P f = 0) → ∀ j, j < n → A j % P f = 0
  | 0, _, _, _ => fun j hj => by omega
  | n + 1, A, hd, hz => by
    have hB : ∀ j, j < n → dqS (X n) A n j % P f = 0 := roots_zero h0 h8 X n (dqS (X n) A n) (hd.less (by omega)) fun i hi => by
      have h1 := hz i (by omega)
      have h2 := hz n (by omega)
      rw [evN_dq (X i) (X n) n A, Int.add_emod, h2, Int.zero_add, Int.emod_emod_of_dvd _ (Int.dvd_refl _)] at h1
      have h3 := cancelF h0 h8 (x := evN (X i) (dqS (X n) A n) n) (y := 0) (hd i n (by omega) (by omega) (by omega)) (by rw [h1, Int.mul_zero]; rfl)
      rw [h3]
      rfl
    have hB2 : ∀ j, j ≤ n → dqS (X n) A n j % P f = 0 := fun j hj => by
      by_cases e : j < n
      · exact hB j e
      · obtain rfl : j = n := by omega
        rw [dqS_end]
        rfl
    intro j hj
    cases j with
    | zero =>
      have h2 := hz n (by omega)
      have h3 := hB2 0 (Nat.zero_le _)
      rw [dqS_zero] at h3
      rw [evN_succ, Int.add_emod, Int.mul_emod, h3, Int.mul_zero, Int.zero_emod, Int.add_zero, Int.emod_emod_of_dvd _ (Int.dvd_refl _)] at h2
      exact h2
    | succ k =>
      have h1 := dqS_step (X n) A (n := n) (k := k) (by omega)
      have h2 := hB k (by omega)
      have h3 := hB2 (k + 1) (by omega)
      rw [h1, Int.add_emod, Int.mul_emod, h3, Int.mul_zero, Int.zero_emod, Int.add_zero, Int.emod_emod_of_dvd _ (Int.dvd_refl _)] at h2
      exact h2
theorem evL_n {f x : Int} {a : List Int} {n : Nat} (h : a.length ≤ n) : evL f x a = RS (evN x (lf a) n) (P f) := by
  unfold evL
  rw [evN_more h fun j hj => lf_out a hj]
/-- Two coefficient functions with the same values at n points. -/
theorem same_values {f : Int} (h0 : 0 ≤ f) (h8 : f ≤ 8) {n : Nat} {A B X : Nat → Int} (hd : DistinctS f X n) (h : ∀ i, i < n → evN (X i) A n % P f = evN (X i) B n % P f) : ∀ j, j < n → A j % P f = B j % P f := fun j hj => by
  have h1 := roots_zero h0 h8 X n (fun j => A j + -1 * B j) hd (fun i hi => by
    rw [evN_add, evN_smul, show evN (X i) A n + -1 * evN (X i) B n = evN (X i) A n - evN (X i) B n by omega, ← Int.emod_eq_emod_iff_emod_sub_eq_zero]
    exact h i hi) j hj
  rw [Int.emod_eq_emod_iff_emod_sub_eq_zero]
  rw [← h1]
  congr 1
  omega
/-- There is one polynomial through points. -/
theorem through_unique {f : Int} (h0 : 0 ≤ f) (h8 : f ≤ 8) {n : Nat} {a b : List Int} {X : Nat → Int} (hd : DistinctS f X n) (ha : Pol f a) (hb : Pol f b) (la : a.length ≤ n) (lb : b.length ≤ n) (h : ∀ i, i < n → evL f (X i) a = evL f (X i) b) : a = b := by
  refine Pol.eq ha hb fun j => ?_
  by_cases hj : j < n
  · refine same_values h0 h8 hd (fun i hi => ?_) j hj
    have := h i hi
    rwa [evL_n la, evL_n lb] at this
  · rw [lf_out a (by omega), lf_out b (by omega)]
/-- x - y as a polynomial. -/
def linL (f y : Int) : List Int := [RS (0 - y) (P f), 1]
theorem linL_pol {f : Int} (h0 : 0 ≤ f) (h8 : f ≤ 8) (y : Int) : Pol f (linL f y) := by
  have hp := P_bd h0 h8
  refine ⟨fun j => ?_, .inr (by show (1 : Int) ≠ 0; decide)⟩
  match j with
  | 0 => exact RS_bd (by omega)
  | 1 => show 0 ≤ (1 : Int) ∧ (1 : Int) < P f; omega
  | j + 2 => show 0 ≤ (0 : Int) ∧ (0 : Int) < P f; omega
theorem evL_lin {f : Int} (x y : Int) : evL f x (linL f y) = RS (x - y) (P f) := by
  unfold evL
  have e : evN x (lf (linL f y)) (linL f y).length = RS (0 - y) (P f) + x := by
    show evN x (lf (linL f y)) 2 = _
    show 0 + lf (linL f y) 0 * x ^ 0 + lf (linL f y) 1 * x ^ 1 = _
    show 0 + RS (0 - y) (P f) * x ^ 0 + 1 * x ^ 1 = _
    rw [Int.pow_zero, Int.mul_one, Int.one_mul, Int.zero_add, Int.pow_succ, Int.pow_zero, Int.one_mul]
  rw [e]
  unfold RS
  rw [show x - y = (0 - y) + x by omega]
  exact emod_add_congr (Int.emod_emod_of_dvd _ (Int.dvd_refl _)) rfl
/-- The product of the x - X i, i < n. -/
def vanL (f : Int) (X : Nat → Int) : Nat → List Int
  | 0 => [1]
  | n + 1 => mulL f (vanL f X n) (linL f (X n))
theorem pol_oneL {f : Int} (h0 : 0 ≤ f) (h8 : f ≤ 8) : Pol f [1] := by
  have hp := P_bd h0 h8
  have e2 : cutL 1 (fun _ => (1 : Int)) = [1] := rfl
  rw [← e2]
  exact Pol.cut (by omega) fun _ _ => by omega
theorem vanL_pol {f : Int} (h0 : 0 ≤ f) (h8 : f ≤ 8) (X : Nat → Int) : ∀ n, Pol f (vanL f X n)
  | 0 => pol_oneL h0 h8
  | _ + 1 => pol_mulL h0 h8 _ _
theorem vanL_len {f : Int} (h0 : 0 ≤ f) (h8 : f ≤ 8) (X : Nat → Int) : ∀ n, (vanL f X n).length = n + 1
  | 0 => rfl
  | n + 1 => by
    have ih := vanL_len h0 h8 X n
    show (mulL f (vanL f X n) (linL f (X n))).length = _
    have l2 : (linL f (X n)).length = 2 := rfl
    rw [mulL_len h0 h8 (vanL_pol h0 h8 X n) (linL_pol h0 h8 _) (by omega) (by omega), ih, l2]
    omega
/-- The product of the x - X i as a number. -/
def pdZ (x : Int) (X : Nat → Int) : Nat → Int
  | 0 => 1
  | n + 1 => pdZ x X n * (x - X n)
theorem vanL_ev {f : Int} (h0 : 0 ≤ f) (h8 : f ≤ 8) (x : Int) (X : Nat → Int) : ∀ n, evL f x (vanL f X n) = RS (pdZ x X n) (P f)
  | 0 => by
    show evL f x [1] = RS 1 (P f)
    unfold evL
    show RS (0 + (1 : Int) * x ^ 0) (P f) = _
    rw [Int.pow_zero]
    rfl
  | n + 1 => by
    show evL f x (mulL f (vanL f X n) (linL f (X n))) = _
    rw [evL_mul, vanL_ev h0 h8 x X n, evL_lin]
    unfold RS
    exact (Int.mul_emod _ _ _).symm
theorem pdZ_zero {x : Int} {X : Nat → Int} : ∀ {n i : Nat}, i < n → x = X i → pdZ x X n = 0
  | n + 1, i, h, e => by
    show pdZ x X n * (x - X n) = 0
    by_cases hi : i < n
    · rw [pdZ_zero hi e, Int.zero_mul]
    · obtain rfl : i = n := by omega
      rw [e, Int.sub_self, Int.mul_zero]
/-- A product that vanishes has a factor that does. -/
theorem mul_ne_zero {f : Int} (h0 : 0 ≤ f) (h8 : f ≤ 8) {a b : Int} (ha : a % P f ≠ 0) (hb : b % P f ≠ 0) : (a * b) % P f ≠ 0 := fun h => by
  have h3 := cancelF h0 h8 (x := b) (y := 0) ha (by rw [h, Int.mul_zero]; rfl)
  exact hb (h3.trans rfl)
theorem pdZ_ne {f : Int} (h0 : 0 ≤ f) (h8 : f ≤ 8) {x : Int} {X : Nat → Int} : ∀ {n : Nat}, (∀ i, i < n → (x - X i) % P f ≠ 0) → pdZ x X n % P f ≠ 0
  | 0, _ => one_ne' h0 h8
  | n + 1, h => mul_ne_zero h0 h8 (pdZ_ne h0 h8 fun i hi => h i (by omega)) (h n (by omega))
where one_ne' (h0 : 0 ≤ f) (h8 : f ≤ 8) : (1 : Int) % P f ≠ 0 := by rw [one_p h0 h8]; decide
end Go.Proofs.Ytangofjpnhhfeaa
namespace Go.Proofs.Ytangofjpnhhfeaa
open Mth
/-- Half way round is -1. -/
theorem Rt.half {f w v : Int} {m : Nat} (h : Rt f w v (m + m)) : (w ^ m + 1) % P f = 0 := by
  have m0 : 0 < m := by have := h.n0; omega
  refine Classical.byContradiction fun hs => ?_
  have h1 : (w ^ m - 1) % P f ≠ 0 := fun e => by
    have : w ^ m % P f = 1 % P f := by
      have := emod_add_congr (p := P f) (a := w ^ m - 1) (b := 0) (c := 1) (d := 1) (by rw [e]; simp) rfl
      rwa [Int.sub_add_cancel, Int.zero_add] at this
    have := Nat.le_of_dvd m0 ((h.ord m).1 this)
    omega
  have := mul_nz h.h0 h.h8 h1 hs
  refine this ?_
  have e : (w ^ m - 1) * (w ^ m + 1) = w ^ (m + m) - 1 := by
    rw [Int.pow_add, Int.mul_add, Int.sub_mul, Int.sub_mul]
    omega
  rw [e]
  exact emod_zero_of_sub h.full
/-- After s levels: each block of 2^s is the transform of every 2^(k-s)-th number of X. -/
def Lev (f w : Int) (k s : Nat) (X V : Nat → Int) : Prop :=
  ∀ b t, b < 2 ^ (k - s) → t < 2 ^ s → V (b * 2 ^ s + t) % P f = sumN (fun u => X (rv b (k - s) + u * 2 ^ (k - s)) * w ^ (t * (u * 2 ^ (k - s)))) (2 ^ s) % P f
theorem Lev.start {f w : Int} {k : Nat} {X V : Nat → Int} (h : ∀ j, j < 2 ^ k → V j % P f = X (rv j k) % P f) : Lev f w k 0 X V := by
  intro b t hb ht
  have : t = 0 := by have : t < 1 := ht; omega
  subst this
  rw [Nat.sub_zero] at hb ⊢
  rw [show b * 2 ^ 0 + 0 = b by simp, h b hb]
  show _ = (sumN _ 0 + X (rv b k + 0 * 2 ^ k) * w ^ (0 * (0 * 2 ^ k))) % P f
  simp [sumN]
/-- All levels: the transform. -/
theorem Lev.last {f w : Int} {k : Nat} {X V : Nat → Int} (h : Lev f w k k X V) {t : Nat} (ht : t < 2 ^ k) : V t % P f = ftF w (2 ^ k) X t % P f := by
  have := h 0 t (by simp) ht
  rw [Nat.sub_self, Nat.zero_mul, Nat.zero_add] at this
  rw [this]
  unfold ftF
  congr 1
  exact sumN_congr fun u _ => by simp [rv]
end Go.Proofs.Ytangofjpnhhfeaa
namespace Go.Proofs.Ytangofjpnhhfeaa
open Mth
def VecOk (f : Int) (l : List Int) : Prop := (0 ≤ mLog l.length ∧ mLog l.length ≤ T f) ∧ ∀ j, j < l.length → 0 ≤ lf l j ∧ lf l j < P f
/-- The log of a vector. -/
theorem VecOk.log {f : Int} {l : List Int} (h : VecOk f l) : ∃ k : Nat, k ≤ 9 ∧ l.length = 2 ^ k ∧ mLog l.length = k ∧ hasK f k := by
  rcases log_cases (l.length : Int) with ⟨k, hk, hn, hl⟩ | ⟨_, hl⟩
  · refine ⟨k, hk, ?_, hl, (hasK_iff f k).2 ⟨by omega, by have := h.1.2; omega⟩⟩
    have e : ((2 ^ k : Nat) : Int) = 2 ^ k := by rw [Int.natCast_pow]; rfl
    omega
  · have := h.1.1
    omega
theorem VecOk.f08 {f : Int} {l : List Int} (h : VecOk f l) : 0 ≤ f ∧ f ≤ 8 := by
  obtain ⟨k, _, _, _, hk⟩ := h.log
  exact hk.1
theorem VecOk.lt {f : Int} {l : List Int} (h : VecOk f l) (j : Nat) : 0 ≤ lf l j ∧ lf l j < P f := by
  have h08 := h.f08
  have hp := P_bd h08.1 h08.2
  by_cases hj : j < l.length
  · exact h.2 j hj
  · rw [lf_out l (by omega)]; omega
/-- A list of the same length whose numbers are reduced is a vector. -/
theorem VecOk.tab {f : Int} {l : List Int} (h : VecOk f l) {n : Nat} (hn : n = l.length) (F : Nat → Int) (hF : ∀ j, j < n → 0 ≤ F j ∧ F j < P f) : VecOk f (tab n F) := by
  subst hn
  refine ⟨by rw [tab_len]; exact h.1, fun j hj => ?_⟩
  rw [tab_len] at hj
  rw [lf_tab, if_pos hj]
  exact hF j hj
end Go.Proofs.Ytangofjpnhhfeaa
namespace Go.Proofs.Ytangofjpnhhfeaa
open Mth
/-- Within one level: the blocks below B done, and of block B the first j pairs. -/
def stDone (h B j t : Nat) : Prop := t < B * (2 * h) ∨ (t < B * (2 * h) + 2 * h ∧ t % (2 * h) % h < j)
instance (h B j t : Nat) : Decidable (stDone h B j t) := inferInstanceAs (Decidable (_ ∨ _))
end Go.Proofs.Ytangofjpnhhfeaa
namespace Go.Proofs.Ytangofjpnhhfeaa
open Mth
/-- Zeros behind. -/
def padL (l : List Int) (n : Nat) : List Int := tab n (lf l)
theorem padL_len (l : List Int) (n : Nat) : (padL l n).length = n := tab_len _ _
theorem lf_padL (l : List Int) {n : Nat} (h : l.length ≤ n) (j : Nat) : lf (padL l n) j = lf l j := by
  unfold padL
  rw [lf_tab]
  by_cases hj : j < n
  · rw [if_pos hj]
  · rw [if_neg hj, lf_out l (by omega)]
end Go.Proofs.Ytangofjpnhhfeaa
namespace Go.Proofs.Ytangofjpnhhfeaa
/-- How many of the first n places are marked. -/
def cntN (p : Nat → Bool) : Nat → Nat
  | 0 => 0
  | n + 1 => cntN p n + (if p n then 1 else 0)
theorem cntN_le (p : Nat → Bool) : ∀ n, cntN p n ≤ n
  | 0 => Nat.le_refl _
  | n + 1 => by
    have := cntN_le p n
    show cntN p n + (if p n then 1 else 0) ≤ n + 1
    split <;> omega
theorem cntN_congr {p q : Nat → Bool} : ∀ {n : Nat}, (∀ i, i < n → p i = q i) → cntN p n = cntN q n
  | 0, _ => rfl
  | n + 1, h => by
    show cntN p n + (if p n then 1 else 0) = cntN q n + (if q n then 1 else 0)
    rw [cntN_congr fun i hi => h i (by omega), h n (by omega)]
theorem cntN_not (p : Nat → Bool) : ∀ n, cntN p n + cntN (fun i => !p i) n = n
  | 0 => rfl
  | n + 1 => by
    have := cntN_not p n
    show cntN p n + (if p n then 1 else 0) + (cntN (fun i => !p i) n + (if !p n then 1 else 0)) = n + 1
    cases p n
    · simp; omega
    · simp; omega
theorem cntN_or {p q r : Nat → Bool} : ∀ {n : Nat}, (∀ i, i < n → r i = true → p i = true ∨ q i = true) → cntN r n ≤ cntN p n + cntN q n
  | 0, _ => Nat.le_refl _
  | n + 1, h => by
    have ih := cntN_or (p := p) (q := q) (r := r) (n := n) fun i hi => h i (by omega)
    have hn := h n (by omega)
    show cntN r n + (if r n then 1 else 0) ≤ cntN p n + (if p n then 1 else 0) + (cntN q n + (if q n then 1 else 0))
    cases hr : r n
    · simp; omega
    · rcases hn hr with e | e <;> simp [e] <;> omega
/-- What lies at the marked places. -/
def selL (p : Nat → Bool) (X : Nat → Int) : Nat → List Int
  | 0 => []
  | n + 1 => if p n then selL p X n ++ [X n] else selL p X n
theorem selL_len (p : Nat → Bool) (X : Nat → Int) : ∀ n, (selL p X n).length = cntN p n
  | 0 => rfl
  | n + 1 => by
    show (if p n then selL p X n ++ [X n] else selL p X n).length = cntN p n + (if p n then 1 else 0)
    have := selL_len p X n
    split
    · rw [List.length_append, this]; rfl
    · omega
theorem lf_app (l : List Int) (x : Int) (j : Nat) : lf (l ++ [x]) j = if j < l.length then lf l j else if j = l.length then x else 0 := by
  show (l ++ [x]).getD j 0 = if j < l.length then l.getD j 0 else if j = l.length then x else 0
  rw [List.getD_eq_getElem?_getD, List.getD_eq_getElem?_getD]
  by_cases h : j < l.length
  · rw [if_pos h, List.getElem?_append_left h]
  · rw [if_neg h, List.getElem?_append_right (by omega)]
    by_cases e : j = l.length
    · subst e
      rw [if_pos rfl, Nat.sub_self]
      rfl
    · rw [if_neg e, List.getElem?_eq_none (by simp; omega)]
      rfl
/-- The places that are marked, in their order. -/
theorem sel_idx (p : Nat → Bool) : ∀ n, ∃ s : Nat → Nat, (∀ j, j < cntN p n → s j < n ∧ p (s j) = true) ∧ (∀ i j, i < j → j < cntN p n → s i < s j) ∧ (∀ (X : Nat → Int) j, j < cntN p n → lf (selL p X n) j = X (s j)) ∧ ∀ i, i < n → p i = true → ∃ j, j < cntN p n ∧ s j = i
  | 0 => ⟨fun _ => 0, fun j hj => by have : j < 0 := hj; omega, fun i j _ hj => by have : j < 0 := hj; omega, fun X j hj => by have : j < 0 := hj; omega, fun i hi => by omega⟩
  | n + 1 => by
    obtain ⟨s, h1, h2, h3, h4⟩ := sel_idx p n
    by_cases hp : p n = true
    · have e : cntN p (n + 1) = cntN p n + 1 := by show cntN p n + (if p n then 1 else 0) = _; rw [if_pos hp]
      have eX : ∀ X : Nat → Int, selL p X (n + 1) = selL p X n ++ [X n] := fun X => by show (if p n then selL p X n ++ [X n] else selL p X n) = _; rw [if_pos hp]
      refine ⟨fun j => if j < cntN p n then s j else n, fun j hj => ?_, fun i j hij hj => ?_, fun X j hj => ?_, fun i hi hpi => ?_⟩
      · rw [e] at hj
        by_cases hj2 : j < cntN p n
        · simp only [if_pos hj2]
          have := h1 j hj2
          exact ⟨by omega, this.2⟩
        · simp only [if_neg hj2]
          exact ⟨by omega, hp⟩
      · rw [e] at hj
        have hi2 : i < cntN p n := by omega
        simp only [if_pos hi2]
        by_cases hj2 : j < cntN p n
        · simp only [if_pos hj2]
          exact h2 i j hij hj2
        · simp only [if_neg hj2]
          exact (h1 i hi2).1
      · rw [e] at hj
        rw [eX, lf_app, selL_len]
        by_cases hj2 : j < cntN p n
        · simp only [if_pos hj2]
          exact h3 X j hj2
        · simp only [if_neg hj2]
          rw [if_pos (by omega)]
      · rw [e]
        by_cases hin : i < n
        · obtain ⟨j, hj, hs⟩ := h4 i hin hpi
          exact ⟨j, by omega, by simp only [if_pos hj]; exact hs⟩
        · exact ⟨cntN p n, by omega, by simp only [Nat.lt_irrefl, if_false]; omega⟩
    · have e : cntN p (n + 1) = cntN p n := by show cntN p n + (if p n then 1 else 0) = _; rw [if_neg hp]; rfl
      have eX : ∀ X : Nat → Int, selL p X (n + 1) = selL p X n := fun X => by show (if p n then selL p X n ++ [X n] else selL p X n) = _; rw [if_neg hp]
      rw [e]
      refine ⟨s, fun j hj => ?_, h2, fun X j hj => by rw [eX]; exact h3 X j hj, fun i hi hpi => ?_⟩
      · have := h1 j hj
        exact ⟨by omega, this.2⟩
      · by_cases hin : i < n
        · exact h4 i hin hpi
        · obtain rfl : i = n := by omega
          exact absurd hpi hp
/-- The first k of the marked places. -/
def firstK (p : Nat → Bool) (k : Nat) (i : Nat) : Bool := p i && decide (cntN p i < k)
theorem firstK_cnt (p : Nat → Bool) (k : Nat) : ∀ n, cntN (firstK p k) n = min k (cntN p n)
  | 0 => by show 0 = min k 0; omega
  | n + 1 => by
    have ih := firstK_cnt p k n
    show cntN (firstK p k) n + (if firstK p k n then 1 else 0) = min k (cntN p n + (if p n then 1 else 0))
    rw [ih]
    unfold firstK
    cases hp : p n
    · simp
    · by_cases h : cntN p n < k
      · simp [h]; omega
      · simp [h]; omega
/-- A choice of places as the bits of a number. -/
def bitP (s : Nat) (i : Nat) : Bool := s / 2 ^ i % 2 == 1
theorem mask_exists (q : Nat → Bool) : ∀ n, ∃ s, s < 2 ^ n ∧ ∀ i, i < n → bitP s i = q i
  | 0 => ⟨0, by decide, fun i hi => by omega⟩
  | n + 1 => by
    obtain ⟨s, hs, hb⟩ := mask_exists (fun i => q (i + 1)) n
    refine ⟨2 * s + (if q 0 then 1 else 0), ?_, fun i hi => ?_⟩
    · rw [Nat.pow_succ]
      split <;> omega
    · cases i with
      | zero =>
        unfold bitP
        rw [Nat.pow_zero, Nat.div_one]
        cases q 0
        · simp
        · have : (2 * s + 1) % 2 = 1 := by omega
          simp [this]
      | succ i =>
        have h := hb i (by omega)
        have e : (2 * s + (if q 0 then 1 else 0)) / 2 ^ (i + 1) = s / 2 ^ i := by
          rw [show 2 ^ (i + 1) = 2 * 2 ^ i by rw [Nat.pow_succ, Nat.mul_comm], ← Nat.div_div_eq_div_mul]
          congr 1
          split <;> omega
        unfold bitP at h ⊢
        rw [e]
        exact h
end Go.Proofs.Ytangofjpnhhfeaa
namespace Go.Proofs.Ytangofjpnhhfeaa
theorem Ser.ok {f : Int} (hf : 0 ≤ f ∧ f ≤ 8) {n : Nat} {l : List Int} (h : Ser f n l) (n1 : 1 ≤ n) (n2 : n ≤ 64) : SerOk f l := ⟨hf, by rw [h.1]; exact ⟨n1, n2⟩, fun j _ => h.2 j⟩
end Go.Proofs.Ytangofjpnhhfeaa
namespace Go.Proofs.Ytangofjpnhhfeaa
theorem Ser.short {f : Int} {a x : List Int} (h : ShortOk f a) (hx : Ser f a.length x) : ShortOk f x := ⟨hx.ok h.1.1 h.1.2.1.1 h.1.2.1.2, by rw [hx.1]; exact h.2⟩
theorem IsLog.congr {p : Int} {n : Nat} {L M A B : Nat → Int} (h : IsLog p n L A) (hL : EqN p n M L) (hA : EqN p n B A) : IsLog p n M B := (hA.th.trans h).trans ((hL.th.mul hA).symm)
end Go.Proofs.Ytangofjpnhhfeaa
namespace Go.Proofs.Ytangofjpnhhfeaa
theorem lf_cut_self (l : List Int) : lf (cutL l.length (lf l)) = lf l := funext fun j => by
  rw [lf_cutL]
  split
  · rfl
  · rw [lf_out l (by omega)]
end Go.Proofs.Ytangofjpnhhfeaa
namespace Go.Proofs.Ytangofjpnhhfeaa
theorem evL_scale (f x c : Int) (l : List Int) : evL f x (scaleL f l c) = RS (evL f x l * c) (P f) := by
  rw [evL_n (scaleL_le f l c)]
  unfold evL RS
  rw [evN_mod (p := P f) (y := x) (B := fun j => c * lf l j) _ rfl (fun j => by rw [lf_scaleL, Int.mul_comm]; simp), evN_smul, Int.mul_comm c]
  exact (emod_mul_congr (Int.emod_emod_of_dvd _ (Int.dvd_refl _)) rfl).symm
theorem distinct_of {f : Int} {X : Nat → Int} {n : Nat} (hb : ∀ j, j < n → 0 ≤ X j ∧ X j < P f) (hd : ∀ i j, i < j → j < n → X i ≠ X j) : DistinctS f X n := fun i j hi hj hij h => by
  rw [← Int.emod_eq_emod_iff_emod_sub_eq_zero, Int.emod_eq_of_lt (hb i hi).1 (hb i hi).2, Int.emod_eq_of_lt (hb j hj).1 (hb j hj).2] at h
  rcases Nat.lt_or_gt_of_ne hij with h2 | h2
  · exact hd i j h2 hj h
  · exact hd j i h2 hi h.symm
/-- The points but the i-th. -/
def othS (X : Nat → Int) (i : Nat) : Nat → Int := fun j => if j < i then X j else X (j + 1)
/-- The product of the X i - X j, j < k, j other than i, as an element. -/
def byF (f : Int) (X : Nat → Int) (i : Nat) : Nat → Int
  | 0 => 1
  | k + 1 => if k = i then byF f X i k else RS (byF f X i k * RS (X i - X k) (P f)) (P f)
theorem byF_lo (f : Int) (X : Nat → Int) (i : Nat) : ∀ k, k ≤ i → byF f X i k % P f = pdZ (X i) (othS X i) k % P f
  | 0, _ => rfl
  | k + 1, h => by
    show (if k = i then byF f X i k else RS (byF f X i k * RS (X i - X k) (P f)) (P f)) % P f = (pdZ (X i) (othS X i) k * (X i - othS X i k)) % P f
    rw [if_neg (by omega)]
    have e : othS X i k = X k := if_pos (by omega)
    rw [e]
    unfold RS
    rw [Int.emod_emod_of_dvd _ (Int.dvd_refl _)]
    exact emod_mul_congr (byF_lo f X i k (by omega)) (Int.emod_emod_of_dvd _ (Int.dvd_refl _))
theorem byF_hi (f : Int) (X : Nat → Int) (i : Nat) : ∀ k, i < k → byF f X i k % P f = pdZ (X i) (othS X i) (k - 1) % P f
  | k + 1, h => by
    show (if k = i then byF f X i k else RS (byF f X i k * RS (X i - X k) (P f)) (P f)) % P f = _
    by_cases e : k = i
    · rw [if_pos e]
      subst e
      exact byF_lo f X k k (Nat.le_refl _)
    · rw [if_neg e]
      obtain ⟨m, rfl⟩ : ∃ m, k = m + 1 := ⟨k - 1, by omega⟩
      have e2 : othS X i m = X (m + 1) := if_neg (by omega)
      show _ = (pdZ (X i) (othS X i) m * (X i - othS X i m)) % P f
      rw [e2]
      unfold RS
      rw [Int.emod_emod_of_dvd _ (Int.dvd_refl _)]
      exact emod_mul_congr (byF_hi f X i (m + 1) (by omega)) (Int.emod_emod_of_dvd _ (Int.dvd_refl _))
theorem byF_ne {f : Int} (h0 : 0 ≤ f) (h8 : f ≤ 8) {X : Nat → Int} {n i : Nat} (hd : DistinctS f X n) (hi : i < n) : byF f X i n % P f ≠ 0 := by
  rw [byF_hi f X i n hi]
  refine pdZ_ne h0 h8 fun j hj => ?_
  unfold othS
  split
  · exact hd i j hi (by omega) (by omega)
  · exact hd i (j + 1) hi (by omega) (by omega)
/-- The i-th term of Lagrange's sum. -/
noncomputable def lagT (f : Int) (X Y : Nat → Int) (n i : Nat) : List Int := scaleL f (vanL f (othS X i) (n - 1)) (RS (Y i * mPower f (byF f X i n) (-1)) (P f))
noncomputable def lagL (f : Int) (X Y : Nat → Int) (n : Nat) : Nat → List Int
  | 0 => []
  | i + 1 => addL f (lagL f X Y n i) (lagT f X Y n i)
theorem lagT_len {f : Int} (h0 : 0 ≤ f) (h8 : f ≤ 8) (X Y : Nat → Int) {n : Nat} (n1 : 1 ≤ n) (i : Nat) : (lagT f X Y n i).length ≤ n := by
  have h1 := scaleL_le f (vanL f (othS X i) (n - 1)) (RS (Y i * mPower f (byF f X i n) (-1)) (P f))
  rw [vanL_len h0 h8] at h1
  unfold lagT
  omega
theorem lagL_len {f : Int} (h0 : 0 ≤ f) (h8 : f ≤ 8) (X Y : Nat → Int) {n : Nat} (n1 : 1 ≤ n) : ∀ i, (lagL f X Y n i).length ≤ n
  | 0 => Nat.zero_le _
  | i + 1 => by
    have h1 := lagL_len h0 h8 X Y n1 i
    have h2 := lagT_len h0 h8 X Y n1 i
    have h3 := addL_le f (lagL f X Y n i) (lagT f X Y n i)
    show (addL f (lagL f X Y n i) (lagT f X Y n i)).length ≤ n
    omega
theorem lagL_pol {f : Int} (h0 : 0 ≤ f) (h8 : f ≤ 8) (X Y : Nat → Int) (n : Nat) : ∀ i, Pol f (lagL f X Y n i)
  | 0 => Pol.nil (by have := P_bd h0 h8; omega)
  | _ + 1 => pol_addL h0 h8 _ _
theorem lagT_ev {f : Int} (h0 : 0 ≤ f) (h8 : f ≤ 8) {X Y : Nat → Int} {n i m : Nat} (hd : DistinctS f X n) (hi : i < n) (hm : m < n) : evL f (X m) (lagT f X Y n i) = if m = i then RS (Y i) (P f) else 0 := by
  unfold lagT
  rw [evL_scale, vanL_ev h0 h8]
  by_cases e : m = i
  · subst e
    rw [if_pos rfl]
    have h1 := byF_hi f X m n hi
    have h2 := inv_mul h0 h8 (byF_ne h0 h8 hd hi)
    obtain ⟨V, hV⟩ : ∃ V, mPower f (byF f X m n) (-1) = V := ⟨_, rfl⟩
    rw [hV] at h2 ⊢
    unfold RS
    have h3 : (pdZ (X m) (othS X m) (n - 1) % P f * (Y m * V % P f)) % P f = (byF f X m n * (Y m * V)) % P f := emod_mul_congr (by rw [Int.emod_emod_of_dvd _ (Int.dvd_refl _)]; exact h1.symm) (Int.emod_emod_of_dvd _ (Int.dvd_refl _))
    rw [h3, show byF f X m n * (Y m * V) = Y m * (V * byF f X m n) by rw [Int.mul_left_comm, Int.mul_comm V]]
    have h4 : (Y m * (V * byF f X m n)) % P f = (Y m * 1) % P f := emod_mul_congr rfl h2
    rw [h4, Int.mul_one]
  · rw [if_neg e]
    have h1 : pdZ (X m) (othS X i) (n - 1) = 0 := by
      by_cases hl : m < i
      · exact pdZ_zero (i := m) (by omega) (by unfold othS; rw [if_pos hl])
      · exact pdZ_zero (i := m - 1) (by omega) (by unfold othS; rw [if_neg (by omega), show m - 1 + 1 = m by omega])
    rw [h1]
    simp [RS]
theorem lagL_ev {f : Int} (h0 : 0 ≤ f) (h8 : f ≤ 8) {X Y : Nat → Int} {n m : Nat} (hd : DistinctS f X n) (hm : m < n) : ∀ i, i ≤ n → evL f (X m) (lagL f X Y n i) = if m < i then RS (Y m) (P f) else 0
  | 0, _ => by
    show evL f (X m) [] = _
    simp [evL, evN, sumN, RS]
  | i + 1, h => by
    show evL f (X m) (addL f (lagL f X Y n i) (lagT f X Y n i)) = _
    rw [evL_add, lagL_ev h0 h8 hd hm i (by omega), lagT_ev h0 h8 hd (by omega) hm]
    by_cases h1 : m < i
    · rw [if_pos h1, if_neg (by omega), if_pos (by omega)]
      simp [RS]
    · rw [if_neg h1]
      by_cases h2 : m = i
      · rw [if_pos h2, if_pos (by omega), h2]
        simp [RS]
      · rw [if_neg h2, if_neg (by omega)]
        simp [RS]
/-- The polynomial through the points. -/
def QInter (f : Int) (X Y : Nat → Int) (n : Nat) (a : List Int) : Prop := Pol f a ∧ a.length ≤ n ∧ ∀ i, i < n → evL f (X i) a = Y i
noncomputable def interL (f : Int) (X Y : Nat → Int) (n : Nat) : List Int := theL (QInter f X Y n)
theorem QInter.unique {f : Int} (h0 : 0 ≤ f) (h8 : f ≤ 8) {X Y : Nat → Int} {n : Nat} (hd : DistinctS f X n) {a b : List Int} (ha : QInter f X Y n a) (hb : QInter f X Y n b) : a = b :=
  through_unique h0 h8 hd ha.1 hb.1 ha.2.1 hb.2.1 fun i hi => by rw [ha.2.2 i hi, hb.2.2 i hi]
theorem interL_eq {f : Int} (h0 : 0 ≤ f) (h8 : f ≤ 8) {X Y : Nat → Int} {n : Nat} (hd : DistinctS f X n) {a : List Int} (h : QInter f X Y n a) : interL f X Y n = a := theL_eq (fun _ _ p q => QInter.unique h0 h8 hd p q) h
theorem lagL_is {f : Int} (h0 : 0 ≤ f) (h8 : f ≤ 8) {X Y : Nat → Int} {n : Nat} (n1 : 1 ≤ n) (hd : DistinctS f X n) (hY : ∀ j, j < n → 0 ≤ Y j ∧ Y j < P f) : QInter f X Y n (lagL f X Y n n) :=
  ⟨lagL_pol h0 h8 X Y n n, lagL_len h0 h8 X Y n1 n, fun i hi => by
    rw [lagL_ev h0 h8 hd hi n (Nat.le_refl _), if_pos hi]
    unfold RS
    exact Int.emod_eq_of_lt (hY i hi).1 (hY i hi).2⟩
theorem interL_lag {f : Int} (h0 : 0 ≤ f) (h8 : f ≤ 8) {X Y : Nat → Int} {n : Nat} (n1 : 1 ≤ n) (hd : DistinctS f X n) (hY : ∀ j, j < n → 0 ≤ Y j ∧ Y j < P f) : interL f X Y n = lagL f X Y n n := interL_eq h0 h8 hd (lagL_is h0 h8 n1 hd hY)
theorem interL_is {f : Int} (h0 : 0 ≤ f) (h8 : f ≤ 8) {X Y : Nat → Int} {n : Nat} (n1 : 1 ≤ n) (hd : DistinctS f X n) (hY : ∀ j, j < n → 0 ≤ Y j ∧ Y j < P f) : QInter f X Y n (interL f X Y n) := by
  rw [interL_lag h0 h8 n1 hd hY]
  exact lagL_is h0 h8 n1 hd hY
/-- What the functions ask. -/
def PtsOk (f : Int) (xs : List Int) : Prop := (0 ≤ f ∧ f ≤ 8) ∧ (1 ≤ xs.length ∧ xs.length ≤ 40) ∧ (∀ j, j < xs.length → 0 ≤ lf xs j ∧ lf xs j < P f) ∧ ∀ i j, i < j → j < xs.length → lf xs i ≠ lf xs j
theorem PtsOk.dist {f : Int} {xs : List Int} (h : PtsOk f xs) : DistinctS f (lf xs) xs.length := distinct_of h.2.2.1 h.2.2.2
def ElsOk (f : Int) (l : List Int) : Prop := ∀ j, j < l.length → 0 ≤ lf l j ∧ lf l j < P f
def InterOk (f : Int) (xs ys : List Int) : Prop := PtsOk f xs ∧ ys.length = xs.length ∧ ElsOk f ys
/-- The word of a message. -/
def encL (f : Int) (xs m : List Int) : List Int := tab xs.length fun i => RS (evN (lf xs i) (lf m) m.length) (P f)
theorem encL_len (f : Int) (xs m : List Int) : (encL f xs m).length = xs.length := tab_len _ _
theorem encL_at {f : Int} {xs m : List Int} {i : Nat} (h : i < xs.length) : lf (encL f xs m) i = RS (evN (lf xs i) (lf m) m.length) (P f) := by unfold encL; rw [lf_tab, if_pos h]
/-- In how many places two lists differ. -/
def difP (a b : List Int) (j : Nat) : Bool := decide (a.length ≤ j) || decide (b.length ≤ j) || (lf a j != lf b j)
def difN (a b : List Int) : Nat := cntN (difP a b) (max a.length b.length)
theorem difN_same {a b : List Int} (h : a.length = b.length) : difN a b = cntN (fun j => lf a j != lf b j) a.length := by
  unfold difN
  rw [← h, Nat.max_self]
  exact cntN_congr fun i hi => by
    unfold difP
    rw [← h]
    simp [show ¬ a.length ≤ i by omega]
/-- A message whose word is near. -/
def QDec (f : Int) (xs ys : List Int) (k : Nat) (m : List Int) : Prop := m.length = k ∧ ElsOk f m ∧ difN (encL f xs m) ys ≤ (xs.length - k) / 2
theorem QDec.unique {f : Int} {xs ys : List Int} {k : Nat} (hp : PtsOk f xs) (hy : ys.length = xs.length) (hk : k ≤ xs.length) {a b : List Int} (ha : QDec f xs ys k a) (hb : QDec f xs ys k b) : a = b := by
  have h0 := hp.1.1
  have h8 := hp.1.2
  have da := ha.2.2
  have db := hb.2.2
  rw [difN_same (by rw [encL_len, hy]), encL_len] at da db
  have hne : cntN (fun j => lf (encL f xs a) j != lf (encL f xs b) j) xs.length ≤ cntN (fun j => lf (encL f xs a) j != lf ys j) xs.length + cntN (fun j => lf (encL f xs b) j != lf ys j) xs.length := cntN_or fun i _ hr => by
    simp only [bne_iff_ne, ne_eq] at hr ⊢
    by_cases e : lf (encL f xs a) i = lf ys i
    · exact .inr fun e2 => hr (e.trans e2.symm)
    · exact .inl e
  have hnot := cntN_not (fun j => lf (encL f xs a) j != lf (encL f xs b) j) xs.length
  obtain ⟨s, s1, s2, _, _⟩ := sel_idx (fun j => !(lf (encL f xs a) j != lf (encL f xs b) j)) xs.length
  have hcnt : k ≤ cntN (fun j => !(lf (encL f xs a) j != lf (encL f xs b) j)) xs.length := by omega
  have hd : DistinctS f (fun j => lf xs (s j)) k := distinct_of (fun j hj => hp.2.2.1 (s j) (s1 j (by omega)).1) fun i j hij hj => by
    have h1 := s2 i j hij (by omega)
    have h2 := (s1 j (by omega)).1
    exact hp.2.2.2 (s i) (s j) h1 h2
  have hv := same_values h0 h8 (A := lf a) (B := lf b) hd fun i hi => by
    have h1 := s1 i (by omega)
    have h2 : lf (encL f xs a) (s i) = lf (encL f xs b) (s i) := by
      have := h1.2
      simp only [Bool.not_eq_true', bne_eq_false_iff_eq] at this
      exact this
    rw [encL_at h1.1, encL_at h1.1, ha.1, hb.1] at h2
    exact h2
  refine list_ext (by rw [ha.1, hb.1]) fun j hj => ?_
  have h1 := hv j (by rw [← ha.1]; exact hj)
  have b1 := ha.2.1 j hj
  have b2 := hb.2.1 j (by rw [hb.1, ← ha.1]; exact hj)
  rwa [Int.emod_eq_of_lt b1.1 b1.2, Int.emod_eq_of_lt b2.1 b2.2] at h1
/-- The message through k chosen places, with zeros behind. -/
noncomputable def tryL (f : Int) (xs ys : List Int) (k : Nat) (p : Nat → Bool) : List Int := padL (interL f (lf (selL p (lf xs) xs.length)) (lf (selL p (lf ys) xs.length)) k) k
theorem sel_dist {f : Int} {xs : List Int} (hp : PtsOk f xs) (p : Nat → Bool) {k : Nat} (hk : cntN p xs.length = k) : DistinctS f (lf (selL p (lf xs) xs.length)) k := by
  obtain ⟨s, s1, s2, s3, _⟩ := sel_idx p xs.length
  refine distinct_of (fun j hj => ?_) fun i j hij hj => ?_
  · rw [s3 _ j (by omega)]
    exact hp.2.2.1 _ (s1 j (by omega)).1
  · rw [s3 _ j (by omega), s3 _ i (by omega)]
    exact hp.2.2.2 _ _ (s2 i j hij (by omega)) (s1 j (by omega)).1
/-- The message is found at some choice of places. -/
theorem QDec.found {f : Int} {xs ys : List Int} {k : Nat} (hp : PtsOk f xs) (hy : ys.length = xs.length) (_k1 : 1 ≤ k) (hk : k ≤ xs.length) {m : List Int} (h : QDec f xs ys k m) : ∃ s, s < 2 ^ xs.length ∧ cntN (bitP s) xs.length = k ∧ tryL f xs ys k (bitP s) = m := by
  have h0 := hp.1.1
  have h8 := hp.1.2
  have d := h.2.2
  rw [difN_same (by rw [encL_len, hy]), encL_len] at d
  have hnot := cntN_not (fun j => lf (encL f xs m) j != lf ys j) xs.length
  obtain ⟨s, hs, hb⟩ := mask_exists (firstK (fun j => !(lf (encL f xs m) j != lf ys j)) k) xs.length
  have hc : cntN (bitP s) xs.length = k := by
    rw [cntN_congr hb, firstK_cnt]
    omega
  refine ⟨s, hs, hc, ?_⟩
  have hdist := sel_dist hp (bitP s) hc
  obtain ⟨t, t1, _, t3, _⟩ := sel_idx (bitP s) xs.length
  have hpol : Pol f (cutL k (lf m)) := Pol.cut (by have := P_bd h0 h8; omega) fun j hj => h.2.1 j (by rw [h.1]; exact hj)
  have hlen := cutL_le k (lf m)
  have elf : lf (cutL k (lf m)) = lf m := by have := lf_cut_self m; rwa [h.1] at this
  have hQ : QInter f (lf (selL (bitP s) (lf xs) xs.length)) (lf (selL (bitP s) (lf ys) xs.length)) k (cutL k (lf m)) := ⟨hpol, hlen, fun i hi => by
    have h1 := t1 i (by omega)
    have h2 := hb (t i) h1.1
    rw [h1.2] at h2
    have h3 : lf (encL f xs m) (t i) = lf ys (t i) := by
      have h5 : firstK (fun j => !(lf (encL f xs m) j != lf ys j)) k (t i) = true := h2.symm
      unfold firstK at h5
      have h4 : (!(lf (encL f xs m) (t i) != lf ys (t i))) = true := (Bool.and_eq_true_iff.1 h5).1
      simp only [Bool.not_eq_true', bne_eq_false_iff_eq] at h4
      exact h4
    rw [t3 _ i (by omega), t3 _ i (by omega), evL_n hlen, elf]
    rw [encL_at h1.1, h.1] at h3
    exact h3⟩
  unfold tryL
  rw [interL_eq h0 h8 hdist hQ]
  refine list_ext (by rw [padL_len, h.1]) fun j hj => ?_
  rw [lf_padL _ hlen, elf]
end Go.Proofs.Ytangofjpnhhfeaa
namespace Go.Proofs.Ytangofjpnhhfeaa
def mDiffer (a b : List Int) : Int := if a.length ≤ 4096 ∧ b.length ≤ 4096 then (difN a b : Int) else -1
theorem InterOk.is {f : Int} {xs ys : List Int} (h : InterOk f xs ys) : QInter f (lf xs) (lf ys) xs.length (interL f (lf xs) (lf ys) xs.length) :=
  interL_is h.1.1.1 h.1.1.2 h.1.2.1.1 h.1.dist fun j hj => h.2.2 j (by rw [h.2.1]; exact hj)
end Go.Proofs.Ytangofjpnhhfeaa
namespace Go.Proofs.Ytangofjpnhhfeaa
open Go.RowKit
/-- The state of the loop that draws a list: the cursor's block is g. -/
def ZAt (g : Nat) (w wr : World) (v : Value) (k : Nat) : Prop := (∃ F, wr.ownsRow w.heap.size 3 1 v k (xsF F k)) ∧ Cur g wr ∧ w.grownBy wr (some g) ∧ w.heap.size ≤ wr.heap.size
theorem zown_ne {wr : World} {B g : Nat} {v : Value} {k : Nat} {xs : List Value} (hB : g < B) (h : wr.ownsRow B 3 1 v k xs) : v.ownBlock = none ∨ v.ownBlock ≠ some g := by
  refine .inr fun e => ?_
  have := own_ge h g e
  omega
/-- A list apart from the cursor. -/
def SrcO (g : Nat) (w : World) (a : Option Addr) (n : Nat) (F : Nat → Int) : Prop :=
  n = 0 ∨ ∃ b off, a = some ⟨b, off, none⟩ ∧ b ≠ g ∧ b < w.heap.size ∧ ∀ j, j < n → w.cell? ⟨b, off + j, none⟩ = some (.int .i64 (F j))
theorem SrcO.src {g : Nat} {w : World} {a : Option Addr} {n : Nat} {F : Nat → Int} (h : SrcO g w a n F) : Src w a n F := by
  refine h.imp id ?_
  rintro ⟨b, off, e, _, hlt, hc⟩
  exact ⟨b, off, e, hlt, hc⟩
theorem SrcO.grown {g : Nat} {w w' : World} {a : Option Addr} {n : Nat} {F : Nat → Int} (h : SrcO g w a n F) (hg : w.grownBy w' (some g)) : SrcO g w' a n F := by
  refine h.imp id ?_
  rintro ⟨b, off, e, hne, hlt, hc⟩
  exact ⟨b, off, e, hne, Nat.lt_of_lt_of_le hlt hg.size, fun j hj => hg.cell (hc j hj) (fun e => by injection e with e; exact hne e)⟩
theorem SrcO.of {B g : Nat} {w : World} {v : Value} {n : Nat} {F : Nat → Int} (h : w.ownsRow B 3 1 v n (xsF F n)) (hB : g < B) : ∃ a cap, v = .slice a n cap ∧ n ≤ cap ∧ SrcO g w a n F := by
  by_cases hn : n = 0
  · obtain ⟨a, cap, hv, hc, _⟩ := src_of_owns2 h
    exact ⟨a, cap, hv, hc, .inl hn⟩
  · obtain ⟨g2, cap, hv, hg, ho⟩ := OwnV.of_owns h hn
    have hcap : n ≤ cap := by obtain ⟨_, _, h, _⟩ := ho; exact h
    exact ⟨_, cap, hv, hcap, .inr ⟨g2, 0, rfl, by omega, ho.lt, fun j hj => by rw [Nat.zero_add]; exact ho.cell hj⟩⟩
theorem Cur.below {g : Nat} {w w' : World} (h : Cur g w) (hb : Below w.heap.size w w') : Cur g w' :=
  h.other (row := none) ⟨hb.os, hb.tape, hb.output, hb.size, fun i hi _ => hb.block i hi⟩ (fun _ h => by cases h)
/-- The drawn list, in a row of the draw's own. -/
def ZPol (g : Nat) (w : World) (n : Nat) (e : Ending) (w' : World) : Prop := ∃ (l : List Int) (a : Option Addr) (cap : Nat), e = .returned (.slice a l.length cap) ∧ l.length ≤ n ∧ l.length ≤ cap ∧ SrcO g w' a l.length (lf l) ∧ Cur g w' ∧ w.grownBy w' (some g)
theorem ZPol.of {g : Nat} {w w' : World} {v : Value} {n : Nat} {l : List Int} (h : w'.ownsRow w.heap.size 3 1 v l.length (xsF (lf l) l.length)) (hB : g < w.heap.size) (hl : l.length ≤ n) (hc : Cur g w') (hg : w.grownBy w' (some g)) : ZPol g w n (.returned v) w' := by
  obtain ⟨a, cap, rfl, hcap, hs⟩ := SrcO.of h hB
  exact ⟨l, a, cap, rfl, hl, hcap, hs, hc, hg⟩
theorem lf_tabF (n : Nat) (F : Nat → Int) : xsF (lf (tab n F)) n = xsF F n := xsF_congr fun j hj => by rw [lf_tab, if_pos hj]
/-- The row, its last number written anew. -/
theorem owns_to_tab {w : World} {B n : Nat} {v : Value} {F : Nat → Int} (h : w.ownsRow B 3 1 v n (xsF F n)) : w.ownsRow B 3 1 v (tab n F).length (xsF (lf (tab n F)) (tab n F).length) := by
  rw [tab_len, lf_tabF]
  exact h
end Go.Proofs.Ytangofjpnhhfeaa
namespace Go.Proofs.Ytangofjpnhhfeaa
open Go.RowKit
theorem OwnV.grown {g : Nat} {w w' : World} {g2 n cap : Nat} {F : Nat → Int} (h : OwnV w g2 n cap F) (hg : w.grownBy w' (some g)) (hne : g2 ≠ g) : OwnV w' g2 n cap F := by
  obtain ⟨V, h1, h2, h3⟩ := h
  have hlt := OwnV.lt ⟨V, h1, h2, h3⟩
  exact ⟨V, World.rowIs.of_block h1 (hg.block g2 hlt (fun e => by injection e with e; exact hne e)), h2, h3⟩
/-- A drawn list, whose row may still be written. -/
def ZVal (g : Nat) (w : World) (n : Nat) (v : Value) (w' : World) : Prop := ∃ l : List Int, l.length ≤ n ∧ (∃ B, g < B ∧ w.heap.size ≤ B ∧ w'.ownsRow B 3 1 v l.length (xsF (lf l) l.length)) ∧ Cur g w' ∧ w.grownBy w' (some g)
theorem ZVal.of {g : Nat} {w w' : World} {n : Nat} {v : Value} (hB : g < w.heap.size) (h : ZAt g w w' v n) : ZVal g w n v w' := by
  obtain ⟨⟨F, ho⟩, hc, hg, hs⟩ := h
  exact ⟨tab n F, by rw [tab_len]; exact Nat.le_refl _, ⟨w.heap.size, hB, Nat.le_refl _, owns_to_tab ho⟩, hc, hg⟩
theorem ZVal.grown {g : Nat} {w w1 w2 : World} {n : Nat} {v : Value} (h : ZVal g w n v w1) (hg : w1.grownBy w2 (some g)) (hc : Cur g w2) : ZVal g w n v w2 := by
  obtain ⟨l, hl, ⟨B, hB, hB2, ho⟩, _, hg1⟩ := h
  exact ⟨l, hl, ⟨B, hB, hB2, ho.kept hg (zown_ne hB ho)⟩, hc, hg1.trans hg⟩
/-- The value is a slice: empty, or a row that can be written. -/
theorem ZVal.cases {g : Nat} {w w1 : World} {n : Nat} {v : Value} (h : ZVal g w n v w1) : ∃ (l : List Int) (a : Option Addr) (cap : Nat), v = .slice a l.length cap ∧ l.length ≤ n ∧ (l.length = 0 ∨ ∃ g2, a = some ⟨g2, 0, none⟩ ∧ g2 ≠ g ∧ w.heap.size ≤ g2 ∧ OwnV w1 g2 l.length cap (lf l)) := by
  obtain ⟨l, hl, ⟨B, hB, hB2, ho⟩, hc, hg⟩ := h
  by_cases hz : l.length = 0
  · obtain ⟨a, cap, rfl, hcap, hs⟩ := SrcO.of ho hB
    exact ⟨l, a, cap, rfl, hl, .inl hz⟩
  · obtain ⟨g2, cap, rfl, hg2, ho2⟩ := OwnV.of_owns ho hz
    exact ⟨l, _, cap, rfl, hl, .inr ⟨g2, rfl, by omega, by omega, ho2⟩⟩
end Go.Proofs.Ytangofjpnhhfeaa
namespace Go.Proofs.Ytangofjpnhhfeaa
open Go.RowKit
theorem OwnsL.room {w w' : World} {l : List Int} {e : Ending} (h : OwnsL w l e w') : ∃ a cap, e = .returned (.slice a l.length cap) ∧ SrcC w' a l.length cap (lf l) ∧ Below w.heap.size w w' := by
  obtain ⟨v, rfl, ho, hb⟩ := h
  obtain ⟨a, cap, rfl, hcap, hs⟩ := src_of_owns2 ho
  exact ⟨a, cap, rfl, ⟨hcap, hs⟩, hb⟩
end Go.Proofs.Ytangofjpnhhfeaa
namespace Go.Proofs.Ytangofjpnhhfeaa
open Go.RowKit
/-- A number; memory stays as it is. -/
def DrewI (w : World) (x : Int) (e : Ending) (w' : World) : Prop := e = .returned (.int .i64 x) ∧ ∃ q, w' = w.drewN q
theorem src_cells {w : World} {a : Option Addr} {n : Nat} {F : Nat → Int} (h : Src w a n F) (i : Nat) (hi : i < n) : ∃ b off, a = some ⟨b, off, none⟩ ∧ w.cell? ⟨b, off + i, none⟩ = some (.int .i64 (F i)) := by
  rcases h with rfl | ⟨b, off, rfl, _, hc⟩
  · omega
  · exact ⟨b, off, rfl, hc i hi⟩
set_option maxRecDepth 100000 in
set_option maxHeartbeats 3200000 in
theorem sDiffer (a : Option Addr) (xs : List Int) (cap : Nat) (a2 : Option Addr) (ys : List Int) (cap2 : Nat) (w : World) (hn : xs.length ≤ 1048576) (hn2 : ys.length ≤ 1048576) (hs : Src w a xs.length (lf xs)) (hs2 : Src w a2 ys.length (lf ys)) : Calls Try.prog 4 #[.slice a xs.length cap, .slice a2 ys.length cap2] w (DrewI w (mDiffer xs ys)) := by
  by_cases h1 : xs.length ≤ 4096
  · have hd1 : decide ((4096 : Int) < xs.length) = false := decide_eq_false (by omega)
    by_cases h2 : ys.length ≤ 4096
    · have hd2 : decide ((4096 : Int) < ys.length) = false := decide_eq_false (by omega)
      have HA := Lib.hid (src_cells hs)
      have HB := Lib.hid (src_cells hs2)
      have HE : Hid (∀ i, max xs.length ys.length ≤ i → i ≤ max xs.length ys.length → (cntN (difP xs ys) i : Int) = mDiffer xs ys) := Lib.hid fun i h3 h4 => by
        unfold mDiffer difN
        rw [if_pos ⟨h1, h2⟩, show i = max xs.length ys.length by omega]
      have HOA : Hid (∀ i, xs.length ≤ i → difP xs ys i = true) := Lib.hid fun i h => by unfold difP; simp [h]
      have HOB : Hid (∀ i, ys.length ≤ i → difP xs ys i = true) := Lib.hid fun i h => by unfold difP; simp [h]
      have HIN : Hid (∀ i, i < xs.length → i < ys.length → difP xs ys i = (lf xs i != lf ys i)) := Lib.hid fun i h h3 => by
        unfold difP
        rw [decide_eq_false (by omega), decide_eq_false (by omega)]
        rfl
      have HST : Hid (∀ i, difP xs ys i = true → ((cntN (difP xs ys) i : Nat) : Int) + 1 = (cntN (difP xs ys) (i + 1) : Nat)) := Lib.hid fun i h => by
        show _ = ((cntN (difP xs ys) i + (if difP xs ys i then 1 else 0) : Nat) : Int)
        rw [if_pos h]
        omega
      have HSF : Hid (∀ i, difP xs ys i = false → ((cntN (difP xs ys) i : Nat) : Int) = (cntN (difP xs ys) (i + 1) : Nat)) := Lib.hid fun i h => by
        show _ = ((cntN (difP xs ys) i + (if difP xs ys i then 1 else 0) : Nat) : Int)
        rw [h]
        simp
      have HLE := Lib.hid (fun i => cntN_le (difP xs ys) i)
      clear hs hs2
      generalize mDiffer xs ys = R at *
      generalize difP xs ys = D at *
      generalize lf xs = X at *
      generalize lf ys = Y at *
      generalize xs.length = n at *
      generalize ys.length = m at *
      go_enter Try.func4, Try.ntmps4
      go_wp2_with fail
      go_loopw [5, 6] (fun cv iv wr => ∃ i q : Nat, iv = .int .i64 i ∧ i ≤ max n m ∧ cv = .int .i64 (cntN D i : Nat) ∧ wr = w.drewN q) (fun _ iv _ => max n m - (intOf iv).toNat)
      case atStart => exact ⟨0, 0, rfl, Nat.zero_le _, rfl, rfl⟩
      case round =>
        obtain ⟨i, q, rfl, hin, rfl, rfl⟩ := hrel
        have hcl := HLE.out i
        by_cases h3 : i < n
        · have hd3 : decide ((i : Int) < n) = true := decide_eq_true (by omega)
          have hd3n : decide (i < n) = true := decide_eq_true (by omega)
          have hd4 : decide ((n : Int) ≤ i) = false := decide_eq_false (by omega)
          have hd4n : decide (n ≤ i) = false := decide_eq_false (by omega)
          have hi0 : (0 : Int) ≤ (i : Int) := by omega
          have hi2 : (i : Int) < n := by omega
          obtain ⟨b, off, rfl, c1⟩ := HA.out i h3
          by_cases h4 : i < m
          · have hd5 : decide ((m : Int) ≤ i) = false := decide_eq_false (by omega)
            have hd5n : decide (m ≤ i) = false := decide_eq_false (by omega)
            have hi3 : (i : Int) < m := by omega
            obtain ⟨b2, off2, rfl, c2⟩ := HB.out i h4
            have e0 := HIN.out i h3 h4
            cases hD : D i
            · have e1 : (X i != Y i) = false := by rw [← e0]; exact hD
              have e2 := Lib.hid (HSF.out i hD)
              clear e0
              go_wp2
              go_quiet (fail)
              go_wp2
              go_roundw
              case rel => exact ⟨i + 1, _, by go_num, by omega, vint e2.out, rfl⟩
              case measure => simp [intOf]; omega
            · have e1 : (X i != Y i) = true := by rw [← e0]; exact hD
              have e2 := Lib.hid (HST.out i hD)
              clear e0
              go_wp2
              go_quiet (fail)
              go_wp2
              go_roundw
              case rel => exact ⟨i + 1, _, by go_num, by omega, vint e2.out, rfl⟩
              case measure => simp [intOf]; omega
          · have hd5 : decide ((m : Int) ≤ i) = true := decide_eq_true (by omega)
            have hd5n : decide (m ≤ i) = true := decide_eq_true (by omega)
            have e2 := Lib.hid (HST.out i (HOB.out i (by omega)))
            go_wp2
            go_quiet (fail)
            go_wp2
            go_roundw
            case rel => exact ⟨i + 1, _, by go_num, by omega, vint e2.out, rfl⟩
            case measure => simp [intOf]; omega
        · have hd3 : decide ((i : Int) < n) = false := decide_eq_false (by omega)
          have hd3n : decide (i < n) = false := decide_eq_false (by omega)
          have hd4 : decide ((n : Int) ≤ i) = true := decide_eq_true (by omega)
          have hd4n : decide (n ≤ i) = true := decide_eq_true (by omega)
          by_cases h4 : i < m
          · have hd5 : decide ((i : Int) < m) = true := decide_eq_true (by omega)
            have hd5n : decide (i < m) = true := decide_eq_true (by omega)
            have e2 := Lib.hid (HST.out i (HOA.out i (by omega)))
            go_wp2
            go_quiet (fail)
            go_wp2
            go_roundw
            case rel => exact ⟨i + 1, _, by go_num, by omega, vint e2.out, rfl⟩
            case measure => simp [intOf]; omega
          · have hd5 : decide ((i : Int) < m) = false := decide_eq_false (by omega)
            have hd5n : decide (i < m) = false := decide_eq_false (by omega)
            have e2 := Lib.hid (HE.out i (by omega) hin)
            go_wp2
            go_ret
            exact ⟨by rw [vint e2.out]; rfl, q, rfl⟩
    · have hd2 : decide ((4096 : Int) < ys.length) = true := decide_eq_true (by omega)
      rw [show mDiffer xs ys = -1 by unfold mDiffer; rw [if_neg fun h => h2 h.2]]
      clear hs hs2
      go_enter Try.func4, Try.ntmps4
      go_wp2
      go_ret
      exact ⟨rfl, 0, rfl⟩
  · have hd1 : decide ((4096 : Int) < xs.length) = true := decide_eq_true (by omega)
    rw [show mDiffer xs ys = -1 by unfold mDiffer; rw [if_neg fun h => h1 h.1]]
    clear hs hs2
    go_enter Try.func4, Try.ntmps4
    go_wp2
    go_ret
    exact ⟨rfl, 0, rfl⟩
end Go.Proofs.Ytangofjpnhhfeaa
namespace Go.Proofs.Ytangofjpnhhfeaa
open Go.RowKit
theorem sel_yes {p : Nat → Bool} (X : Nat → Int) {i : Nat} (h : p i = true) : xsF (lf (selL p X i)) (cntN p i) ++ [.int .i64 (X i)] = xsF (lf (selL p X (i + 1))) (cntN p (i + 1)) ∧ cntN p i + 1 = cntN p (i + 1) := by
  have e : cntN p (i + 1) = cntN p i + 1 := by show cntN p i + (if p i then 1 else 0) = _; rw [if_pos h]
  have eX : selL p X (i + 1) = selL p X i ++ [X i] := by show (if p i then selL p X i ++ [X i] else selL p X i) = _; rw [if_pos h]
  refine ⟨?_, e.symm⟩
  rw [e, ← xsF_succ, eX]
  congr 1
  · exact xsF_congr fun j hj => by rw [lf_app, selL_len, if_pos hj]
  · rw [lf_app, selL_len, if_neg (by omega), if_pos rfl]
theorem sel_no {p : Nat → Bool} (X : Nat → Int) {i : Nat} (h : p i = false) : selL p X (i + 1) = selL p X i ∧ cntN p (i + 1) = cntN p i := by
  constructor
  · show (if p i then selL p X i ++ [X i] else selL p X i) = _; rw [h]; rfl
  · show cntN p i + (if p i then 1 else 0) = _; rw [h]; rfl
end Go.Proofs.Ytangofjpnhhfeaa
namespace Go.Proofs.Ytangofjpnhhfeaa
theorem emm (x p : Int) : x % p % p = x % p := Int.emod_emod_of_dvd _ (Int.dvd_refl _)
theorem van_at {f : Int} (h0 : 0 ≤ f) (h8 : f ≤ 8) (X : Nat → Int) {n i : Nat} (hi : i < n) : evL f (X i) (vanL f X n) = 0 := by
  rw [vanL_ev h0 h8, pdZ_zero hi rfl]
  exact Int.zero_emod _
end Go.Proofs.Ytangofjpnhhfeaa
namespace Go.Proofs.Ytangofjpnhhfeaa
/-- The state of the divisions: two remainders and their factors. -/
def EeaAt (f : Int) (X Y : Nat → Int) (n b : Nat) (r0 r1 v0 v1 : List Int) : Prop :=
  (Pol f r0 ∧ Pol f r1 ∧ Pol f v0 ∧ Pol f v1) ∧ (r1.length < r0.length ∧ v0.length < v1.length ∧ v1.length + r0.length = n + 2 ∧ b ≤ 2 * (r0.length - 1)) ∧ (∀ i, i < n → evL f (X i) r0 = RS (evL f (X i) v0 * Y i) (P f)) ∧ ∀ i, i < n → evL f (X i) r1 = RS (evL f (X i) v1 * Y i) (P f)
theorem evL_one1 {f x : Int} (h0 : 0 ≤ f) (h8 : f ≤ 8) : evL f x [1] = 1 := by
  have hp := P_bd h0 h8
  have e : evN x (lf [1]) 1 = 1 := by
    show 0 + (1 : Int) * x ^ 0 = 1
    rw [Int.pow_zero]; rfl
  show RS (evN x (lf [1]) 1) (P f) = 1
  rw [e]
  exact Int.emod_eq_of_lt (by omega) (by omega)
theorem evL_nil (f x : Int) : evL f x [] = 0 := by simp [evL, evN, sumN, RS]
theorem EeaAt.start {f : Int} (h0 : 0 ≤ f) (h8 : f ≤ 8) {X Y : Nat → Int} {n b : Nat} {c : List Int} (hb : b ≤ 2 * n) (hY : ∀ j, j < n → 0 ≤ Y j ∧ Y j < P f) (h : QInter f X Y n c) : EeaAt f X Y n b (vanL f X n) c [] [1] := by
  have hl := vanL_len h0 h8 X n
  have h1 := h.2.1
  refine ⟨⟨vanL_pol h0 h8 X n, h.1, Pol.nil (P_pos h0 h8), pol_oneL h0 h8⟩, ⟨by omega, by simp, by rw [hl]; simp; omega, by omega⟩, fun i hi => ?_, fun i hi => ?_⟩
  · rw [van_at h0 h8 X hi, evL_nil, Int.zero_mul]
    exact (Int.zero_emod _).symm
  · rw [h.2.2 i hi, evL_one1 h0 h8, Int.one_mul]
    exact (Int.emod_eq_of_lt (hY i hi).1 (hY i hi).2).symm
theorem msg_pol {f : Int} {m : List Int} {k : Nat} (h0 : 0 ≤ f) (h8 : f ≤ 8) (hm : m.length = k) (he : ElsOk f m) : Pol f (cutL k (lf m)) := Pol.cut (P_pos h0 h8) fun j hj => he j (by rw [hm]; exact hj)
theorem lf_cut_k {m : List Int} {k : Nat} (hm : m.length = k) : lf (cutL k (lf m)) = lf m := by
  subst hm
  exact lf_cut_self m
theorem evL_msg {f x : Int} {m : List Int} {k : Nat} (hm : m.length = k) : evL f x (cutL k (lf m)) = RS (evN x (lf m) m.length) (P f) := by
  rw [evL_n (cutL_le k (lf m)), lf_cut_k hm, hm]
/-- Where a message is near, the remainder is its multiple by the factor. -/
theorem EeaAt.found {f : Int} {xs ys : List Int} {k : Nat} (hp : PtsOk f xs) (hy : ys.length = xs.length) (_k1 : 1 ≤ k) (hk : k ≤ xs.length) {r0 r1 v0 v1 m : List Int} (h : EeaAt f (lf xs) (lf ys) xs.length (xs.length + k) r0 r1 v0 v1) (hend : 2 * (r1.length - 1) < xs.length + k) (hm : QDec f xs ys k m) : r1 = mulL f v1 (cutL k (lf m)) := by
  have h0 := hp.1.1
  have h8 := hp.1.2
  obtain ⟨⟨p1, p2, p3, p4⟩, ⟨l1, l2, l3, l4⟩, e1, e2⟩ := h
  have d := hm.2.2
  rw [difN_same (by rw [encL_len, hy]), encL_len] at d
  have hnot := cntN_not (fun j => lf (encL f xs m) j != lf ys j) xs.length
  obtain ⟨s, s1, s2, _, _⟩ := sel_idx (fun j => !(lf (encL f xs m) j != lf ys j)) xs.length
  obtain ⟨N, hN⟩ : ∃ N, cntN (fun j => !(lf (encL f xs m) j != lf ys j)) xs.length = N := ⟨_, rfl⟩
  rw [hN] at hnot s1 s2
  have hd : DistinctS f (fun j => lf xs (s j)) N := distinct_of (fun j hj => hp.2.2.1 (s j) (s1 j (by omega)).1) fun i j hij hj => by
    have h1 := s2 i j hij (by omega)
    have h2 := (s1 j (by omega)).1
    exact hp.2.2.2 (s i) (s j) h1 h2
  have lm := cutL_le k (lf m)
  have lp := mulL_le f v1 (cutL k (lf m))
  refine through_unique h0 h8 hd p2 (pol_mulL h0 h8 _ _) (by omega) (by omega) fun i hi => ?_
  have h1 := s1 i hi
  have h3 : lf (encL f xs m) (s i) = lf ys (s i) := by
    have := h1.2
    simp only [Bool.not_eq_true', bne_eq_false_iff_eq] at this
    exact this
  rw [encL_at h1.1] at h3
  show evL f (lf xs (s i)) r1 = evL f (lf xs (s i)) (mulL f v1 (cutL k (lf m)))
  rw [e2 (s i) h1.1, evL_mul, evL_msg hm.1, h3]
theorem mul_div {f : Int} (h0 : 0 ≤ f) (h8 : f ≤ 8) {v c : List Int} (hc : Pol f c) (hz : v.length ≠ 0) : DivP f (mulL f v c) v c [] := by
  refine ⟨hc, Pol.nil (P_pos h0 h8), by simp; omega, fun j => ?_⟩
  rw [lf_mulL, emm, cv_comm, lf_out [] (Nat.zero_le _), Int.add_zero]
/-- The quotient, cut and padded, is the message. -/
theorem EeaAt.message {f : Int} {xs ys : List Int} {k : Nat} (hp : PtsOk f xs) (hy : ys.length = xs.length) (k1 : 1 ≤ k) (hk : k ≤ xs.length) {r0 r1 v0 v1 m q r : List Int} (h : EeaAt f (lf xs) (lf ys) xs.length (xs.length + k) r0 r1 v0 v1) (hend : 2 * (r1.length - 1) < xs.length + k) (hm : QDec f xs ys k m) (hd : DivP f r1 v1 q r) : padL q k = m := by
  have h0 := hp.1.1
  have h8 := hp.1.2
  have e := h.found hp hy k1 hk hend hm
  have hv := h.2.1.2.1
  rw [e] at hd
  have hq := (DivP.unique h0 h8 h.1.2.2.2 hd (mul_div h0 h8 (msg_pol h0 h8 hm.1 hm.2.1) (by omega))).1
  rw [hq]
  refine list_ext (by rw [padL_len, hm.1]) fun j hj => ?_
  rw [lf_padL _ (cutL_le k (lf m)), lf_cut_k hm.1]
/-- The places where two lists differ. -/
def dfL (a b : List Int) : List Int := selL (difP a b) (fun i => (i : Int)) (max a.length b.length)
theorem dfL_len (a b : List Int) : (dfL a b).length = difN a b := selL_len _ _ _
theorem difP_comm (a b : List Int) : difP a b = difP b a := funext fun j => by
  unfold difP
  rw [Bool.or_comm (decide (a.length ≤ j)), bne_comm]
theorem dfL_comm (a b : List Int) : dfL a b = dfL b a := by unfold dfL; rw [difP_comm, Nat.max_comm]
end Go.Proofs.Ytangofjpnhhfeaa
namespace Go.Proofs.Ytangofjpnhhfeaa
open Go.RowKit
theorem own_nil0 (w : World) (F : Nat → Int) : w.ownsRow w.heap.size 3 1 (.slice none 0 0) 0 (xsF F 0) := ⟨rfl, .inl ⟨rfl, rfl⟩⟩
theorem difP_in {xs ys : List Int} {i : Nat} (h : i < xs.length) (h2 : i < ys.length) : difP xs ys i = (lf xs i != lf ys i) := by
  unfold difP
  simp [show ¬ xs.length ≤ i by omega, show ¬ ys.length ≤ i by omega]
theorem difP_out {xs ys : List Int} {i : Nat} (h2 : ys.length ≤ i) : difP xs ys i = true := by
  unfold difP
  simp [h2]
set_option maxRecDepth 100000 in
set_option maxHeartbeats 3200000 in
theorem differing_ge (b off cap : Nat) (b2 off2 : Nat) (xs ys : List Int) (cap2 : Nat) (w : World) (n1 : 1 ≤ xs.length) (hle : ys.length ≤ xs.length) (hn : xs.length ≤ 4096) (hlt : b < w.heap.size) (hc : ∀ j, j < xs.length → w.cell? ⟨b, off + j, none⟩ = some (.int .i64 (lf xs j))) (hlt2 : b2 < w.heap.size) (hc2 : ∀ j, j < ys.length → w.cell? ⟨b2, off2 + j, none⟩ = some (.int .i64 (lf ys j))) :
    Calls Try.prog 8 #[.slice (some ⟨b, off, none⟩) xs.length cap, .slice (some ⟨b2, off2, none⟩) ys.length cap2] w (OwnsL w (dfL xs ys)) := by
  have HIN : Hid (∀ i, i < xs.length → i < ys.length → difP xs ys i = (lf xs i != lf ys i)) := Lib.hid fun i h h2 => difP_in h h2
  have HOUT : Hid (∀ i, ys.length ≤ i → difP xs ys i = true) := Lib.hid fun i h => difP_out h
  have HF : Hid (∀ v W, W.ownsRow w.heap.size 3 1 v (cntN (difP xs ys) xs.length) (xsF (lf (selL (difP xs ys) (fun i => (i : Int)) xs.length)) (cntN (difP xs ys) xs.length)) → Below w.heap.size w W → OwnsL w (dfL xs ys) (.returned v) W) := Lib.hid fun v W ho hb => by
    have e : dfL xs ys = selL (difP xs ys) (fun i => (i : Int)) xs.length := by unfold dfL; rw [Nat.max_eq_left (by first | omega | exact Nat.zero_le _)]
    rw [e]
    exact owns_to (w := w) ho (selL_len _ _ _).symm (fun j _ => rfl) hb
  have HX := Lib.hid (fun i h => @sel_yes (difP xs ys) (fun i => (i : Int)) i h)
  have HXN := Lib.hid (fun i h => @sel_no (difP xs ys) (fun i => (i : Int)) i h)
  have HCL := Lib.hid (fun i => cntN_le (difP xs ys) i)
  have HC := Lib.hid hc
  have HB : Hid (∀ i, i < ys.length → w.cell? ⟨b2, off2 + i, none⟩ = some (.int .i64 (lf ys i))) := Lib.hid hc2
  have OE := Lib.hid (own_nil0 w (lf (selL (difP xs ys) (fun i => (i : Int)) 0)))
  obtain ⟨i0, hi, hz0, hz1, hz2⟩ := info_parts info3
  have HI := Lib.hid hi
  have HZ0 := Lib.hid hz0
  have HZ1 := Lib.hid hz1
  have HZ2 := Lib.hid hz2
  clear hi hz0 hz1 hz2 hc hc2
  generalize difP xs ys = D at *
  generalize dfL xs ys = R at *
  generalize lf xs = X at *
  generalize lf ys = Y at *
  generalize xs.length = n at *
  generalize ys.length = m at *
  have hd0 : decide ((n : Int) < m) = false := decide_eq_false (by omega)
  have hd0n : decide (n < m) = false := decide_eq_false (by omega)
  go_enter Try.func8, Try.ntmps8
  go_wp2_with fail
  (try rw [hd0])
  (try rw [hd0n])
  go_loopw [5, 17] (fun v iv wr => ∃ i : Nat, iv = .int .i64 i ∧ i ≤ n ∧ wr.ownsRow w.heap.size 3 1 v (cntN D i) (xsF (lf (selL D (fun i => (i : Int)) i)) (cntN D i)) ∧ Below w.heap.size w wr) (fun _ iv _ => n - (intOf iv).toNat)
  case atStart => exact ⟨0, rfl, Nat.zero_le _, OE.out, Below.refl _ _⟩
  case round =>
    clear OE
    obtain ⟨i, rfl, hin, hown, hnx⟩ := hrel
    have hcl := HCL.out i
    have hsz := hnx.size
    by_cases h1 : i < n
    · have hd1 : decide ((i : Int) < n) = true := decide_eq_true (by omega)
      have c1 : wr.cell? ⟨b, off + i, none⟩ = some (.int .i64 (X i)) := (hnx.cell (p := ⟨b, off + i, none⟩) hlt).trans (HC.out i h1)
      have hi0 : (0 : Int) ≤ (i : Int) := by omega
      have hi2 : (i : Int) < n := by omega
      cases hB : D i
      · have h3 : i < m := by
          rcases Nat.lt_or_ge i m with h | h
          · exact h
          · rw [HOUT.out i h] at hB; cases hB
        have c2 := HB.out i h3
        have c2 : wr.cell? ⟨b2, off2 + i, none⟩ = some (.int .i64 (Y i)) := (hnx.cell (p := ⟨b2, off2 + i, none⟩) hlt2).trans c2
        have hd3 : decide ((m : Int) ≤ i) = false := decide_eq_false (by omega)
        have hi3 : (i : Int) < m := by omega
        have hbne : (X i != Y i) = false := by rw [← HIN.out i h1 h3]; exact hB
        have e1 := HXN.out i hB
        have HV : Hid (wr.ownsRow w.heap.size 3 1 _ (cntN D (i + 1)) (xsF (lf (selL D (fun i => (i : Int)) (i + 1))) (cntN D (i + 1)))) := Lib.hid (by rw [e1.1, e1.2]; exact hown)
        have HNX := Lib.hid hnx
        clear hown e1 hnx HB
        go_wp2
        go_roundw
        case rel => exact ⟨i + 1, by go_num, by omega, HV.out, HNX.out⟩
        case measure => simp [intOf]; omega
      · have e1 := Lib.hid (HX.out i hB)
        have hge := own_ge hown
        by_cases h3 : i < m
        · have c2 := HB.out i h3
          have c2 : wr.cell? ⟨b2, off2 + i, none⟩ = some (.int .i64 (Y i)) := (hnx.cell (p := ⟨b2, off2 + i, none⟩) hlt2).trans c2
          have hd3 : decide ((m : Int) ≤ i) = false := decide_eq_false (by omega)
          have hi3 : (i : Int) < m := by omega
          have hbne : (X i != Y i) = true := by rw [← HIN.out i h1 h3]; exact hB
          go_wp2_with (at_builtin; refine wpList_append_own_at _ rfl _ _ 22 rfl w.heap.size 3 i0 (.int .i64 0) 1 8 Try.underlying22 HI.out HZ0.out HZ1.out HZ2.out rfl (by decide) _ _ _ rfl (hown.alloc _) ⟨wr.heap.size, 0, none⟩ 1 1 [.int .i64 (i : Int)] rfl rfl ?c1 ?c2 ?c3 ?c4 ?c5 ?_)
          case c1 => exact cell_one_new _ _ _
          case c2 => intro u hu; simp at hu; subst hu; rfl
          case c3 => unfold maxLen; omega
          case c4 => omega
          case c5 => simp; omega
          intro v' w6 hown' hgrow _ hat
          have hbel : Below w.heap.size w w6 := (hnx.alloc hsz _).grown hgrow (by simp; omega) hge
          rw [e1.out.1, e1.out.2] at hown'
          clear hgrow hown hat hnx
          go_wp2
          go_roundw
          case rel => exact ⟨i + 1, by go_num, by omega, hown', hbel⟩
          case measure => simp [intOf]; omega
        · have hd3 : decide ((m : Int) ≤ i) = true := decide_eq_true (by omega)
          go_wp2_with (at_builtin; refine wpList_append_own_at _ rfl _ _ 22 rfl w.heap.size 3 i0 (.int .i64 0) 1 8 Try.underlying22 HI.out HZ0.out HZ1.out HZ2.out rfl (by decide) _ _ _ rfl (hown.alloc _) ⟨wr.heap.size, 0, none⟩ 1 1 [.int .i64 (i : Int)] rfl rfl ?c1 ?c2 ?c3 ?c4 ?c5 ?_)
          case c1 => exact cell_one_new _ _ _
          case c2 => intro u hu; simp at hu; subst hu; rfl
          case c3 => unfold maxLen; omega
          case c4 => omega
          case c5 => simp; omega
          intro v' w6 hown' hgrow _ hat
          have hbel : Below w.heap.size w w6 := (hnx.alloc hsz _).grown hgrow (by simp; omega) hge
          rw [e1.out.1, e1.out.2] at hown'
          clear hgrow hown hat hnx
          go_wp2
          go_roundw
          case rel => exact ⟨i + 1, by go_num, by omega, hown', hbel⟩
          case measure => simp [intOf]; omega
    · have hd1 : decide ((i : Int) < n) = false := decide_eq_false (by omega)
      obtain rfl : i = n := by omega
      have HR := Lib.hid (HF.out _ wr hown hnx)
      clear hown hnx
      go_wp2
      go_ret
      exact HR.out
set_option maxRecDepth 100000 in
set_option maxHeartbeats 3200000 in
theorem differing_lt (b off cap : Nat) (b2 off2 : Nat) (xs ys : List Int) (cap2 : Nat) (w : World) (n1 : 1 ≤ xs.length) (hlt3 : ys.length < xs.length) (hn : xs.length ≤ 4096) (hlt : b < w.heap.size) (hc : ∀ j, j < xs.length → w.cell? ⟨b, off + j, none⟩ = some (.int .i64 (lf xs j))) (hlt2 : b2 < w.heap.size) (hc2 : ∀ j, j < ys.length → w.cell? ⟨b2, off2 + j, none⟩ = some (.int .i64 (lf ys j))) :
    Calls Try.prog 8 #[.slice (some ⟨b2, off2, none⟩) ys.length cap2, .slice (some ⟨b, off, none⟩) xs.length cap] w (OwnsL w (dfL xs ys)) := by
  have HIN : Hid (∀ i, i < xs.length → i < ys.length → difP xs ys i = (lf xs i != lf ys i)) := Lib.hid fun i h h2 => difP_in h h2
  have HOUT : Hid (∀ i, ys.length ≤ i → difP xs ys i = true) := Lib.hid fun i h => difP_out h
  have HF : Hid (∀ v W, W.ownsRow w.heap.size 3 1 v (cntN (difP xs ys) xs.length) (xsF (lf (selL (difP xs ys) (fun i => (i : Int)) xs.length)) (cntN (difP xs ys) xs.length)) → Below w.heap.size w W → OwnsL w (dfL xs ys) (.returned v) W) := Lib.hid fun v W ho hb => by
    have e : dfL xs ys = selL (difP xs ys) (fun i => (i : Int)) xs.length := by unfold dfL; rw [Nat.max_eq_left (by first | omega | exact Nat.zero_le _)]
    rw [e]
    exact owns_to (w := w) ho (selL_len _ _ _).symm (fun j _ => rfl) hb
  have HX := Lib.hid (fun i h => @sel_yes (difP xs ys) (fun i => (i : Int)) i h)
  have HXN := Lib.hid (fun i h => @sel_no (difP xs ys) (fun i => (i : Int)) i h)
  have HCL := Lib.hid (fun i => cntN_le (difP xs ys) i)
  have HC := Lib.hid hc
  have HB : Hid (∀ i, i < ys.length → w.cell? ⟨b2, off2 + i, none⟩ = some (.int .i64 (lf ys i))) := Lib.hid hc2
  have OE := Lib.hid (own_nil0 w (lf (selL (difP xs ys) (fun i => (i : Int)) 0)))
  obtain ⟨i0, hi, hz0, hz1, hz2⟩ := info_parts info3
  have HI := Lib.hid hi
  have HZ0 := Lib.hid hz0
  have HZ1 := Lib.hid hz1
  have HZ2 := Lib.hid hz2
  clear hi hz0 hz1 hz2 hc hc2
  generalize difP xs ys = D at *
  generalize dfL xs ys = R at *
  generalize lf xs = X at *
  generalize lf ys = Y at *
  generalize xs.length = n at *
  generalize ys.length = m at *
  have hd0 : decide ((m : Int) < n) = true := decide_eq_true (by omega)
  have hle : m ≤ n := by omega
  go_enter Try.func8, Try.ntmps8
  go_wp2_with fail
  (try rw [hd0])
  (try rw [hd0n])
  go_loopw [5, 17] (fun v iv wr => ∃ i : Nat, iv = .int .i64 i ∧ i ≤ n ∧ wr.ownsRow w.heap.size 3 1 v (cntN D i) (xsF (lf (selL D (fun i => (i : Int)) i)) (cntN D i)) ∧ Below w.heap.size w wr) (fun _ iv _ => n - (intOf iv).toNat)
  case atStart => exact ⟨0, rfl, Nat.zero_le _, OE.out, Below.refl _ _⟩
  case round =>
    clear OE
    obtain ⟨i, rfl, hin, hown, hnx⟩ := hrel
    have hcl := HCL.out i
    have hsz := hnx.size
    by_cases h1 : i < n
    · have hd1 : decide ((i : Int) < n) = true := decide_eq_true (by omega)
      have c1 : wr.cell? ⟨b, off + i, none⟩ = some (.int .i64 (X i)) := (hnx.cell (p := ⟨b, off + i, none⟩) hlt).trans (HC.out i h1)
      have hi0 : (0 : Int) ≤ (i : Int) := by omega
      have hi2 : (i : Int) < n := by omega
      cases hB : D i
      · have h3 : i < m := by
          rcases Nat.lt_or_ge i m with h | h
          · exact h
          · rw [HOUT.out i h] at hB; cases hB
        have c2 := HB.out i h3
        have c2 : wr.cell? ⟨b2, off2 + i, none⟩ = some (.int .i64 (Y i)) := (hnx.cell (p := ⟨b2, off2 + i, none⟩) hlt2).trans c2
        have hd3 : decide ((m : Int) ≤ i) = false := decide_eq_false (by omega)
        have hi3 : (i : Int) < m := by omega
        have hbne : (X i != Y i) = false := by rw [← HIN.out i h1 h3]; exact hB
        have e1 := HXN.out i hB
        have HV : Hid (wr.ownsRow w.heap.size 3 1 _ (cntN D (i + 1)) (xsF (lf (selL D (fun i => (i : Int)) (i + 1))) (cntN D (i + 1)))) := Lib.hid (by rw [e1.1, e1.2]; exact hown)
        have HNX := Lib.hid hnx
        clear hown e1 hnx HB
        go_wp2
        go_roundw
        case rel => exact ⟨i + 1, by go_num, by omega, HV.out, HNX.out⟩
        case measure => simp [intOf]; omega
      · have e1 := Lib.hid (HX.out i hB)
        have hge := own_ge hown
        by_cases h3 : i < m
        · have c2 := HB.out i h3
          have c2 : wr.cell? ⟨b2, off2 + i, none⟩ = some (.int .i64 (Y i)) := (hnx.cell (p := ⟨b2, off2 + i, none⟩) hlt2).trans c2
          have hd3 : decide ((m : Int) ≤ i) = false := decide_eq_false (by omega)
          have hi3 : (i : Int) < m := by omega
          have hbne : (X i != Y i) = true := by rw [← HIN.out i h1 h3]; exact hB
          go_wp2_with (at_builtin; refine wpList_append_own_at _ rfl _ _ 22 rfl w.heap.size 3 i0 (.int .i64 0) 1 8 Try.underlying22 HI.out HZ0.out HZ1.out HZ2.out rfl (by decide) _ _ _ rfl (hown.alloc _) ⟨wr.heap.size, 0, none⟩ 1 1 [.int .i64 (i : Int)] rfl rfl ?c1 ?c2 ?c3 ?c4 ?c5 ?_)
          case c1 => exact cell_one_new _ _ _
          case c2 => intro u hu; simp at hu; subst hu; rfl
          case c3 => unfold maxLen; omega
          case c4 => omega
          case c5 => simp; omega
          intro v' w6 hown' hgrow _ hat
          have hbel : Below w.heap.size w w6 := (hnx.alloc hsz _).grown hgrow (by simp; omega) hge
          rw [e1.out.1, e1.out.2] at hown'
          clear hgrow hown hat hnx
          go_wp2
          go_roundw
          case rel => exact ⟨i + 1, by go_num, by omega, hown', hbel⟩
          case measure => simp [intOf]; omega
        · have hd3 : decide ((m : Int) ≤ i) = true := decide_eq_true (by omega)
          go_wp2_with (at_builtin; refine wpList_append_own_at _ rfl _ _ 22 rfl w.heap.size 3 i0 (.int .i64 0) 1 8 Try.underlying22 HI.out HZ0.out HZ1.out HZ2.out rfl (by decide) _ _ _ rfl (hown.alloc _) ⟨wr.heap.size, 0, none⟩ 1 1 [.int .i64 (i : Int)] rfl rfl ?c1 ?c2 ?c3 ?c4 ?c5 ?_)
          case c1 => exact cell_one_new _ _ _
          case c2 => intro u hu; simp at hu; subst hu; rfl
          case c3 => unfold maxLen; omega
          case c4 => omega
          case c5 => simp; omega
          intro v' w6 hown' hgrow _ hat
          have hbel : Below w.heap.size w w6 := (hnx.alloc hsz _).grown hgrow (by simp; omega) hge
          rw [e1.out.1, e1.out.2] at hown'
          clear hgrow hown hat hnx
          go_wp2
          go_roundw
          case rel => exact ⟨i + 1, by go_num, by omega, hown', hbel⟩
          case measure => simp [intOf]; omega
    · have hd1 : decide ((i : Int) < n) = false := decide_eq_false (by omega)
      obtain rfl : i = n := by omega
      have HR := Lib.hid (HF.out _ wr hown hnx)
      clear hown hnx
      go_wp2
      go_ret
      exact HR.out
set_option maxRecDepth 100000 in
set_option maxHeartbeats 3200000 in
theorem differing_ge0 (b off cap : Nat) (a2 : Option Addr) (xs : List Int) (cap2 : Nat) (w : World) (n1 : 1 ≤ xs.length) (hle : 0 ≤ xs.length) (hn : xs.length ≤ 4096) (hlt : b < w.heap.size) (hc : ∀ j, j < xs.length → w.cell? ⟨b, off + j, none⟩ = some (.int .i64 (lf xs j))) :
    Calls Try.prog 8 #[.slice (some ⟨b, off, none⟩) xs.length cap, .slice a2 0 cap2] w (OwnsL w (dfL xs [])) := by
  have HOUT : Hid (∀ i, 0 ≤ i → difP xs [] i = true) := Lib.hid fun i h => difP_out h
  have HF : Hid (∀ v W, W.ownsRow w.heap.size 3 1 v (cntN (difP xs []) xs.length) (xsF (lf (selL (difP xs []) (fun i => (i : Int)) xs.length)) (cntN (difP xs []) xs.length)) → Below w.heap.size w W → OwnsL w (dfL xs []) (.returned v) W) := Lib.hid fun v W ho hb => by
    have e : dfL xs [] = selL (difP xs []) (fun i => (i : Int)) xs.length := by unfold dfL; rw [Nat.max_eq_left (by first | omega | exact Nat.zero_le _)]
    rw [e]
    exact owns_to (w := w) ho (selL_len _ _ _).symm (fun j _ => rfl) hb
  have HX := Lib.hid (fun i h => @sel_yes (difP xs []) (fun i => (i : Int)) i h)
  have HXN := Lib.hid (fun i h => @sel_no (difP xs []) (fun i => (i : Int)) i h)
  have HCL := Lib.hid (fun i => cntN_le (difP xs []) i)
  have HC := Lib.hid hc
  have OE := Lib.hid (own_nil0 w (lf (selL (difP xs []) (fun i => (i : Int)) 0)))
  obtain ⟨i0, hi, hz0, hz1, hz2⟩ := info_parts info3
  have HI := Lib.hid hi
  have HZ0 := Lib.hid hz0
  have HZ1 := Lib.hid hz1
  have HZ2 := Lib.hid hz2
  clear hi hz0 hz1 hz2 hc
  generalize difP xs [] = D at *
  generalize dfL xs [] = R at *
  generalize lf xs = X at *
  generalize xs.length = n at *
  have hd0 : decide ((n : Int) < 0) = false := decide_eq_false (by omega)
  have hd0n : decide (n < 0) = false := decide_eq_false (by omega)
  go_enter Try.func8, Try.ntmps8
  go_wp2_with fail
  (try rw [hd0])
  (try rw [hd0n])
  go_loopw [5, 17] (fun v iv wr => ∃ i : Nat, iv = .int .i64 i ∧ i ≤ n ∧ wr.ownsRow w.heap.size 3 1 v (cntN D i) (xsF (lf (selL D (fun i => (i : Int)) i)) (cntN D i)) ∧ Below w.heap.size w wr) (fun _ iv _ => n - (intOf iv).toNat)
  case atStart => exact ⟨0, rfl, Nat.zero_le _, OE.out, Below.refl _ _⟩
  case round =>
    clear OE
    obtain ⟨i, rfl, hin, hown, hnx⟩ := hrel
    have hcl := HCL.out i
    have hsz := hnx.size
    by_cases h1 : i < n
    · have hd1 : decide ((i : Int) < n) = true := decide_eq_true (by omega)
      have c1 : wr.cell? ⟨b, off + i, none⟩ = some (.int .i64 (X i)) := (hnx.cell (p := ⟨b, off + i, none⟩) hlt).trans (HC.out i h1)
      have hi0 : (0 : Int) ≤ (i : Int) := by omega
      have hi2 : (i : Int) < n := by omega
      have hB := HOUT.out i (Nat.zero_le _)
      have e1 := Lib.hid (HX.out i hB)
      have hge := own_ge hown
      have hd3 : decide ((0 : Int) ≤ (i : Int)) = true := decide_eq_true (by omega)
      go_wp2_with (at_builtin; refine wpList_append_own_at _ rfl _ _ 22 rfl w.heap.size 3 i0 (.int .i64 0) 1 8 Try.underlying22 HI.out HZ0.out HZ1.out HZ2.out rfl (by decide) _ _ _ rfl (hown.alloc _) ⟨wr.heap.size, 0, none⟩ 1 1 [.int .i64 (i : Int)] rfl rfl ?c1 ?c2 ?c3 ?c4 ?c5 ?_)
      case c1 => exact cell_one_new _ _ _
      case c2 => intro u hu; simp at hu; subst hu; rfl
      case c3 => unfold maxLen; omega
      case c4 => omega
      case c5 => simp; omega
      intro v' w6 hown' hgrow _ hat
      have hbel : Below w.heap.size w w6 := (hnx.alloc hsz _).grown hgrow (by simp; omega) hge
      rw [e1.out.1, e1.out.2] at hown'
      clear hgrow hown hat hnx
      go_wp2
      go_roundw
      case rel => exact ⟨i + 1, by go_num, by omega, hown', hbel⟩
      case measure => simp [intOf]; omega
    · have hd1 : decide ((i : Int) < n) = false := decide_eq_false (by omega)
      obtain rfl : i = n := by omega
      have HR := Lib.hid (HF.out _ wr hown hnx)
      clear hown hnx
      go_wp2
      go_ret
      exact HR.out
set_option maxRecDepth 100000 in
set_option maxHeartbeats 3200000 in
theorem differing_lt0 (b off cap : Nat) (a2 : Option Addr) (xs : List Int) (cap2 : Nat) (w : World) (n1 : 1 ≤ xs.length) (hlt3 : 0 < xs.length) (hn : xs.length ≤ 4096) (hlt : b < w.heap.size) (hc : ∀ j, j < xs.length → w.cell? ⟨b, off + j, none⟩ = some (.int .i64 (lf xs j))) :
    Calls Try.prog 8 #[.slice a2 0 cap2, .slice (some ⟨b, off, none⟩) xs.length cap] w (OwnsL w (dfL xs [])) := by
  have HOUT : Hid (∀ i, 0 ≤ i → difP xs [] i = true) := Lib.hid fun i h => difP_out h
  have HF : Hid (∀ v W, W.ownsRow w.heap.size 3 1 v (cntN (difP xs []) xs.length) (xsF (lf (selL (difP xs []) (fun i => (i : Int)) xs.length)) (cntN (difP xs []) xs.length)) → Below w.heap.size w W → OwnsL w (dfL xs []) (.returned v) W) := Lib.hid fun v W ho hb => by
    have e : dfL xs [] = selL (difP xs []) (fun i => (i : Int)) xs.length := by unfold dfL; rw [Nat.max_eq_left (by first | omega | exact Nat.zero_le _)]
    rw [e]
    exact owns_to (w := w) ho (selL_len _ _ _).symm (fun j _ => rfl) hb
  have HX := Lib.hid (fun i h => @sel_yes (difP xs []) (fun i => (i : Int)) i h)
  have HXN := Lib.hid (fun i h => @sel_no (difP xs []) (fun i => (i : Int)) i h)
  have HCL := Lib.hid (fun i => cntN_le (difP xs []) i)
  have HC := Lib.hid hc
  have OE := Lib.hid (own_nil0 w (lf (selL (difP xs []) (fun i => (i : Int)) 0)))
  obtain ⟨i0, hi, hz0, hz1, hz2⟩ := info_parts info3
  have HI := Lib.hid hi
  have HZ0 := Lib.hid hz0
  have HZ1 := Lib.hid hz1
  have HZ2 := Lib.hid hz2
  clear hi hz0 hz1 hz2 hc
  generalize difP xs [] = D at *
  generalize dfL xs [] = R at *
  generalize lf xs = X at *
  generalize xs.length = n at *
  have hd0 : decide ((0 : Int) < n) = true := decide_eq_true (by omega)
  have hle : 0 ≤ n := by omega
  go_enter Try.func8, Try.ntmps8
  go_wp2_with fail
  (try rw [hd0])
  (try rw [hd0n])
  go_loopw [5, 17] (fun v iv wr => ∃ i : Nat, iv = .int .i64 i ∧ i ≤ n ∧ wr.ownsRow w.heap.size 3 1 v (cntN D i) (xsF (lf (selL D (fun i => (i : Int)) i)) (cntN D i)) ∧ Below w.heap.size w wr) (fun _ iv _ => n - (intOf iv).toNat)
  case atStart => exact ⟨0, rfl, Nat.zero_le _, OE.out, Below.refl _ _⟩
  case round =>
    clear OE
    obtain ⟨i, rfl, hin, hown, hnx⟩ := hrel
    have hcl := HCL.out i
    have hsz := hnx.size
    by_cases h1 : i < n
    · have hd1 : decide ((i : Int) < n) = true := decide_eq_true (by omega)
      have c1 : wr.cell? ⟨b, off + i, none⟩ = some (.int .i64 (X i)) := (hnx.cell (p := ⟨b, off + i, none⟩) hlt).trans (HC.out i h1)
      have hi0 : (0 : Int) ≤ (i : Int) := by omega
      have hi2 : (i : Int) < n := by omega
      have hB := HOUT.out i (Nat.zero_le _)
      have e1 := Lib.hid (HX.out i hB)
      have hge := own_ge hown
      have hd3 : decide ((0 : Int) ≤ (i : Int)) = true := decide_eq_true (by omega)
      go_wp2_with (at_builtin; refine wpList_append_own_at _ rfl _ _ 22 rfl w.heap.size 3 i0 (.int .i64 0) 1 8 Try.underlying22 HI.out HZ0.out HZ1.out HZ2.out rfl (by decide) _ _ _ rfl (hown.alloc _) ⟨wr.heap.size, 0, none⟩ 1 1 [.int .i64 (i : Int)] rfl rfl ?c1 ?c2 ?c3 ?c4 ?c5 ?_)
      case c1 => exact cell_one_new _ _ _
      case c2 => intro u hu; simp at hu; subst hu; rfl
      case c3 => unfold maxLen; omega
      case c4 => omega
      case c5 => simp; omega
      intro v' w6 hown' hgrow _ hat
      have hbel : Below w.heap.size w w6 := (hnx.alloc hsz _).grown hgrow (by simp; omega) hge
      rw [e1.out.1, e1.out.2] at hown'
      clear hgrow hown hat hnx
      go_wp2
      go_roundw
      case rel => exact ⟨i + 1, by go_num, by omega, hown', hbel⟩
      case measure => simp [intOf]; omega
    · have hd1 : decide ((i : Int) < n) = false := decide_eq_false (by omega)
      obtain rfl : i = n := by omega
      have HR := Lib.hid (HF.out _ wr hown hnx)
      clear hown hnx
      go_wp2
      go_ret
      exact HR.out
theorem differing_none (a a2 : Option Addr) (cap cap2 : Nat) (w : World) : Calls Try.prog 8 #[.slice a 0 cap, .slice a2 0 cap2] w fun e w' => e = .returned (.slice none 0 0) ∧ w = w' := by
  go_enter Try.func8, Try.ntmps8
  go_wp2_with fail
  refine wp_loop_rounds 1 ?_
  rw [rounds_succ]
  go_wp2
  go_ret
  exact ⟨rfl, rfl⟩
theorem differing_c (a : Option Addr) (xs : List Int) (cap : Nat) (a2 : Option Addr) (ys : List Int) (cap2 : Nat) (w : World) (hn : xs.length ≤ 4096) (hn2 : ys.length ≤ 4096) (hs : Src w a xs.length (lf xs)) (hs2 : Src w a2 ys.length (lf ys)) :
    Calls Try.prog 8 #[.slice a xs.length cap, .slice a2 ys.length cap2] w (OwnsL w (dfL xs ys)) := by
  by_cases hz : xs.length = 0 ∧ ys.length = 0
  · rw [hz.1, hz.2]
    refine (differing_none a a2 cap cap2 w).mono ?_
    rintro e w' ⟨rfl, rfl⟩
    have e1 : (dfL xs ys).length = 0 := by
      rw [dfL_len]
      unfold difN
      rw [hz.1, hz.2]
      rfl
    exact ⟨_, rfl, by rw [e1]; exact own_nil0 w _, Below.refl _ _⟩
  · by_cases hlt : xs.length < ys.length
    · rw [dfL_comm]
      rcases hs2 with h | ⟨b, off, rfl, h1, h2⟩
      · omega
      · rcases hs with h | ⟨b2, off2, rfl, h3, h4⟩
        · obtain rfl : xs = [] := List.length_eq_zero_iff.1 h
          have hlt : 0 < ys.length := hlt
          exact differing_lt0 b off cap2 a ys cap w (by omega) (by omega) hn2 h1 h2
        · exact differing_lt b off cap2 b2 off2 ys xs cap w (by omega) hlt hn2 h1 h2 h3 h4
    · rcases hs with h | ⟨b, off, rfl, h1, h2⟩
      · omega
      · rcases hs2 with h | ⟨b2, off2, rfl, h3, h4⟩
        · obtain rfl : ys = [] := List.length_eq_zero_iff.1 h
          exact differing_ge0 b off cap a2 xs cap2 w (by omega) (Nat.zero_le _) hn h1 h2
        · exact differing_ge b off cap b2 off2 xs ys cap2 w (by omega) (by omega) hn h1 h2 h3 h4
set_option maxRecDepth 100000 in
theorem iDiffer (a : Option Addr) (xs : List Int) (cap : Nat) (a2 : Option Addr) (ys : List Int) (cap2 : Nat) (w : World) (hn : xs.length ≤ 1048576) (hn2 : ys.length ≤ 1048576) (hs : SrcC w a xs.length cap (lf xs)) (hs2 : SrcC w a2 ys.length cap2 (lf ys)) : Calls Try.prog 6 #[.slice a xs.length cap, .slice a2 ys.length cap2] w (IntP w (mDiffer xs ys)) := by
  by_cases h : xs.length ≤ 4096 ∧ ys.length ≤ 4096
  · have HD := Lib.hid (differing_c a xs cap a2 ys cap2 w h.1 h.2 hs.2 hs2.2)
    have HM : Hid (mDiffer xs ys = ((dfL xs ys).length : Int)) := Lib.hid (by unfold mDiffer; rw [if_pos h, dfL_len])
    have HF : Hid (∀ e w1, OwnsL w (dfL xs ys) e w1 → ∃ a3 c3, e = .returned (.slice a3 (dfL xs ys).length c3) ∧ Below w.heap.size w w1) := Lib.hid fun e w1 h => by
      obtain ⟨v, rfl, ho, hb⟩ := h
      rcases ho.2 with ⟨rfl, h0⟩ | ⟨g, c3, _, rfl, _⟩
      · exact ⟨none, 0, by rw [h0], hb⟩
      · exact ⟨_, c3, rfl, hb⟩
    rw [HM.out]
    obtain ⟨h1, h2⟩ := h
    have hd1 : decide ((4096 : Int) < xs.length) = false := decide_eq_false (by omega)
    have hd2 : decide ((4096 : Int) < ys.length) = false := decide_eq_false (by omega)
    clear hs hs2 HM
    generalize dfL xs ys = V at *
    generalize xs.length = n at *
    generalize ys.length = m at *
    go_enter Try.func6, Try.ntmps6
    go_wp2_with fail
    all_goals (refine HD.out.mono ?_; intro e w1 h3; obtain ⟨a3, c3, rfl, hb⟩ := HF.out _ _ h3; clear h3; go_wp2; go_ret; exact ⟨rfl, hb⟩)
  · rw [show mDiffer xs ys = -1 by unfold mDiffer; rw [if_neg h]]
    clear hs hs2
    generalize xs.length = n at *
    generalize ys.length = m at *
    rcases Nat.lt_or_ge n m with h2 | h2
    · have hx : max (n : Int) m = m := by omega
      have hd2 : decide ((4096 : Int) < m) = true := decide_eq_true (by omega)
      have h3 : (n : Int) ≤ m := by omega
      have h4 : (n : Int) < m := by omega
      go_enter Try.func6, Try.ntmps6
      go_wp2
      all_goals (go_ret; exact ⟨rfl, Below.refl _ _⟩)
    · have hx : max (n : Int) m = n := by omega
      have hd2 : decide ((4096 : Int) < n) = true := decide_eq_true (by omega)
      have h3 : (m : Int) ≤ n := by omega
      have h4 : ¬ (n : Int) < m := by omega
      go_enter Try.func6, Try.ntmps6
      go_wp2
      all_goals (go_ret; exact ⟨rfl, Below.refl _ _⟩)
end Go.Proofs.Ytangofjpnhhfeaa
namespace Go.Proofs.Ytangofjpnhhfeaa
open Go.RowKit
theorem drewN_belowU (w : World) : ∀ q, Below w.heap.size w (w.drewN q)
  | 0 => Below.refl _ _
  | q + 1 => (drewN_belowU w q).drew
theorem sDifferU (a : Option Addr) (xs : List Int) (cap : Nat) (a2 : Option Addr) (ys : List Int) (cap2 : Nat) (w : World) (hn : xs.length ≤ 1048576) (hn2 : ys.length ≤ 1048576) (hs : SrcC w a xs.length cap (lf xs)) (hs2 : SrcC w a2 ys.length cap2 (lf ys)) : Calls Try.prog 4 #[.slice a xs.length cap, .slice a2 ys.length cap2] w (IntP w (mDiffer xs ys)) :=
  (sDiffer a xs cap a2 ys cap2 w hn hn2 hs.2 hs2.2).mono fun _ _ ⟨h, q, e⟩ => ⟨h, by rw [e]; exact drewN_belowU w q⟩
theorem iDifferU (a : Option Addr) (xs : List Int) (cap : Nat) (a2 : Option Addr) (ys : List Int) (cap2 : Nat) (w : World) (hn : xs.length ≤ 1048576) (hn2 : ys.length ≤ 1048576) (hs : SrcC w a xs.length cap (lf xs)) (hs2 : SrcC w a2 ys.length cap2 (lf ys)) : Calls Try.prog 6 #[.slice a xs.length cap, .slice a2 ys.length cap2] w (IntP w (mDiffer xs ys)) := iDiffer a xs cap a2 ys cap2 w hn hn2 hs hs2
end Go.Proofs.Ytangofjpnhhfeaa
