/-
  Plain arithmetic for the nine prime fields: nothing of the program stands here. It shows, for numbers alone, that the generator of each field has order P - 1, so that every element but 0 is one of its powers; what follows for powers, inverses, orders and square roots.
-/
namespace Go.Proofs.YtcenglbcibkniaaDoor
namespace Mth

theorem mulm {a b c d p : Nat} (h1 : a % p = c % p) (h2 : b % p = d % p) : (a * b) % p = (c * d) % p := by
  rw [Nat.mul_mod, h1, h2, ← Nat.mul_mod]
theorem powm {a c p : Nat} (k : Nat) (h1 : a % p = c % p) : a ^ k % p = c ^ k % p := by
  rw [Nat.pow_mod, h1, ← Nat.pow_mod]
theorem pow_one_mod {a p : Nat} (k : Nat) (hp : 1 < p) (h : a % p = 1) : a ^ k % p = 1 := by
  have := powm (c := 1) k (show a % p = 1 % p by rw [h, Nat.mod_eq_of_lt hp])
  rw [this, Nat.one_pow, Nat.mod_eq_of_lt hp]

theorem pow_gcd {g p : Nat} (hp : 1 < p) (a b : Nat) (ha : g ^ a % p = 1) (hb : g ^ b % p = 1) : g ^ (Nat.gcd a b) % p = 1 := by
  induction a, b using Nat.gcd.induction with
  | H0 n => simpa using hb
  | H1 m n hm ih =>
    rw [Nat.gcd_rec]
    refine ih ?_ ha
    have e : g ^ n % p = (g ^ (n % m)) % p := by
      conv => lhs; rw [← Nat.div_add_mod n m, Nat.pow_add, Nat.pow_mul]
      rw [Nat.mul_mod, pow_one_mod (n / m) hp ha, Nat.one_mul, Nat.mod_mod]
    rw [← e]; exact hb

def prod (l : List Nat) : Nat := l.foldr (· * ·) 1
def Pr (q : Nat) : Prop := 1 < q ∧ ∀ d, d ≤ q → d ∣ q → d = 1 ∨ d = q
instance (q : Nat) : Decidable (Pr q) := inferInstanceAs (Decidable (1 < q ∧ ∀ d, d ≤ q → d ∣ q → d = 1 ∨ d = q))
theorem Pr.coprime {q c : Nat} (h : Pr q) (hc : ¬ q ∣ c) : Nat.Coprime q c := by
  have hd : Nat.gcd q c ∣ q := Nat.gcd_dvd_left q c
  have hle : Nat.gcd q c ≤ q := Nat.le_of_dvd (by have := h.1; omega) hd
  rcases h.2 _ hle hd with h1 | h1
  · exact h1
  · exact absurd (h1 ▸ Nat.gcd_dvd_right q c) hc
theorem prime_in (l : List Nat) (hl : ∀ q, q ∈ l → Pr q) (c : Nat) (hc : c ∣ prod l) (h1 : c ≠ 1) : ∃ q, q ∈ l ∧ q ∣ c := by
  induction l with
  | nil => exact absurd (Nat.dvd_one.1 hc) h1
  | cons q l ih =>
    by_cases hq : q ∣ c
    · exact ⟨q, List.mem_cons_self, hq⟩
    · have hco := (hl q List.mem_cons_self).coprime hq
      have : c ∣ prod l := Nat.Coprime.dvd_of_dvd_mul_left hco.symm hc
      obtain ⟨r, hr, hrc⟩ := ih (fun q h => hl q (List.mem_cons_of_mem _ h)) this
      exact ⟨r, List.mem_cons_of_mem _ hr, hrc⟩

theorem surj (n : Nat) : ∀ (f : Nat → Nat), (∀ i, i < n → f i < n) → (∀ i j, i < n → j < n → f i = f j → i = j) → ∀ y, y < n → ∃ i, i < n ∧ f i = y := by
  induction n with
  | zero => intro f _ _ y hy; omega
  | succ n ih =>
    intro f hf inj y hy
    let h := fun i => if f i = n then f n else f i
    have hh : ∀ i, i < n → h i < n := by
      intro i hi
      show (if f i = n then f n else f i) < n
      have a := hf i (by omega); have b := hf n (by omega)
      split
      · rename_i e
        have : f n ≠ n := fun e2 => by have := inj i n (by omega) (by omega) (e.trans e2.symm); omega
        omega
      · omega
    have hi : ∀ i j, i < n → j < n → h i = h j → i = j := by
      intro i j hi hj e
      have e' : (if f i = n then f n else f i) = (if f j = n then f n else f j) := e
      split at e' <;> split at e'
      · rename_i a b; exact inj i j (by omega) (by omega) (a.trans b.symm)
      · have := inj n j (by omega) (by omega) e'; omega
      · have := inj i n (by omega) (by omega) e'; omega
      · exact inj i j (by omega) (by omega) e'
    have ihs := ih h hh hi
    by_cases hy2 : y < n
    · obtain ⟨i, hi2, e⟩ := ihs y hy2
      have e' : (if f i = n then f n else f i) = y := e
      split at e'
      · exact ⟨n, by omega, e'⟩
      · exact ⟨i, by omega, e'⟩
    · have hyn : y = n := by omega
      subst hyn
      by_cases hex : ∃ i, i < y + 1 ∧ f i = y
      · exact hex
      · exfalso
        have hne : ∀ i, i < y + 1 → f i ≠ y := fun i hi e => hex ⟨i, hi, e⟩
        have hlt : f y < y := by have := hf y (by omega); have := hne y (by omega); omega
        obtain ⟨i, hi2, e⟩ := ihs (f y) hlt
        have e' : (if f i = y then f y else f i) = f y := e
        rw [if_neg (hne i (by omega))] at e'
        have := inj i y (by omega) (by omega) e'; omega

/-- A field: p and a number of order p - 1. -/
structure Fld (p g : Nat) : Prop where
  two : 2 < p
  one : g ^ (p - 1) % p = 1
  ord : ∀ m, g ^ m % p = 1 → (p - 1) ∣ m

theorem Fld.make {p g : Nat} (l : List Nat) (two : 2 < p) (one : g ^ (p - 1) % p = 1) (hl : ∀ q, q ∈ l → Pr q) (hp : prod l = p - 1) (hq : ∀ q, q ∈ l → g ^ ((p - 1) / q) % p ≠ 1) : Fld p g := by
  refine ⟨two, one, fun m hm => ?_⟩
  have he := pow_gcd (by omega) m (p - 1) hm one
  have hd : Nat.gcd m (p - 1) ∣ p - 1 := Nat.gcd_dvd_right _ _
  by_cases hc : (p - 1) / Nat.gcd m (p - 1) = 1
  · have : p - 1 = Nat.gcd m (p - 1) := by have := Nat.div_mul_cancel hd; rw [hc] at this; omega
    rw [this]; exact Nat.gcd_dvd_left _ _
  · exfalso
    obtain ⟨q, hql, hqc⟩ := prime_in l hl _ (by rw [hp]; exact Nat.div_dvd_of_dvd hd) hc
    apply hq q hql
    obtain ⟨k, hk⟩ := hqc
    have h2 : p - 1 = q * (k * Nat.gcd m (p - 1)) := by
      rw [← Nat.mul_assoc, ← hk]; exact (Nat.div_mul_cancel hd).symm
    have hq0 : 0 < q := by have := (hl q hql).1; omega
    have h3 : (p - 1) / q = k * Nat.gcd m (p - 1) := Nat.div_eq_of_eq_mul_right hq0 h2
    rw [h3, Nat.mul_comm, Nat.pow_mul]
    exact pow_one_mod k (by omega) he

variable {p g : Nat}
theorem Fld.nz (h : Fld p g) (i : Nat) : g ^ i % p ≠ 0 := by
  intro e
  have h1 : (g ^ i * g ^ (i * (p - 2))) % p = 1 := by
    rw [← Nat.pow_add, show i + i * (p - 2) = (p - 1) * i by
      have := h.two
      obtain ⟨k, rfl⟩ : ∃ k, p = k + 3 := ⟨p - 3, by omega⟩
      show i + i * (k + 1) = (k + 2) * i
      rw [Nat.mul_comm (k + 2) i, Nat.mul_add, Nat.mul_add]; omega, Nat.pow_mul]
    exact pow_one_mod i (by have := h.two; omega) h.one
  rw [Nat.mul_mod, e, Nat.zero_mul, Nat.zero_mod] at h1
  omega
theorem Fld.inj (h : Fld p g) {i j : Nat} (hi : i < p - 1) (hj : j < p - 1) (e : g ^ i % p = g ^ j % p) : i = j := by
  have key : ∀ i j, i < p - 1 → j < p - 1 → g ^ i % p = g ^ j % p → i ≤ j → i = j := by
    intro i j hi hj e hle
    have h2 : (g ^ j * g ^ (p - 1 - i)) % p = 1 := by
      rw [← mulm (c := g ^ j) (d := g ^ (p - 1 - i)) e rfl, ← Nat.pow_add, show i + (p - 1 - i) = p - 1 by omega]
      exact h.one
    rw [← Nat.pow_add] at h2
    have h3 := h.ord _ h2
    rw [show j + (p - 1 - i) = (j - i) + (p - 1) by omega] at h3
    have h4 : p - 1 ∣ j - i := (Nat.dvd_add_left (Nat.dvd_refl _)).1 h3
    have := Nat.eq_zero_of_dvd_of_lt h4 (by omega)
    omega
  rcases Nat.le_total i j with hl | hl
  · exact key i j hi hj e hl
  · exact (key j i hj hi e.symm hl).symm
theorem Fld.log (h : Fld p g) {x : Nat} (h0 : 0 < x) (h1 : x < p) : ∃ i, g ^ i % p = x := by
  have hp := h.two
  obtain ⟨i, _, e⟩ := surj (p - 1) (fun i => g ^ i % p - 1)
    (fun i _ => by have := Nat.mod_lt (g ^ i) (show 0 < p by omega); show _ - 1 < _; omega)
    (fun i j hi hj e => h.inj hi hj (by
      have a := h.nz i; have b := h.nz j
      have e' : g ^ i % p - 1 = g ^ j % p - 1 := e
      omega)) (x - 1) (by omega)
  have e' : g ^ i % p - 1 = x - 1 := e
  have := h.nz i
  exact ⟨i, by omega⟩
theorem Fld.fermat (h : Fld p g) {x : Nat} (hx : x % p ≠ 0) : x ^ (p - 1) % p = 1 := by
  have hp := h.two
  obtain ⟨i, e⟩ := h.log (x := x % p) (by omega) (Nat.mod_lt _ (by omega))
  have e2 : x % p = g ^ i % p := e.symm
  rw [powm (p - 1) e2, ← Nat.pow_mul, Nat.mul_comm, Nat.pow_mul]
  exact pow_one_mod i (by omega) h.one
theorem Fld.mul_nz (h : Fld p g) {x y : Nat} (hx : x % p ≠ 0) (hy : y % p ≠ 0) : (x * y) % p ≠ 0 := by
  have hp := h.two
  obtain ⟨i, e⟩ := h.log (x := x % p) (by omega) (Nat.mod_lt _ (by omega))
  obtain ⟨j, e2⟩ := h.log (x := y % p) (by omega) (Nat.mod_lt _ (by omega))
  rw [mulm e.symm e2.symm, ← Nat.pow_add]
  exact h.nz _
theorem Fld.pow_nz (h : Fld p g) {x : Nat} (k : Nat) (hx : x % p ≠ 0) : x ^ k % p ≠ 0 := by
  have hp := h.two
  induction k with
  | zero => rw [Nat.pow_zero, Nat.mod_eq_of_lt (by omega)]; omega
  | succ k ih => rw [Nat.pow_succ]; exact h.mul_nz ih hx
/-- Exponents count modulo p - 1. -/
theorem Fld.pow_mod (h : Fld p g) {x : Nat} (k : Nat) (hx : x % p ≠ 0) : x ^ (k % (p - 1)) % p = x ^ k % p := by
  have hp := h.two
  conv => rhs; rw [← Nat.div_add_mod k (p - 1), Nat.pow_add, Nat.pow_mul]
  rw [Nat.mul_mod, pow_one_mod (k / (p - 1)) (by omega) (h.fermat hx), Nat.one_mul, Nat.mod_mod]
theorem Fld.cancel (h : Fld p g) {x a b : Nat} (hx : x % p ≠ 0) (e : (x * a) % p = (x * b) % p) : a % p = b % p := by
  have hp := h.two
  have i1 : (x ^ (p - 2) * x) % p = 1 := by
    rw [← Nat.pow_succ, show (p - 2).succ = p - 1 by omega]; exact h.fermat hx
  have e2 := mulm (a := x ^ (p - 2)) (c := x ^ (p - 2)) rfl e
  rw [← Nat.mul_assoc, ← Nat.mul_assoc] at e2
  have f : ∀ c, (x ^ (p - 2) * x * c) % p = c % p := fun c => by
    rw [Nat.mul_mod, i1, Nat.one_mul, Nat.mod_mod]
  rw [f, f] at e2; exact e2
theorem Fld.roots (h : Fld p g) {s r : Nat} (hs : s < p) (hr : r < p) (e : (s * s) % p = (r * r) % p) : s = r ∨ s + r = p := by
  have hp := h.two
  have key : ∀ s r, s < p → r < s → (s * s) % p = (r * r) % p → s + r = p := by
    intro s r hs hr e
    by_cases hz : (s + r) % p = 0
    · obtain ⟨k, hk⟩ := Nat.dvd_of_mod_eq_zero hz
      have : k = 1 := by
        rcases k with _ | _ | k
        · omega
        · rfl
        · have := Nat.mul_le_mul_left p (show 2 ≤ k + 1 + 1 by omega); omega
      subst this; omega
    · exfalso
      apply h.mul_nz (x := s - r) (y := s + r) (by rw [Nat.mod_eq_of_lt (by omega)]; omega) hz
      obtain ⟨d, rfl⟩ : ∃ d, s = r + d := ⟨s - r, by omega⟩
      rw [Nat.add_sub_cancel_left]
      have e1 : (r + d) * (r + d) = r * r + d * (r + d + r) := by simp [Nat.mul_add, Nat.mul_comm]; omega
      rw [e1] at e
      have h2 := Nat.sub_mod_eq_zero_of_mod_eq e
      rw [Nat.add_sub_cancel_left] at h2
      exact h2
  rcases Nat.lt_trichotomy s r with hl | hl | hl
  · right; have := key r s hr hl e.symm; omega
  · left; exact hl
  · right; exact key s r hs hl e
theorem Fld.sqrt1 (h : Fld p g) {y : Nat} (e : (y * y) % p = 1) : y % p = 1 ∨ y % p = p - 1 := by
  have hp := h.two
  have := h.roots (s := y % p) (r := 1) (Nat.mod_lt _ (by omega)) (by omega) (by rw [← Nat.mul_mod, e, Nat.one_mul, Nat.mod_eq_of_lt (by omega)])
  omega
/-- The order of x: what a fold over the prime factors finds. -/
def ordF (t : Nat → Bool) (l : List Nat) (k : Nat) : Nat := l.foldl (fun k q => if t (k / q) then k / q else k) k
theorem ordF_dvd (t : Nat → Bool) (l : List Nat) : ∀ k, 0 < k → prod l ∣ k → 0 < ordF t l k ∧ ordF t l k ∣ k := by
  induction l with
  | nil => intro k hk _; exact ⟨hk, Nat.dvd_refl _⟩
  | cons q l ih =>
    intro k hk hd
    have hd' : q * prod l ∣ k := hd
    have hq : q ∣ k := Nat.dvd_trans (Nat.dvd_mul_right _ _) hd'
    have hl : prod l ∣ k := Nat.dvd_trans (Nat.dvd_mul_left _ _) hd'
    obtain ⟨c, rfl⟩ := hq
    have hq0 : 0 < q := Nat.pos_of_ne_zero fun e => by subst e; simp at hk
    have hc0 : 0 < c := Nat.pos_of_ne_zero fun e => by subst e; simp at hk
    have hlc : prod l ∣ c := Nat.dvd_of_mul_dvd_mul_left hq0 hd'
    have hdiv : q * c / q = c := Nat.mul_div_cancel_left c hq0
    show 0 < ordF t l (if t (q * c / q) then q * c / q else q * c) ∧ ordF t l (if t (q * c / q) then q * c / q else q * c) ∣ q * c
    rw [hdiv]
    split
    · have := ih c hc0 hlc; exact ⟨this.1, Nat.dvd_trans this.2 (Nat.dvd_mul_left _ _)⟩
    · exact ih (q * c) hk hl
/-- Where t says 'a multiple of o', the fold ends at o. -/
theorem ordF_eq (t : Nat → Bool) (o : Nat) (ho : 0 < o) (ht : ∀ m, t m = true ↔ o ∣ m) (l : List Nat) (hl : ∀ q, q ∈ l → Pr q) : ∀ c, 0 < c → c ∣ prod l → prod l ∣ o * c → ordF t l (o * c) = o := by
  induction l with
  | nil => intro c _ hc _; have := Nat.dvd_one.1 hc; subst this; simp [ordF]
  | cons q l ih =>
    intro c hc0 hc hk
    have hq := hl q List.mem_cons_self
    have ih' := ih (fun q h => hl q (List.mem_cons_of_mem _ h))
    have hq0 : 0 < q := by have := hq.1; omega
    have hk' : q * prod l ∣ o * c := hk
    show ordF t l (if t (o * c / q) then o * c / q else o * c) = o
    by_cases hqc : q ∣ c
    · obtain ⟨d, rfl⟩ := hqc
      have e0 : o * (q * d) = q * (o * d) := by rw [Nat.mul_left_comm]
      have e : o * (q * d) / q = o * d := by rw [e0]; exact Nat.mul_div_cancel_left _ hq0
      rw [e, if_pos ((ht _).2 (Nat.dvd_mul_right _ _))]
      rw [e0] at hk'
      exact ih' d (Nat.pos_of_ne_zero fun e => by subst e; simp at hc0) (Nat.dvd_of_mul_dvd_mul_left hq0 hc) (Nat.dvd_of_mul_dvd_mul_left hq0 hk')
    · have hcl : c ∣ prod l := Nat.Coprime.dvd_of_dvd_mul_left (hq.coprime hqc).symm hc
      split
      · rename_i h1
        exfalso
        obtain ⟨m, hm⟩ := (ht _).1 h1
        have hqk : q ∣ o * c := Nat.dvd_trans (Nat.dvd_mul_right _ _) hk'
        have e : o * c = o * (q * m) := by
          rw [← Nat.mul_div_cancel' hqk, hm, Nat.mul_left_comm]
        have := Nat.eq_of_mul_eq_mul_left ho e
        exact hqc ⟨m, this⟩
      · exact ih' c hc0 hcl (Nat.dvd_trans (Nat.dvd_mul_left _ _) hk')
theorem Fld.order (h : Fld p g) {x : Nat} (hx : x % p ≠ 0) : ∃ o, 0 < o ∧ o ∣ p - 1 ∧ ∀ m, x ^ m % p = 1 ↔ o ∣ m := by
  have hp := h.two
  obtain ⟨i, e⟩ := h.log (x := x % p) (by omega) (Nat.mod_lt _ (by omega))
  have hg0 : 0 < Nat.gcd i (p - 1) := Nat.gcd_pos_of_pos_right _ (by omega)
  have hgd := Nat.gcd_dvd_right i (p - 1)
  have hgi := Nat.gcd_dvd_left i (p - 1)
  refine ⟨(p - 1) / Nat.gcd i (p - 1), Nat.div_pos (Nat.le_of_dvd (by omega) hgd) hg0, Nat.div_dvd_of_dvd hgd, fun m => ?_⟩
  have e2 : x ^ m % p = g ^ (i * m) % p := by rw [powm m e.symm, Nat.pow_mul]
  rw [e2]
  constructor
  · intro h1
    have h2 := h.ord _ h1
    have hco : Nat.Coprime ((p - 1) / Nat.gcd i (p - 1)) (i / Nat.gcd i (p - 1)) := by
      have := Nat.coprime_div_gcd_div_gcd hg0; exact this.symm
    apply hco.dvd_of_dvd_mul_left
    apply Nat.dvd_of_mul_dvd_mul_left hg0
    rw [← Nat.mul_assoc, Nat.mul_div_cancel' hgd, Nat.mul_div_cancel' hgi]
    exact h2
  · rintro ⟨c, rfl⟩
    have : p - 1 ∣ i * ((p - 1) / Nat.gcd i (p - 1) * c) := by
      obtain ⟨a, ha⟩ := hgi
      have gen : ∀ d a n, d ∣ n → d * a * (n / d * c) = n * (a * c) := fun d a n hd => by
        rw [show d * a * (n / d * c) = (d * (n / d)) * (a * c) by simp only [Nat.mul_assoc, Nat.mul_left_comm], Nat.mul_div_cancel' hd]
      exact ⟨a * c, (congrArg (· * ((p - 1) / Nat.gcd i (p - 1) * c)) ha).trans (gen _ a _ hgd)⟩
    obtain ⟨c', hc'⟩ := this
    rw [hc', Nat.pow_mul]
    exact pow_one_mod c' (by omega) h.one
theorem Fld.ordF (h : Fld p g) {x : Nat} (hx : x % p ≠ 0) (l : List Nat) (hl : ∀ q, q ∈ l → Pr q) (hp : prod l = p - 1) (t : Nat → Bool) (ht : ∀ m, t m = true ↔ x ^ m % p = 1) :
    ∀ m, x ^ m % p = 1 ↔ Mth.ordF t l (p - 1) ∣ m := by
  have h2 := h.two
  obtain ⟨o, ho, ⟨c, hc⟩, hm⟩ := h.order hx
  have : Mth.ordF t l (p - 1) = o := by
    conv => lhs; rw [hc]
    exact ordF_eq t o ho (fun m => (ht m).trans (hm m)) l hl c (Nat.pos_of_ne_zero fun e => by subst e; omega) (by rw [hp, hc]; exact Nat.dvd_mul_left _ _) (by rw [hp, hc]; exact Nat.dvd_refl _)
  rw [this]; exact hm
/-- Fast powers, to be reckoned by the kernel. -/
def fpow (p : Nat) : Nat → Nat → Nat → Nat → Nat
  | 0, _, _, r => r
  | n + 1, x, e, r => fpow p n (x * x % p) (e / 2) (if e % 2 = 1 then r * x % p else r)
theorem half_even {p r x e y : Nat} (h : e % 2 = 0) (hy : y % p = x * x % p) : (r * y ^ (e / 2)) % p = (r * x ^ e) % p := by
  refine mulm rfl ?_
  conv => rhs; rw [← Nat.div_add_mod e 2, h, Nat.add_zero, Nat.pow_mul, Nat.pow_two]
  exact powm _ hy
theorem half_odd {p r x e y s : Nat} (h : e % 2 = 1) (hy : y % p = x * x % p) (hs : s % p = r * x % p) : (s * y ^ (e / 2)) % p = (r * x ^ e) % p := by
  conv => rhs; rw [← Nat.div_add_mod e 2, h, Nat.pow_succ, Nat.pow_mul, Nat.pow_two, Nat.mul_comm ((x * x) ^ (e / 2)) x, ← Nat.mul_assoc]
  exact mulm hs (powm _ hy)
theorem fpow_eq (p : Nat) : ∀ n x e r, e < 2 ^ n → fpow p n x e r % p = (r * x ^ e) % p := by
  intro n
  induction n with
  | zero => intro x e r h; have : e = 0 := by simpa using h
            subst this; simp [fpow]
  | succ n ih =>
    intro x e r h
    show fpow p n (x * x % p) (e / 2) (if e % 2 = 1 then r * x % p else r) % p = _
    rw [ih _ _ _ (by rw [Nat.pow_succ] at h; omega)]
    split
    · rename_i h1; exact half_odd h1 (by simp) (by simp)
    · exact half_even (by omega) (by simp)
theorem fpow_one {p x e n : Nat} (h : e < 2 ^ n) : fpow p n x e 1 % p = x ^ e % p := by rw [fpow_eq p n x e 1 h, Nat.one_mul]

def pN : Nat → Nat
  | 0 => 17 | 1 => 97 | 2 => 193 | 3 => 257 | 4 => 7681 | 5 => 12289 | 6 => 998244353 | 7 => 469762049 | 8 => 1004535809 | _ => 0
def gN : Nat → Nat
  | 0 => 3 | 1 => 5 | 2 => 5 | 3 => 3 | 4 => 17 | 5 => 11 | 6 => 3 | 7 => 3 | 8 => 3 | _ => 0
def tN : Nat → Nat
  | 0 => 4 | 1 => 5 | 2 => 6 | 3 => 8 | 4 => 9 | 5 => 12 | 6 => 23 | 7 => 26 | 8 => 21 | _ => 0
def oN : Nat → List Nat
  | 0 => [] | 1 => [3] | 2 => [3] | 3 => [] | 4 => [3, 5] | 5 => [3] | 6 => [7, 17] | 7 => [7] | 8 => [479] | _ => []
def facs (f : Nat) : List Nat := List.replicate (tN f) 2 ++ oN f
theorem pr_small : Pr 2 ∧ Pr 3 ∧ Pr 5 ∧ Pr 7 ∧ Pr 17 ∧ Pr 479 := by decide +kernel
theorem facs_pr (f : Nat) : ∀ q, q ∈ facs f → Pr q := by
  obtain ⟨h2, h3, h5, h7, h17, h479⟩ := pr_small
  intro q hq
  rcases List.mem_append.1 hq with h | h
  · have := List.eq_of_mem_replicate h; subst this; exact h2
  · unfold oN at h
    split at h <;> simp at h
    all_goals (first | (subst h; assumption) | (rcases h with rfl | rfl <;> assumption))
theorem facs_prod (f : Nat) (hf : f < 9) : prod (facs f) = pN f - 1 := by
  have : ∀ f, f < 9 → prod (facs f) = pN f - 1 := by decide +kernel
  exact this f hf
theorem fld_facts : ∀ f, f < 9 → (2 < pN f ∧ fpow (pN f) 30 (gN f) (pN f - 1) 1 % pN f = 1 ∧ (∀ q, q ∈ facs f → fpow (pN f) 30 (gN f) ((pN f - 1) / q) 1 % pN f ≠ 1) ∧ pN f - 1 < 2 ^ 30) := by decide +kernel
theorem fld (f : Nat) (hf : f < 9) : Fld (pN f) (gN f) := by
  obtain ⟨h2, h1, hq, hb⟩ := fld_facts f hf
  refine Fld.make (facs f) h2 ?_ (facs_pr f) (facs_prod f hf) ?_
  · rw [fpow_one hb] at h1; exact h1
  · intro q hql
    have := hq q hql
    rw [fpow_one (Nat.lt_of_le_of_lt (Nat.div_le_self _ _) hb)] at this
    exact this
end Mth
end Go.Proofs.YtcenglbcibkniaaDoor
