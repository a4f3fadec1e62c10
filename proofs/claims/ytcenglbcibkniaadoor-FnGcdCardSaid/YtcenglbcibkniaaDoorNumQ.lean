/-
  Polynomials over the nine fields: sums, products, values; division with its one remainder; common divisors; powers modulo a polynomial.
-/
import Derived.Test.YtcenglbcibkniaaDoorNumP
namespace Go.Proofs.YtcenglbcibkniaaDoor
open Mth

theorem mul_nz {f : Int} (h0 : 0 ≤ f) (h8 : f ≤ 8) {x y : Int} (hx : x % P f ≠ 0) (hy : y % P f ≠ 0) : (x * y) % P f ≠ 0 := by
  have hp := P_bd h0 h8
  have bx := RS_bd (x := x) (m := P f) (by omega)
  have by' := RS_bd (x := y) (m := P f) (by omega)
  unfold RS at bx by'
  have := RS_mul_pos h0 h8 (a := x % P f) (b := y % P f) (by omega) bx.2 (by omega) by'.2
  unfold RS at this
  rw [Int.mul_emod]
  omega
def FinS (A : Nat → Int) : Prop := ∃ n, ∀ j, n ≤ j → A j = 0
theorem FinS.lf (l : List Int) : FinS (lf l) := ⟨l.length, fun _ h => lf_out l h⟩
theorem FinS.zero : FinS (fun _ => 0) := ⟨0, fun _ _ => rfl⟩
theorem FinS.add {A B : Nat → Int} (ha : FinS A) (hb : FinS B) : FinS (fun j => A j + B j) := by
  obtain ⟨n, hn⟩ := ha; obtain ⟨m, hm⟩ := hb
  exact ⟨n + m, fun j hj => by show A j + B j = 0; rw [hn j (by omega), hm j (by omega)]; rfl⟩
theorem FinS.smul {A : Nat → Int} (c : Int) (ha : FinS A) : FinS (fun j => c * A j) := by
  obtain ⟨n, hn⟩ := ha
  exact ⟨n, fun j hj => by show c * A j = 0; rw [hn j hj, Int.mul_zero]⟩
theorem FinS.mul {A B : Nat → Int} (ha : FinS A) (hb : FinS B) : FinS (mulS A B) := by
  obtain ⟨n, hn⟩ := ha; obtain ⟨m, hm⟩ := hb
  exact ⟨n + m, fun j hj => cv_out hn hm (by omega)⟩

theorem emod_add_congr {p a b c d : Int} (h1 : a % p = b % p) (h2 : c % p = d % p) : (a + c) % p = (b + d) % p := by rw [Int.add_emod, h1, h2, ← Int.add_emod]
theorem emod_sub_congr {p a b c d : Int} (h1 : a % p = b % p) (h2 : c % p = d % p) : (a - c) % p = (b - d) % p := by rw [Int.sub_emod, h1, h2, ← Int.sub_emod]
theorem emod_mul_congr {p a b c d : Int} (h1 : a % p = b % p) (h2 : c % p = d % p) : (a * c) % p = (b * d) % p := by rw [Int.mul_emod, h1, h2, ← Int.mul_emod]
theorem emod_zero_of_sub {p a b : Int} (h : a % p = b % p) : (a - b) % p = 0 := by rw [Int.sub_emod, h]; simp

/-- A multiple of a polynomial without coefficients from its degree on is zero. -/
theorem div_zero {f : Int} (h0 : 0 ≤ f) (h8 : f ≤ 8) {b : List Int} (hb : Pol f b) (hne : b.length ≠ 0) {Q : Nat → Int} (hQ : FinS Q) (h : ∀ k, b.length ≤ k + 1 → cv k Q (lf b) % P f = 0) : ∀ j, Q j % P f = 0 := by
  have hp := P_bd h0 h8
  obtain ⟨N, hN⟩ := hQ
  have key : ∀ t j, N ≤ j + t → Q j % P f = 0 := by
    intro t
    induction t with
    | zero => intro j hj; rw [hN j (by omega)]; simp
    | succ t ih =>
      intro j hj
      by_cases hjt : N ≤ j + t
      · exact ih j hjt
      · have hz : ∀ i, j + 1 ≤ i → (fun i => Q i % P f) i = 0 := fun i hi => ih i (by omega)
        have hbz : ∀ i, (b.length - 1) + 1 ≤ i → lf b i = 0 := fun i hi => lf_out b (by omega)
        have ht := cv_top hz hbz
        have hc := h (j + (b.length - 1)) (by omega)
        rw [cv_mod (A' := fun i => Q i % P f) (B' := lf b) _ (fun i => by simp) (fun _ => rfl), ht] at hc
        by_cases hq : Q j % P f = 0
        · exact hq
        · exfalso
          have hbt : lf b (b.length - 1) % P f ≠ 0 := by
            have h1 := hb.1 (b.length - 1)
            rw [Int.emod_eq_of_lt h1.1 h1.2]
            rcases hb.2 with h2 | h2
            · exact absurd h2 hne
            · exact h2
          exact mul_nz h0 h8 (by simpa using hq) hbt hc
  intro j
  exact key N j (by omega)

/-- Congruent modulo the polynomial b, over the field. -/
def Cg (f : Int) (b : List Int) (A A' : Nat → Int) : Prop := ∃ C, FinS C ∧ ∀ j, A j % P f = (cv j C (lf b) + A' j) % P f
theorem Cg.of {f : Int} {b : List Int} {A A' : Nat → Int} (h : ∀ j, A j % P f = A' j % P f) : Cg f b A A' := ⟨fun _ => 0, FinS.zero, fun j => by rw [h j, cv_zero_l (fun _ _ => rfl)]; simp⟩
theorem Cg.refl {f : Int} {b : List Int} {A : Nat → Int} : Cg f b A A := Cg.of fun _ => rfl
theorem Cg.symm {f : Int} {b : List Int} {A A' : Nat → Int} (h : Cg f b A A') : Cg f b A' A := by
  obtain ⟨C, hC, h⟩ := h
  refine ⟨fun j => (-1) * C j, hC.smul _, fun j => ?_⟩
  rw [cv_smul_l]
  have e := emod_add_congr (p := P f) (a := (-1) * cv j C (lf b)) rfl (h j)
  rw [e]; congr 1; omega
theorem Cg.trans {f : Int} {b : List Int} {A A' A'' : Nat → Int} (h : Cg f b A A') (k : Cg f b A' A'') : Cg f b A A'' := by
  obtain ⟨C, hC, h⟩ := h; obtain ⟨D, hD, k⟩ := k
  refine ⟨fun j => C j + D j, hC.add hD, fun j => ?_⟩
  rw [cv_add_l, h j]
  have e := emod_add_congr (p := P f) (a := cv j C (lf b)) rfl (k j)
  rw [e]; congr 1; omega
theorem Cg.mul {f : Int} {b : List Int} {A A' B B' : Nat → Int} (hA' : FinS A') (hB : FinS B) (h : Cg f b A A') (k : Cg f b B B') : Cg f b (mulS A B) (mulS A' B') := by
  obtain ⟨C, hC, h⟩ := h; obtain ⟨D, hD, k⟩ := k
  refine ⟨fun j => mulS C B j + mulS A' D j, (hC.mul hB).add (hA'.mul hD), fun j => ?_⟩
  have e1 : mulS A B j % P f = (mulS (mulS C (lf b)) B j + mulS A' B j) % P f := by
    show cv j A B % P f = _
    rw [cv_mod (A' := fun j => mulS C (lf b) j + A' j) (B' := B) j h (fun _ => rfl), cv_add_l]; rfl
  have e2 : mulS A' B j % P f = (mulS A' (mulS D (lf b)) j + mulS A' B' j) % P f := by
    show cv j A' B % P f = _
    rw [cv_mod (A' := A') (B' := fun j => mulS D (lf b) j + B' j) j (fun _ => rfl) k, cv_add_r]; rfl
  have e3 : mulS (mulS C (lf b)) B j = cv j (mulS C B) (lf b) := by
    show cv j (mulS C (lf b)) B = _
    rw [cv_assoc, cv_assoc]
    exact cv_congr (fun _ _ => rfl) (fun i _ => cv_comm i _ _)
  have e4 : mulS A' (mulS D (lf b)) j = cv j (mulS A' D) (lf b) := (cv_assoc j _ _ _).symm
  rw [e1, cv_add_l, emod_add_congr (p := P f) (a := mulS (mulS C (lf b)) B j) rfl e2, e3, e4]
  congr 1
  omega
/-- Two short polynomials that are congruent are one. -/
theorem Cg.short {f : Int} (h0 : 0 ≤ f) (h8 : f ≤ 8) {b r s : List Int} (hb : Pol f b) (hr : Pol f r) (hs : Pol f s) (lr : r.length < b.length) (ls : s.length < b.length) (h : Cg f b (lf r) (lf s)) : r = s := by
  obtain ⟨C, hC, h⟩ := h
  have hz := div_zero h0 h8 hb (by omega) hC (fun k hk => by
    have := h k
    rw [lf_out r (by omega), lf_out s (by omega), Int.add_zero] at this
    rw [← this]; simp)
  refine hr.eq hs fun j => ?_
  rw [h j, Int.add_emod, cv_mod (A' := fun _ => 0) (B' := lf b) j (fun i => by rw [hz i]; simp) (fun _ => rfl), cv_zero_l (fun _ _ => rfl)]; simp
def IsRem (f : Int) (A : Nat → Int) (b r : List Int) : Prop := Pol f r ∧ r.length < b.length ∧ Cg f b A (lf r)
theorem IsRem.unique {f : Int} (h0 : 0 ≤ f) (h8 : f ≤ 8) {A A' : Nat → Int} {b r s : List Int} (hb : Pol f b) (hr : IsRem f A b r) (hs : IsRem f A' b s) (h : Cg f b A A') : r = s :=
  Cg.short h0 h8 hb hr.1 hs.1 hr.2.1 hs.2.1 (hr.2.2.symm.trans (h.trans hs.2.2))
open Classical in
noncomputable def remL (f : Int) (a b : List Int) : List Int := if h : ∃ r, IsRem f (lf a) b r then choose h else []
theorem remL_eq {f : Int} (h0 : 0 ≤ f) (h8 : f ≤ 8) {a b r : List Int} (hb : Pol f b) (h : IsRem f (lf a) b r) : remL f a b = r := by
  have hex : ∃ r, IsRem f (lf a) b r := ⟨r, h⟩
  unfold remL
  rw [dif_pos hex]
  exact IsRem.unique h0 h8 hb (Classical.choose_spec hex) h Cg.refl
theorem remL_len {f : Int} {a b : List Int} (hb : b.length ≠ 0) : (remL f a b).length < b.length := by
  unfold remL
  split
  · rename_i h; exact (Classical.choose_spec h).2.1
  · show 0 < b.length; omega

/-- The state of a division: n is where the rest ends. -/
def DivAt (f : Int) (A : Nat → Int) (b : List Int) (n : Nat) (Q R : Nat → Int) : Prop :=
  (∀ j, A j % P f = (cv j Q (lf b) + R j) % P f) ∧ (∀ j, 0 ≤ R j ∧ R j < P f) ∧ (∀ j, 0 ≤ Q j ∧ Q j < P f) ∧ (∀ j, n ≤ j → R j = 0) ∧ (∀ j, j + b.length ≤ n → Q j = 0) ∧ FinS Q
theorem DivAt.start {f : Int} {a b : List Int} (ha : Pol f a) (hp : 0 < P f) : DivAt f (lf a) b a.length (fun _ => 0) (lf a) :=
  ⟨fun j => by rw [cv_zero_l (fun _ _ => rfl)]; simp, ha.1, fun _ => ⟨Int.le_refl _, hp⟩, fun _ h => lf_out a h, fun _ _ => rfl, FinS.zero⟩
theorem DivAt.congr {f : Int} {A : Nat → Int} {b : List Int} {n : Nat} {Q Q' R R' : Nat → Int} (h : DivAt f A b n Q R) (hQ : ∀ j, Q j = Q' j) (hR : ∀ j, R j = R' j) : DivAt f A b n Q' R' := by
  obtain rfl : Q = Q' := funext hQ
  obtain rfl : R = R' := funext hR
  exact h
theorem DivAt.skip {f : Int} {A : Nat → Int} {b : List Int} {n : Nat} {Q R : Nat → Int} (h : DivAt f A b (n + 1) Q R) (hz : R n = 0) : DivAt f A b n Q R := by
  obtain ⟨h1, h2, h3, h4, h5, h6⟩ := h
  refine ⟨h1, h2, h3, fun j hj => ?_, fun j hj => h5 j (by omega), h6⟩
  by_cases e : j = n
  · rw [e]; exact hz
  · exact h4 j (by omega)
theorem sumN_single (g : Nat → Int) (s n : Nat) : sumN (fun i => if i = s then g i else 0) n = if s < n then g s else 0 := by
  induction n with
  | zero => simp [sumN]
  | succ n ih =>
    rw [sumN, ih]
    by_cases h : n = s
    · subst h; simp
    · by_cases h2 : s < n
      · simp [h, h2, show s < n + 1 by omega]
      · simp [h, h2, show ¬ s < n + 1 by omega]
theorem cv_mono (k s : Nat) (m : Int) (B : Nat → Int) : cv k (fun j => if j = s then m else 0) B = if s ≤ k then m * B (k - s) else 0 := by
  rw [cv_sum, sumN_congr (g := fun i => if i = s then m * B (k - i) else 0) (fun i _ => by split <;> simp), sumN_single (fun i => m * B (k - i))]
  by_cases h : s ≤ k
  · simp [h, show s < k + 1 by omega]
  · simp [h, show ¬ s < k + 1 by omega]
/-- The rest after one step at s, the first i coefficients of b done. -/
def dst (f : Int) (b : List Int) (R : Nat → Int) (m : Int) (s i : Nat) : Nat → Int := fun j => if s ≤ j ∧ j < s + i then RS (R j - RS (m * lf b (j - s)) (P f)) (P f) else R j
theorem dst_zero (f : Int) (b : List Int) (R : Nat → Int) (m : Int) (s j : Nat) : dst f b R m s 0 j = R j := by unfold dst; rw [if_neg (by omega)]
theorem dst_at (f : Int) (b : List Int) (R : Nat → Int) (m : Int) (s i : Nat) : dst f b R m s i (s + i) = R (s + i) := by unfold dst; rw [if_neg (by omega)]
theorem dst_succ (f : Int) (b : List Int) (R : Nat → Int) (m : Int) (s i j : Nat) : dst f b R m s (i + 1) j = if j = s + i then RS (R (s + i) - RS (m * lf b i) (P f)) (P f) else dst f b R m s i j := by
  unfold dst
  by_cases e : j = s + i
  · subst e
    rw [if_pos (by omega), if_pos rfl, Nat.add_sub_cancel_left]
  · rw [if_neg e]
    by_cases h1 : s ≤ j ∧ j < s + i
    · rw [if_pos h1, if_pos (by omega)]
    · rw [if_neg h1, if_neg (by omega)]
theorem dst_bd {f : Int} (hp : 0 < P f) {b : List Int} {R : Nat → Int} {m : Int} {s i : Nat} (h : ∀ j, 0 ≤ R j ∧ R j < P f) (j : Nat) : 0 ≤ dst f b R m s i j ∧ dst f b R m s i j < P f := by
  unfold dst
  split
  · exact RS_bd hp
  · exact h j
theorem DivAt.step {f : Int} (h0 : 0 ≤ f) (h8 : f ≤ 8) {A : Nat → Int} {b : List Int} {s : Nat} {Q R : Nat → Int} {inv : Int} (hl : b.length ≠ 0) (hinv : (lf b (b.length - 1) * inv) % P f = 1 % P f) (h : DivAt f A b (s + b.length) Q R) :
    DivAt f A b (s + b.length - 1) (fun j => if j = s then RS (R (s + (b.length - 1)) * inv) (P f) else Q j) (dst f b R (RS (R (s + (b.length - 1)) * inv) (P f)) s b.length) := by
  have hp := P_bd h0 h8
  obtain ⟨h1, h2, h3, h4, h5, h6⟩ := h
  have em : RS (R (s + (b.length - 1)) * inv) (P f) % P f = (R (s + (b.length - 1)) * inv) % P f := by unfold RS; simp
  have em2 := RS_bd (x := R (s + (b.length - 1)) * inv) (m := P f) (by omega)
  generalize hm : RS (R (s + (b.length - 1)) * inv) (P f) = m at *
  refine ⟨fun j => ?_, dst_bd (by omega) h2, fun j => ?_, fun j hj => ?_, fun j hj => ?_, ?_⟩
  · have e : (fun j => if j = s then m else Q j) = fun j => (if j = s then m else 0) + Q j := by
      funext i
      by_cases hi : i = s
      · subst hi; simp [h5 i (by omega)]
      · simp [hi]
    rw [e, cv_add_l, cv_mono, h1 j]
    unfold dst
    by_cases hs : s ≤ j
    · by_cases hj : j < s + b.length
      · rw [if_pos hs, if_pos ⟨hs, hj⟩]
        unfold RS
        have e3 : (R j - m * lf b (j - s) % P f) % P f % P f = (R j - m * lf b (j - s)) % P f := by rw [Int.emod_emod_of_dvd _ (Int.dvd_refl _)]; exact emod_sub_congr rfl (by simp)
        rw [emod_add_congr (p := P f) (a := m * lf b (j - s) + cv j Q (lf b)) rfl e3]
        congr 1; omega
      · rw [if_pos hs, if_neg (by omega), lf_out b (show b.length ≤ j - s by omega)]
        congr 1; omega
    · rw [if_neg hs, if_neg (by omega)]
      congr 1; omega
  · show 0 ≤ (if j = s then m else Q j) ∧ (if j = s then m else Q j) < P f
    split
    · exact em2
    · exact h3 j
  · unfold dst
    by_cases e : j = s + (b.length - 1)
    · subst e
      rw [if_pos (by omega), Nat.add_sub_cancel_left]
      unfold RS
      have e1 : (m * lf b (b.length - 1)) % P f = R (s + (b.length - 1)) % P f := by
        rw [emod_mul_congr em rfl, show R (s + (b.length - 1)) * inv * lf b (b.length - 1) = R (s + (b.length - 1)) * (lf b (b.length - 1) * inv) by rw [Int.mul_assoc, Int.mul_comm inv], emod_mul_congr (p := P f) (a := R (s + (b.length - 1))) rfl hinv, Int.mul_one]
      rw [e1]
      exact emod_zero_of_sub (by simp)
    · by_cases hj2 : s ≤ j ∧ j < s + b.length
      · omega
      · rw [if_neg hj2]; exact h4 j (by omega)
  · show (if j = s then m else Q j) = 0
    rw [if_neg (by omega)]
    exact h5 j (by omega)
  · obtain ⟨N, hN⟩ := h6
    refine ⟨N + s + 1, fun j hj => ?_⟩
    show (if j = s then m else Q j) = 0
    rw [if_neg (by omega)]; exact hN j (by omega)
/-- Where a step finds nothing to clear. -/
theorem DivAt.isRem {f : Int} (hp : 0 < P f) {A : Nat → Int} {b : List Int} {n N : Nat} {Q R : Nat → Int} (hb : n < b.length) (hN : n ≤ N) (h : DivAt f A b n Q R) : IsRem f A b (cutL N R) := by
  obtain ⟨h1, h2, h3, h4, h5, h6⟩ := h
  have hpol : Pol f (cutL N R) := Pol.cut hp fun j _ => h2 j
  have hlf : ∀ j, lf (cutL N R) j = R j := fun j => by
    rw [lf_cutL]
    split
    · rfl
    · exact (h4 j (by omega)).symm
  refine ⟨hpol, ?_, Q, h6, fun j => by rw [hlf j]; exact h1 j⟩
  have := hpol.le (n := n) (fun j hj => by rw [hlf j]; exact h4 j hj)
  omega
/-- Quotient and remainder. -/
def DivP (f : Int) (a b q r : List Int) : Prop := Pol f q ∧ Pol f r ∧ r.length < b.length ∧ ∀ j, lf a j % P f = (cv j (lf q) (lf b) + lf r j) % P f
theorem DivP.unique {f : Int} (h0 : 0 ≤ f) (h8 : f ≤ 8) {a b q r q' r' : List Int} (hb : Pol f b) (h : DivP f a b q r) (k : DivP f a b q' r') : q = q' ∧ r = r' := by
  obtain ⟨h1, h2, h3, h4⟩ := h
  obtain ⟨k1, k2, k3, k4⟩ := k
  have er : r = r' := IsRem.unique h0 h8 hb (A := lf a) (A' := lf a) ⟨h2, h3, lf q, FinS.lf q, h4⟩ ⟨k2, k3, lf q', FinS.lf q', k4⟩ Cg.refl
  refine ⟨?_, er⟩
  subst er
  have hz := div_zero h0 h8 hb (by omega) (Q := fun j => lf q j + (-1) * lf q' j) ((FinS.lf q).add ((FinS.lf q').smul _)) (fun k _ => by
    rw [cv_add_l, cv_smul_l]
    have e := emod_zero_of_sub ((h4 k).symm.trans (k4 k))
    rw [← e]; congr 1; omega)
  refine h1.eq k1 fun j => ?_
  have := hz j
  have e : lf q j = (lf q j + (-1) * lf q' j) + lf q' j := by omega
  rw [e, Int.add_emod, this]; simp
theorem DivP.isRem {f : Int} {a b q r : List Int} (h : DivP f a b q r) : IsRem f (lf a) b r := ⟨h.2.1, h.2.2.1, lf q, FinS.lf q, h.2.2.2⟩
theorem DivAt.divP {f : Int} (hp : 0 < P f) {a b : List Int} {n N M : Nat} {Q R : Nat → Int} (hb : n < b.length) (hN : n ≤ N) (hM : ∀ j, M ≤ j → Q j = 0) (h : DivAt f (lf a) b n Q R) : DivP f a b (cutL M Q) (cutL N R) := by
  have hr := h.isRem hp hb hN
  obtain ⟨h1, h2, h3, h4, h5, h6⟩ := h
  have hlf : ∀ j, lf (cutL N R) j = R j := fun j => by
    rw [lf_cutL]
    split
    · rfl
    · exact (h4 j (by omega)).symm
  have hlq : ∀ j, lf (cutL M Q) j = Q j := fun j => by
    rw [lf_cutL]
    split
    · rfl
    · exact (hM j (by omega)).symm
  refine ⟨Pol.cut hp fun j _ => h3 j, hr.1, hr.2.1, fun j => ?_⟩
  rw [hlf, cv_congr (A' := Q) (B' := lf b) (fun i _ => hlq i) (fun _ _ => rfl)]
  exact h1 j
end Go.Proofs.YtcenglbcibkniaaDoor
