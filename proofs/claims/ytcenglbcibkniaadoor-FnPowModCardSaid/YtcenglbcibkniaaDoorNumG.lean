/-
  Quotient times divisor and remainder; the common divisor divides, is monic, and takes a common factor along.
-/
import Derived.Test.YtcenglbcibkniaaDoorNumT
namespace Go.Proofs.YtcenglbcibkniaaDoor
open Mth
theorem div_back {f : Int} (h0 : 0 ≤ f) (h8 : f ≤ 8) {a b q r : List Int} (ha : Pol f a) (h : DivP f a b q r) : addL f (mulL f q b) r = a := by
  refine (pol_addL h0 h8 _ _).eq ha fun j => ?_
  rw [lf_addL, lf_mulL, h.2.2.2 j]
  rw [Int.emod_emod_of_dvd _ (Int.dvd_refl _)]
  exact emod_add_congr (by simp) rfl
theorem div_len {f : Int} (h0 : 0 ≤ f) (h8 : f ≤ 8) {a b q r : List Int} (hb : Pol f b) (h : DivP f a b q r) : q.length = 0 ∨ q.length + b.length - 1 ≤ a.length := by
  by_cases hq : q.length = 0
  · exact .inl hq
  · right
    have hl := h.2.2.1
    by_cases hlt : q.length + b.length - 1 ≤ a.length
    · exact hlt
    · exfalso
      have ht := mul_top h0 h8 h.1 hb hq (by omega)
      have he := h.2.2.2 (q.length + b.length - 1 - 1)
      rw [lf_out a (by omega), lf_out r (by omega), Int.add_zero] at he
      apply ht
      unfold RS
      rw [← he]; simp
/-- An inverse of the last coefficient. -/
theorem inv_top {f : Int} (h0 : 0 ≤ f) (h8 : f ≤ 8) {b : List Int} (hb : Pol f b) (hl : b.length ≠ 0) : (lf b (b.length - 1) * invF f (lf b (b.length - 1))) % P f = 1 % P f := by
  have hp := P_bd h0 h8
  have h1 := hb.1 (b.length - 1)
  have hz : RS (lf b (b.length - 1)) (P f) ≠ 0 := top_nz h0 h8 hb hl
  have := (inv_one h0 h8 hz).1
  rw [RS_self h1.1 h1.2] at this
  rw [show (1 : Int) % P f = 1 from Int.emod_eq_of_lt (by omega) (by omega)]
  unfold invF
  rw [if_neg hz, Int.mul_comm]
  exact this
theorem rem_exists {f : Int} (h0 : 0 ≤ f) (h8 : f ≤ 8) {A : Nat → Int} {b : List Int} (hb : Pol f b) (hl : b.length ≠ 0) : ∀ (n : Nat) (Q R : Nat → Int), DivAt f A b n Q R → ∃ r, IsRem f A b r := by
  intro n
  induction n with
  | zero => intro Q R h; exact ⟨_, h.isRem (N := 0) (P_pos h0 h8) (by omega) (Nat.le_refl _)⟩
  | succ n ih =>
    intro Q R h
    by_cases hn : n + 1 < b.length
    · exact ⟨_, h.isRem (N := n + 1) (P_pos h0 h8) hn (Nat.le_refl _)⟩
    · have e : n + 1 = (n + 1 - b.length) + b.length := by omega
      rw [e] at h
      have := h.step h0 h8 hl (inv_top h0 h8 hb hl)
      rw [show n + 1 - b.length + b.length - 1 = n by omega] at this
      exact ih _ _ this
theorem remL_is {f : Int} (h0 : 0 ≤ f) (h8 : f ≤ 8) {a b : List Int} (ha : Pol f a) (hb : Pol f b) (hl : b.length ≠ 0) : IsRem f (lf a) b (remL f a b) := by
  have hex := rem_exists h0 h8 hb hl _ _ _ (DivAt.start (b := b) ha (P_pos h0 h8))
  unfold remL
  rw [dif_pos hex]
  exact Classical.choose_spec hex
def Dv (f : Int) (g : List Int) (A : Nat → Int) : Prop := Cg f g A (fun _ => 0)
theorem Dv.self {f : Int} (h0 : 0 ≤ f) (h8 : f ≤ 8) (g : List Int) : Dv f g (lf g) := ⟨oneS, FinS.one, fun j => by
  have : cv j oneS (lf g) = lf g j := congrFun (one_mul (lf g)) j
  rw [this]; simp⟩
theorem Dv.zero {f : Int} (h0 : 0 ≤ f) (h8 : f ≤ 8) {g : List Int} {A : Nat → Int} (h : ∀ j, A j = 0) : Dv f g A := Cg.of fun j => by rw [h j]
/-- What divides the divisor and the remainder divides the dividend. -/
theorem Dv.up {f : Int} (h0 : 0 ≤ f) (h8 : f ≤ 8) {g b : List Int} {A R : Nat → Int} (hb : Dv f g (lf b)) (hr : Dv f g R) (h : Cg f b A R) : Dv f g A := by
  obtain ⟨C, hC, h⟩ := h
  obtain ⟨B, hB, hb⟩ := hb
  obtain ⟨D, hD, hr⟩ := hr
  refine ⟨fun j => mulS C B j + D j, (hC.mul hB).add hD, fun j => ?_⟩
  rw [h j, cv_add_l, cv_assoc]
  have e1 : cv j C (lf b) % P f = cv j C (mulS B (lf g)) % P f := cv_mod j (fun _ => rfl) (fun i => by rw [hb i]; simp [mulS])
  have e2 := hr j
  rw [Int.add_zero] at e2
  rw [Int.add_zero]
  exact emod_add_congr e1 e2
theorem gcd_both {f : Int} (h0 : 0 ≤ f) (h8 : f ≤ 8) : ∀ (n : Nat) (a b : List Int), b.length ≤ n → Pol f a → Pol f b → Pol f (gcdL f a b) ∧ Dv f (gcdL f a b) (lf a) ∧ Dv f (gcdL f a b) (lf b) := by
  intro n
  induction n with
  | zero =>
    intro a b hn ha hb
    rw [gcdL_nil f a b (by omega)]
    exact ⟨ha, Dv.self h0 h8 a, Dv.zero h0 h8 fun j => lf_out b (by omega)⟩
  | succ n ih =>
    intro a b hn ha hb
    by_cases hl : b.length = 0
    · rw [gcdL_nil f a b hl]
      exact ⟨ha, Dv.self h0 h8 a, Dv.zero h0 h8 fun j => lf_out b (by omega)⟩
    · rw [gcdL_step f a b hl]
      have hr := remL_is h0 h8 ha hb hl
      have := hr.2.1
      obtain ⟨k1, k2, k3⟩ := ih b (remL f a b) (by omega) hb hr.1
      exact ⟨k1, Dv.up h0 h8 k2 k3 hr.2.2, k2⟩
/-- It is not zero if one of the two is not. -/
theorem gcd_nz {f : Int} (h0 : 0 ≤ f) (h8 : f ≤ 8) : ∀ (n : Nat) (a b : List Int), b.length ≤ n → a.length + b.length ≠ 0 → (gcdL f a b).length ≠ 0 := by
  intro n
  induction n with
  | zero => intro a b hn hz; rw [gcdL_nil f a b (by omega)]; omega
  | succ n ih =>
    intro a b hn hz
    by_cases hl : b.length = 0
    · rw [gcdL_nil f a b hl]; omega
    · rw [gcdL_step f a b hl]
      have := remL_len (f := f) (a := a) hl
      exact ih b (remL f a b) (by omega) (by omega)
/-- It is not longer than either that is not zero. -/
theorem gcd_le {f : Int} (h0 : 0 ≤ f) (h8 : f ≤ 8) : ∀ (n : Nat) (a b : List Int), b.length ≤ n → (gcdL f a b).length ≤ max a.length b.length ∧ (b.length ≠ 0 → (gcdL f a b).length ≤ b.length) := by
  intro n
  induction n with
  | zero => intro a b hn; rw [gcdL_nil f a b (by omega)]; exact ⟨by omega, by omega⟩
  | succ n ih =>
    intro a b hn
    by_cases hl : b.length = 0
    · rw [gcdL_nil f a b hl]; exact ⟨by omega, by omega⟩
    · rw [gcdL_step f a b hl]
      have h1 := remL_len (f := f) (a := a) hl
      have := ih b (remL f a b) (by omega)
      exact ⟨by omega, fun _ => by omega⟩
theorem monL_pol {f : Int} (h0 : 0 ≤ f) (h8 : f ≤ 8) (x : List Int) : Pol f (monL f x) := by
  unfold monL
  split
  · exact Pol.nil (P_pos h0 h8)
  · exact pol_scaleL h0 h8 _ _
theorem lf_monL {f : Int} (h0 : 0 ≤ f) (h8 : f ≤ 8) {x : List Int} (hl : x.length ≠ 0) (j : Nat) : lf (monL f x) j = (lf x j * invF f (lf x (x.length - 1))) % P f := by
  unfold monL
  rw [if_neg hl, lf_scaleL]
theorem monL_top {f : Int} (h0 : 0 ≤ f) (h8 : f ≤ 8) {x : List Int} (hx : Pol f x) (hl : x.length ≠ 0) : lf (monL f x) (x.length - 1) = 1 := by
  have hp := P_bd h0 h8
  rw [lf_monL h0 h8 hl, inv_top h0 h8 hx hl]
  exact Int.emod_eq_of_lt (by omega) (by omega)
theorem monL_len {f : Int} (h0 : 0 ≤ f) (h8 : f ≤ 8) {x : List Int} (hx : Pol f x) (hl : x.length ≠ 0) : (monL f x).length = x.length := by
  have h1 : (monL f x).length ≤ x.length := by
    unfold monL
    rw [if_neg hl]; exact scaleL_le _ _ _
  by_cases h2 : x.length ≤ (monL f x).length
  · omega
  · have := monL_top h0 h8 hx hl
    rw [lf_out _ (by omega)] at this
    omega
theorem monL_dv {f : Int} (h0 : 0 ≤ f) (h8 : f ≤ 8) {x : List Int} {A : Nat → Int} (hx : Pol f x) (hl : x.length ≠ 0) (h : Dv f x A) : Dv f (monL f x) A := by
  obtain ⟨C, hC, h⟩ := h
  refine ⟨fun j => lf x (x.length - 1) * C j, hC.smul _, fun j => ?_⟩
  rw [h j, Int.add_zero, Int.add_zero, cv_smul_l, ← cv_smul_r]
  refine cv_mod j (fun _ => rfl) fun i => ?_
  rw [lf_monL h0 h8 hl]
  have e : (lf x (x.length - 1) * (lf x i * invF f (lf x (x.length - 1)) % P f)) % P f = (lf x (x.length - 1) * (lf x i * invF f (lf x (x.length - 1)))) % P f := emod_mul_congr rfl (by simp)
  rw [e, show lf x (x.length - 1) * (lf x i * invF f (lf x (x.length - 1))) = lf x i * (lf x (x.length - 1) * invF f (lf x (x.length - 1))) from Int.mul_left_comm _ _ _, emod_mul_congr (p := P f) (a := lf x i) rfl (inv_top h0 h8 hx hl), Int.mul_one]
/-- A multiple leaves no remainder. -/
theorem Dv.rem {f : Int} (h0 : 0 ≤ f) (h8 : f ≤ 8) {g : List Int} {A : Nat → Int} (hg : g.length ≠ 0) (h : Dv f g A) : IsRem f A g [] := by
  refine ⟨Pol.nil (P_pos h0 h8), by show 0 < _; omega, ?_⟩
  have : lf [] = fun _ => 0 := funext fun j => lf_out [] (Nat.zero_le _)
  rw [this]; exact h
theorem mulL_nz {f : Int} (h0 : 0 ≤ f) (h8 : f ≤ 8) {a d : List Int} (ha : Pol f a) (hd : Pol f d) (hd0 : d.length ≠ 0) : (mulL f a d).length = 0 ↔ a.length = 0 := by
  constructor
  · intro h
    by_cases hz : a.length = 0
    · exact hz
    · have := mulL_len h0 h8 ha hd hz hd0; omega
  · intro h
    have : a = [] := List.eq_nil_of_length_eq_zero h
    subst this
    rw [mulL_nil_l]; rfl
/-- Division takes a common factor along. -/
theorem rem_mul {f : Int} (h0 : 0 ≤ f) (h8 : f ≤ 8) {a b d : List Int} (ha : Pol f a) (hb : Pol f b) (hd : Pol f d) (hb0 : b.length ≠ 0) (hd0 : d.length ≠ 0) : remL f (mulL f a d) (mulL f b d) = mulL f (remL f a b) d := by
  have hr := remL_is h0 h8 ha hb hb0
  have hbd := mulL_len h0 h8 hb hd hb0 hd0
  refine remL_eq h0 h8 (pol_mulL h0 h8 b d) ⟨pol_mulL h0 h8 _ _, ?_, ?_⟩
  · by_cases hz : (remL f a b).length = 0
    · have := (mulL_nz h0 h8 hr.1 hd hd0).2 hz
      omega
    · have := mulL_len h0 h8 hr.1 hd hz hd0
      have := hr.2.1
      omega
  · obtain ⟨C, hC, h⟩ := hr.2.2
    refine ⟨C, hC, fun j => ?_⟩
    rw [lf_mulL, lf_mulL]
    have e1 : cv j (lf a) (lf d) % P f % P f = (cv j (mulS C (lf b)) (lf d) + cv j (lf (remL f a b)) (lf d)) % P f := by
      rw [Int.emod_emod_of_dvd _ (Int.dvd_refl _), ← cv_add_l]
      exact cv_mod j h (fun _ => rfl)
    rw [e1, cv_assoc]
    refine emod_add_congr ?_ (by simp)
    exact cv_mod j (fun _ => rfl) (fun i => by rw [lf_mulL]; simp [mulS])
theorem gcd_mul {f : Int} (h0 : 0 ≤ f) (h8 : f ≤ 8) {d : List Int} (hd : Pol f d) (hd0 : d.length ≠ 0) : ∀ (n : Nat) (a b : List Int), b.length ≤ n → Pol f a → Pol f b → gcdL f (mulL f a d) (mulL f b d) = mulL f (gcdL f a b) d := by
  intro n
  induction n with
  | zero =>
    intro a b hn ha hb
    rw [gcdL_nil f a b (by omega), gcdL_nil f _ _ ((mulL_nz h0 h8 hb hd hd0).2 (by omega))]
  | succ n ih =>
    intro a b hn ha hb
    by_cases hl : b.length = 0
    · rw [gcdL_nil f a b hl, gcdL_nil f _ _ ((mulL_nz h0 h8 hb hd hd0).2 hl)]
    · have hr := remL_is h0 h8 ha hb hl
      have := hr.2.1
      rw [gcdL_step f a b hl, gcdL_step f _ _ (fun h => hl ((mulL_nz h0 h8 hb hd hd0).1 h)), rem_mul h0 h8 ha hb hd hl hd0]
      exact ih b (remL f a b) (by omega) hb hr.1
/-- A monic factor stays. -/
theorem mon_mul {f : Int} (h0 : 0 ≤ f) (h8 : f ≤ 8) {x d : List Int} (hx : Pol f x) (hd : Pol f d) (hx0 : x.length ≠ 0) (hd0 : d.length ≠ 0) (h1 : lf d (d.length - 1) = 1) : monL f (mulL f x d) = mulL f (monL f x) d := by
  have hlen := mulL_len h0 h8 hx hd hx0 hd0
  have hne : (mulL f x d).length ≠ 0 := by omega
  refine (monL_pol h0 h8 _).eq (pol_mulL h0 h8 _ _) fun j => ?_
  have ht : lf (mulL f x d) ((mulL f x d).length - 1) = lf x (x.length - 1) := by
    have hb := hx.1 (x.length - 1)
    rw [lf_mulL, hlen, show x.length + d.length - 1 - 1 = (x.length - 1) + (d.length - 1) by omega, cv_top (fun j hj => lf_out x (by omega)) (fun j hj => lf_out d (by omega)), h1, Int.mul_one]
    exact Int.emod_eq_of_lt hb.1 hb.2
  rw [lf_monL h0 h8 hne, ht, lf_mulL, lf_mulL]
  rw [Int.emod_emod_of_dvd _ (Int.dvd_refl _), Int.emod_emod_of_dvd _ (Int.dvd_refl _)]
  have e1 : (cv j (lf x) (lf d) % P f * invF f (lf x (x.length - 1))) % P f = (invF f (lf x (x.length - 1)) * cv j (lf x) (lf d)) % P f := by
    rw [Int.mul_comm]; exact emod_mul_congr rfl (by simp)
  rw [e1, ← cv_smul_l]
  exact cv_mod j (fun i => by rw [lf_monL h0 h8 hx0, Int.mul_comm]; simp) (fun _ => rfl)
end Go.Proofs.YtcenglbcibkniaaDoor
