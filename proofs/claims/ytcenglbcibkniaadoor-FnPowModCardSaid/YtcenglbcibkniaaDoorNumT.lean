/-
  The polynomials that the functions answer, as lists; what they say of one another.
-/
import Derived.Test.YtcenglbcibkniaaDoorNumQ
namespace Go.Proofs.YtcenglbcibkniaaDoor
open Mth

def addL (f : Int) (a b : List Int) : List Int := cutL (max a.length b.length) fun j => RS (lf a j + lf b j) (P f)
def scaleL (f : Int) (a : List Int) (c : Int) : List Int := cutL a.length fun j => RS (lf a j * c) (P f)
def mulL (f : Int) (a b : List Int) : List Int := cutL (a.length + b.length - 1) fun k => RS (cv k (lf a) (lf b)) (P f)
def derL (f : Int) (a : List Int) : List Int := cutL (a.length - 1) fun j => RS (((j : Int) + 1) * lf a (j + 1)) (P f)
def trimL (f : Int) (n : Nat) (Z : Nat → Int) : List Int := cutL n fun j => RS (Z j) (P f)
theorem lf_addL (f : Int) (a b : List Int) (j : Nat) : lf (addL f a b) j = (lf a j + lf b j) % P f := by
  unfold addL
  rw [lf_cutL]
  split
  · rfl
  · rw [lf_out a (by omega), lf_out b (by omega)]; simp
theorem lf_scaleL (f : Int) (a : List Int) (c : Int) (j : Nat) : lf (scaleL f a c) j = (lf a j * c) % P f := by
  unfold scaleL
  rw [lf_cutL]
  split
  · rfl
  · rw [lf_out a (by omega)]; simp
theorem lf_mulL (f : Int) (a b : List Int) (k : Nat) : lf (mulL f a b) k = cv k (lf a) (lf b) % P f := by
  unfold mulL
  rw [lf_cutL]
  split
  · rfl
  · rw [cv_out (fun j h => lf_out a h) (fun j h => lf_out b h) (by omega)]; simp
theorem P_pos {f : Int} (h0 : 0 ≤ f) (h8 : f ≤ 8) : 0 < P f := by have := P_bd h0 h8; omega
theorem pol_addL {f : Int} (h0 : 0 ≤ f) (h8 : f ≤ 8) (a b : List Int) : Pol f (addL f a b) := Pol.cut (P_pos h0 h8) fun _ _ => RS_bd (P_pos h0 h8)
theorem pol_scaleL {f : Int} (h0 : 0 ≤ f) (h8 : f ≤ 8) (a : List Int) (c : Int) : Pol f (scaleL f a c) := Pol.cut (P_pos h0 h8) fun _ _ => RS_bd (P_pos h0 h8)
theorem pol_mulL {f : Int} (h0 : 0 ≤ f) (h8 : f ≤ 8) (a b : List Int) : Pol f (mulL f a b) := Pol.cut (P_pos h0 h8) fun _ _ => RS_bd (P_pos h0 h8)
theorem pol_derL {f : Int} (h0 : 0 ≤ f) (h8 : f ≤ 8) (a : List Int) : Pol f (derL f a) := Pol.cut (P_pos h0 h8) fun _ _ => RS_bd (P_pos h0 h8)
theorem pol_trimL {f : Int} (h0 : 0 ≤ f) (h8 : f ≤ 8) (n : Nat) (Z : Nat → Int) : Pol f (trimL f n Z) := Pol.cut (P_pos h0 h8) fun _ _ => RS_bd (P_pos h0 h8)
theorem top_nz {f : Int} (h0 : 0 ≤ f) (h8 : f ≤ 8) {a : List Int} (ha : Pol f a) (hn : a.length ≠ 0) : lf a (a.length - 1) % P f ≠ 0 := by
  have h1 := ha.1 (a.length - 1)
  rw [Int.emod_eq_of_lt h1.1 h1.2]
  rcases ha.2 with h2 | h2
  · exact absurd h2 hn
  · exact h2
/-- The product of two polynomials other than zero needs no cut. -/
theorem mul_top {f : Int} (h0 : 0 ≤ f) (h8 : f ≤ 8) {a b : List Int} (ha : Pol f a) (hb : Pol f b) (hn : a.length ≠ 0) (hm : b.length ≠ 0) : RS (cv (a.length + b.length - 1 - 1) (lf a) (lf b)) (P f) ≠ 0 := by
  have e : a.length + b.length - 1 - 1 = (a.length - 1) + (b.length - 1) := by omega
  rw [e, cv_top (fun j hj => lf_out a (by omega)) (fun j hj => lf_out b (by omega))]
  exact mul_nz h0 h8 (top_nz h0 h8 ha hn) (top_nz h0 h8 hb hm)
theorem mulL_full {f : Int} (h0 : 0 ≤ f) (h8 : f ≤ 8) {a b : List Int} (ha : Pol f a) (hb : Pol f b) (hn : a.length ≠ 0) (hm : b.length ≠ 0) : cutN (fun k => RS (cv k (lf a) (lf b)) (P f)) (a.length + b.length - 1) = a.length + b.length - 1 :=
  cutN_full (.inr (mul_top h0 h8 ha hb hn hm))
theorem mulL_len {f : Int} (h0 : 0 ≤ f) (h8 : f ≤ 8) {a b : List Int} (ha : Pol f a) (hb : Pol f b) (hn : a.length ≠ 0) (hm : b.length ≠ 0) : (mulL f a b).length = a.length + b.length - 1 := by
  unfold mulL; rw [cutL_len]; exact mulL_full h0 h8 ha hb hn hm
theorem mulL_le (f : Int) (a b : List Int) : (mulL f a b).length ≤ a.length + b.length - 1 := by unfold mulL; rw [cutL_len]; exact cutN_le _ _
theorem mulL_nil_l (f : Int) (b : List Int) : mulL f [] b = [] := by
  unfold mulL
  have : cutN (fun k => RS (cv k (lf []) (lf b)) (P f)) (([] : List Int).length + b.length - 1) = 0 := by
    rw [cutN_more (n := 0) (Nat.zero_le _)]
    · rfl
    · intro j _ _
      show RS (cv j (lf []) (lf b)) (P f) = 0
      rw [cv_zero_l (fun i _ => lf_out [] (Nat.zero_le _))]; simp [RS]
  unfold cutL
  rw [this]; rfl
theorem mulL_comm (f : Int) (a b : List Int) : mulL f a b = mulL f b a := by
  unfold mulL
  rw [show b.length + a.length - 1 = a.length + b.length - 1 by omega]
  exact cutL_congr fun j _ => by rw [cv_comm]
theorem mulL_nil_r (f : Int) (a : List Int) : mulL f a [] = [] := by rw [mulL_comm, mulL_nil_l]
theorem addL_le (f : Int) (a b : List Int) : (addL f a b).length ≤ max a.length b.length := by unfold addL; rw [cutL_len]; exact cutN_le _ _
theorem scaleL_le (f : Int) (a : List Int) (c : Int) : (scaleL f a c).length ≤ a.length := by unfold scaleL; rw [cutL_len]; exact cutN_le _ _
theorem derL_le (f : Int) (a : List Int) : (derL f a).length ≤ a.length - 1 := by unfold derL; rw [cutL_len]; exact cutN_le _ _
/-- The program multiplies by P - 1, the specification by -1. -/
theorem scale_neg (f : Int) (a : List Int) : scaleL f a (P f - 1) = scaleL f a (-1) := by
  unfold scaleL
  refine cutL_congr fun j _ => ?_
  unfold RS
  rw [Int.mul_sub, Int.mul_one, show lf a j * P f - lf a j = lf a j * (-1) + P f * lf a j by rw [Int.mul_comm (P f)]; omega, Int.add_mul_emod_self_left]

/-- Euclid's steps. -/
noncomputable def gcdS (f : Int) : Nat → List Int → List Int → List Int
  | 0, x, _ => x
  | t + 1, x, y => if y.length = 0 then x else gcdS f t y (remL f x y)
theorem gcdS_more (f : Int) : ∀ t s x y, y.length < t → y.length < s → gcdS f t x y = gcdS f s x y := by
  intro t
  induction t with
  | zero => intro s x y h; omega
  | succ t ih =>
    intro s x y h1 h2
    cases s with
    | zero => omega
    | succ s =>
      unfold gcdS
      split
      · rfl
      · rename_i hy
        have := remL_len (f := f) (a := x) hy
        exact ih s y (remL f x y) (by omega) (by omega)
noncomputable def gcdL (f : Int) (x y : List Int) : List Int := gcdS f (y.length + 1) x y
theorem gcdL_nil (f : Int) (x y : List Int) (h : y.length = 0) : gcdL f x y = x := by unfold gcdL gcdS; rw [if_pos h]
theorem gcdL_step (f : Int) (x y : List Int) (h : y.length ≠ 0) : gcdL f x y = gcdL f y (remL f x y) := by
  have := remL_len (f := f) (a := x) h
  have e : gcdL f x y = gcdS f y.length y (remL f x y) := by unfold gcdL; rw [gcdS, if_neg h]
  rw [e]
  exact gcdS_more f _ _ _ _ (by omega) (by omega)
/-- Scaled to the last coefficient 1. -/
def monL (f : Int) (x : List Int) : List Int := if x.length = 0 then [] else scaleL f x (invF f (lf x (x.length - 1)))
noncomputable def gcdM (f : Int) (a b : List Int) : List Int := monL f (gcdL f a b)

/-- Powers of series. -/
def oneS : Nat → Int := fun j => if j = 0 then 1 else 0
def powS (A : Nat → Int) : Nat → (Nat → Int)
  | 0 => oneS
  | k + 1 => mulS (powS A k) A
theorem FinS.one : FinS oneS := ⟨1, fun j hj => by unfold oneS; rw [if_neg (by omega)]⟩
theorem FinS.pow {A : Nat → Int} (h : FinS A) (k : Nat) : FinS (powS A k) := by
  induction k with
  | zero => exact FinS.one
  | succ k ih => exact ih.mul h
theorem one_mul (A : Nat → Int) : mulS oneS A = A := by
  funext k
  show cv k oneS A = A k
  have := cv_mono k 0 1 A
  rw [if_pos (Nat.zero_le _), Int.one_mul, Nat.sub_zero] at this
  exact this
theorem mul_commS (A B : Nat → Int) : mulS A B = mulS B A := funext fun k => cv_comm k A B
theorem mul_assocS (A B C : Nat → Int) : mulS (mulS A B) C = mulS A (mulS B C) := funext fun k => cv_assoc k A B C
theorem pow_addS (A : Nat → Int) (m n : Nat) : powS A (m + n) = mulS (powS A m) (powS A n) := by
  induction n with
  | zero => show powS A m = mulS (powS A m) oneS; rw [mul_commS, one_mul]
  | succ n ih => show mulS (powS A (m + n)) A = mulS (powS A m) (mulS (powS A n) A); rw [ih, mul_assocS]
theorem pow_sqS (A : Nat → Int) (n : Nat) : powS (mulS A A) n = powS A (2 * n) := by
  induction n with
  | zero => rfl
  | succ n ih =>
    show mulS (powS (mulS A A) n) (mulS A A) = mulS (mulS (powS A (2 * n)) A) A
    rw [ih, mul_assocS]
/-- The state of the loop: r s^e is a^e0, modulo m. -/
def PowAt (f : Int) (m : List Int) (A : Nat → Int) (e0 e : Nat) (r s : List Int) : Prop := (Pol f r ∧ r.length < m.length) ∧ (Pol f s ∧ s.length < m.length) ∧ Cg f m (mulS (lf r) (powS (lf s) e)) (powS A e0)
theorem Cg.pow {f : Int} {b : List Int} {A A' : Nat → Int} (hA : FinS A) (hA' : FinS A') (h : Cg f b A A') (k : Nat) : Cg f b (powS A k) (powS A' k) := by
  induction k with
  | zero => exact Cg.refl
  | succ k ih => exact Cg.mul (hA'.pow k) hA ih h
theorem lf_mulL_cg (f : Int) (m a b : List Int) : Cg f m (lf (mulL f a b)) (mulS (lf a) (lf b)) := Cg.of fun j => by rw [lf_mulL]; simp [mulS]
theorem PowAt.even {f : Int} {m r s s' : List Int} {A : Nat → Int} {e0 e : Nat} (h : PowAt f m A e0 e r s) (he : e % 2 = 0) (hs : IsRem f (lf (mulL f s s)) m s') : PowAt f m A e0 (e / 2) r s' := by
  obtain ⟨h1, h2, h3⟩ := h
  refine ⟨h1, ⟨hs.1, hs.2.1⟩, Cg.trans ?_ h3⟩
  have e1 : Cg f m (powS (lf s') (e / 2)) (powS (lf s) e) := by
    have := Cg.pow (FinS.lf s') ((FinS.lf s).mul (FinS.lf s)) (hs.2.2.symm.trans (lf_mulL_cg f m s s)) (e / 2)
    rw [pow_sqS, show 2 * (e / 2) = e by omega] at this
    exact this
  exact Cg.mul (FinS.lf r) ((FinS.lf s').pow _) Cg.refl e1
theorem PowAt.odd {f : Int} {m r s s' r' : List Int} {A : Nat → Int} {e0 e : Nat} (h : PowAt f m A e0 e r s) (he : e % 2 = 1) (hr : IsRem f (lf (mulL f r s)) m r') (hs : IsRem f (lf (mulL f s s)) m s') : PowAt f m A e0 (e / 2) r' s' := by
  obtain ⟨h1, h2, h3⟩ := h
  refine ⟨⟨hr.1, hr.2.1⟩, ⟨hs.1, hs.2.1⟩, Cg.trans ?_ h3⟩
  have e1 : Cg f m (powS (lf s') (e / 2)) (powS (lf s) (e - 1)) := by
    have := Cg.pow (FinS.lf s') ((FinS.lf s).mul (FinS.lf s)) (hs.2.2.symm.trans (lf_mulL_cg f m s s)) (e / 2)
    rw [pow_sqS, show 2 * (e / 2) = e - 1 by omega] at this
    exact this
  have e2 : Cg f m (lf r') (mulS (lf r) (lf s)) := hr.2.2.symm.trans (lf_mulL_cg f m r s)
  have e3 := Cg.mul ((FinS.lf r).mul (FinS.lf s)) ((FinS.lf s').pow (e / 2)) e2 e1
  have e4 : mulS (mulS (lf r) (lf s)) (powS (lf s) (e - 1)) = mulS (lf r) (powS (lf s) e) := by
    rw [mul_assocS, mul_commS (lf s), show mulS (powS (lf s) (e - 1)) (lf s) = powS (lf s) (e - 1 + 1) from rfl, show e - 1 + 1 = e by omega]
  rw [e4] at e3
  exact e3
/-- a^e modulo m. -/
def IsPow (f : Int) (a : List Int) (e : Nat) (m r : List Int) : Prop := IsRem f (powS (lf a) e) m r
theorem PowAt.last {f : Int} {m r s a : List Int} {e0 : Nat} (h : PowAt f m (lf a) e0 0 r s) : IsPow f a e0 m r := by
  obtain ⟨h1, h2, h3⟩ := h
  refine ⟨h1.1, h1.2, ?_⟩
  have e : mulS (lf r) (powS (lf s) 0) = lf r := by show mulS (lf r) oneS = _; rw [mul_commS, one_mul]
  rw [e] at h3
  exact h3.symm
theorem PowAt.first {f : Int} {m r s a : List Int} {e0 : Nat} (hr : IsRem f oneS m r) (hs : IsRem f (lf a) m s) : PowAt f m (lf a) e0 e0 r s := by
  refine ⟨⟨hr.1, hr.2.1⟩, ⟨hs.1, hs.2.1⟩, ?_⟩
  have := Cg.mul FinS.one ((FinS.lf s).pow e0) hr.2.2.symm (Cg.pow (FinS.lf s) (FinS.lf a) hs.2.2.symm e0)
  rw [one_mul] at this
  exact this
theorem IsPow.unique {f : Int} (h0 : 0 ≤ f) (h8 : f ≤ 8) {a m r r' : List Int} {e : Nat} (hm : Pol f m) (h : IsPow f a e m r) (k : IsPow f a e m r') : r = r' := IsRem.unique h0 h8 hm h k Cg.refl
/-- One more factor. -/
theorem IsPow.succ {f : Int} (h0 : 0 ≤ f) (h8 : f ≤ 8) {a m x y r : List Int} {e : Nat} (hm : Pol f m) (hx : IsPow f a e m x) (hy : IsPow f a (e + 1) m y) (hr : IsRem f (lf (mulL f x a)) m r) : r = y := by
  refine IsRem.unique h0 h8 hm hr hy ?_
  refine (lf_mulL_cg f m x a).trans ?_
  show Cg f m _ (mulS (powS (lf a) e) (lf a))
  exact Cg.mul ((FinS.lf a).pow e) (FinS.lf a) hx.2.2.symm Cg.refl

/-- A polynomial in a polynomial. -/
def compL (f : Int) (b : List Int) : List Int → List Int
  | [] => []
  | x :: t => addL f (mulL f (compL f b t) b) (cutL 1 fun _ => x)
theorem cut1_le (x : Int) : (cutL 1 fun _ => x).length ≤ 1 := by rw [cutL_len]; exact cutN_le _ _
theorem compL_le (f : Int) (b : List Int) : ∀ a : List Int, (compL f b a).length ≤ (a.length - 1) * (b.length - 1) + 1 := by
  intro a
  induction a with
  | nil => simp [compL]
  | cons x t ih =>
    have h1 := addL_le f (mulL f (compL f b t) b) (cutL 1 fun _ => x)
    have h2 := mulL_le f (compL f b t) b
    have h3 := cut1_le x
    show (addL f (mulL f (compL f b t) b) (cutL 1 fun _ => x)).length ≤ t.length * (b.length - 1) + 1
    cases t with
    | nil =>
      have e : (mulL f (compL f b []) b).length = 0 := by show (mulL f [] b).length = 0; rw [mulL_nil_l]; rfl
      omega
    | cons y t =>
      have e1 : (y :: t).length * (b.length - 1) = ((y :: t).length - 1) * (b.length - 1) + (b.length - 1) := by
        show (t.length + 1) * (b.length - 1) = t.length * (b.length - 1) + (b.length - 1)
        rw [Nat.add_mul]; omega
      by_cases hb : b.length = 0
      · have : b = [] := List.eq_nil_of_length_eq_zero hb
        subst this
        rw [mulL_nil_r] at h1 ⊢
        have : ([] : List Int).length = 0 := rfl
        omega
      · omega
theorem comp_mul_le (f : Int) (b : List Int) (x : Int) (t : List Int) : (mulL f (compL f b t) b).length ≤ t.length * (b.length - 1) + 1 := by
  have h1 := compL_le f b t
  have h2 := mulL_le f (compL f b t) b
  cases t with
  | nil =>
    have e : (mulL f (compL f b []) b).length = 0 := by show (mulL f [] b).length = 0; rw [mulL_nil_l]; rfl
    omega
  | cons y t =>
    have e1 : (y :: t).length * (b.length - 1) = ((y :: t).length - 1) * (b.length - 1) + (b.length - 1) := by
      show (t.length + 1) * (b.length - 1) = t.length * (b.length - 1) + (b.length - 1)
      rw [Nat.add_mul]; omega
    by_cases hb : b.length = 0
    · have : b = [] := List.eq_nil_of_length_eq_zero hb
      subst this
      rw [mulL_nil_r]; simp
    · omega

/-- Values. -/
def evN (x : Int) (A : Nat → Int) (n : Nat) : Int := sumN (fun i => A i * x ^ i) n
theorem sumN_mul (c : Int) (g : Nat → Int) (n : Nat) : sumN (fun i => c * g i) n = c * sumN g n := by
  induction n with
  | zero => simp [sumN]
  | succ n ih => rw [sumN, sumN, ih, Int.mul_add]
theorem sumN_add (g h : Nat → Int) (n : Nat) : sumN (fun i => g i + h i) n = sumN g n + sumN h n := by
  induction n with
  | zero => simp [sumN]
  | succ n ih => rw [sumN, sumN, sumN, ih]; omega
theorem evN_succ (x : Int) (A : Nat → Int) (n : Nat) : evN x A (n + 1) = A 0 + x * evN x (tl A) n := by
  unfold evN
  rw [sumN_first]
  congr 1
  · simp
  · rw [← sumN_mul]
    exact sumN_congr fun i _ => by rw [Int.pow_succ]; show A (i + 1) * (x ^ i * x) = x * (A (i + 1) * x ^ i); rw [← Int.mul_assoc, Int.mul_comm]
theorem evN_more {x : Int} {A : Nat → Int} {n m : Nat} (hnm : n ≤ m) (h : ∀ j, n ≤ j → A j = 0) : evN x A m = evN x A n := sumN_more hnm fun i hi _ => by rw [h i hi, Int.zero_mul]
theorem evN_add (x : Int) (A B : Nat → Int) (n : Nat) : evN x (fun j => A j + B j) n = evN x A n + evN x B n := by
  unfold evN
  rw [← sumN_add]
  exact sumN_congr fun i _ => Int.add_mul _ _ _
theorem evN_smul (x c : Int) (A : Nat → Int) (n : Nat) : evN x (fun j => c * A j) n = c * evN x A n := by
  unfold evN
  rw [← sumN_mul]
  exact sumN_congr fun i _ => Int.mul_assoc _ _ _
theorem evN_mul (x : Int) (B : Nat → Int) (m : Nat) (hB : ∀ j, m ≤ j → B j = 0) : ∀ (n : Nat) (A : Nat → Int), (∀ j, n ≤ j → A j = 0) → evN x (mulS A B) (n + m) = evN x A n * evN x B m := by
  intro n
  induction n with
  | zero =>
    intro A hA
    have e : ∀ j, 0 ≤ j → mulS A B j = 0 := fun j _ => cv_zero_l fun i _ => hA i (Nat.zero_le _)
    rw [evN_more (n := 0) (Nat.zero_le _) e]
    simp [evN, sumN]
  | succ n ih =>
    intro A hA
    rw [show n + 1 + m = (n + m) + 1 by omega, evN_succ, evN_succ x A n]
    have e : tl (mulS A B) = fun j => A 0 * tl B j + mulS (tl A) B j := rfl
    rw [e, evN_add, evN_smul, ih (tl A) (fun j hj => hA (j + 1) (by omega))]
    have e2 : evN x B m = B 0 + x * evN x (tl B) (n + m) := by rw [← evN_succ]; exact (evN_more (by omega) hB).symm
    have e3 : mulS A B 0 = A 0 * B 0 := rfl
    rw [e3]
    conv => rhs; rw [Int.add_mul]
    have e4 : A 0 * evN x B m = A 0 * B 0 + A 0 * (x * evN x (tl B) (n + m)) := by rw [e2, Int.mul_add]
    rw [e4]
    have e5 : x * (A 0 * evN x (tl B) (n + m) + evN x (tl A) n * evN x B m) = A 0 * (x * evN x (tl B) (n + m)) + x * evN x (tl A) n * evN x B m := by
      rw [Int.mul_add, Int.mul_left_comm, Int.mul_assoc]
    omega
theorem evN_mod {p : Int} {x y : Int} {A B : Nat → Int} (n : Nat) (hx : x % p = y % p) (h : ∀ j, A j % p = B j % p) : evN x A n % p = evN y B n % p := by
  have hpow : ∀ i : Nat, x ^ i % p = y ^ i % p := fun i => by
    induction i with
    | zero => rw [Int.pow_zero, Int.pow_zero]
    | succ i ih => rw [Int.pow_succ, Int.pow_succ]; exact emod_mul_congr ih hx
  unfold evN
  induction n with
  | zero => rfl
  | succ n ih => rw [sumN, sumN]; exact emod_add_congr ih (emod_mul_congr (h n) (hpow n))
def evL (f x : Int) (a : List Int) : Int := RS (evN x (lf a) a.length) (P f)
theorem evL_mul (f x : Int) (a b : List Int) : evL f x (mulL f a b) = RS (evL f x a * evL f x b) (P f) := by
  unfold evL RS
  have h1 : evN x (lf (mulL f a b)) (mulL f a b).length = evN x (lf (mulL f a b)) (a.length + b.length) := by
    have := mulL_le f a b
    exact (evN_more (by omega) (fun j hj => lf_out _ hj)).symm
  rw [h1, evN_mod (p := P f) (y := x) (B := mulS (lf a) (lf b)) _ rfl (fun j => by rw [lf_mulL]; simp [mulS]), evN_mul x (lf b) b.length (fun j hj => lf_out _ hj) a.length (lf a) (fun j hj => lf_out _ hj)]
  exact (Int.mul_emod _ _ _)
theorem evL_add (f x : Int) (a b : List Int) : evL f x (addL f a b) = RS (evL f x a + evL f x b) (P f) := by
  unfold evL RS
  have h1 : evN x (lf (addL f a b)) (addL f a b).length = evN x (lf (addL f a b)) (a.length + b.length) := by
    have := addL_le f a b
    exact (evN_more (by omega) (fun j hj => lf_out _ hj)).symm
  rw [h1, evN_mod (p := P f) (y := x) (B := fun j => lf a j + lf b j) _ rfl (fun j => by rw [lf_addL]; simp), evN_add, evN_more (n := a.length) (by omega) (fun j hj => lf_out _ hj), evN_more (n := b.length) (m := a.length + b.length) (by omega) (fun j hj => lf_out _ hj)]
  exact (Int.add_emod _ _ _)
theorem lf_cons_tl (x : Int) (t : List Int) : tl (lf (x :: t)) = lf t := by funext j; simp [tl, lf]
theorem evL_cons (f x c : Int) (t : List Int) : evL f x (c :: t) = RS (c + x * evL f x t) (P f) := by
  unfold evL RS
  rw [show (c :: t).length = t.length + 1 from rfl, evN_succ, lf_cons_tl]
  exact emod_add_congr rfl (emod_mul_congr rfl (by simp))
theorem evL_one (f x c : Int) : evL f x (cutL 1 fun _ => c) = RS c (P f) := by
  have e : evN x (lf (cutL 1 fun _ => c)) (cutL 1 fun _ => c).length = evN x (lf (cutL 1 fun _ => c)) 1 := (evN_more (cut1_le c) (fun j hj => lf_out _ hj)).symm
  unfold evL
  rw [e]
  unfold evN
  simp [sumN, lf_cutL]
theorem evL_arg {f x y : Int} (h : x % P f = y % P f) (a : List Int) : evL f x a = evL f y a := by unfold evL RS; exact evN_mod _ h (fun _ => rfl)
theorem evL_comp (f x : Int) (b : List Int) : ∀ a : List Int, evL f x (compL f b a) = evL f (evL f x b) a := by
  intro a
  induction a with
  | nil => show evL f x [] = evL f _ []; simp [evL, evN, sumN]
  | cons c t ih =>
    show evL f x (addL f (mulL f (compL f b t) b) (cutL 1 fun _ => c)) = _
    rw [evL_add, evL_mul, ih, evL_cons, evL_one]
    unfold RS
    rw [Int.add_comm, Int.mul_comm]
    exact (emod_add_congr (by simp) (by simp))
end Go.Proofs.YtcenglbcibkniaaDoor
