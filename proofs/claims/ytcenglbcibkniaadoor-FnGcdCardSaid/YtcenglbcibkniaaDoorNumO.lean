/-
  The order of an element: what both functions reckon, by trial division.
-/
import Derived.Test.YtcenglbcibkniaaDoorNum
namespace Go.Proofs.YtcenglbcibkniaaDoor
open Mth
/-- Is x^m one? -/
def tst (f x : Int) (m : Nat) : Bool := decide (PW (P f) x (m : Int) = 1)
def mOrder (f a : Int) : Int := if (0 ≤ f ∧ f ≤ 8) ∧ RS a (P f) ≠ 0 then (ordF (tst f (RS a (P f))) (facs f.toNat) (pN f.toNat - 1) : Nat) else -1
def sorted : List Nat → Prop
  | [] => True
  | a :: l => (∀ b, b ∈ l → a ≤ b) ∧ sorted l
/-- The state of the trial division: the factors that are left are l. -/
def OstL (f x k rest q : Int) (l : List Nat) : Prop :=
  (∀ r, r ∈ l → Pr r ∧ q ≤ (r : Int) ∧ r ≤ 479) ∧ sorted l ∧ rest = (prod l : Nat) ∧ 0 < k ∧ k ≤ P f - 1 ∧ prod l ∣ k.toNat ∧ ordF (tst f x) l k.toNat = ordF (tst f x) (facs f.toNat) (pN f.toNat - 1)
def Ost (f x k rest q : Int) : Prop := ∃ l, OstL f x k rest q l
theorem facs_small : ∀ f, f < 9 → (∀ r, r ∈ facs f → 2 ≤ r ∧ r ≤ 479) := by decide +kernel
theorem sorted_oN (f : Nat) : sorted (oN f) := by
  unfold oN; split <;> simp [sorted]
theorem oN_two (f : Nat) : ∀ b, b ∈ oN f → 2 ≤ b := by
  unfold oN; split <;> simp
theorem sorted_twos (l : List Nat) (hl : sorted l) (h2 : ∀ b, b ∈ l → 2 ≤ b) : ∀ n, sorted (List.replicate n 2 ++ l) := by
  intro n
  induction n with
  | zero => simpa using hl
  | succ n ih =>
    rw [List.replicate_succ, List.cons_append]
    refine ⟨fun b hb => ?_, ih⟩
    rcases List.mem_append.1 hb with h | h
    · rw [List.eq_of_mem_replicate h]; exact Nat.le_refl _
    · exact h2 b h
theorem Ost_start {f x : Int} (h0 : 0 ≤ f) (h8 : f ≤ 8) : Ost f x (P f - 1) (P f - 1) 2 := by
  have hp := P_bd h0 h8
  have hn := P_nat h0
  have hf : f.toNat < 9 := by omega
  have e : (P f - 1).toNat = pN f.toNat - 1 := by omega
  refine ⟨facs f.toNat, fun r hr => ⟨facs_pr _ r hr, ?_, (facs_small _ hf r hr).2⟩, sorted_twos _ (sorted_oN _) (oN_two _) _, ?_, by omega, by omega, ?_, by rw [e]⟩
  · have := (facs_small _ hf r hr).1; omega
  · rw [facs_prod _ hf]; omega
  · rw [e, facs_prod _ hf]; exact Nat.dvd_refl _
theorem prod_pos (l : List Nat) (h : ∀ r, r ∈ l → Pr r) : 0 < prod l := by
  induction l with
  | nil => exact Nat.one_pos
  | cons r l ih => exact Nat.mul_pos (by have := (h r List.mem_cons_self).1; omega) (ih fun r hr => h r (List.mem_cons_of_mem _ hr))
theorem Ost_bd {f x k rest q : Int} (h : Ost f x k rest q) : 0 < k ∧ k ≤ P f - 1 ∧ 0 < rest ∧ rest ≤ k := by
  obtain ⟨l, h1, _, rfl, k0, k1, hd, _⟩ := h
  have := prod_pos l fun r hr => (h1 r hr).1
  have := Nat.le_of_dvd (by omega) hd
  exact ⟨k0, k1, by omega, by omega⟩
theorem Ost_q {f x k rest q : Int} (h : Ost f x k rest q) (hr : 1 < rest) : q ≤ 479 := by
  obtain ⟨l, h1, _, rfl, _⟩ := h
  cases l with
  | nil => simp [prod] at hr
  | cons r l => have := h1 r List.mem_cons_self; omega
/-- q divides what is left: it is the first factor. -/
theorem Ost_head {f x k rest q : Int} (hq : 2 ≤ q) (h : Ost f x k rest q) (hd : rest % q = 0) : ∃ l, OstL f x k rest q (q.toNat :: l) := by
  obtain ⟨l, h1, hs, e, h2⟩ := h
  have hdn : q.toNat ∣ prod l := by
    have : (q.toNat : Int) ∣ (prod l : Int) := by
      rw [show (q.toNat : Int) = q by omega, ← e]; exact Int.dvd_of_emod_eq_zero hd
    exact Int.natCast_dvd_natCast.1 this
  obtain ⟨r, hr, hrq⟩ := prime_in l (fun r hr => (h1 r hr).1) q.toNat hdn (by omega)
  have hrq2 : r = q.toNat := by
    have := Nat.le_of_dvd (by omega) hrq; have := (h1 r hr).2.1; omega
  subst hrq2
  cases l with
  | nil => cases hr
  | cons a l =>
    have ha : a = q.toNat := by
      have h3 := (h1 a List.mem_cons_self).2.1
      rcases List.mem_cons.1 hr with h | h
      · exact h.symm
      · have := hs.1 _ h; omega
    subst ha
    exact ⟨l, h1, hs, e, h2⟩
theorem Ost_div {f x k rest q : Int} (hq : 2 ≤ q) (h : Ost f x k rest q) (hd : rest % q = 0) : k % q = 0 := by
  obtain ⟨l, h1, hs, e, k0, k1, hdk, ho⟩ := Ost_head hq h hd
  have : q.toNat ∣ k.toNat := Nat.dvd_trans (Nat.dvd_mul_right _ _) hdk
  obtain ⟨c, hc⟩ := this
  have : k = q * (c : Int) := by
    have h2 : ((k.toNat : Nat) : Int) = ((q.toNat * c : Nat) : Int) := by rw [hc]
    rw [Int.natCast_mul] at h2
    rw [show (q.toNat : Int) = q by omega, show (k.toNat : Int) = k by omega] at h2
    exact h2
  rw [this]; exact Int.mul_emod_right _ _
theorem tst_nat {f x k q : Int} (hk : 0 ≤ k) (hq : 0 ≤ q) : tst f x (k.toNat / q.toNat) = decide (PW (P f) x (k / q) = 1) := by
  unfold tst
  have : ((k.toNat / q.toNat : Nat) : Int) = k / q := by
    rw [Int.natCast_ediv, show (k.toNat : Int) = k by omega, show (q.toNat : Int) = q by omega]
  rw [this]
theorem toNat_div {k q : Int} (hk : 0 ≤ k) (hq : 0 ≤ q) : (k / q).toNat = k.toNat / q.toNat := by
  have : ((k.toNat / q.toNat : Nat) : Int) = k / q := by
    rw [Int.natCast_ediv, show (k.toNat : Int) = k by omega, show (q.toNat : Int) = q by omega]
  rw [← this, Int.toNat_natCast]
theorem Ost_quo {f x k rest q : Int} (hq : 2 ≤ q) (h : Ost f x k rest q) (hd : rest % q = 0) : rest / q = ((rest / q).toNat : Int) ∧ 0 < rest / q ∧ rest / q < rest ∧ 0 < k / q ∧ k / q < k := by
  have hb := Ost_bd h
  have e1 := Int.emod_add_mul_ediv rest q
  have e2 := Int.emod_add_mul_ediv k q
  have hk := Ost_div hq h hd
  rw [hd] at e1; rw [hk] at e2
  have p1 : 0 < rest / q := by
    rcases Int.lt_or_le 0 (rest / q) with h | h
    · exact h
    · have := Int.mul_nonpos_of_nonneg_of_nonpos (show 0 ≤ q by omega) h; omega
  have p2 : 0 < k / q := by
    rcases Int.lt_or_le 0 (k / q) with h | h
    · exact h
    · have := Int.mul_nonpos_of_nonneg_of_nonpos (show 0 ≤ q by omega) h; omega
  have g1 := Int.mul_le_mul_of_nonneg_right hq (show 0 ≤ rest / q by omega)
  have g2 := Int.mul_le_mul_of_nonneg_right hq (show 0 ≤ k / q by omega)
  refine ⟨by omega, p1, by omega, p2, by omega⟩
/-- One factor is gone. -/
theorem Ost_yes {f x k rest q : Int} (hq : 2 ≤ q) (h : Ost f x k rest q) (hd : rest % q = 0) (ht : PW (P f) x (k / q) = 1) : Ost f x (k / q) (rest / q) q := by
  have hb := Ost_quo hq h hd
  have hb2 := Ost_bd h
  obtain ⟨l, h1, hs, e, k0, k1, hdk, ho⟩ := Ost_head hq h hd
  have hq0 : 0 < q.toNat := by omega
  refine ⟨l, fun r hr => h1 r (List.mem_cons_of_mem _ hr), hs.2, ?_, hb.2.2.2.1, by omega, ?_, ?_⟩
  · rw [hb.1, toNat_div (by omega) (by omega), e]
    show (((q.toNat * prod l) / q.toNat : Nat) : Int) = _
    rw [Nat.mul_div_cancel_left _ hq0]
  · rw [toNat_div (by omega) (by omega)]
    obtain ⟨c, hc⟩ := hdk
    rw [hc]
    show prod l ∣ q.toNat * prod l * c / q.toNat
    rw [Nat.mul_assoc, Nat.mul_div_cancel_left _ hq0]; exact Nat.dvd_mul_right _ _
  · rw [← ho, toNat_div (by omega) (by omega)]
    show _ = ordF (tst f x) l (if tst f x (k.toNat / q.toNat) then k.toNat / q.toNat else k.toNat)
    rw [tst_nat (by omega) (by omega), if_pos (by simpa using ht)]
theorem Ost_no {f x k rest q : Int} (hq : 2 ≤ q) (h : Ost f x k rest q) (hd : rest % q = 0) (ht : PW (P f) x (k / q) ≠ 1) : Ost f x k (rest / q) q := by
  have hb := Ost_quo hq h hd
  have hb2 := Ost_bd h
  obtain ⟨l, h1, hs, e, k0, k1, hdk, ho⟩ := Ost_head hq h hd
  have hq0 : 0 < q.toNat := by omega
  refine ⟨l, fun r hr => h1 r (List.mem_cons_of_mem _ hr), hs.2, ?_, k0, k1, Nat.dvd_trans (Nat.dvd_mul_left _ _) hdk, ?_⟩
  · rw [hb.1, toNat_div (by omega) (by omega), e]
    show (((q.toNat * prod l) / q.toNat : Nat) : Int) = _
    rw [Nat.mul_div_cancel_left _ hq0]
  · rw [← ho]
    show _ = ordF (tst f x) l (if tst f x (k.toNat / q.toNat) then k.toNat / q.toNat else k.toNat)
    rw [tst_nat (by omega) (by omega), if_neg (by simpa using ht)]
/-- q does not divide what is left. -/
theorem Ost_next {f x k rest q : Int} (hq : 2 ≤ q) (h : Ost f x k rest q) (hd : rest % q ≠ 0) : Ost f x k rest (q + 1) := by
  obtain ⟨l, h1, hs, e, h2⟩ := h
  refine ⟨l, fun r hr => ⟨(h1 r hr).1, ?_, (h1 r hr).2.2⟩, hs, e, h2⟩
  have a := (h1 r hr).2.1
  have : (r : Int) ≠ q := by
    rintro rfl
    apply hd
    have hdv : r ∣ prod l := by
      clear e h1 hs h2 hd a
      induction l with
      | nil => cases hr
      | cons b l ih =>
        rcases List.mem_cons.1 hr with h | h
        · subst h; exact Nat.dvd_mul_right _ _
        · exact Nat.dvd_trans (ih h) (Nat.dvd_mul_left _ _)
    rw [e]
    exact Int.emod_eq_zero_of_dvd (Int.natCast_dvd_natCast.2 hdv)
  omega
theorem Ost_end {f x k q : Int} (h : Ost f x k 1 q) : k = (ordF (tst f x) (facs f.toNat) (pN f.toNat - 1) : Nat) := by
  obtain ⟨l, h1, hs, e, k0, k1, hdk, ho⟩ := h
  cases l with
  | nil => rw [← ho]; show k = ((k.toNat : Nat) : Int); omega
  | cons r l =>
    exfalso
    have h2 := (h1 r List.mem_cons_self).1.1
    have := prod_pos l fun r hr => (h1 r (List.mem_cons_of_mem _ hr)).1
    have h3 : r * 1 ≤ r * prod l := Nat.mul_le_mul_left r this
    have e' : (1 : Int) = ((r * prod l : Nat) : Int) := e
    omega
/-- q·q is above what is left: at most one factor is left. -/
theorem Ost_last {f x k rest q : Int} (hq : 2 ≤ q) (h : Ost f x k rest q) (hd : rest < q * q) (hr : 1 < rest) : Ost f x k rest rest ∧ 2 ≤ rest := by
  obtain ⟨l, h1, hs, e, h2⟩ := h
  match l with
  | [] => simp [prod] at e; omega
  | [r] =>
    have e' : rest = (r : Int) := by rw [e]; simp [prod]
    refine ⟨⟨[r], fun s hs => ?_, hs, e, h2⟩, by omega⟩
    have := h1 s hs
    simp at hs; subst hs
    exact ⟨this.1, by omega, this.2.2⟩
  | r :: s :: l =>
    exfalso
    have a := h1 r (by simp)
    have b := h1 s (by simp)
    have c := prod_pos l fun r hr => (h1 r (by simp [hr])).1
    have e' : rest = ((r * (s * prod l) : Nat) : Int) := e
    have g1 : s * 1 ≤ s * prod l := Nat.mul_le_mul_left s c
    have g2 : q.toNat * q.toNat ≤ r * (s * prod l) := Nat.mul_le_mul (by omega) (by omega)
    have g3 : ((q.toNat * q.toNat : Nat) : Int) = q * q := by rw [Int.natCast_mul, show (q.toNat : Int) = q by omega]
    omega
end Go.Proofs.YtcenglbcibkniaaDoor
