/-
  Polynomials as plain numbers: coefficient functions, their products, lists without zeros at the end.
-/
import Derived.Test.YtcenglbcibkniaaDoorNumB
namespace Go.Proofs.YtcenglbcibkniaaDoor
open Mth

/-- The length without the zeros at the end. -/
def cutN (F : Nat → Int) : Nat → Nat
  | 0 => 0
  | n + 1 => if F n = 0 then cutN F n else n + 1
theorem cutN_le (F : Nat → Int) (n : Nat) : cutN F n ≤ n := by
  induction n with
  | zero => exact Nat.le_refl _
  | succ n ih => unfold cutN; split <;> omega
theorem cutN_top (F : Nat → Int) (n : Nat) : cutN F n = 0 ∨ F (cutN F n - 1) ≠ 0 := by
  induction n with
  | zero => exact .inl rfl
  | succ n ih =>
    unfold cutN
    split
    · exact ih
    · rename_i h; exact .inr h
theorem cutN_zero (F : Nat → Int) (n j : Nat) (h : cutN F n ≤ j) (hj : j < n) : F j = 0 := by
  induction n with
  | zero => omega
  | succ n ih =>
    unfold cutN at h
    split at h
    · rename_i h0
      by_cases e : j = n
      · rw [e]; exact h0
      · exact ih h (by omega)
    · omega
theorem cutN_full {F : Nat → Int} {n : Nat} (h : n = 0 ∨ F (n - 1) ≠ 0) : cutN F n = n := by
  cases n with
  | zero => rfl
  | succ n =>
    unfold cutN
    rcases h with h | h
    · omega
    · rw [if_neg (show ¬ F n = 0 from h)]
theorem cutN_congr {F G : Nat → Int} {n : Nat} (h : ∀ j, j < n → F j = G j) : cutN F n = cutN G n := by
  induction n with
  | zero => rfl
  | succ n ih => unfold cutN; rw [h n (by omega), ih (fun j hj => h j (by omega))]
/-- Further zeros change nothing. -/
theorem cutN_more {F : Nat → Int} {n m : Nat} (hnm : n ≤ m) (h : ∀ j, n ≤ j → j < m → F j = 0) : cutN F m = cutN F n := by
  induction m with
  | zero => rw [show n = 0 by omega]
  | succ m ih =>
    by_cases e : n = m + 1
    · rw [e]
    · rw [show cutN F (m + 1) = if F m = 0 then cutN F m else m + 1 from rfl, if_pos (h m (by omega) (by omega))]
      exact ih (by omega) (fun j h1 h2 => h j h1 (by omega))

/-- The coefficients of a list, with zeros behind it. -/
def lf (l : List Int) : Nat → Int := fun j => l.getD j 0
def tab (n : Nat) (F : Nat → Int) : List Int := (List.range n).map F
theorem tab_len (n : Nat) (F : Nat → Int) : (tab n F).length = n := by simp [tab]
theorem lf_tab (n : Nat) (F : Nat → Int) (j : Nat) : lf (tab n F) j = if j < n then F j else 0 := by
  unfold lf tab
  rw [List.getD_eq_getElem?_getD]
  by_cases h : j < n
  · simp [h]
  · rw [List.getElem?_eq_none (by simp; omega), if_neg h]; rfl
theorem lf_out (l : List Int) {j : Nat} (h : l.length ≤ j) : lf l j = 0 := by
  unfold lf
  rw [List.getD_eq_getElem?_getD, List.getElem?_eq_none h]; rfl
theorem list_ext {a b : List Int} (hl : a.length = b.length) (h : ∀ j, j < a.length → lf a j = lf b j) : a = b := by
  apply List.ext_getElem hl
  intro j h1 h2
  have := h j h1
  unfold lf at this
  rw [List.getD_eq_getElem?_getD, List.getD_eq_getElem?_getD, List.getElem?_eq_getElem h1, List.getElem?_eq_getElem h2] at this
  exact this
theorem tab_lf (l : List Int) : tab l.length (lf l) = l :=
  list_ext (tab_len _ _) (fun j hj => by rw [tab_len] at hj; rw [lf_tab, if_pos hj])
theorem tab_congr {n : Nat} {F G : Nat → Int} (h : ∀ j, j < n → F j = G j) : tab n F = tab n G := by
  refine list_ext (by rw [tab_len, tab_len]) (fun j hj => ?_)
  rw [tab_len] at hj
  rw [lf_tab, lf_tab, if_pos hj, if_pos hj, h j hj]
def cutL (n : Nat) (F : Nat → Int) : List Int := tab (cutN F n) F
theorem cutL_len (n : Nat) (F : Nat → Int) : (cutL n F).length = cutN F n := tab_len _ _
theorem lf_cutL (n : Nat) (F : Nat → Int) (j : Nat) : lf (cutL n F) j = if j < n then F j else 0 := by
  unfold cutL
  rw [lf_tab]
  have := cutN_le F n
  by_cases h1 : j < cutN F n
  · rw [if_pos h1, if_pos (by omega)]
  · rw [if_neg h1]
    by_cases h2 : j < n
    · rw [if_pos h2, cutN_zero F n j (by omega) h2]
    · rw [if_neg h2]
theorem cutL_congr {n : Nat} {F G : Nat → Int} (h : ∀ j, j < n → F j = G j) : cutL n F = cutL n G := by
  unfold cutL
  rw [cutN_congr h]
  exact tab_congr fun j hj => h j (by have := cutN_le G n; omega)

/-- Elements of the field, the last of them not 0. -/
def Pol (f : Int) (l : List Int) : Prop := (∀ j, 0 ≤ lf l j ∧ lf l j < P f) ∧ (l.length = 0 ∨ lf l (l.length - 1) ≠ 0)
theorem Pol.cut {f : Int} {n : Nat} {F : Nat → Int} (hp : 0 < P f) (h : ∀ j, j < n → 0 ≤ F j ∧ F j < P f) : Pol f (cutL n F) := by
  refine ⟨fun j => ?_, ?_⟩
  · rw [lf_cutL]
    split
    · rename_i hj; exact h j hj
    · omega
  · rw [cutL_len]
    have := cutN_le F n
    rcases cutN_top F n with h1 | h1
    · exact .inl h1
    · by_cases h0 : cutN F n = 0
      · exact .inl h0
      · right
        rw [lf_cutL, if_pos (by omega)]; exact h1
theorem Pol.nil {f : Int} (hp : 0 < P f) : Pol f [] := ⟨fun j => by rw [lf_out [] (Nat.zero_le _)]; omega, .inl rfl⟩
theorem Pol.full {f : Int} {l : List Int} (h : Pol f l) : cutN (lf l) l.length = l.length := cutN_full h.2
/-- Polynomials with the same coefficients are one. -/
theorem Pol.eq {f : Int} {a b : List Int} (ha : Pol f a) (hb : Pol f b) (h : ∀ j, lf a j % P f = lf b j % P f) : a = b := by
  have e : ∀ j, lf a j = lf b j := fun j => by
    have h1 := ha.1 j
    have h2 := hb.1 j
    have := h j
    rw [Int.emod_eq_of_lt h1.1 h1.2, Int.emod_eq_of_lt h2.1 h2.2] at this
    exact this
  have hl : a.length = b.length := by
    rcases Nat.lt_trichotomy a.length b.length with hlt | hlt | hlt
    · rcases hb.2 with h0 | h0
      · omega
      · rw [← e, lf_out a (by omega)] at h0; exact absurd rfl h0
    · exact hlt
    · rcases ha.2 with h0 | h0
      · omega
      · rw [e, lf_out b (by omega)] at h0; exact absurd rfl h0
  exact list_ext hl (fun j _ => e j)
/-- A polynomial whose coefficients vanish from n on is not longer than n. -/
theorem Pol.le {f : Int} {a : List Int} (ha : Pol f a) {n : Nat} (h : ∀ j, n ≤ j → lf a j = 0) : a.length ≤ n := by
  rcases ha.2 with h0 | h0
  · omega
  · by_cases hn : a.length ≤ n
    · exact hn
    · exact absurd (h _ (by omega)) h0

/-- Sums of the first n terms. -/
def sumN (f : Nat → Int) : Nat → Int
  | 0 => 0
  | n + 1 => sumN f n + f n
theorem sumN_first (f : Nat → Int) (n : Nat) : sumN f (n + 1) = f 0 + sumN (fun i => f (i + 1)) n := by
  induction n with
  | zero => simp [sumN]
  | succ n ih => rw [sumN, ih, sumN]; omega
theorem sumN_congr {f g : Nat → Int} {n : Nat} (h : ∀ i, i < n → f i = g i) : sumN f n = sumN g n := by
  induction n with
  | zero => rfl
  | succ n ih => rw [sumN, sumN, ih (fun i hi => h i (by omega)), h n (by omega)]
theorem sumN_more {f : Nat → Int} {n m : Nat} (hnm : n ≤ m) (h : ∀ i, n ≤ i → i < m → f i = 0) : sumN f m = sumN f n := by
  induction m with
  | zero => rw [show n = 0 by omega]
  | succ m ih =>
    by_cases e : n = m + 1
    · rw [e]
    · rw [sumN, h m (by omega) (by omega), ih (by omega) (fun i h1 h2 => h i h1 (by omega))]; omega

/-- Products of series. -/
def tl (A : Nat → Int) : Nat → Int := fun j => A (j + 1)
def cv : Nat → (Nat → Int) → (Nat → Int) → Int
  | 0, A, B => A 0 * B 0
  | k + 1, A, B => A 0 * B (k + 1) + cv k (tl A) B
def mulS (A B : Nat → Int) : Nat → Int := fun k => cv k A B
theorem cv_congr {k : Nat} : ∀ {A A' B B' : Nat → Int}, (∀ j, j ≤ k → A j = A' j) → (∀ j, j ≤ k → B j = B' j) → cv k A B = cv k A' B' := by
  induction k with
  | zero => intro A A' B B' ha hb; simp only [cv]; rw [ha 0 (by omega), hb 0 (by omega)]
  | succ k ih =>
    intro A A' B B' ha hb
    simp only [cv]
    rw [ha 0 (by omega), hb (k + 1) (by omega), ih (A := tl A) (A' := tl A') (fun j hj => ha (j + 1) (by omega)) (fun j hj => hb j (by omega))]
theorem cv_add_l (k : Nat) : ∀ A A' B : Nat → Int, cv k (fun j => A j + A' j) B = cv k A B + cv k A' B := by
  induction k with
  | zero => intro A A' B; simp only [cv]; exact Int.add_mul _ _ _
  | succ k ih =>
    intro A A' B
    simp only [cv]
    have := ih (tl A) (tl A') B
    have e : tl (fun j => A j + A' j) = fun j => tl A j + tl A' j := rfl
    rw [e, this, Int.add_mul]; omega
theorem cv_smul_l (k : Nat) : ∀ (c : Int) (A B : Nat → Int), cv k (fun j => c * A j) B = c * cv k A B := by
  induction k with
  | zero => intro c A B; simp only [cv]; exact Int.mul_assoc _ _ _
  | succ k ih =>
    intro c A B
    simp only [cv]
    have := ih c (tl A) B
    have e : tl (fun j => c * A j) = fun j => c * tl A j := rfl
    rw [e, this, Int.mul_add, Int.mul_assoc]
theorem cv_right (k : Nat) : ∀ A B : Nat → Int, cv (k + 1) A B = A (k + 1) * B 0 + cv k A (tl B) := by
  induction k with
  | zero => intro A B; simp only [cv, tl]; omega
  | succ k ih =>
    intro A B
    have h1 : cv (k + 2) A B = A 0 * B (k + 2) + cv (k + 1) (tl A) B := rfl
    have h2 : cv (k + 1) A (tl B) = A 0 * B (k + 2) + cv k (tl A) (tl B) := rfl
    rw [h1, ih (tl A) B, h2]
    show _ + (A (k + 2) * B 0 + _) = A (k + 2) * B 0 + _
    omega
theorem cv_comm (k : Nat) : ∀ A B : Nat → Int, cv k A B = cv k B A := by
  induction k with
  | zero => intro A B; exact Int.mul_comm _ _
  | succ k ih =>
    intro A B
    rw [cv_right]
    simp only [cv]
    rw [ih A (tl B), Int.mul_comm]
theorem cv_add_r (k : Nat) (A B B' : Nat → Int) : cv k A (fun j => B j + B' j) = cv k A B + cv k A B' := by
  rw [cv_comm, cv_add_l, cv_comm k B, cv_comm k B']
theorem cv_smul_r (k : Nat) (c : Int) (A B : Nat → Int) : cv k A (fun j => c * B j) = c * cv k A B := by
  rw [cv_comm, cv_smul_l, cv_comm k B]
theorem cv_assoc (k : Nat) : ∀ A B C : Nat → Int, cv k (mulS A B) C = cv k A (mulS B C) := by
  induction k with
  | zero => intro A B C; simp only [cv, mulS]; exact Int.mul_assoc _ _ _
  | succ k ih =>
    intro A B C
    have h1 : cv (k + 1) (mulS A B) C = A 0 * B 0 * C (k + 1) + cv k (tl (mulS A B)) C := rfl
    have h2 : tl (mulS A B) = fun j => A 0 * tl B j + mulS (tl A) B j := rfl
    have h3 : cv (k + 1) A (mulS B C) = A 0 * (B 0 * C (k + 1) + cv k (tl B) C) + cv k (tl A) (mulS B C) := rfl
    rw [h1, h2, cv_add_l, cv_smul_l, ih (tl A) B C, h3, Int.mul_add, Int.mul_assoc]; omega
theorem cv_sum (k : Nat) : ∀ A B : Nat → Int, cv k A B = sumN (fun i => A i * B (k - i)) (k + 1) := by
  induction k with
  | zero => intro A B; simp [cv, sumN]
  | succ k ih =>
    intro A B
    rw [sumN_first]
    simp only [cv]
    rw [ih (tl A) B]
    congr 1
    exact sumN_congr fun i _ => by rw [Nat.add_sub_add_right]; rfl
/-- The part of a product's coefficient that the first i coefficients of A give. -/
def cpar (A B : Nat → Int) (k i : Nat) : Int := sumN (fun j => if j ≤ k then A j * B (k - j) else 0) i
theorem cpar_succ (A B : Nat → Int) (k i : Nat) : cpar A B k (i + 1) = cpar A B k i + (if i ≤ k then A i * B (k - i) else 0) := rfl
theorem cpar_end {A B : Nat → Int} {n : Nat} (k : Nat) (h : ∀ j, n ≤ j → A j = 0) : cpar A B k n = cv k A B := by
  rw [cv_sum]
  unfold cpar
  have e1 : sumN (fun i => A i * B (k - i)) (k + 1) = sumN (fun j => if j ≤ k then A j * B (k - j) else 0) (k + 1) := sumN_congr fun i hi => by simp [show i ≤ k by omega]
  rw [e1]
  rcases Nat.le_total n (k + 1) with hl | hl
  · exact (sumN_more hl (fun i h1 h2 => by simp [h i h1])).symm
  · exact sumN_more hl (fun i h1 h2 => by simp [show ¬ i ≤ k by omega])
theorem cv_zero_l {k : Nat} {A B : Nat → Int} (h : ∀ j, j ≤ k → A j = 0) : cv k A B = 0 := by
  rw [cv_congr (A' := fun _ => 0 * 0) (B' := B) (fun j hj => by rw [h j hj]; rfl) (fun _ _ => rfl), cv_smul_l]; simp
/-- Beyond both supports a product vanishes; at the top it is the product of the tops. -/
theorem cv_out {A B : Nat → Int} {n m k : Nat} (ha : ∀ j, n ≤ j → A j = 0) (hb : ∀ j, m ≤ j → B j = 0) (hk : n + m ≤ k + 1) : cv k A B = 0 := by
  rw [cv_sum]
  rw [sumN_more (n := 0) (Nat.zero_le _)]
  · rfl
  · intro i _ hi
    by_cases h1 : n ≤ i
    · rw [ha i h1, Int.zero_mul]
    · rw [hb (k - i) (by omega), Int.mul_zero]
theorem cv_top {A B : Nat → Int} {n m : Nat} (ha : ∀ j, n + 1 ≤ j → A j = 0) (hb : ∀ j, m + 1 ≤ j → B j = 0) : cv (n + m) A B = A n * B m := by
  rw [← cpar_end (n + m) ha, cpar_succ, if_pos (by omega), Nat.add_sub_cancel_left]
  have : cpar A B (n + m) n = 0 := by
    unfold cpar
    rw [sumN_more (n := 0) (Nat.zero_le _)]
    · rfl
    · intro i _ hi
      rw [if_pos (by omega), hb _ (by omega), Int.mul_zero]
  rw [this]; omega
theorem cv_mod {p : Int} (k : Nat) : ∀ {A A' B B' : Nat → Int}, (∀ j, A j % p = A' j % p) → (∀ j, B j % p = B' j % p) → cv k A B % p = cv k A' B' % p := by
  induction k with
  | zero =>
    intro A A' B B' ha hb
    simp only [cv]
    rw [Int.mul_emod, ha, hb, ← Int.mul_emod]
  | succ k ih =>
    intro A A' B B' ha hb
    simp only [cv]
    rw [Int.add_emod, ih (A := tl A) (A' := tl A') (fun j => ha (j + 1)) hb, Int.mul_emod, ha 0, hb (k + 1), ← Int.mul_emod, ← Int.add_emod]
end Go.Proofs.YtcenglbcibkniaaDoor
